/- UtfDecodes, walked. -/
import Derived.Test.YtionlbgmmpoeeaaDoorWa
import Derived.Test.YtionlbgmmpoeeaaDoorTd
import Derived.Test.YtionlbgmmpoeeaaDoorTf
import Derived.Deep.RegionHeld3
namespace Go.Proofs.YtionlbgmmpoeeaaDoor
open Go.RowKit Go.BigFrame
set_option linter.unusedVariables false
set_option linter.unusedSimpArgs false

set_option maxRecDepth 100000 in
set_option maxHeartbeats 4000000 in
theorem decodes_any (w : World) (hT : Tab w) (S : Nat → Prop) (vb : Value) (b : List UInt8) (hb : Bts S w vb b) (hS : ∀ b, S b → b < w.heap.size) (S2 : Nat → Prop) (vl : Value) (l : List Int) (hl : BtsR S2 w vl l) (hS2 : ∀ b, S2 b → b < w.heap.size) (hbn : b.length ≤ 1048576) (hln : l.length ≤ 1048576) :
    Calls Tryd.prog 3 #[vb, vl] w fun e w' => e = .returned (.bool true) ∧ Below w.heap.size w w' := by
  have HT := Box'.mk hT
  have h0 := hT.lt
  have HB := Box'.mk hb
  have HS := Box'.mk hS
  have HL := Box'.mk hl
  have HS2 := Box'.mk hS2
  obtain ⟨a1, c1, rfl, -, -⟩ := hb
  obtain ⟨a2, c2, rfl, -, -⟩ := hl
  generalize hn : b.length = n at *
  have HN := Box'.mk hn
  generalize hm : l.length = m at *
  have HM := Box'.mk hm
  clear hn hm hT hS hS2
  go_enter Tryd.func3, Tryd.ntmps3
  go_wp2_with fail
  go_loopw [5] (fun iv wr => ∃ k : Nat, iv = .int .i64 (k : Int) ∧ k ≤ m ∧ Box' (Below w.heap.size w wr)) (fun iv _ => m - (intOf iv).toNat)
  case atStart => exact ⟨0, rfl, by omega, ⟨Below.refl _ _⟩⟩
  case round =>
    obtain ⟨k, rfl, hk, HBl⟩ := hrel
    by_cases hlt : k < m
    · have hkb : 0 < l.length := by rw [HM.out]; omega
      have hkl : k < l.length := by rw [HM.out]; exact hlt
      obtain ⟨bb, ob, cb, eb, sb, clb⟩ := HL.out.cells hkb
      have ck := clb k hkl
      rw [← (bcell HBl.out).1 _ _ (HS2.out _ sb)] at ck
      rw [HM.out] at eb
      injection eb with e1 _ e2
      subst e1 e2
      clear clb sb hkb
      generalize l.getD k 0 = x at *
      go_wp2_with fail
      go_region_held3 (fun w' => w'.cell? ⟨bb, ob + k, none⟩ = some (.int .i32 x)) (first | assumption | go_keep) (first
        | (go_at_call 7; refine (may_any x _).mono ?_; rintro e w3 ⟨rfl, rfl⟩)
        | (go_at_call 8; refine (rmay_any x _).mono ?_; rintro e w3 ⟨rfl, rfl⟩))
      have B2 : Box' (Below w.heap.size w wr.drew) := ⟨HBl.out.drew⟩
      clear HBl
      go_wp2_with fail
      exact ⟨⟨k + 1, by go_num, by omega, B2⟩, by simp [intOf]; omega⟩
    · obtain rfl : k = m := by omega
      have hsz := HBl.out.size
      have HTw : Box' (Tab wr) := ⟨HT.out.below HBl.out h0⟩
      have DC := Box'.mk (decode_any S _ b wr HTw.out (HB.out.below HBl.out HS.out) (fun b hb => Nat.lt_of_lt_of_le (HS.out b hb) hsz) (by rw [HN.out]; omega))
      have HB1 := Box'.mk (HB.out.below HBl.out HS.out)
      have HL1 := Box'.mk (HL.out.below HBl.out HS2.out)
      clear HB HL HT
      go_wp2_with fail
      refine DC.out.mono ?_
      rintro e w2 ⟨v2, rfl, o2, b2⟩
      have HB2 := Box'.mk (HBl.out.trans (b2.mono hsz))
      have HO2 := Box'.mk o2
      have HT2 := Box'.mk (HTw.out.below b2 HTw.out.lt)
      have RD := Box'.mk (rdecode_any bg_ok S w2 _ b (HB1.out.below b2 (fun b hb => Nat.lt_of_lt_of_le (HS.out b hb) hsz)) (fun b hb => Nat.lt_of_lt_of_le (HS.out b hb) HB2.out.size) (by rw [HN.out]; omega))
      have HL2 := Box'.mk (HL1.out.below b2 (fun b hb => Nat.lt_of_lt_of_le (HS2.out b hb) hsz))
      clear DC HBl HTw HB1 HL1 o2 b2
      go_wp2_with fail
      refine RD.out.mono ?_
      rintro e w3 ⟨v3, rfl, o3, b3⟩
      have hD : (decF [] b).length ≤ 1048576 := by have := decF_len b []; simp only [List.length_nil, Nat.zero_add, HN.out] at this; omega
      have SM := Box'.mk (sameR_any _ _ v2 v3 _ _ w3 (HO2.out.below b3).btsR o3.btsR (fun _ h => h) (fun _ h => h) (by omega) (by omega))
      rw [show decide (decF [] b = decF [] b) = true by simp] at SM
      have HB3 := Box'.mk (HB2.out.trans (b3.mono HB2.out.size))
      have HT3 := Box'.mk (HT2.out.below b3 HT2.out.lt)
      have HL3 := Box'.mk (HL2.out.below b3 (fun b hb => Nat.lt_of_lt_of_le (HS2.out b hb) HB2.out.size))
      clear RD HB2 HT2 HL2 HO2 o3 b3 hD
      go_wp2_with fail
      refine SM.out.mono ?_
      rintro e w4 ⟨rfl, b4⟩
      have HB4 := Box'.mk (HB3.out.trans (b4.mono HB3.out.size))
      have HT4 := Box'.mk (HT3.out.below b4 HT3.out.lt)
      have HL4 := Box'.mk (HL3.out.below b4 (fun b hb => Nat.lt_of_lt_of_le (HS2.out b hb) HB3.out.size))
      have EN := Box'.mk (encode_any S2 _ l w4 HL4.out (fun b hb => Nat.lt_of_lt_of_le (HS2.out b hb) HB4.out.size) (by rw [HM.out]; omega))
      clear SM HB3 HT3 HL3 b4
      go_wp2_with fail
      refine EN.out.mono ?_
      rintro e w5 ⟨v5, rfl, o5, b5⟩
      have HB5 := Box'.mk (HB4.out.trans (b5.mono HB4.out.size))
      have HT5 := Box'.mk (HT4.out.below b5 HT4.out.lt)
      have HL5 := Box'.mk (HL4.out.below b5 (fun b hb => Nat.lt_of_lt_of_le (HS2.out b hb) HB4.out.size))
      have HO5 := Box'.mk o5
      have RE := Box'.mk (rencode_any S2 _ l w5 HL5.out (fun b hb => Nat.lt_of_lt_of_le (HS2.out b hb) HB5.out.size) (by rw [HM.out]; omega))
      clear EN HB4 HT4 HL4 o5 b5
      go_wp2_with fail
      refine RE.out.mono ?_
      rintro e w6 ⟨v6, rfl, o6, b6⟩
      have SB := Box'.mk (refSame_any _ _ v5 v6 _ _ w6 (HO5.out.below b6).bts o6.bts)
      rw [show decide (encF l = encF l) = true by simp] at SB
      have HB6 := Box'.mk (HB5.out.trans (b6.mono HB5.out.size))
      have AN := Box'.mk (anch_any w6 (HT5.out.below b6 HT5.out.lt))
      clear RE HB5 HT5 HL5 HO5 o6 b6
      go_wp2_with fail
      refine SB.out.mono ?_
      rintro e w7 ⟨rfl, hw⟩
      obtain rfl := hw.symm
      clear SB
      go_wp2_with fail
      refine AN.out.mono ?_
      rintro e w8 ⟨rfl, b8⟩
      have B8 := HB6.out.trans (b8.mono HB6.out.size)
      clear AN HB6 b8
      go_wp2_with fail
      go_ret
      exact ⟨rfl, B8⟩
end Go.Proofs.YtionlbgmmpoeeaaDoor
