/- Encode, the reference's form and Encode. -/
import Derived.Test.YtfnlnbdlahckeaaDoorSa
namespace Go.Proofs.YtfnlnbdlahckeaaDoor
open Go.RowKit Go.BigFrame
set_option linter.unusedVariables false
set_option linter.unusedSimpArgs false

theorem enc_take {l : List Int} {k : Nat} (h : k < l.length) : encF (l.take (k + 1)) = encF (l.take k) ++ frm (chr (l.getD k 0)) := by
  rw [List.take_succ_eq_append_getElem h, encF_snoc]; simp [h]
theorem enc_take_len (l : List Int) (k : Nat) (hl : l.length ≤ 35184372087808) : (encF (l.take k)).length ≤ 140737488351232 := by
  have := encF_len (l.take k); rw [List.length_take] at this; omega
theorem chr_eq (c : Int) : (chr c : Int) = if mayI c then c else 65533 := by
  unfold chr
  cases h : mayI c with
  | true =>
    unfold mayI at h; rw [decide_eq_true_eq] at h
    rw [if_pos rfl, if_pos rfl]; omega
  | false => rfl
set_option maxRecDepth 100000 in
set_option maxHeartbeats 4000000 in
theorem encode_any (S : Nat → Prop) (vl : Value) (l : List Int) (w : World) (hb : BtsR S w vl l) (hS : ∀ b, S b → b < w.heap.size) (hl : l.length ≤ 35184372087808) :
    Calls Tryd.prog 13 #[vl] w fun e w' => ∃ v', e = .returned v' ∧ OwnB w.heap.size w' v' (encF l) ∧ Below w.heap.size w w' := by
  have HB := Box'.mk hb
  have HL := Box'.mk hl
  obtain ⟨a1, c1, rfl, -, -⟩ := hb
  generalize hn : l.length = n at *
  have HN := Box'.mk hn
  clear hn
  go_enter Tryd.func13, Tryd.ntmps13
  go_wp2_with fail
  go_loopw [3, 8] (fun u iv wr => ∃ (k : Nat), iv = .int .i64 (k : Int) ∧ k ≤ n ∧ Box' (OwnB w.heap.size wr u (encF (l.take k))) ∧ Box' (Below w.heap.size w wr)) (fun _ iv _ => n - (intOf iv).toNat)
  case atStart => exact ⟨0, rfl, by omega, ⟨OwnB.nil _ _⟩, ⟨Below.refl _ _⟩⟩
  case round =>
    obtain ⟨k, rfl, hk, HO, HBl⟩ := hrel
    obtain ⟨a2, c2, hu⟩ := HO.out.slice
    subst hu
    have hD := enc_take_len l k (by rw [HN.out]; exact HL.out)
    by_cases hlt : k < n
    · have hkb : 0 < l.length := by rw [HN.out]; omega
      have hkl : k < l.length := by rw [HN.out]; exact hlt
      obtain ⟨bb, ob, cb, eb, sb, clb⟩ := HB.out.cells hkb
      have ck := clb k hkl
      rw [← (bcell HBl.out).1 _ _ (hS _ sb)] at ck
      rw [HN.out] at eb
      injection eb with e1 _ e2
      subst e1 e2
      have HE2 := Box'.mk (enc_take hkl)
      clear clb sb hkb
      generalize l.getD k 0 = x at *
      have AF := Box'.mk (appendForm_any w.heap.size (chr x) (chr_may x).1 wr _ _ HO.out HBl.out.size hD)
      have MY := Box'.mk (may_any x wr)
      have CE := chr_eq x
      generalize frm (chr x) = fr at *
      generalize (chr x : Int) = ci at *
      generalize (encF (l.take k)) = D at *
      generalize D.length = dl at *
      clear HO hD
      cases hm : mayI x with
      | true =>
        rw [hm] at MY
        rw [hm, if_pos rfl] at CE
        subst CE
        clear hm
        go_wp2_with fail
        refine MY.out.mono ?_
        rintro e w' ⟨rfl, hw⟩
        obtain rfl := hw.symm
        clear MY
        go_wp2_with fail
        refine AF.out.mono ?_
        rintro e w2 ⟨v2, rfl, o2, f2⟩
        have B2 := HBl.out.trans (f2.below HBl.out.size)
        clear AF HBl f2
        go_wp2_with fail
        exact ⟨⟨k + 1, by go_num, by omega, ⟨by rw [HE2.out]; exact o2⟩, ⟨B2⟩⟩, by simp [intOf]; omega⟩
      | false =>
        rw [hm] at MY
        rw [hm, if_neg (by decide)] at CE
        subst CE
        clear hm
        go_wp2_with fail
        refine MY.out.mono ?_
        rintro e w' ⟨rfl, hw⟩
        obtain rfl := hw.symm
        clear MY
        go_wp2_with fail
        refine AF.out.mono ?_
        rintro e w2 ⟨v2, rfl, o2, f2⟩
        have B2 := HBl.out.trans (f2.below HBl.out.size)
        clear AF HBl f2
        go_wp2_with fail
        exact ⟨⟨k + 1, by go_num, by omega, ⟨by rw [HE2.out]; exact o2⟩, ⟨B2⟩⟩, by simp [intOf]; omega⟩
    · obtain rfl : k = n := by omega
      have HE : Box' (encF (l.take k) = encF l) := ⟨by rw [List.take_of_length_le (by rw [HN.out]; exact Nat.le_refl _)]⟩
      generalize encF (l.take k) = D at *
      generalize D.length = dl at *
      have o3 := HO.out
      have B3 := HBl.out
      rw [HE.out] at o3
      clear HO HBl HE
      go_wp2_with fail
      go_ret
      exact ⟨_, rfl, o3, B3⟩
set_option maxRecDepth 100000 in
set_option maxHeartbeats 4000000 in
theorem form_any (c : Nat) (hc : c ≤ 1114111) (w : World) :
    Calls Tryd.prog 27 #[.int .i32 (c : Int)] w fun e w' => ∃ v', e = .returned v' ∧ InB w'.heap.size w' v' (frm c) ∧ Below w.heap.size w w' := by
  by_cases h1 : c < 128
  · have HF : Box' (frm c = [UInt8.ofNat c]) := ⟨by unfold frm; rw [if_pos h1]⟩
    have i1 : (c : Int) < 128 := by omega
    have i0 : (0 : Int) ≤ (c : Int) := by omega
    have E0 : Box' ((c : Int) = (((UInt8.ofNat c).toNat : Nat) : Int)) := ⟨by rw [u8n (by omega)]⟩
    generalize UInt8.ofNat c = x0 at *
    generalize (c : Int) = C at *
    clear h1 hc
    go_enter Tryd.func27, Tryd.ntmps27
    go_wp2_with fail
    go_ret
    refine ⟨_, rfl, by rw [HF.out]; exact row_in _ _ [x0] 1 rfl (by first | rfl | (rw [E0.out]; rfl)), (Below.refl _ _).alloc (Nat.le_refl _) _⟩
  · by_cases h2 : c < 2048
    · have HF : Box' (frm c = [UInt8.ofNat (192 + c / 64), UInt8.ofNat (128 + c % 64)]) := ⟨by unfold frm; rw [if_neg h1, if_pos h2]⟩
      have i1 : ¬ ((c : Int) < 128) := by omega
      have i2 : (c : Int) < 2048 := by omega
      have i0 : (0 : Int) ≤ (c : Int) := by omega
      have E0 : Box' (192 + (c : Int) / 64 = (((UInt8.ofNat (192 + c / 64)).toNat : Nat) : Int)) := ⟨by rw [u8n (by omega)]; omega⟩
      have E1 : Box' (128 + (c : Int) % 64 = (((UInt8.ofNat (128 + c % 64)).toNat : Nat) : Int)) := ⟨by rw [u8n (by omega)]; omega⟩
      generalize UInt8.ofNat (192 + c / 64) = x0 at *
      generalize UInt8.ofNat (128 + c % 64) = x1 at *
      generalize (c : Int) = C at *
      clear h1 h2 hc
      go_enter Tryd.func27, Tryd.ntmps27
      go_wp2_with fail
      go_ret
      refine ⟨_, rfl, by rw [HF.out]; exact row_in _ _ [x0, x1] 2 rfl (by first | rfl | (rw [E0.out, E1.out]; rfl)), (Below.refl _ _).alloc (Nat.le_refl _) _⟩
    · by_cases h3 : c < 65536
      · have HF : Box' (frm c = [UInt8.ofNat (224 + c / 4096), UInt8.ofNat (128 + c / 64 % 64), UInt8.ofNat (128 + c % 64)]) := ⟨by unfold frm; rw [if_neg h1, if_neg h2, if_pos h3]⟩
        have i1 : ¬ ((c : Int) < 128) := by omega
        have i2 : ¬ ((c : Int) < 2048) := by omega
        have i3 : (c : Int) < 65536 := by omega
        have i0 : (0 : Int) ≤ (c : Int) := by omega
        have E0 : Box' (224 + (c : Int) / 4096 = (((UInt8.ofNat (224 + c / 4096)).toNat : Nat) : Int)) := ⟨by rw [u8n (by omega)]; omega⟩
        have E1 : Box' (128 + (c : Int) / 64 % 64 = (((UInt8.ofNat (128 + c / 64 % 64)).toNat : Nat) : Int)) := ⟨by rw [u8n (by omega)]; omega⟩
        have E2 : Box' (128 + (c : Int) % 64 = (((UInt8.ofNat (128 + c % 64)).toNat : Nat) : Int)) := ⟨by rw [u8n (by omega)]; omega⟩
        generalize UInt8.ofNat (224 + c / 4096) = x0 at *
        generalize UInt8.ofNat (128 + c / 64 % 64) = x1 at *
        generalize UInt8.ofNat (128 + c % 64) = x2 at *
        generalize (c : Int) = C at *
        clear h1 h2 h3 hc
        go_enter Tryd.func27, Tryd.ntmps27
        go_wp2_with fail
        go_ret
        refine ⟨_, rfl, by rw [HF.out]; exact row_in _ _ [x0, x1, x2] 3 rfl (by first | rfl | (rw [E0.out, E1.out, E2.out]; rfl)), (Below.refl _ _).alloc (Nat.le_refl _) _⟩
      · have HF : Box' (frm c = [UInt8.ofNat (240 + c / 262144), UInt8.ofNat (128 + c / 4096 % 64), UInt8.ofNat (128 + c / 64 % 64), UInt8.ofNat (128 + c % 64)]) := ⟨by unfold frm; rw [if_neg h1, if_neg h2, if_neg h3]⟩
        have i1 : ¬ ((c : Int) < 128) := by omega
        have i2 : ¬ ((c : Int) < 2048) := by omega
        have i3 : ¬ ((c : Int) < 65536) := by omega
        have i4 : (c : Int) ≤ 1114111 := by omega
        have i0 : (0 : Int) ≤ (c : Int) := by omega
        have E0 : Box' (240 + (c : Int) / 262144 = (((UInt8.ofNat (240 + c / 262144)).toNat : Nat) : Int)) := ⟨by rw [u8n (by omega)]; omega⟩
        have E1 : Box' (128 + (c : Int) / 4096 % 64 = (((UInt8.ofNat (128 + c / 4096 % 64)).toNat : Nat) : Int)) := ⟨by rw [u8n (by omega)]; omega⟩
        have E2 : Box' (128 + (c : Int) / 64 % 64 = (((UInt8.ofNat (128 + c / 64 % 64)).toNat : Nat) : Int)) := ⟨by rw [u8n (by omega)]; omega⟩
        have E3 : Box' (128 + (c : Int) % 64 = (((UInt8.ofNat (128 + c % 64)).toNat : Nat) : Int)) := ⟨by rw [u8n (by omega)]; omega⟩
        generalize UInt8.ofNat (240 + c / 262144) = x0 at *
        generalize UInt8.ofNat (128 + c / 4096 % 64) = x1 at *
        generalize UInt8.ofNat (128 + c / 64 % 64) = x2 at *
        generalize UInt8.ofNat (128 + c % 64) = x3 at *
        generalize (c : Int) = C at *
        clear h1 h2 h3 hc
        go_enter Tryd.func27, Tryd.ntmps27
        go_wp2_with fail
        go_ret
        refine ⟨_, rfl, by rw [HF.out]; exact row_in _ _ [x0, x1, x2, x3] 4 rfl (by first | rfl | (rw [E0.out, E1.out, E2.out, E3.out]; rfl)), (Below.refl _ _).alloc (Nat.le_refl _) _⟩
end Go.Proofs.YtfnlnbdlahckeaaDoor
