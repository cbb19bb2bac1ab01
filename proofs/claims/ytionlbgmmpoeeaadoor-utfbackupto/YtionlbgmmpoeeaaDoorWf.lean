/- UtfBack, walked. -/
import Derived.Test.YtionlbgmmpoeeaaDoorWa
import Derived.Deep.RegionHeld3
namespace Go.Proofs.YtionlbgmmpoeeaaDoor
open Go.RowKit Go.BigFrame
set_option linter.unusedVariables false
set_option linter.unusedSimpArgs false

theorem fil_take {l : List Int} {k : Nat} (h : k < l.length) : (l.take (k + 1)).filter mayI = (l.take k).filter mayI ++ (if mayI (l.getD k 0) then [l.getD k 0] else []) := by
  rw [List.take_succ_eq_append_getElem h, List.filter_append]
  simp [h, List.filter_cons]
theorem OwnR.frx {N rb : Nat} {w w' : World} {v : Value} {d : List Int} (h : OwnR N w v d) {c : Array Value} (hr : Row w rb 45 c) (hx : FrX rb w.heap.size w w') : OwnR N w' v d :=
  h.same fun g hg => let ⟨_, _, r⟩ := h.lt g hg; hx.block g r.lt (own_neR h hr (by decide) g hg) (.inl r.lt)
theorem FrX.belowN {rb N M : Nat} {w w' : World} (h : FrX rb M w w') (h1 : N ≤ M) (h2 : N ≤ rb) (h3 : M ≤ w.heap.size := by exact Nat.le_refl _) : Below N w w' := ⟨h.os, h.tape, h.output, h.size, fun k hk => h.block k (by omega) (by omega) (.inl (by omega))⟩
set_option maxRecDepth 100000 in
set_option maxHeartbeats 4000000 in
theorem back_any (w : World) (hT : Tab w) (S2 : Nat → Prop) (vl : Value) (l : List Int) (hl : BtsR S2 w vl l) (hS2 : ∀ b, S2 b → b < w.heap.size) (S : Nat → Prop) (vb : Value) (b : List UInt8) (hb : Bts S w vb b) (hS : ∀ b, S b → b < w.heap.size) (hln : l.length ≤ 1048576) (hbn : b.length ≤ 1048576) :
    Calls Tryd.prog 5 #[vl, vb] w fun e w' => e = .returned (.bool true) ∧ Below w.heap.size w w' := by
  have HT := Box'.mk hT
  have h0 := hT.lt
  have HB := Box'.mk hb
  have HS := Box'.mk hS
  have HL := Box'.mk hl
  have HS2 := Box'.mk hS2
  obtain ⟨a1, c1, rfl, -, -⟩ := hb
  obtain ⟨a2, c2, rfl, -, -⟩ := hl
  generalize hn : b.length = n at *
  have HN := Box'.mk hn
  generalize hm : l.length = m at *
  have HM := Box'.mk hm
  clear hn hm hT hS hS2
  go_enter Tryd.func5, Tryd.ntmps5
  go_wp2_with fail
  go_loopw [5, 6] (fun u iv wr => ∃ k : Nat, iv = .int .i64 (k : Int) ∧ k ≤ m ∧ Box' (OwnR w.heap.size wr u ((l.take k).filter mayI)) ∧ Box' (Below w.heap.size w wr)) (fun _ iv _ => m - (intOf iv).toNat)
  case atStart => exact ⟨0, rfl, by omega, ⟨⟨rfl, .inl ⟨rfl, rfl⟩⟩⟩, ⟨Below.refl _ _⟩⟩
  case round =>
    obtain ⟨k, rfl, hk, HO, HBl⟩ := hrel
    obtain ⟨a3, c3, hu⟩ := HO.out.slice
    subst hu
    have HFL : Box' (((l.take k).filter mayI).length ≤ 1048576) := ⟨Nat.le_trans (List.length_filter_le _ _) (by rw [List.length_take, HM.out]; omega)⟩
    by_cases hlt : k < m
    · have hkb : 0 < l.length := by rw [HM.out]; omega
      have hkl : k < l.length := by rw [HM.out]; exact hlt
      obtain ⟨bb, ob, cb, eb, sb, clb⟩ := HL.out.cells hkb
      have ck := clb k hkl
      rw [← (bcell HBl.out).1 _ _ (HS2.out _ sb)] at ck
      rw [HM.out] at eb
      injection eb with e1 _ e2
      subst e1 e2
      have HF2 := Box'.mk (fil_take hkl)
      clear clb sb hkb
      generalize l.getD k 0 = x at *
      generalize hfd : (l.take k).filter mayI = fd at *
      generalize hfl : fd.length = fl at *
      have HFE := Box'.mk hfl
      clear hfd hfl
      have MY := Box'.mk (rmay_any x wr)
      cases hmx : mayI x with
      | true =>
        rw [hmx] at MY
        rw [hmx, if_pos rfl] at HF2
        clear hmx
        have hsz := HBl.out.size
        have HSZ := Box'.mk hsz
        go_wp2_with fail
        refine MY.out.mono ?_
        rintro e w' ⟨rfl, hw⟩
        obtain rfl := hw.symm
        clear MY hsz
        go_wp2_with (refine wpList_appR rfl (.tmp 24) (.tmp 29) rfl w.heap.size _ (Nat.le_trans HSZ.out (by simp)) _ fd rfl (HO.out.alloc _) _ [x] rfl (one_inR wr x) (by rw [HFE.out]; have := HFL.out; simp; omega) ?_; intro v5 w5 o5 f5)
        have B5 := HBl.out.trans (((FrR.refl w.heap.size wr).alloc _).trans f5 |>.below HSZ.out)
        exact ⟨⟨k + 1, by go_num, by omega, ⟨by rw [HF2.out]; exact o5⟩, ⟨B5⟩⟩, by simp [intOf]; omega⟩
      | false =>
        rw [hmx] at MY
        rw [hmx, if_neg (by decide), List.append_nil] at HF2
        clear hmx
        go_wp2_with fail
        refine MY.out.mono ?_
        rintro e w' ⟨rfl, hw⟩
        obtain rfl := hw.symm
        clear MY
        go_wp2_with fail
        exact ⟨⟨k + 1, by go_num, by omega, ⟨by rw [HF2.out]; exact HO.out⟩, ⟨HBl.out⟩⟩, by simp [intOf]; omega⟩
    · obtain rfl : k = m := by omega
      rw [List.take_of_length_le (by rw [HM.out]; exact Nat.le_refl _)] at HO HFL
      rw [List.take_of_length_le (by rw [HM.out]; exact Nat.le_refl _)]
      have HCM : Box' (∀ c ∈ l.filter mayI, mayI c = true) := ⟨fun c hc => by simpa using (List.mem_filter.1 hc).2⟩
      have HT1 : Box' (Tab wr) := ⟨HT.out.below HBl.out h0⟩
      have HB1 := Box'.mk (HB.out.below HBl.out HS.out)
      have hsz := HBl.out.size
      have HS1 : Box' (∀ b, S b → b < wr.heap.size) := ⟨fun b hb => Nat.lt_of_lt_of_le (HS.out b hb) hsz⟩
      have EN := Box'.mk (encode_any _ _ (l.filter mayI) wr HO.out.btsR (fun _ h => h) (by have := HFL.out; omega))
      have HT0 := HT
      have HB0 := HB
      clear HL HS2 HT HB
      generalize l.filter mayI = cs at *
      generalize hcl : cs.length = cl at *
      have HCL := Box'.mk hcl
      clear hcl hk hlt
      go_wp2_with fail
      refine EN.out.mono ?_
      rintro e w2 ⟨v2, rfl, o2, b2⟩
      have HEL : Box' ((encF cs).length ≤ 4194304) := ⟨by have := encF_len cs; have := HFL.out; rw [HCL.out] at *; omega⟩
      have DC := Box'.mk (decode_any _ v2 (encF cs) w2 (HT1.out.below b2 HT1.out.lt) o2.bts (fun _ h => h) (by have := HEL.out; omega))
      rw [dec_enc cs HCM.out] at DC
      have HT2 := Box'.mk (HT1.out.below b2 HT1.out.lt)
      have HB2 := Box'.mk (HB1.out.below b2 HS1.out)
      have HBl2 := Box'.mk (HBl.out.trans (b2.mono hsz))
      have HO2 := Box'.mk (HO.out.below b2)
      obtain ⟨a4, c4, hv⟩ := o2.slice
      subst hv
      generalize (encF cs).length = el at *
      clear EN HO HT1 HB1 HBl o2 b2
      go_wp2_with fail
      refine DC.out.mono ?_
      rintro e w3 ⟨v3, rfl, o3, b3⟩
      have SM := Box'.mk (sameR_any _ _ v3 _ _ _ w3 o3.btsR (HO2.out.below b3).btsR (fun _ h => h) (fun _ h => h) (by rw [HCL.out]; have := HFL.out; omega) (by rw [HCL.out]; have := HFL.out; omega))
      rw [show decide (cs = cs) = true by simp] at SM
      have HT3 := Box'.mk (HT2.out.below b3 HT2.out.lt)
      have HB3 := Box'.mk (HB2.out.below b3 (fun b hb => Nat.lt_of_lt_of_le (HS.out b hb) HBl2.out.size))
      have HBl3 := Box'.mk (HBl2.out.trans (b3.mono HBl2.out.size))
      clear DC HO2 HT2 HB2 HBl2 o3 b3
      go_wp2_with fail
      refine SM.out.mono ?_
      rintro e w4 ⟨rfl, b4⟩
      have HT4 := Box'.mk (HT3.out.below b4 HT3.out.lt)
      have HB4 := Box'.mk (HB3.out.below b4 (fun b hb => Nat.lt_of_lt_of_le (HS.out b hb) HBl3.out.size))
      have HBl4 := Box'.mk (HBl3.out.trans (b4.mono HBl3.out.size))
      have NW := Box'.mk (new_any w4)
      clear SM HT3 HB3 HBl3 b4
      go_wp2_with fail
      refine NW.out.mono ?_
      rintro e w5 ⟨rfl, r5, b5⟩
      have HT5 := Box'.mk (HT4.out.below b5 HT4.out.lt)
      have HB5 := Box'.mk (HB4.out.below b5 (fun b hb => Nat.lt_of_lt_of_le (HS.out b hb) HBl4.out.size))
      have HBl5 := Box'.mk (HBl4.out.trans (b5.mono HBl4.out.size))
      have HR5 := Box'.mk r5
      have HRS : Box' (w4.heap.size < w5.heap.size) := ⟨r5.lt⟩
      have HRW : Box' (w.heap.size ≤ w4.heap.size) := ⟨HBl4.out.size⟩
      generalize w4.heap.size = rb at *
      clear NW HT4 HB4 HBl4 r5 b5
      go_wp2_with fail
      go_loopw [8, 9] (fun u iv wr => ∃ (k : Nat), iv = .int .i64 (k : Int) ∧ k ≤ n ∧ Box' (Row wr rb 45 (rdC true (runF (b.take k)).2)) ∧ Box' (OwnR w.heap.size wr u (runF (b.take k)).1) ∧ Box' (Below w.heap.size w wr) ∧ Box' (rb < wr.heap.size)) (fun _ iv _ => n - (intOf iv).toNat)
      case atStart => exact ⟨0, rfl, by omega, HR5, ⟨⟨rfl, .inl ⟨rfl, rfl⟩⟩⟩, HBl5, HRS⟩
      case round =>
        clear HR5 HRS
        obtain ⟨j, rfl, hj, HR, HO, HBl, HRS⟩ := hrel
        obtain ⟨a6, c6, hu⟩ := HO.out.slice
        subst hu
        have GR := run_good (b.take j)
        have HG := Box'.mk GR.1
        have HD : Box' ((runF (b.take j)).1.length ≤ 1048576) := ⟨by have := GR.2; rw [List.length_take, HN.out] at this; omega⟩
        clear GR
        by_cases hlt : j < n
        · have hkb : 0 < b.length := by rw [HN.out]; omega
          have hkl : j < b.length := by rw [HN.out]; exact hlt
          obtain ⟨bb, ob, cb, eb, sb, clb⟩ := HB0.out.cells hkb
          have ck := clb j hkl
          rw [← (bcell HBl.out).1 _ _ (HS.out _ sb)] at ck
          rw [HN.out] at eb
          injection eb with e1 _ e2
          subst e1 e2
          have HS2 : Box' (runF (b.take (j + 1)) = ((runF (b.take j)).1 ++ (putF (runF (b.take j)).2 (b.getD j 0)).1, (putF (runF (b.take j)).2 (b.getD j 0)).2)) := ⟨by
            rw [List.take_succ_eq_append_getElem hkl, runF_snoc]; simp [hkl]⟩
          clear clb sb hkb
          generalize hr2 : runF (b.take (j + 1)) = r2 at *
          have HE2 := Box'.mk hr2
          clear hr2
          generalize runF (b.take j) = r1 at *
          generalize b.getD j 0 = x at *
          have HTw : Box' (Tab wr) := ⟨HT0.out.below HBl.out h0⟩
          have TK := Box'.mk (take_any rb r1.2 x wr HTw.out (by have := HRW.out; omega) HR.out HG.out)
          have HPG := Box'.mk (putF_good HG.out x).len
          have HPL := Box'.mk (putF_len r1.2 x)
          have HGL := Box'.mk HG.out.len
          generalize hrl : r1.1.length = rl at *
          have HRL := Box'.mk hrl
          clear hrl HTw HG
          go_wp2_with fail
          refine TK.out.mono ?_
          rintro e w6 ⟨v6, rfl, r6, o6, x6⟩
          rw [List.nil_append] at o6
          have HI6 := Box'.mk o6.inR
          have HO6 := Box'.mk (HO.out.frx HR.out x6)
          have HR6 := Box'.mk r6
          have HBl6 : Box' (Below w.heap.size w w6) := ⟨HBl.out.trans (x6.belowN (by have := HRW.out; have := HBl.out.size; omega) HRW.out)⟩
          have HRS6 := Box'.mk (Nat.lt_of_lt_of_le HRS.out x6.size)
          obtain ⟨a7, c7, hv⟩ := o6.slice
          subst hv
          clear TK HO HR HBl HRS o6 x6 r6 ck
          generalize hpl : (putF r1.2 x).1.length = pl at *
          have HPP := Box'.mk hpl
          clear hpl
          go_wp2_with (refine wpList_appR rfl (.tmp 44) (.tmp 50) rfl w.heap.size _ HBl6.out.size _ r1.1 rfl HO6.out _ (putF r1.2 x).1 rfl HI6.out (by rw [HRL.out, HPP.out]; have := HD.out; have := HPL.out; have := HGL.out; omega) ?_; intro v8 w8 o8 f8; have r8 := f8.row HR6.out (by decide))
          rw [show r1.1 ++ (putF r1.2 x).1 = r2.1 by rw [HS2.out]] at o8
          rw [show (putF r1.2 x).2 = r2.2 by rw [HS2.out]] at r8 HPG
          have WT := Box'.mk (waits_any rb r2.2 w8 r8)
          have HBl8 := Box'.mk (HBl6.out.trans (f8.below HBl6.out.size))
          have HRS8 := Box'.mk (Nat.lt_of_lt_of_le HRS6.out f8.size)
          have HO8 := Box'.mk o8
          have HR8 := Box'.mk r8
          clear HI6 HO6 HR6 HBl6 HRS6 o8 r8 f8
          refine WT.out.mono ?_
          rintro e w' ⟨rfl, hw⟩
          obtain rfl := hw.symm
          clear WT
          have h3 : ¬ ((3 : Int) < (r2.2.length : Int)) := by have := HPG.out; omega
          go_wp2_with fail
          exact ⟨⟨j + 1, by go_num, by omega, ⟨by rw [HE2.out]; exact HR8.out⟩, ⟨by rw [HE2.out]; exact HO8.out⟩, HBl8, HRS8⟩, by simp [intOf]; omega⟩
        · obtain rfl : j = n := by omega
          have htk : b.take j = b := List.take_of_length_le (by rw [HN.out]; exact Nat.le_refl _)
          rw [htk] at HR HO HG HD
          rw [htk]
          have HDR : Box' ((runF b).1 ++ finF (runF b).2 = decF [] b) := ⟨dec_run b⟩
          have EE := Box'.mk (end_any rb (runF b).2 wr HR.out)
          have HFL2 := Box'.mk (show (finF (runF b).2).length ≤ 1 by cases (runF b).2 <;> simp [finF])
          generalize runF b = r1 at *
          generalize hrl : r1.1.length = rl at *
          have HRL := Box'.mk hrl
          clear hrl htk HG hlt hj
          go_wp2_with fail
          refine EE.out.mono ?_
          rintro e w6 ⟨v6, rfl, r6, o6, x6⟩
          have HI6 := Box'.mk o6.inR
          have HO6 := Box'.mk (HO.out.frx HR.out x6)
          have HBl6 : Box' (Below w.heap.size w w6) := ⟨HBl.out.trans (x6.belowN (by have := HRW.out; have := HBl.out.size; omega) HRW.out)⟩
          obtain ⟨a7, c7, hv⟩ := o6.slice
          subst hv
          clear EE HO HR HBl HRS o6 x6 r6
          generalize hpl : (finF r1.2).length = pl at *
          have HPP := Box'.mk hpl
          clear hpl
          go_wp2_with (refine wpList_appR rfl _ _ rfl w.heap.size _ HBl6.out.size _ r1.1 rfl HO6.out _ (finF r1.2) rfl HI6.out (by rw [HRL.out, HPP.out]; have := HD.out; have := HFL2.out; omega) ?_; intro v8 w8 o8 f8)
          rw [HDR.out] at o8
          have HBl8 := Box'.mk (HBl6.out.trans (f8.below HBl6.out.size))
          have HT8 : Box' (Tab w8) := ⟨HT0.out.below HBl8.out h0⟩
          have HB8 := Box'.mk (HB0.out.below HBl8.out HS.out)
          have DC := Box'.mk (decode_any S _ b w8 HT8.out HB8.out (fun b hb => Nat.lt_of_lt_of_le (HS.out b hb) HBl8.out.size) (by rw [HN.out]; omega))
          have HO8 := Box'.mk o8
          clear HI6 HO6 HBl6 o8 f8
          refine DC.out.mono ?_
          rintro e w9 ⟨v9, rfl, o9, b9⟩
          have HDL : Box' ((decF [] b).length ≤ 1048576) := ⟨by have := decF_len b []; simp only [List.length_nil, Nat.zero_add, HN.out] at this; omega⟩
          have HO9 := Box'.mk o9
          have HG9 := Box'.mk (HO8.out.below b9)
          have HBl9 := Box'.mk (HBl8.out.trans (b9.mono HBl8.out.size))
          have HT9 := Box'.mk (HT8.out.below b9 HT8.out.lt)
          have HB9 := Box'.mk (HB8.out.below b9 (fun b hb => Nat.lt_of_lt_of_le (HS.out b hb) HBl8.out.size))
          have HOD := Box'.mk (fun h => enc_dec b [] trivial h)
          obtain ⟨a8, c8, hv⟩ := o9.slice
          subst hv
          clear DC HO8 HBl8 HT8 HB8 o9 b9 HDR
          generalize hds : decF [] b = ds at *
          clear hds
          generalize hdl : ds.length = dl at *
          have HDE := Box'.mk hdl
          clear hdl
          have hdl2 : dl ≤ 1048576 := HDL.out
          go_wp2_with fail
          go_loopw [11, 12] (fun wv iv wr => ∃ (j : Nat) (q : Bool), wv = .bool q ∧ iv = .int .i64 (j : Int) ∧ j ≤ dl ∧ Box' (q = true → ∀ c ∈ ds.take j, c ≠ 65533) ∧ wr = w9) (fun _ iv _ => dl - (intOf iv).toNat)
          case atStart => exact ⟨0, true, rfl, rfl, by omega, ⟨fun _ c hc => by simp at hc⟩, rfl⟩
          case round =>
            obtain ⟨i, q, rfl, rfl, hi, HQ, rfl⟩ := hrel
            by_cases hlt : i < dl
            · have hil : i < ds.length := by rw [HDE.out]; exact hlt
              cases q with
              | false =>
                go_wp2_with fail
                exact ⟨⟨i + 1, false, rfl, by go_num, by omega, ⟨fun h => by cases h⟩, by first | rfl | trivial⟩, by simp [intOf]; omega⟩
              | true =>
                obtain ⟨bb, ob, cb, eb, sb, clb⟩ := HO9.out.btsR.cells (by omega)
                have ck := clb i hil
                rw [HDE.out] at eb
                injection eb with e1 _ e2
                subst e1 e2
                have HQ2 : Box' (ds.getD i 0 ≠ 65533 → ∀ c ∈ ds.take (i + 1), c ≠ 65533) := ⟨fun hx c hc => by
                  rw [List.take_succ_eq_append_getElem hil, List.mem_append] at hc
                  rcases hc with hc | hc
                  · exact HQ.out rfl c hc
                  · have : c = ds.getD i 0 := by simpa [hil] using hc
                    rw [this]; exact hx⟩
                clear clb sb
                generalize ds.getD i 0 = x at *
                by_cases hx : x = 65533
                · subst hx
                  clear HQ2 HQ
                  go_wp2_with fail
                  exact ⟨⟨i + 1, false, rfl, by go_num, by omega, ⟨fun h => by cases h⟩, by first | rfl | trivial⟩, by simp [intOf]; omega⟩
                · have HX := Box'.mk (HQ2.out hx)
                  clear HQ2 HQ
                  go_wp2_with fail
                  exact ⟨⟨i + 1, true, by first | rfl | simp [hx], by go_num, by omega, ⟨fun _ => HX.out⟩, by first | rfl | trivial⟩, by simp [intOf]; omega⟩
            · obtain rfl : i = dl := by omega
              have AN := Box'.mk (anch_any wr HT9.out)
              go_wp2_with fail
              refine AN.out.mono ?_
              rintro e w10 ⟨rfl, b10⟩
              have SM := Box'.mk (sameR_any _ _ _ _ _ _ w10 (HG9.out.below b10).btsR (HO9.out.below b10).btsR (fun _ h => h) (fun _ h => h) (by rw [HDE.out]; have := HDL.out; omega) (by rw [HDE.out]; have := HDL.out; omega))
              rw [show decide (ds = ds) = true by simp] at SM
              have HB10 := Box'.mk (HBl9.out.trans (b10.mono HBl9.out.size))
              have HO10 := Box'.mk (HO9.out.below b10)
              have HBb := Box'.mk (HB9.out.below b10 (fun b hb => Nat.lt_of_lt_of_le (HS.out b hb) HBl9.out.size))
              clear AN HG9 HO9 HBl9 HT9 HB9 b10
              go_wp2_with fail
              refine SM.out.mono ?_
              rintro e w11 ⟨rfl, b11⟩
              have HB11 := Box'.mk (HB10.out.trans (b11.mono HB10.out.size))
              have HO11 := Box'.mk (HO10.out.below b11)
              have HBb1 := Box'.mk (HBb.out.below b11 (fun b hb => Nat.lt_of_lt_of_le (HS.out b hb) HB10.out.size))
              clear SM HB10 HO10 HBb b11
              cases q with
              | false =>
                have B := HB11.out
                clear HB11
                go_wp2_with fail
                go_ret
                exact ⟨rfl, B⟩
              | true =>
                have hq := HQ.out rfl
                rw [List.take_of_length_le (by rw [HDE.out]; exact Nat.le_refl _)] at hq
                have he := HOD.out hq
                rw [List.nil_append] at he
                have EN := Box'.mk (encode_any _ _ ds w11 HO11.out.btsR (fun _ h => h) (by rw [HDE.out]; have := HDL.out; omega))
                rw [he] at EN
                clear HO11 HQ hq he HOD
                go_wp2_with fail
                refine EN.out.mono ?_
                rintro e w12 ⟨v12, rfl, o12, b12⟩
                have SB := Box'.mk (refSame_any _ S v12 _ _ _ w12 o12.bts (HBb1.out.below b12 (fun b hb => Nat.lt_of_lt_of_le (HS.out b hb) HB11.out.size)))
                rw [show decide (b = b) = true by simp] at SB
                have B := HB11.out.trans (b12.mono HB11.out.size)
                clear EN HB11 HBb1 o12 b12
                go_wp2_with fail
                refine SB.out.mono ?_
                rintro e w' ⟨rfl, hw⟩
                obtain rfl := hw.symm
                clear SB
                go_wp2_with fail
                go_ret
                exact ⟨rfl, B⟩
end Go.Proofs.YtionlbgmmpoeeaaDoor
