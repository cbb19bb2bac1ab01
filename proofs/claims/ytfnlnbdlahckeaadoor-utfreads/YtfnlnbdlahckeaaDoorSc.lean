/- The reference's Encode. -/
import Derived.Test.YtfnlnbdlahckeaaDoorSb
namespace Go.Proofs.YtfnlnbdlahckeaaDoor
open Go.RowKit Go.BigFrame
set_option linter.unusedVariables false
set_option linter.unusedSimpArgs false

set_option maxRecDepth 100000 in
set_option maxHeartbeats 4000000 in
theorem rencode_any (S : Nat → Prop) (vl : Value) (l : List Int) (w : World) (hb : BtsR S w vl l) (hS : ∀ b, S b → b < w.heap.size) (hl : l.length ≤ 35184372087808) :
    Calls Tryd.prog 14 #[vl] w fun e w' => ∃ v', e = .returned v' ∧ OwnB w.heap.size w' v' (encF l) ∧ Below w.heap.size w w' := by
  have HB := Box'.mk hb
  have HL := Box'.mk hl
  obtain ⟨a1, c1, rfl, -, -⟩ := hb
  generalize hn : l.length = n at *
  have HN := Box'.mk hn
  clear hn
  go_enter Tryd.func14, Tryd.ntmps14
  go_wp2_with fail
  go_loopw [3, 4] (fun u iv wr => ∃ (k : Nat), iv = .int .i64 (k : Int) ∧ k ≤ n ∧ Box' (OwnB w.heap.size wr u (encF (l.take k))) ∧ Box' (Below w.heap.size w wr)) (fun _ iv _ => n - (intOf iv).toNat)
  case atStart => exact ⟨0, rfl, by omega, ⟨OwnB.nil _ _⟩, ⟨Below.refl _ _⟩⟩
  case round =>
    obtain ⟨k, rfl, hk, HO, HBl⟩ := hrel
    obtain ⟨a2, c2, hu⟩ := HO.out.slice
    subst hu
    have hD := enc_take_len l k (by rw [HN.out]; exact HL.out)
    by_cases hlt : k < n
    · have hkb : 0 < l.length := by rw [HN.out]; omega
      have hkl : k < l.length := by rw [HN.out]; exact hlt
      obtain ⟨bb, ob, cb, eb, sb, clb⟩ := HB.out.cells hkb
      have ck := clb k hkl
      rw [← (bcell HBl.out).1 _ _ (hS _ sb)] at ck
      rw [HN.out] at eb
      injection eb with e1 _ e2
      subst e1 e2
      have HE2 := Box'.mk (enc_take hkl)
      clear clb sb hkb
      generalize l.getD k 0 = x at *
      have AF := Box'.mk (form_any (chr x) (chr_may x).1 wr)
      have MY := Box'.mk (rmay_any x wr)
      have FL := frm_len (chr x)
      have CE := chr_eq x
      generalize frm (chr x) = fr at *
      generalize (chr x : Int) = ci at *
      generalize (encF (l.take k)) = D at *
      generalize hdl : D.length = dl at *
      have HDL := Box'.mk hdl
      have HD := Box'.mk hD
      have HFL := Box'.mk FL
      clear hD hdl FL
      cases hm : mayI x with
      | true =>
        rw [hm] at MY
        rw [hm, if_pos rfl] at CE
        subst CE
        clear hm
        go_wp2_with fail
        refine MY.out.mono ?_
        rintro e w' ⟨rfl, hw⟩
        obtain rfl := hw.symm
        clear MY
        go_wp2_with fail
        refine AF.out.mono ?_
        rintro e w2 ⟨v2, rfl, o2, f2⟩
        have HB2 := Box'.mk (HBl.out.trans (f2.mono HBl.out.size))
        have HO2 := Box'.mk (HO.out.below f2)
        have HI2 := Box'.mk o2
        obtain ⟨a3, c3, hv3⟩ : ∃ a c, v2 = .slice a fr.length c := by obtain ⟨a, c, h, _⟩ := o2.slice; exact ⟨a, c, h⟩
        subst hv3
        clear AF HBl f2 HO o2
        generalize hfl : fr.length = fl at *
        have HFF := Box'.mk hfl
        clear hfl
        go_wp2_with (refine wpList_app rfl (.tmp 19) (.tmp 21) rfl w.heap.size _ HB2.out.size _ D rfl HO2.out _ fr rfl HI2.out (by rw [HDL.out, HFF.out]; have := HD.out; have := HFL.out; omega) ?_; intro v4 w4 o2 f4)
        have B2 := HB2.out.trans (f4.below HB2.out.size)
        clear HB2 HO2 HI2 f4
        go_wp2_with fail
        exact ⟨⟨k + 1, by go_num, by omega, ⟨by rw [HE2.out]; exact o2⟩, ⟨B2⟩⟩, by simp [intOf]; omega⟩
      | false =>
        rw [hm] at MY
        rw [hm, if_neg (by decide)] at CE
        subst CE
        clear hm
        go_wp2_with fail
        refine MY.out.mono ?_
        rintro e w' ⟨rfl, hw⟩
        obtain rfl := hw.symm
        clear MY
        go_wp2_with fail
        refine AF.out.mono ?_
        rintro e w2 ⟨v2, rfl, o2, f2⟩
        have HB2 := Box'.mk (HBl.out.trans (f2.mono HBl.out.size))
        have HO2 := Box'.mk (HO.out.below f2)
        have HI2 := Box'.mk o2
        obtain ⟨a3, c3, hv3⟩ : ∃ a c, v2 = .slice a fr.length c := by obtain ⟨a, c, h, _⟩ := o2.slice; exact ⟨a, c, h⟩
        subst hv3
        clear AF HBl f2 HO o2
        generalize hfl : fr.length = fl at *
        have HFF := Box'.mk hfl
        clear hfl
        go_wp2_with (refine wpList_app rfl (.tmp 19) (.tmp 21) rfl w.heap.size _ HB2.out.size _ D rfl HO2.out _ fr rfl HI2.out (by rw [HDL.out, HFF.out]; have := HD.out; have := HFL.out; omega) ?_; intro v4 w4 o2 f4)
        have B2 := HB2.out.trans (f4.below HB2.out.size)
        clear HB2 HO2 HI2 f4
        go_wp2_with fail
        exact ⟨⟨k + 1, by go_num, by omega, ⟨by rw [HE2.out]; exact o2⟩, ⟨B2⟩⟩, by simp [intOf]; omega⟩
    · obtain rfl : k = n := by omega
      have HE : Box' (encF (l.take k) = encF l) := ⟨by rw [List.take_of_length_le (by rw [HN.out]; exact Nat.le_refl _)]⟩
      generalize encF (l.take k) = D at *
      generalize D.length = dl at *
      have o3 := HO.out
      have B3 := HBl.out
      rw [HE.out] at o3
      clear HO HBl HE
      go_wp2_with fail
      go_ret
      exact ⟨_, rfl, o3, B3⟩
end Go.Proofs.YtfnlnbdlahckeaaDoor
