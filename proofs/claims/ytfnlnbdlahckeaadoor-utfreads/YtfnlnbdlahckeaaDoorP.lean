/- The walks of both May's, of the reference's Same, of lowest, mayFollow. -/
import Derived.Test.YtfnlnbdlahckeaaDoorN
import Derived.Test.YtfnlnbdlahckeaaDoorGx
import Derived.BigQuiet
import Derived.Deep.Cut
namespace Go.Proofs.YtfnlnbdlahckeaaDoor
open Go.RowKit Go.BigFrame
set_option linter.unusedVariables false
set_option linter.unusedSimpArgs false

set_option maxRecDepth 100000 in
set_option maxHeartbeats 2000000 in
theorem may_any (c : Int) (w : World) : Calls Tryd.prog 7 #[.int .i32 c] w fun e w' => e = .returned (.bool (mayI c)) ∧ w' = w := by
  have hm : mayI c = decide (0 ≤ c ∧ c ≤ 1114111 ∧ (c < 55296 ∨ 57343 < c)) := rfl
  generalize mayI c = m at *
  by_cases h1 : 0 ≤ c <;> by_cases h2 : c ≤ 1114111 <;> by_cases h3 : c < 55296 <;> by_cases h4 : 57343 < c <;>
    (simp only [h1, h2, h3, h4, and_true, true_and, false_and, and_false, or_true, true_or, or_false, false_or, decide_true, decide_false] at hm
     subst hm
     go_enter Tryd.func7, Tryd.ntmps7
     go_wp2_with fail
     go_ret
     exact ⟨rfl, rfl⟩)
set_option maxRecDepth 100000 in
set_option maxHeartbeats 2000000 in
theorem rmay_any (c : Int) (w : World) : Calls Tryd.prog 8 #[.int .i32 c] w fun e w' => e = .returned (.bool (mayI c)) ∧ w' = w := by
  have hm : mayI c = decide (0 ≤ c ∧ c ≤ 1114111 ∧ (c < 55296 ∨ 57343 < c)) := rfl
  generalize mayI c = m at *
  by_cases h1 : 0 ≤ c <;> by_cases h2 : c ≤ 1114111 <;> by_cases h3 : c < 55296 <;> by_cases h4 : 57343 < c <;>
    (simp only [h1, h2, h3, h4, and_true, true_and, false_and, and_false, or_true, true_or, or_false, false_or, decide_true, decide_false] at hm
     subst hm
     go_enter Tryd.func8, Tryd.ntmps8
     go_wp2_with fail
     go_ret
     exact ⟨rfl, rfl⟩)
theorem BtsR.cells {S : Nat → Prop} {w : World} {v : Value} {l : List Int} (h : BtsR S w v l) (hl : 0 < l.length) : ∃ b o c, v = .slice (some ⟨b, o, none⟩) l.length c ∧ S b ∧ ∀ j, j < l.length → w.cell? ⟨b, o + j, none⟩ = some (.int .i32 (l.getD j 0)) := by
  obtain ⟨a, c, h1, h2, h3⟩ := h
  rcases h3 with rfl | ⟨b, o, h4, h5, h6⟩
  · simp at hl
  · subst h4
    exact ⟨b, o, c, h1, h5, fun j hj => h6 j _ (by simp [hj]; rfl)⟩
set_option maxRecDepth 100000 in
set_option maxHeartbeats 2000000 in
theorem sameR_any (S1 S2 : Nat → Prop) (va vb : Value) (la lb : List Int) (w : World) (ha : BtsR S1 w va la) (hb : BtsR S2 w vb lb) (hS1 : ∀ b, S1 b → b < w.heap.size) (hS2 : ∀ b, S2 b → b < w.heap.size) (hl : la.length ≤ 140737488355328) (hl2 : lb.length ≤ 140737488355328) :
    Calls Tryd.prog 9 #[va, vb] w fun e w' => e = .returned (.bool (decide (la = lb))) ∧ Below w.heap.size w w' := by
  have HA := Box'.mk ha
  have HB := Box'.mk hb
  obtain ⟨a1, c1, rfl, -, -⟩ := ha
  obtain ⟨a2, c2, rfl, -, -⟩ := hb
  by_cases hne : la.length = lb.length
  · have HN := Box'.mk hne
    rw [← hne] at HB ⊢
    clear hl2 hne
    generalize hn : la.length = n at *
    have HNA := Box'.mk hn
    clear hn
    go_enter Tryd.func9, Tryd.ntmps9
    go_wp2_with fail
    go_loopw [5] (fun i wr => ∃ k : Nat, i = .int .i64 (k : Int) ∧ k ≤ n ∧ Box' (∀ j, j < k → la.getD j 0 = lb.getD j 0) ∧ Box' (Below w.heap.size w wr)) (fun i _ => n - (intOf i).toNat)
    case atStart => exact ⟨0, rfl, by omega, ⟨fun j hj => by omega⟩, ⟨Below.refl _ _⟩⟩
    case round =>
      obtain ⟨k, rfl, hk, HE, HBl⟩ := hrel
      by_cases hlt : k < n
      · have hka : 0 < la.length := by rw [HNA.out]; omega
        have hkb : 0 < lb.length := by rw [← HN.out]; omega
        obtain ⟨ba, oa, ca, ea, sa, cla⟩ := HA.out.cells hka
        obtain ⟨bb, ob, cb, eb, sb, clb⟩ := HB.out.cells hkb
        have ck1 := cla k (by rw [HNA.out]; exact hlt)
        have ck2 := clb k (by rw [← HN.out]; exact hlt)
        rw [← (bcell HBl.out).1 _ _ (hS1 _ sa)] at ck1
        rw [← (bcell HBl.out).1 _ _ (hS2 _ sb)] at ck2
        rw [HNA.out] at ea
        rw [← HN.out] at eb
        injection ea with e1 _ e2
        injection eb with e3 _ e4
        subst e1 e2 e3 e4
        clear cla clb sa sb hka hkb
        by_cases hx : la.getD k 0 = lb.getD k 0
        · have HE2 : Box' (∀ j, j < k + 1 → la.getD j 0 = lb.getD j 0) := ⟨fun j hj => by
            by_cases h : j = k
            · subst h; exact hx
            · exact HE.out j (by omega)⟩
          rw [← hx] at ck2
          generalize la.getD k 0 = x at *
          clear hx HE
          have B2 := HBl.out
          go_wp2_with fail
          go_quiet (fail)
          go_wp2_with fail
          exact ⟨⟨k + 1, by go_num, by omega, HE2, ⟨Below.drewN B2 _⟩⟩, by simp [intOf]; omega⟩
        · have e : decide (la = lb) = false := by rw [decide_eq_false_iff_not]; exact fun h => hx (by rw [h])
          have B2 := HBl.out
          generalize la.getD k 0 = x at *
          generalize lb.getD k 0 = y at *
          clear HE HBl
          go_wp2_with fail
          go_quiet (fail)
          go_wp2_with fail
          go_ret
          exact ⟨by rw [e]; rfl, Below.drewN B2 _⟩
      · obtain rfl : k = n := by omega
        have e : decide (la = lb) = true := by
          rw [decide_eq_true_eq]
          refine List.ext_getElem (by rw [HNA.out, HN.out]) (fun j h1 h2 => ?_)
          have := HE.out j (by rw [← HNA.out]; exact h1)
          simpa [h1, h2] using this
        have B2 := HBl.out
        clear HA HB HN HNA HE HBl
        go_wp2_with fail
        go_ret
        exact ⟨by rw [e]; rfl, B2⟩
  · have e : decide (la = lb) = false := by rw [decide_eq_false_iff_not]; exact fun h => hne (by rw [h])
    rw [e]
    clear HA HB e
    generalize la.length = n at *
    generalize lb.length = m at *
    have hne' : ¬ ((n : Int) = (m : Int)) := by omega
    go_enter Tryd.func9, Tryd.ntmps9
    go_wp2_with fail
    go_ret
    exact ⟨rfl, Below.refl _ _⟩
end Go.Proofs.YtfnlnbdlahckeaaDoor
