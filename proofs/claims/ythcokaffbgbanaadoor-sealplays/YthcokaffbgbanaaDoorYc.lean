/- The walk of the reference's Datagram: its errors ahead of the head. -/
import Derived.Test.YthcokaffbgbanaaDoorZg
import Derived.Test.YthcokaffbgbanaaDoorXn
namespace Go.Proofs.YthcokaffbgbanaaDoor
open Go.RowKit Go.BigFrame
set_option linter.unusedVariables false

set_option maxRecDepth 100000 in
set_option maxHeartbeats 2000000 in
theorem refDgram_early (key : List UInt8) (f : Nat) (vb : Value) (l : List UInt8) (hl : l.length ≤ maxLen) (w : World) (hb : Bts (· < w.heap.size) w vb l)
    (hE : ¬ ((f = 1 ∨ f = 2) ∧ 28 ≤ l.length)) :
    Calls Tryd.prog 14 #[.agg (ag key), .int .u8 (f : Int), vb] w fun r w' => r = .returned (dg0 (Gf.dgE key f l)) ∧ Below w.heap.size w w' := by
  have hS := fun w => refSide_any f w
  have hB : Box' (Below w.heap.size w ((w.alloc (.cells (ag key) 23)).alloc (.cells #[.int .u64 0, .int .u16 0, .int .u16 0, .slice none 0 0] 28))) := ⟨((Below.refl _ _).alloc (Nat.le_refl _) _).alloc (by simp) _⟩
  have HW : Box' (Row ((w.alloc (.cells (ag key) 23)).alloc (.cells #[.int .u64 0, .int .u16 0, .int .u16 0, .slice none 0 0] 28)) (w.heap.size + 1) 28 #[.int .u64 0, .int .u16 0, .int .u16 0, .slice none 0 0]) := ⟨Row.made _ _ _ _ _ rfl (by simp)⟩
  obtain ⟨a, c, rfl, hc, hr⟩ := hb
  unfold maxLen at hl
  unfold dg0
  by_cases h1 : f = 1 ∨ f = 2
  · rw [decide_eq_true h1] at hS
    have h2 : l.length < 28 := by omega
    have e0 : Gf.dgE key f l = 7 := by unfold Gf.dgE; rw [if_pos h1, if_pos h2]
    rw [e0]
    have d2 : decide ((l.length : Int) < 28) = true := decide_eq_true (by omega)
    clear hE e0 h1 hr h2 hc
    generalize l.length = n at *
    go_enter Tryd.func14, Tryd.ntmps14
    go_wp2_with (first | (go_at_call 34; refine (hS _).mono ?_; rintro e1 w1 ⟨rfl, rfl⟩) | fail)
    exact bodyPost_ret (results_row_slot Tryd.results14 _ (w.heap.size + 1) rfl _ rfl _ _ HW.out _ Tryd.underlying28 rfl 4 Tryd.size28 rfl) rfl ⟨rfl, hB.out⟩
  · have e0 : Gf.dgE key f l = 2 := by unfold Gf.dgE; rw [if_neg h1]
    rw [e0]
    rw [decide_eq_false h1] at hS
    clear hE e0 h1 hr hc
    generalize l.length = n at *
    go_enter Tryd.func14, Tryd.ntmps14
    go_wp2_with (first | (go_at_call 34; refine (hS _).mono ?_; rintro e1 w1 ⟨rfl, rfl⟩) | fail)
    exact bodyPost_ret (results_row_slot Tryd.results14 _ (w.heap.size + 1) rfl _ rfl _ _ HW.out _ Tryd.underlying28 rfl 4 Tryd.size28 rfl) rfl ⟨rfl, hB.out⟩

end Go.Proofs.YthcokaffbgbanaaDoor
