/- The walks of what compares: cmp.Compare, coming's and offered's. -/
import Derived.Test.YtcppfoolhkcfaaaKc
namespace Go.Proofs.Ytcppfoolhkcfaaa
open Go.RowKit Go.BigFrame

def sg (x y : Int) : Int := if x < y then -1 else if y < x then 1 else 0
theorem sg_lt (x y : Int) : decide (sg x y < 0) = decide (x < y) := by
  unfold sg
  split
  · rename_i h; simp [h]
  · rename_i h
    split
    · simp [h]
    · simp [h]
theorem isNaN_any (x : Int) (w : World) : Calls Try.prog 53 #[.int .i64 x] w fun e w' => e = .returned (.bool false) ∧ w' = w := by
  go_enter Try.func53, Try.ntmps53
  go_wp2
  go_ret
  exact ⟨rfl, rfl⟩
theorem compare_any (x y : Int) (w : World) : Calls Try.prog 50 #[.int .i64 x, .int .i64 y] w fun e w' => e = .returned (.int .i64 (sg x y)) ∧ w' = w := by
  have h1 := fun w => isNaN_any x w
  have h2 := fun w => isNaN_any y w
  unfold sg
  by_cases hlt : x < y
  · rw [if_pos hlt]
    go_enter Try.func50, Try.ntmps50
    go_wp2_with (go_at_call 53; first | (refine (h1 _).mono ?_; rintro e w' ⟨rfl, hw'⟩; rw [hw']) | (refine (h2 _).mono ?_; rintro e w' ⟨rfl, hw'⟩; rw [hw']))
    go_ret
    exact ⟨rfl, rfl⟩
  · rw [if_neg hlt]
    by_cases hgt : y < x
    · rw [if_pos hgt]
      go_enter Try.func50, Try.ntmps50
      go_wp2_with (go_at_call 53; first | (refine (h1 _).mono ?_; rintro e w' ⟨rfl, hw'⟩; rw [hw']) | (refine (h2 _).mono ?_; rintro e w' ⟨rfl, hw'⟩; rw [hw']))
      go_ret
      exact ⟨rfl, rfl⟩
    · rw [if_neg hgt]
      go_enter Try.func50, Try.ntmps50
      go_wp2_with (go_at_call 53; first | (refine (h1 _).mono ?_; rintro e w' ⟨rfl, hw'⟩; rw [hw']) | (refine (h2 _).mono ?_; rintro e w' ⟨rfl, hw'⟩; rw [hw']))
      go_ret
      exact ⟨rfl, rfl⟩

set_option maxHeartbeats 1000000 in
theorem coming1_any (pb b o n c : Nat) (cs : List Int) (i j : Nat) (_hn : cs.length = n) (hi : i < n) (hj : j < n) (w : World) (hp : w.cell? ⟨pb, 0, none⟩ = some (.slice (some ⟨b, o, none⟩) n c)) (h1 : w.cell? ⟨b, o + i, none⟩ = some (.int .i64 (cs.getD i 0))) (h2 : w.cell? ⟨b, o + j, none⟩ = some (.int .i64 (cs.getD j 0))) :
    Calls Try.prog 49 #[.int .i64 (i : Int), .int .i64 (j : Int), .pointer (some ⟨pb, 0, none⟩)] w fun e w' => e = .returned (.int .i64 (sg (cs.getD i 0) (cs.getD j 0))) ∧ ∃ m, w' = w.drewN m := by
  have hc := fun w => compare_any (cs.getD i 0) (cs.getD j 0) w
  generalize cs.getD i 0 = x at *
  generalize cs.getD j 0 = y at *
  clear _hn
  go_enter Try.func49, Try.ntmps49
  go_wp2_with fail
  go_quiet ((go_at_call 50; exact Calls.quiet_of_same (hc _)))
  go_wp2_with fail
  go_ret
  exact ⟨rfl, nq, rfl⟩

set_option maxHeartbeats 1000000 in
theorem offered1_any (x y : Int) (p q : Bool) (w : World) :
    Calls Try.prog 55 #[.agg #[.int .i64 x, .bool p], .agg #[.int .i64 y, .bool q]] w fun e w' => e = .returned (.int .i64 (sg x y)) ∧ Below w.heap.size w w' := by
  have hc := fun w => compare_any x y w
  go_enter Try.func55, Try.ntmps55
  go_wp2_with (go_at_call 50; refine (hc _).mono ?_; rintro e w' ⟨rfl, hw'⟩; rw [hw'])
  go_ret
  exact ⟨rfl, ((Below.refl _ _).alloc (Nat.le_refl _) _).alloc (by simp) _⟩
end Go.Proofs.Ytcppfoolhkcfaaa
