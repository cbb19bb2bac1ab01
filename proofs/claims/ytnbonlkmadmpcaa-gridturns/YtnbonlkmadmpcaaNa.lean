/- The grid's small functions. -/
import Derived.Test.YtnbonlkmadmpcaaMk
import Derived.Test.YtnbonlkmadmpcaaMh
import Derived.Deep.Cut
namespace Go.Proofs.Ytnbonlkmadmpcaa
open Go.RowKit Go.BigFrame
set_option linter.unusedVariables false
set_option linter.unusedSimpArgs false
set_option maxHeartbeats 1000000 in
theorem maySide_any (n : Int) (w : World) : Calls Try.prog 49 #[.int .i64 n] w fun e w' => e = .returned (.bool (sideF n)) ∧ w' = w := by
 by_cases h1 : 1 ≤ n
 ·by_cases h2 : n ≤ 512
  ·have E : Box' (sideF n = true) := ⟨by unfold sideF; simp; omega⟩
   go_enter Try.func49, Try.ntmps49
   go_wp2_with fail
   go_ret
   exact ⟨by rw [E.out]; rfl, rfl⟩
  ·have E : Box' (sideF n = false) := ⟨by unfold sideF; simp; omega⟩
   go_enter Try.func49, Try.ntmps49
   go_wp2_with fail
   go_ret
   exact ⟨by rw [E.out]; rfl, rfl⟩
 ·have E : Box' (sideF n = false) := ⟨by unfold sideF; simp; omega⟩
  go_enter Try.func49, Try.ntmps49
  go_wp2_with fail
  go_ret
  exact ⟨by rw [E.out]; rfl, rfl⟩
set_option maxHeartbeats 1000000 in
theorem side_any (n : Int) (w : World) : Calls Try.prog 29 #[.int .i64 n] w fun e w' => e = .returned (.bool (sideF n)) ∧ w' = w := by
 by_cases h1 : 1 ≤ n
 ·by_cases h2 : n ≤ 512
  ·have E : Box' (sideF n = true) := ⟨by unfold sideF; simp; omega⟩
   go_enter Try.func29, Try.ntmps29
   go_wp2_with fail
   go_ret
   exact ⟨by rw [E.out]; rfl, rfl⟩
  ·have E : Box' (sideF n = false) := ⟨by unfold sideF; simp; omega⟩
   go_enter Try.func29, Try.ntmps29
   go_wp2_with fail
   go_ret
   exact ⟨by rw [E.out]; rfl, rfl⟩
 ·have E : Box' (sideF n = false) := ⟨by unfold sideF; simp; omega⟩
  go_enter Try.func29, Try.ntmps29
  go_wp2_with fail
  go_ret
  exact ⟨by rw [E.out]; rfl, rfl⟩
def inN (n c : Int) : Bool := decide (0 ≤ n ∧ n < c)
set_option maxHeartbeats 1000000 in
theorem isIn_any (n c : Int) (w : World) : Calls Try.prog 33 #[.int .i64 n, .int .i64 c] w fun e w' => e = .returned (.bool (inN n c)) ∧ w' = w := by
 by_cases h1 : 0 ≤ n
 ·by_cases h2 : n < c
  ·have E : Box' (inN n c = true) := ⟨by unfold inN; simp; omega⟩
   go_enter Try.func33, Try.ntmps33
   go_wp2_with fail
   go_ret
   exact ⟨by rw [E.out]; rfl, rfl⟩
  ·have E : Box' (inN n c = false) := ⟨by unfold inN; simp; omega⟩
   go_enter Try.func33, Try.ntmps33
   go_wp2_with fail
   go_ret
   exact ⟨by rw [E.out]; rfl, rfl⟩
 ·have E : Box' (inN n c = false) := ⟨by unfold inN; simp; omega⟩
  go_enter Try.func33, Try.ntmps33
  go_wp2_with fail
  go_ret
  exact ⟨by rw [E.out]; rfl, rfl⟩
set_option maxHeartbeats 1000000 in
theorem maySize_any (a b : Int) (w : World) : Calls Try.prog 26 #[.int .i64 a, .int .i64 b] w fun e w' => e = .returned (.bool (sideF a && sideF b)) ∧ w' = w := by
 have HA := Box'.mk (maySide_any a)
 have HB := Box'.mk (maySide_any b)
 cases ha : sideF a with
 | false =>
  rw [ha] at HA
  clear HB ha
  go_enter Try.func26, Try.ntmps26
  go_wp2_with fail
  refine (HA.out _).mono ?_
  rintro e w2 ⟨rfl, rfl⟩
  go_wp2_with fail
  go_ret
  exact ⟨rfl, rfl⟩
 | true =>
  rw [ha] at HA
  clear ha
  generalize sideF b = sb at *
  go_enter Try.func26, Try.ntmps26
  go_wp2_with fail
  refine (HA.out _).mono ?_
  rintro e w2 ⟨rfl, rfl⟩
  go_wp2_with fail
  refine (HB.out _).mono ?_
  rintro e w2 ⟨rfl, rfl⟩
  go_wp2_with fail
  go_ret
  exact ⟨rfl, rfl⟩
def clF (n m : Int) : Int := max (-m) (min n m)
set_option maxHeartbeats 1000000 in
theorem clamp_any (n : Int) (m : Nat) (hm : m ≤ 262144) (w : World) : Calls Try.prog 43 #[.int .i64 n, .int .i64 (m : Int)] w fun e w' => e = .returned (.int .i64 (clF n (m : Int))) ∧ w' = w := by
 go_enter Try.func43, Try.ntmps43
 go_wp2_with fail
 all_goals go_ret
 all_goals refine ⟨congrArg (fun x => Ending.returned (Value.int .i64 x)) ?_, rfl⟩
 all_goals rename_i h1
 all_goals first | rw [if_pos h] at h1 | rw [if_neg (Int.not_lt.2 h)] at h1
 all_goals unfold clF
 all_goals omega
set_option maxHeartbeats 1000000 in
theorem place_any (a b : Nat) (ha : a ≤ 1024) (hb : b ≤ 1024) (w : World) : Calls Try.prog 45 #[.int .i64 (a : Int), .int .i64 (b : Int)] w fun e w' => e = .returned (.int .i64 ((a * b : Nat) : Int)) ∧ w' = w := by
 have h := Nat.mul_le_mul ha hb
 have h' : (a : Int) * (b : Int) ≤ 1048576 := by rw [← Int.natCast_mul]; omega
 go_enter Try.func45, Try.ntmps45
 go_wp2_with fail
 go_ret
 exact ⟨congrArg (fun x => Ending.returned (Value.int .i64 x)) (Int.natCast_mul a b).symm, rfl⟩
end Go.Proofs.Ytnbonlkmadmpcaa
