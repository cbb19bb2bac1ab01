/- What the document fixes; ClockRound, ClockStays, ClockSettles walked. -/
import Derived.Test.YtmafghbhbahhcaaC
import Derived.Test.YtmafghbhbahhcaaR
namespace Go.Proofs.Ytmafghbhbahhcaa
open Go.RowKit Go.BigFrame
set_option linter.unusedVariables false
set_option linter.unusedSimpArgs false

theorem an1 (w : World) : Calls Try.prog 7 #[.agg #[.bool false, .int .i64 0, .int .i64 0], .int .u16 100] w fun e w' => e = .returned (.tuple #[.agg #[.bool true, .int .i64 800, .int .i64 200], .int .i64 0]) ∧ Below w.heap.size w w' := sample_any false 0 0 100 (by decide) (by decide) w
theorem an2 (w : World) : Calls Try.prog 7 #[.agg #[.bool true, .int .i64 800, .int .i64 200], .int .u16 60] w fun e w' => e = .returned (.tuple #[.agg #[.bool true, .int .i64 760, .int .i64 190], .int .i64 0]) ∧ Below w.heap.size w w' := sample_any true 800 200 60 (by decide) (by decide) w
theorem an3 (w : World) : Calls Try.prog 9 #[.agg #[.bool true, .int .i64 760, .int .i64 190]] w fun e w' => e = .returned (.tuple #[.int .i64 285, .int .i64 0]) ∧ Below w.heap.size w w' := timeout_any true 760 190 w
theorem an4 (w : World) : Calls Try.prog 15 #[.int .u16 3, .int .u16 65534] w fun e w' => e = .returned (.int .u16 5) ∧ w' = w := since_any 3 65534 (by decide) (by decide) (by decide) (by decide) w
theorem an0 (w : World) : Calls Try.prog 18 #[] w fun e w' => e = .returned (.agg #[.bool false, .int .i64 0, .int .i64 0]) ∧ Below w.heap.size w w' := start_any w

set_option maxHeartbeats 2000000 in
theorem anchored_any (w : World) : Calls Try.prog 17 #[] w fun e w' => e = .returned (.bool true) ∧ Below w.heap.size w w' := by
  go_enter Try.func17, Try.ntmps17
  go_wp2_with (fail)
  refine (an0 _).mono ?_
  rintro e w1 ⟨rfl, b1⟩
  have B1 := Box'.mk b1
  clear b1
  go_wp2_with (fail)
  refine (an1 _).mono ?_
  rintro e w2 ⟨rfl, b2⟩
  have B2 := Box'.mk (B1.out.trans (b2.mono B1.out.size))
  clear b2 B1
  go_wp2_with (fail)
  refine (an2 _).mono ?_
  rintro e w3 ⟨rfl, b3⟩
  have r3 : Row w3 w2.heap.size 23 #[.bool true, .int .i64 800, .int .i64 200] := (Row.made _ 23 _ _ _ rfl rfl).below b3 (by simp)
  have B3 := Box'.mk ((B2.out.alloc (B2.out.size) (.cells #[.bool true, .int .i64 800, .int .i64 200] 23)).trans (b3.mono (by have := B2.out.size; simp; omega)))
  have hz3 := r3.lt
  have R3 := Box'.mk r3
  clear b3 B2 r3
  go_wp2_with (fail)
  refine (an3 _).mono ?_
  rintro e w4 ⟨rfl, b4⟩
  have r4 := ((R3.out.alloc (.cells #[.bool true, .int .i64 760, .int .i64 190] 23)).below b4 (by simp; omega))
  have q4 : Row w4 w3.heap.size 23 #[.bool true, .int .i64 760, .int .i64 190] := (Row.made _ 23 _ _ _ rfl rfl).below b4 (by simp)
  have B4 := Box'.mk ((B3.out.alloc (B3.out.size) (.cells #[.bool true, .int .i64 760, .int .i64 190] 23)).trans (b4.mono (by have := B3.out.size; simp; omega)))
  have c1 := r4.cell 1
  have c2 := r4.cell 2
  have d1 := q4.cell 1
  have d2 := q4.cell 2
  clear b4 B3 R3 r4 q4
  go_wp2_with (fail)
  refine (an4 _).mono ?_
  rintro e w5 ⟨rfl, rfl⟩
  go_wp2
  go_ret
  exact ⟨rfl, B4.out⟩

theorem wrap16 {x y : Int} (h1 : 0 ≤ x) (h2 : x ≤ 65535) (h3 : 0 ≤ y) (h4 : y ≤ 65535) : 0 ≤ IntKind.u16.wrap (x + y) ∧ IntKind.u16.wrap (x + y) ≤ 65535 ∧ Gf.sinI (IntKind.u16.wrap (x + y)) x = y := by
  have e : IntKind.u16.wrap (x + y) = (x + y) % 65536 := by simp [IntKind.wrap, IntKind.bits, IntKind.signed]
  rw [e]
  unfold Gf.sinI
  refine ⟨by omega, by omega, ?_⟩
  split <;> omega
set_option maxHeartbeats 1000000 in
theorem round_any (x y : Int) (h1 : 0 ≤ x) (h2 : x ≤ 65535) (h3 : 0 ≤ y) (h4 : y ≤ 65535) (w : World) : Calls Try.prog 6 #[.int .u16 x, .int .u16 y] w fun e w' => e = .returned (.bool true) ∧ Below w.heap.size w w' := by
  obtain ⟨k1, k2, k3⟩ := wrap16 h1 h2 h3 h4
  have s1 := fun w => since_any (IntKind.u16.wrap (x + y)) x k1 k2 h1 h2 w
  rw [k3] at s1
  have s2 := fun w => since_any x x h1 h2 h1 h2 w
  rw [show Gf.sinI x x = 0 by unfold Gf.sinI; rw [if_neg (by omega)]; omega] at s2
  have S1 := Box'.mk s1
  have S2 := Box'.mk s2
  clear k1 k2 k3 s1 s2
  go_enter Try.func6, Try.ntmps6
  go_wp2_with (fail)
  refine (anchored_any _).mono ?_
  rintro e w1 ⟨rfl, b1⟩
  go_wp2_with (fail)
  refine (S1.out _).mono ?_
  rintro e w2 ⟨rfl, rfl⟩
  go_wp2_with (fail)
  refine (S2.out _).mono ?_
  rintro e w3 ⟨rfl, rfl⟩
  go_wp2
  go_ret
  exact ⟨rfl, b1⟩
end Go.Proofs.Ytmafghbhbahhcaa
