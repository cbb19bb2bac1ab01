/- Colours and styles that may be; what tells a colour. -/
import Derived.Test.YtnbonlkmadmpcaaV
import Derived.Test.YtnbonlkmadmpcaaMc
import Derived.Deep.Cut
namespace Go.Proofs.Ytnbonlkmadmpcaa
open Go.RowKit Go.BigFrame
set_option linter.unusedVariables false
set_option linter.unusedSimpArgs false

set_option maxHeartbeats 1000000 in
theorem mayColour_any (n : Int) (w : World) : Calls Try.prog 65 #[.int .i64 n] w fun e w' => e = .returned (.bool (mc n)) ∧ w' = w := by
  have IC := Box'.mk (isColour_any n w)
  by_cases h : n = -1
  · subst h
    go_enter Try.func65, Try.ntmps65
    go_wp2_with fail
    go_ret
    exact ⟨rfl, rfl⟩
  · have E : Box' (mc n = (n == -1 || isC n)) := ⟨by rw [beq_eq_false_iff_ne.2 h, Bool.false_or]; unfold mc isC; apply decide_eq_decide.2; omega⟩
    go_enter Try.func65, Try.ntmps65
    go_wp2_with fail
    refine IC.out.mono ?_
    rintro e w1 ⟨rfl, rfl⟩
    go_wp2_with fail
    go_ret
    exact ⟨by rw [E.out]; rfl, rfl⟩
set_option maxHeartbeats 1000000 in
theorem refColour_any (n : Int) (w : World) : Calls Try.prog 51 #[.int .i64 n] w fun e w' => e = .returned (.bool (mc n)) ∧ w' = w := by
  by_cases h1 : -1 ≤ n
  · by_cases h2 : n ≤ 255
    · have E : Box' (mc n = true) := ⟨by unfold mc; simp; omega⟩
      go_enter Try.func51, Try.ntmps51
      go_wp2_with fail
      go_ret
      exact ⟨by rw [E.out]; rfl, rfl⟩
    · have E : Box' (mc n = false) := ⟨by unfold mc; simp; omega⟩
      go_enter Try.func51, Try.ntmps51
      go_wp2_with fail
      go_ret
      exact ⟨by rw [E.out]; rfl, rfl⟩
  · have E : Box' (mc n = false) := ⟨by unfold mc; simp; omega⟩
    go_enter Try.func51, Try.ntmps51
    go_wp2_with fail
    go_ret
    exact ⟨by rw [E.out]; rfl, rfl⟩
set_option maxHeartbeats 2000000 in
theorem mayStyle_any (s : St) (w : World) : Calls Try.prog 55 #[.agg (sA s)] w fun e w' => e = .returned (.bool (mayS s)) ∧ Below w.heap.size w w' := by
  have MC := Box'.mk mayColour_any
  have B := Box'.mk ((Below.refl w.heap.size w).alloc (Nat.le_refl _) (.cells (sA s) 26))
  have R := Box'.mk (Row.new w 26 (sA s))
  generalize hw : w.alloc (.cells (sA s) 26) = w1 at *
  have c0 : w1.cell? ⟨w.heap.size, 0, none⟩ = some (.int .i64 s.fg) := R.out.cell 0
  have c1 : w1.cell? ⟨w.heap.size, 1, none⟩ = some (.int .i64 s.bg) := R.out.cell 1
  have HW := Box'.mk hw
  clear hw R
  go_enter Try.func55, Try.ntmps55
  go_upto_region 1 with (fail)
  rw [HW.out]
  clear HW
  cases hf : mc s.fg with
  | false =>
    have E : Box' (mayS s = false) := ⟨by unfold mayS; rw [hf]; rfl⟩
    go_wp2_with fail
    refine (MC.out _ _).mono ?_
    rintro e w2 ⟨rfl, rfl⟩
    rw [hf]
    go_wp2_with fail
    go_ret
    exact ⟨by rw [E.out]; rfl, B.out⟩
  | true =>
    have E : Box' (mayS s = mc s.bg) := ⟨by unfold mayS; rw [hf]; rfl⟩
    go_wp2_with fail
    refine (MC.out _ _).mono ?_
    rintro e w2 ⟨rfl, rfl⟩
    rw [hf]
    go_wp2_with fail
    refine (MC.out _ _).mono ?_
    rintro e w3 ⟨rfl, rfl⟩
    go_wp2_with fail
    go_ret
    exact ⟨by rw [E.out]; rfl, B.out⟩
set_option maxHeartbeats 2000000 in
theorem refMayStyle_any (s : St) (w : World) : Calls Try.prog 30 #[.agg (sA s)] w fun e w' => e = .returned (.bool (mayS s)) ∧ Below w.heap.size w w' := by
  have MC := Box'.mk refColour_any
  have B := Box'.mk ((Below.refl w.heap.size w).alloc (Nat.le_refl _) (.cells (sA s) 26))
  have R := Box'.mk (Row.new w 26 (sA s))
  generalize hw : w.alloc (.cells (sA s) 26) = w1 at *
  have c0 : w1.cell? ⟨w.heap.size, 0, none⟩ = some (.int .i64 s.fg) := R.out.cell 0
  have c1 : w1.cell? ⟨w.heap.size, 1, none⟩ = some (.int .i64 s.bg) := R.out.cell 1
  have HW := Box'.mk hw
  clear hw R
  go_enter Try.func30, Try.ntmps30
  go_upto_region 1 with (fail)
  rw [HW.out]
  clear HW
  cases hf : mc s.fg with
  | false =>
    have E : Box' (mayS s = false) := ⟨by unfold mayS; rw [hf]; rfl⟩
    go_wp2_with fail
    refine (MC.out _ _).mono ?_
    rintro e w2 ⟨rfl, rfl⟩
    rw [hf]
    go_wp2_with fail
    go_ret
    exact ⟨by rw [E.out]; rfl, B.out⟩
  | true =>
    have E : Box' (mayS s = mc s.bg) := ⟨by unfold mayS; rw [hf]; rfl⟩
    go_wp2_with fail
    refine (MC.out _ _).mono ?_
    rintro e w2 ⟨rfl, rfl⟩
    rw [hf]
    go_wp2_with fail
    refine (MC.out _ _).mono ?_
    rintro e w3 ⟨rfl, rfl⟩
    go_wp2_with fail
    go_ret
    exact ⟨by rw [E.out]; rfl, B.out⟩
end Go.Proofs.Ytnbonlkmadmpcaa
