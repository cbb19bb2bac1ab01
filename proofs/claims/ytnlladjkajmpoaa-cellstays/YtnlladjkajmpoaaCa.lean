/- Colours and styles that may be; what tells a colour. -/
import Derived.Test.YtnlladjkajmpoaaH
import Derived.Test.YtnlladjkajmpoaaMc
import Derived.Deep.Cut
namespace Go.Proofs.Ytnlladjkajmpoaa
open Go.RowKit Go.BigFrame
set_option linter.unusedVariables false
set_option linter.unusedSimpArgs false

set_option maxHeartbeats 1000000 in
theorem mayColour_any (n : Int) (w : World) : Calls Try.prog 41 #[.int .i64 n] w fun e w' => e = .returned (.bool (mc n)) ∧ w' = w := by
  have IC := Box'.mk (isColour_any n w)
  by_cases h : n = -1
  · subst h
    go_enter Try.func41, Try.ntmps41
    go_wp2_with fail
    go_ret
    exact ⟨rfl, rfl⟩
  · have E : Box' (mc n = (n == -1 || isC n)) := ⟨by rw [beq_eq_false_iff_ne.2 h, Bool.false_or]; unfold mc isC; apply decide_eq_decide.2; omega⟩
    go_enter Try.func41, Try.ntmps41
    go_wp2_with fail
    refine IC.out.mono ?_
    rintro e w1 ⟨rfl, rfl⟩
    go_wp2_with fail
    go_ret
    exact ⟨by rw [E.out]; rfl, rfl⟩
set_option maxHeartbeats 1000000 in
theorem refColour_any (n : Int) (w : World) : Calls Try.prog 33 #[.int .i64 n] w fun e w' => e = .returned (.bool (mc n)) ∧ w' = w := by
  by_cases h1 : -1 ≤ n
  · by_cases h2 : n ≤ 255
    · have E : Box' (mc n = true) := ⟨by unfold mc; simp; omega⟩
      go_enter Try.func33, Try.ntmps33
      go_wp2_with fail
      go_ret
      exact ⟨by rw [E.out]; rfl, rfl⟩
    · have E : Box' (mc n = false) := ⟨by unfold mc; simp; omega⟩
      go_enter Try.func33, Try.ntmps33
      go_wp2_with fail
      go_ret
      exact ⟨by rw [E.out]; rfl, rfl⟩
  · have E : Box' (mc n = false) := ⟨by unfold mc; simp; omega⟩
    go_enter Try.func33, Try.ntmps33
    go_wp2_with fail
    go_ret
    exact ⟨by rw [E.out]; rfl, rfl⟩
set_option maxHeartbeats 2000000 in
theorem mayStyle_any (s : St) (w : World) : Calls Try.prog 25 #[.agg (sA s)] w fun e w' => e = .returned (.bool (mayS s)) ∧ Below w.heap.size w w' := by
  have MC := Box'.mk mayColour_any
  have B := Box'.mk ((Below.refl w.heap.size w).alloc (Nat.le_refl _) (.cells (sA s) 24))
  have R := Box'.mk (Row.new w 24 (sA s))
  generalize hw : w.alloc (.cells (sA s) 24) = w1 at *
  have c0 : w1.cell? ⟨w.heap.size, 0, none⟩ = some (.int .i64 s.fg) := R.out.cell 0
  have c1 : w1.cell? ⟨w.heap.size, 1, none⟩ = some (.int .i64 s.bg) := R.out.cell 1
  have HW := Box'.mk hw
  clear hw R
  go_enter Try.func25, Try.ntmps25
  go_upto_region 1 with (fail)
  rw [HW.out]
  clear HW
  cases hf : mc s.fg with
  | false =>
    have E : Box' (mayS s = false) := ⟨by unfold mayS; rw [hf]; rfl⟩
    go_wp2_with fail
    refine (MC.out _ _).mono ?_
    rintro e w2 ⟨rfl, rfl⟩
    rw [hf]
    go_wp2_with fail
    go_ret
    exact ⟨by rw [E.out]; rfl, B.out⟩
  | true =>
    have E : Box' (mayS s = mc s.bg) := ⟨by unfold mayS; rw [hf]; rfl⟩
    go_wp2_with fail
    refine (MC.out _ _).mono ?_
    rintro e w2 ⟨rfl, rfl⟩
    rw [hf]
    go_wp2_with fail
    refine (MC.out _ _).mono ?_
    rintro e w3 ⟨rfl, rfl⟩
    go_wp2_with fail
    go_ret
    exact ⟨by rw [E.out]; rfl, B.out⟩
set_option maxHeartbeats 2000000 in
theorem refMayStyle_any (s : St) (w : World) : Calls Try.prog 21 #[.agg (sA s)] w fun e w' => e = .returned (.bool (mayS s)) ∧ Below w.heap.size w w' := by
  have MC := Box'.mk refColour_any
  have B := Box'.mk ((Below.refl w.heap.size w).alloc (Nat.le_refl _) (.cells (sA s) 24))
  have R := Box'.mk (Row.new w 24 (sA s))
  generalize hw : w.alloc (.cells (sA s) 24) = w1 at *
  have c0 : w1.cell? ⟨w.heap.size, 0, none⟩ = some (.int .i64 s.fg) := R.out.cell 0
  have c1 : w1.cell? ⟨w.heap.size, 1, none⟩ = some (.int .i64 s.bg) := R.out.cell 1
  have HW := Box'.mk hw
  clear hw R
  go_enter Try.func21, Try.ntmps21
  go_upto_region 1 with (fail)
  rw [HW.out]
  clear HW
  cases hf : mc s.fg with
  | false =>
    have E : Box' (mayS s = false) := ⟨by unfold mayS; rw [hf]; rfl⟩
    go_wp2_with fail
    refine (MC.out _ _).mono ?_
    rintro e w2 ⟨rfl, rfl⟩
    rw [hf]
    go_wp2_with fail
    go_ret
    exact ⟨by rw [E.out]; rfl, B.out⟩
  | true =>
    have E : Box' (mayS s = mc s.bg) := ⟨by unfold mayS; rw [hf]; rfl⟩
    go_wp2_with fail
    refine (MC.out _ _).mono ?_
    rintro e w2 ⟨rfl, rfl⟩
    rw [hf]
    go_wp2_with fail
    refine (MC.out _ _).mono ?_
    rintro e w3 ⟨rfl, rfl⟩
    go_wp2_with fail
    go_ret
    exact ⟨by rw [E.out]; rfl, B.out⟩
set_option maxHeartbeats 2000000 in
theorem colourParams_any (g c : Int) (hg1 : 0 ≤ g) (hg2 : g ≤ 40) (h1 : -1 ≤ c) (h2 : c ≤ 255) (w : World) : Calls Try.prog 46 #[.int .i64 g, .int .i64 c] w fun e w' => ∃ v, e = .returned v ∧ OwnI w.heap.size w' v (colF g c) ∧ Below w.heap.size w w' := by
  have BA : Box' (∀ o, Below w.heap.size w (w.alloc o)) := ⟨fun o => (Below.refl w.heap.size w).alloc (Nat.le_refl _) o⟩
  have OM := Box'.mk (OwnI.made w)
  by_cases c0 : c = -1
  · subst c0
    have E : Box' (colF g (-1) = [g + 9]) := ⟨rfl⟩
    go_enter Try.func46, Try.ntmps46
    go_wp2_with fail
    go_ret
    exact ⟨_, rfl, by rw [E.out]; exact OM.out [g + 9] (by simp), BA.out _⟩
  by_cases c1 : c ≤ 7
  · have E : Box' (colF g c = [g + c]) := ⟨by unfold colF; rw [if_neg c0, if_pos c1]⟩
    go_enter Try.func46, Try.ntmps46
    go_wp2_with fail
    go_ret
    exact ⟨_, rfl, by rw [E.out]; exact OM.out [g + c] (by simp), BA.out _⟩
  by_cases c2 : c ≤ 15
  · have E : Box' (colF g c = [g + 60 + c - 7 - 1]) := ⟨by unfold colF; rw [if_neg c0, if_neg c1, if_pos c2]⟩
    go_enter Try.func46, Try.ntmps46
    go_wp2_with fail
    go_ret
    exact ⟨_, rfl, by rw [E.out]; exact OM.out [g + 60 + c - 7 - 1] (by simp), BA.out _⟩
  · have E : Box' (colF g c = [g + 8, 5, c]) := ⟨by unfold colF; rw [if_neg c0, if_neg c1, if_neg c2]⟩
    go_enter Try.func46, Try.ntmps46
    go_wp2_with fail
    go_ret
    exact ⟨_, rfl, by rw [E.out]; exact OM.out [g + 8, 5, c] (by simp), BA.out _⟩
end Go.Proofs.Ytnlladjkajmpoaa
