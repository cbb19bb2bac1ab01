/- The walk of KeysAll. -/
import Derived.Test.YtepepoabbbjmgaaKf
namespace Go.Proofs.Ytepepoabbbjmgaa
open Go.RowKit Go.BigFrame
set_option linter.unusedSimpArgs false
set_option linter.unusedVariables false

set_option maxRecDepth 100000 in
set_option maxHeartbeats 4000000 in
theorem all_walk (HE : EncC 6) (HA : AllC 12) (w : World) (s : Sc.Sn) (vg vt vm vl v : Value) (l : List Ev) (hl : l.length ≤ 1048576) (li : Sc.Li w.heap.size w s vg vt vm vl) (bo : Sc.Bo s) (h : Evs w.heap.size w v l) :
    Calls Try.prog 4 #[.agg (Sc.snA s vg vt vm vl), v] w fun e w' => e = .returned (.bool true) ∧ Below w.heap.size w w' := by
  obtain ⟨w0, hw0⟩ : ∃ w0, w0 = w.alloc (.cells (Sc.snA s vg vt vm vl) 47) := ⟨_, rfl⟩
  have b0 : Below w.heap.size w w0 := by rw [hw0]; exact (Below.refl _ _).alloc (Nat.le_refl _) _
  have r0 : Row w0 w.heap.size 47 (Sc.snA s vg vt vm vl) := by rw [hw0]; exact Row.new _ _ _
  have AC : Box' (∀ f, AllC f → ∀ w1, Below w.heap.size w w1 → Calls Try.prog f #[.agg (Sc.snA s vg vt vm vl), v] w1 fun e w' => ∃ u, e = .returned (.tuple #[u, .int .i64 (allS s l).2]) ∧ InB w'.heap.size w' u (allS s l).1 ∧ Below w1.heap.size w1 w') := ⟨fun f hf w1 b1 => (hf w1 s vg vt vm vl v l hl (li.at b1) bo ((h.below b1 (Nat.le_refl _)).up b1.size)).mono fun e w' ⟨u, q1, q2, q3⟩ => ⟨u, q1, q2.inB, q3⟩⟩
  have SM : Box' (∀ w0 v1 v2 l, InB w0.heap.size w0 v1 l → InB w0.heap.size w0 v2 l → Calls Try.prog 8 #[v1, v2] w0 fun e w' => e = .returned (.bool true) ∧ w' = w0) := ⟨fun w0 v1 v2 l h1 h2 => (refSame_any _ _ v1 v2 l l w0 h1.bts h2.bts).mono fun e w' hh => ⟨by rw [hh.1]; simp, hh.2⟩⟩
  have AN := Box'.mk (anch_any HE)
  have RW : Box' (∀ w1, Below w0.heap.size w0 w1 → Row w1 w.heap.size 47 (Sc.snA s vg vt vm vl)) := ⟨fun w1 b => r0.below b r0.lt⟩
  have B0 := Box'.mk b0
  have S0 : Box' ((Sc.snA s vg vt vm vl).size = 44) := ⟨rfl⟩
  obtain ⟨a, c, rfl, _⟩ := h
  clear li bo r0
  generalize Sc.snA s vg vt vm vl = SN at *
  generalize allS s l = R at *
  generalize l.length = n at *
  have a1 := AC.out 12 HA w0 b0
  have A2 := Box'.mk (AC.out 13 refAll_C)
  have hr := RW.out w0 (Below.refl _ _)
  clear AC b0 HE HA hl
  rw [hw0] at a1 hr
  go_enter Try.func4, Try.ntmps4
  go_wp2_with (first | (refine wpList_load_row rfl 47 (.tmp 2) rfl w.heap.size rfl 47 _ hr _ Try.underlying47 rfl 44 (by kernel_rfl) S0.out ?_) | fail)
  refine a1.mono ?_
  rw [← hw0]
  rintro e w1 ⟨u1, rfl, i1, b1⟩
  have I1 := Box'.mk i1
  have B1 := Box'.mk (B0.out.trans (b1.mono B0.out.size))
  have hr := RW.out w1 b1
  clear a1 hw0 i1 b1 B0 RW
  go_wp2_with (first | (refine wpList_load_row rfl 47 (.tmp 2) rfl w.heap.size rfl 47 _ hr _ Try.underlying47 rfl 44 (by kernel_rfl) S0.out ?_) | fail)
  refine (A2.out w1 B1.out).mono ?_
  rintro e w2 ⟨u2, rfl, i2, b2⟩
  have sm := SM.out w2 u1 u2 _ ((I1.out.below b2 (Nat.le_refl _)).up b2.size) i2
  have B2 := Box'.mk (B1.out.trans (b2.mono B1.out.size))
  clear A2 SM I1 B1 i2 b2 hr S0
  generalize R.2 = q at *
  have hq : (q == q) = true := by simp
  go_wp2_with fail
  refine sm.mono ?_
  rintro e w3 ⟨rfl, rfl⟩
  clear sm
  go_wp2_with fail
  refine (AN.out w3).mono ?_
  rintro e w4 ⟨rfl, b4⟩
  have B4 := Box'.mk (B2.out.trans (b4.mono B2.out.size))
  clear AN B2 b4
  go_wp2_with fail
  go_ret
  exact ⟨rfl, B4.out⟩
end Go.Proofs.Ytepepoabbbjmgaa
