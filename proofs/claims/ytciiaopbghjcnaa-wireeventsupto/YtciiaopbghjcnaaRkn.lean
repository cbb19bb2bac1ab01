/- The walk of the reference's event, a kind by itself. -/
import Derived.Test.YtciiaopbghjcnaaRf
import Derived.Deep.Cut
namespace Go.Proofs.Ytciiaopbghjcnaa
open Go.RowKit Go.BigFrame
set_option linter.unusedSimpArgs false
set_option linter.unusedVariables false

set_option maxRecDepth 100000 in
set_option maxHeartbeats 4000000 in
theorem refEvent_n (N : Nat) (w : World) (rb : Nat)   (h : RSt N w rb (.ok [])) :
    Calls Try.prog 47 #[.pointer (some ⟨rb, 0, none⟩)] w (VEnd N rb w (evR [])) := by
  have HH := Box'.mk h
  obtain ⟨w0, hw0⟩ : ∃ w0, w0 = (w.alloc (.cells #[.int .u8 0, .slice none 0 0, .int .i64 0, .int .i64 0, .int .u8 0] 55)).alloc (.cells #[.int .u8 0, .slice none 0 0, .int .i64 0, .int .i64 0, .int .u8 0] 55) := ⟨_, rfl⟩
  have b0 : Below w.heap.size w w0 := by rw [hw0]; exact ((Below.refl _ _).alloc (Nat.le_refl _) _).alloc (by simp) _
  have ri : Row w0 w.heap.size 55 #[.int .u8 0, .slice none 0 0, .int .i64 0, .int .i64 0, .int .u8 0] := by rw [hw0]; exact (Row.new _ _ _).alloc _
  have rx : Row w0 (w.heap.size + 1) 55 #[.int .u8 0, .slice none 0 0, .int .i64 0, .int .i64 0, .int .u8 0] := by rw [hw0]; exact Row.made _ 55 _ _ _ rfl (by simp)
  obtain ⟨h1, h2, v, r, hi, hl⟩ := h
  have r0 := r.below b0 r.lt
  have c0 : w0.cell? ⟨rb, 0, none⟩ = some v := by rw [r0.cell]; rfl
  have c1 : w0.cell? ⟨rb, 1, none⟩ = some (.int .i64 0) := by rw [r0.cell]; rfl
  have fr0 := r0.frozen 0
  have fr1 := r0.frozen 1
  have hi0 := hi.below b0 (by omega)
  have RI := Box'.mk ri
  have RX := Box'.mk rx
  have RR := Box'.mk r0
  have B0 := Box'.mk b0
  have NE : Box' (w.heap.size ≠ rb ∧ w.heap.size + 1 ≠ rb ∧ N ≤ w.heap.size ∧ N ≤ w.heap.size + 1 ∧ w.heap.size ≠ w.heap.size + 1) := ⟨by omega, by omega, by omega, by omega, by omega⟩
  have HN := Box'.mk h1
  · obtain ⟨av, cv, rfl, _⟩ := hi.slice
    have rn := r0.setCell 1 (.int .i64 7)
    have rst7 : RSt N (w0.setCell ⟨rb, 1, none⟩ (.int .i64 7)) rb (.error 7) := RSt.err h1 r0 7 (by decide)
    have rx7 := rx.setOther ⟨rb, 1, none⟩ (.int .i64 7) NE.out.2.1
    have ri7 := ri.setOther ⟨rb, 1, none⟩ (.int .i64 7) NE.out.1
    have gb7 := (Gb.below (g := rb) b0).setCell 1 (.int .i64 7)
    obtain ⟨w7, hw7⟩ : ∃ w7, w7 = w0.setCell ⟨rb, 1, none⟩ (.int .i64 7) := ⟨_, rfl⟩
    rw [← hw7] at rst7 rx7 ri7 gb7
    have RB : Box' (Row w7 (w.heap.size + 1) 55 #[.int .u8 0, .slice none 0 0, .int .i64 0, .int .i64 0, .int .u8 0] ∧ Row w7 w.heap.size 55 #[.int .u8 0, .slice none 0 0, .int .i64 0, .int .i64 0, .int .u8 0]) := ⟨rx7, ri7⟩
    have m0 : w7.cell? ⟨w.heap.size + 1, 0, none⟩ = some (.int .u8 0) := by rw [rx7.cell]; rfl
    have m1 : w7.cell? ⟨w.heap.size + 1, 1, none⟩ = some (.slice none 0 0) := by rw [rx7.cell]; rfl
    have m2 : w7.cell? ⟨w.heap.size + 1, 2, none⟩ = some (.int .i64 0) := by rw [rx7.cell]; rfl
    have m3 : w7.cell? ⟨w.heap.size + 1, 3, none⟩ = some (.int .i64 0) := by rw [rx7.cell]; rfl
    have m4 : w7.cell? ⟨w.heap.size + 1, 4, none⟩ = some (.int .u8 0) := by rw [rx7.cell]; rfl
    have z0 : w7.cell? ⟨w.heap.size, 0, none⟩ = some (.int .u8 0) := by rw [ri7.cell]; rfl
    have f0 := ri7.frozen 0
    have z1 : w7.cell? ⟨w.heap.size, 1, none⟩ = some (.slice none 0 0) := by rw [ri7.cell]; rfl
    have f1 := ri7.frozen 1
    have z2 : w7.cell? ⟨w.heap.size, 2, none⟩ = some (.int .i64 0) := by rw [ri7.cell]; rfl
    have f2 := ri7.frozen 2
    have z3 : w7.cell? ⟨w.heap.size, 3, none⟩ = some (.int .i64 0) := by rw [ri7.cell]; rfl
    have f3 := ri7.frozen 3
    have z4 : w7.cell? ⟨w.heap.size, 4, none⟩ = some (.int .u8 0) := by rw [ri7.cell]; rfl
    have f4 := ri7.frozen 4
    have LI : LocR rb w w7 N _ w.heap.size (.slice none 0 0) _ := ⟨gb7, rst7, ⟨_, ri7⟩, (OwnB.nil _ _ : OwnB w.heap.size w7 (.slice none 0 0) []), NE.out.1, NE.out.2.2.1, Nat.le_refl _⟩
    have LF := Box'.mk (((((LI.set 0 (.int .u8 0)).set 1 (.slice none 0 0)).set 2 (.int .i64 0)).set 3 (.int .i64 0)).set 4 (.int .u8 0))
    have PF := Box'.mk (put5 (by decide) ri7 (.int .u8 0) (.slice none 0 0) (.int .i64 0) (.int .i64 0) (.int .u8 0)).1
    have HRR := Box'.mk ((show ∀ y l, evR [] = .ok (y, l) → y = (⟨0, [], 0, 0, 0⟩ : Ev) from fun y l e => by cases e))
    clear LI rn rst7 rx7 ri7 gb7 hi0 r0 r b0 hi ri rx h1 h2 RI RX RR B0 HH
    rw [hw0] at c0 c1 fr0 fr1
    clear m0 m1 m2 m3 m4 z0 f0 z1 f1 z2 f2 z3 f3 z4 f4
    go_enter Try.func47, Try.ntmps47
    go_upto_region 6 with (fail)
    rw [← hw0, ← hw7]
    clear c0 c1 fr0 fr1 hw0 hw7
    obtain ⟨RX7, RI7⟩ := RB.out
    have m0 : w7.cell? ⟨w.heap.size + 1, 0, none⟩ = some (.int .u8 0) := by rw [RX7.cell]; rfl
    have m1 : w7.cell? ⟨w.heap.size + 1, 1, none⟩ = some (.slice none 0 0) := by rw [RX7.cell]; rfl
    have m2 : w7.cell? ⟨w.heap.size + 1, 2, none⟩ = some (.int .i64 0) := by rw [RX7.cell]; rfl
    have m3 : w7.cell? ⟨w.heap.size + 1, 3, none⟩ = some (.int .i64 0) := by rw [RX7.cell]; rfl
    have m4 : w7.cell? ⟨w.heap.size + 1, 4, none⟩ = some (.int .u8 0) := by rw [RX7.cell]; rfl
    have z0 : w7.cell? ⟨w.heap.size, 0, none⟩ = some (.int .u8 0) := by rw [RI7.cell]; rfl
    have f0 := RI7.frozen 0
    have z1 : w7.cell? ⟨w.heap.size, 1, none⟩ = some (.slice none 0 0) := by rw [RI7.cell]; rfl
    have f1 := RI7.frozen 1
    have z2 : w7.cell? ⟨w.heap.size, 2, none⟩ = some (.int .i64 0) := by rw [RI7.cell]; rfl
    have f2 := RI7.frozen 2
    have z3 : w7.cell? ⟨w.heap.size, 3, none⟩ = some (.int .i64 0) := by rw [RI7.cell]; rfl
    have f3 := RI7.frozen 3
    have z4 : w7.cell? ⟨w.heap.size, 4, none⟩ = some (.int .u8 0) := by rw [RI7.cell]; rfl
    have f4 := RI7.frozen 4
    clear RX7 RI7
    go_wp2_with fail
    exact bodyPost_ret (results_row rfl _ w.heap.size rfl _ _ PF.out _ Try.underlying55 rfl 5 Try.size55 rfl) rfl ⟨⟨0, [], 0, 0, 0⟩, _, rfl, LF.out.own, LF.out.rst, HRR.out, LF.out.gb⟩
end Go.Proofs.Ytciiaopbghjcnaa
