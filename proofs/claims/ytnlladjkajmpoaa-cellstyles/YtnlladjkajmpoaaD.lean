/- CellStyles, walked. -/
import Derived.Test.YtnlladjkajmpoaaZ
import Derived.Test.YtnlladjkajmpoaaB
namespace Go.Proofs.Ytnlladjkajmpoaa
open Go.RowKit Go.BigFrame
set_option linter.unusedVariables false
set_option linter.unusedSimpArgs false

set_option maxRecDepth 100000 in
set_option maxHeartbeats 4000000 in
theorem styles_any (s : St) (va : Value) (l : List Int) (hl : l.length ≤ 140737488355328) (w : World) (h : Is w.heap.size w va l) :
    Calls Try.prog 4 #[.agg (sA s), va] w fun e w' => e = .returned (.bool true) ∧ Below w.heap.size w w' := by
  have AP : Box' (∀ wd, Below w.heap.size w wd → Calls Try.prog 18 #[.agg (sA s), va] wd fun e w' => e = .returned (.agg (sA (apF s l))) ∧ Below wd.heap.size wd w') := ⟨fun wd hb => apply_any s va l hl wd ((h.below hb (Nat.le_refl _)).up hb.size)⟩
  have RA : Box' (∀ wd, Below w.heap.size w wd → Calls Try.prog 19 #[.agg (sA s), va] wd fun e w' => e = .returned (.agg (sA (apF s l))) ∧ Below wd.heap.size wd w') := ⟨fun wd hb => refApply_any s va l hl wd ((h.below hb (Nat.le_refl _)).up hb.size)⟩
  have AN := Box'.mk anch_any
  clear h
  generalize apF s l = x at *
  obtain ⟨fg, bg, y1, y2, y3, y4, y5, y7, y8, y9⟩ := s
  obtain ⟨xf, xb, x1, x2, x3, x4, x5, x7, x8, x9⟩ := x
  unfold sA at *
  simp only at *
  go_enter Try.func4, Try.ntmps4
  go_wp2_with fail
  refine wp_region_growg 10 (by kernel_rfl) 15 rfl (by kernel_rfl) (fun wa wb => Below wa.heap.size wa wb) (fun wa => Row wa w.heap.size 24 #[.int .i64 fg, .int .i64 bg, .bool y1, .bool y2, .bool y3, .bool y4, .bool y5, .bool y7, .bool y8, .bool y9] ∧ Below w.heap.size w wa) (fun kc wa v => match kc with
    | 0 => v = .agg #[.int .i64 fg, .int .i64 bg, .bool y1, .bool y2, .bool y3, .bool y4, .bool y5, .bool y7, .bool y8, .bool y9]
    | 1 => v = va
    | 2 => v = .agg #[.int .i64 xf, .int .i64 xb, .bool x1, .bool x2, .bool x3, .bool x4, .bool x5, .bool x7, .bool x8, .bool x9]
    | 3 => v = .agg #[.int .i64 fg, .int .i64 bg, .bool y1, .bool y2, .bool y3, .bool y4, .bool y5, .bool y7, .bool y8, .bool y9]
    | 4 => v = va
    | 5 => v = .agg #[.int .i64 xf, .int .i64 xb, .bool x1, .bool x2, .bool x3, .bool x4, .bool x5, .bool x7, .bool x8, .bool x9]
    | 6 => v = .bool true
    | 7 => v = .bool true
    | 8 => v = .bool true
    | 9 => v = .bool true
    | _ => True) ?_ ?_ ?_ ?_ ?_ ?_
  · intro i o' j b' hi hg wa v hC hV
    have hlt : i < 10 := by rcases Nat.lt_or_ge i 10 with q | q; exact q; rw [List.getElem?_eq_none (by simpa using q)] at hi; cases hi
    revert hi hg hV
    rcases (show i = 0 ∨ i = 1 ∨ i = 2 ∨ i = 3 ∨ i = 4 ∨ i = 5 ∨ i = 6 ∨ i = 7 ∨ i = 8 ∨ i = 9 by omega) with rfl | rfl | rfl | rfl | rfl | rfl | rfl | rfl | rfl | rfl <;>
      (intro hi hg hV; simp only [List.take_succ_cons, List.getElem?_cons_zero, List.getElem?_cons_succ, Option.some.injEq] at hi; subst hi; first | (cases hg; exact hV) | (cases hg))
  · rintro wa wb hb ⟨q1, q2⟩; exact ⟨q1.below hb q1.lt, q2.trans (hb.mono q2.size)⟩
  · intro kc v wa wb hC1 hb h
    match kc, h with
    | 0, h => exact h
    | 1, h => exact h
    | 2, h => exact h
    | 3, h => exact h
    | 4, h => exact h
    | 5, h => exact h
    | 6, h => exact h
    | 7, h => exact h
    | 8, h => exact h
    | 9, h => exact h
    | kc + 10, h => trivial
  · exact ⟨(Row.new _ _ _).drew, ((Below.refl w.heap.size w).alloc (Nat.le_refl _) _).drew⟩
  · refine ⟨?_, ?_, ?_, ?_, ?_, ?_, ?_, ?_, ?_, ?_, trivial⟩
    · intro f wq hC hd KK hK
      clear hd
      have hR : Row wq w.heap.size 24 #[.int .i64 fg, .int .i64 bg, .bool y1, .bool y2, .bool y3, .bool y4, .bool y5, .bool y7, .bool y8, .bool y9] := hC.1
      have c0 : wq.cell? ⟨w.heap.size, 0, none⟩ = some (.int .i64 fg) := hR.cell 0
      have c1 : wq.cell? ⟨w.heap.size, 1, none⟩ = some (.int .i64 bg) := hR.cell 1
      have c2 : wq.cell? ⟨w.heap.size, 2, none⟩ = some (.bool y1) := hR.cell 2
      have c3 : wq.cell? ⟨w.heap.size, 3, none⟩ = some (.bool y2) := hR.cell 3
      have c4 : wq.cell? ⟨w.heap.size, 4, none⟩ = some (.bool y3) := hR.cell 4
      have c5 : wq.cell? ⟨w.heap.size, 5, none⟩ = some (.bool y4) := hR.cell 5
      have c6 : wq.cell? ⟨w.heap.size, 6, none⟩ = some (.bool y5) := hR.cell 6
      have c7 : wq.cell? ⟨w.heap.size, 7, none⟩ = some (.bool y7) := hR.cell 7
      have c8 : wq.cell? ⟨w.heap.size, 8, none⟩ = some (.bool y8) := hR.cell 8
      have c9 : wq.cell? ⟨w.heap.size, 9, none⟩ = some (.bool y9) := hR.cell 9
      clear hC hR
      simp only [List.take_succ_cons, List.take_zero, setAll, List.setIfInBounds_toArray, List.set_cons_succ, List.set_cons_zero, Nat.zero_add, Nat.reduceAdd] at hK ⊢
      refine wp_of_quiet rfl ?_
      go_big_quiet_step (fail)
      exact wpQuiet_nil (hK _ _ (rfl) (Below.refl _ _))
    · intro f wq hC hd KK hK
      clear hd
      simp only [List.take_succ_cons, List.take_zero, setAll, List.setIfInBounds_toArray, List.set_cons_succ, List.set_cons_zero, Nat.zero_add, Nat.reduceAdd] at hK ⊢
      refine wp_of_quiet rfl ?_
      go_big_quiet_step (fail)
      exact wpQuiet_nil (hK _ _ (rfl) (Below.refl _ _))
    · intro f wq hC hd KK hK
      have g0 : f 0 = .agg #[.int .i64 fg, .int .i64 bg, .bool y1, .bool y2, .bool y3, .bool y4, .bool y5, .bool y7, .bool y8, .bool y9] := hd 0 (by kernel_rfl)
      have g1 : f 1 = va := hd 1 (by kernel_rfl)
      clear hd
      simp only [List.take_succ_cons, List.take_zero, setAll, List.setIfInBounds_toArray, List.set_cons_succ, List.set_cons_zero, Nat.zero_add, Nat.reduceAdd, g0, g1] at hK ⊢
      exact wp_call 18 #[.agg #[.int .i64 fg, .int .i64 bg, .bool y1, .bool y2, .bool y3, .bool y4, .bool y5, .bool y7, .bool y8, .bool y9], va] (by simp [go_sem]) _ _ (AP.out wq hC.2) (fun w' hb => hK _ _ rfl hb)
    · intro f wq hC hd KK hK
      clear hd
      have hR : Row wq w.heap.size 24 #[.int .i64 fg, .int .i64 bg, .bool y1, .bool y2, .bool y3, .bool y4, .bool y5, .bool y7, .bool y8, .bool y9] := hC.1
      have c0 : wq.cell? ⟨w.heap.size, 0, none⟩ = some (.int .i64 fg) := hR.cell 0
      have c1 : wq.cell? ⟨w.heap.size, 1, none⟩ = some (.int .i64 bg) := hR.cell 1
      have c2 : wq.cell? ⟨w.heap.size, 2, none⟩ = some (.bool y1) := hR.cell 2
      have c3 : wq.cell? ⟨w.heap.size, 3, none⟩ = some (.bool y2) := hR.cell 3
      have c4 : wq.cell? ⟨w.heap.size, 4, none⟩ = some (.bool y3) := hR.cell 4
      have c5 : wq.cell? ⟨w.heap.size, 5, none⟩ = some (.bool y4) := hR.cell 5
      have c6 : wq.cell? ⟨w.heap.size, 6, none⟩ = some (.bool y5) := hR.cell 6
      have c7 : wq.cell? ⟨w.heap.size, 7, none⟩ = some (.bool y7) := hR.cell 7
      have c8 : wq.cell? ⟨w.heap.size, 8, none⟩ = some (.bool y8) := hR.cell 8
      have c9 : wq.cell? ⟨w.heap.size, 9, none⟩ = some (.bool y9) := hR.cell 9
      clear hC hR
      simp only [List.take_succ_cons, List.take_zero, setAll, List.setIfInBounds_toArray, List.set_cons_succ, List.set_cons_zero, Nat.zero_add, Nat.reduceAdd] at hK ⊢
      refine wp_of_quiet rfl ?_
      go_big_quiet_step (fail)
      exact wpQuiet_nil (hK _ _ (rfl) (Below.refl _ _))
    · intro f wq hC hd KK hK
      clear hd
      simp only [List.take_succ_cons, List.take_zero, setAll, List.setIfInBounds_toArray, List.set_cons_succ, List.set_cons_zero, Nat.zero_add, Nat.reduceAdd] at hK ⊢
      refine wp_of_quiet rfl ?_
      go_big_quiet_step (fail)
      exact wpQuiet_nil (hK _ _ (rfl) (Below.refl _ _))
    · intro f wq hC hd KK hK
      have g3 : f 3 = .agg #[.int .i64 fg, .int .i64 bg, .bool y1, .bool y2, .bool y3, .bool y4, .bool y5, .bool y7, .bool y8, .bool y9] := hd 3 (by kernel_rfl)
      have g4 : f 4 = va := hd 4 (by kernel_rfl)
      clear hd
      simp only [List.take_succ_cons, List.take_zero, setAll, List.setIfInBounds_toArray, List.set_cons_succ, List.set_cons_zero, Nat.zero_add, Nat.reduceAdd, g3, g4] at hK ⊢
      exact wp_call 19 #[.agg #[.int .i64 fg, .int .i64 bg, .bool y1, .bool y2, .bool y3, .bool y4, .bool y5, .bool y7, .bool y8, .bool y9], va] (by simp [go_sem]) _ _ (RA.out wq hC.2) (fun w' hb => hK _ _ rfl hb)
    · intro f wq hC hd KK hK
      have g2 : f 2 = .agg #[.int .i64 xf, .int .i64 xb, .bool x1, .bool x2, .bool x3, .bool x4, .bool x5, .bool x7, .bool x8, .bool x9] := hd 2 (by kernel_rfl)
      have g5 : f 5 = .agg #[.int .i64 xf, .int .i64 xb, .bool x1, .bool x2, .bool x3, .bool x4, .bool x5, .bool x7, .bool x8, .bool x9] := hd 5 (by kernel_rfl)
      clear hd
      simp only [List.take_succ_cons, List.take_zero, setAll, List.setIfInBounds_toArray, List.set_cons_succ, List.set_cons_zero, Nat.zero_add, Nat.reduceAdd, g2, g5] at hK ⊢
      refine wp_of_quiet rfl ?_
      go_big_quiet_step (fail)
      exact wpQuiet_nil (hK _ _ (by first | rfl | simp) (Below.refl _ _))
    · intro f wq hC hd KK hK
      have g6 : f 6 = .bool true := hd 6 (by kernel_rfl)
      clear hd
      simp only [List.take_succ_cons, List.take_zero, setAll, List.setIfInBounds_toArray, List.set_cons_succ, List.set_cons_zero, Nat.zero_add, Nat.reduceAdd, g6] at hK ⊢
      refine wp_of_quiet rfl ?_
      go_big_quiet_step (fail)
      exact wpQuiet_nil (hK _ _ (rfl) (Below.refl _ _))
    · intro f wq hC hd KK hK
      clear hd
      simp only [List.take_succ_cons, List.take_zero, setAll, List.setIfInBounds_toArray, List.set_cons_succ, List.set_cons_zero, Nat.zero_add, Nat.reduceAdd] at hK ⊢
      refine wp_unguard ?_
      exact wp_call 17 #[] (by simp [go_sem]) _ _ (AN.out wq) (fun w' hb => hK _ _ rfl hb)
    · intro f wq hC hd KK hK
      have g7 : f 7 = .bool true := hd 7 (by kernel_rfl)
      have g8 : f 8 = .bool true := hd 8 (by kernel_rfl)
      clear hd
      simp only [List.take_succ_cons, List.take_zero, setAll, List.setIfInBounds_toArray, List.set_cons_succ, List.set_cons_zero, Nat.zero_add, Nat.reduceAdd, g7, g8] at hK ⊢
      refine wp_of_quiet rfl ?_
      go_big_quiet_step (fail)
      exact wpQuiet_nil (hK _ _ (rfl) (Below.refl _ _))
  · intro f wz hC hv
    have p0 : f 0 = .agg #[.int .i64 fg, .int .i64 bg, .bool y1, .bool y2, .bool y3, .bool y4, .bool y5, .bool y7, .bool y8, .bool y9] := hv 0 (by decide)
    have p1 : f 1 = va := hv 1 (by decide)
    have p2 : f 2 = .agg #[.int .i64 xf, .int .i64 xb, .bool x1, .bool x2, .bool x3, .bool x4, .bool x5, .bool x7, .bool x8, .bool x9] := hv 2 (by decide)
    have p3 : f 3 = .agg #[.int .i64 fg, .int .i64 bg, .bool y1, .bool y2, .bool y3, .bool y4, .bool y5, .bool y7, .bool y8, .bool y9] := hv 3 (by decide)
    have p4 : f 4 = va := hv 4 (by decide)
    have p5 : f 5 = .agg #[.int .i64 xf, .int .i64 xb, .bool x1, .bool x2, .bool x3, .bool x4, .bool x5, .bool x7, .bool x8, .bool x9] := hv 5 (by decide)
    have p6 : f 6 = .bool true := hv 6 (by decide)
    have p7 : f 7 = .bool true := hv 7 (by decide)
    have p8 : f 8 = .bool true := hv 8 (by decide)
    have p9 : f 9 = .bool true := hv 9 (by decide)
    simp only [List.take_succ_cons, List.take_zero, List.drop_succ_cons, List.drop_zero, setAll, List.setIfInBounds_toArray, List.set_cons_succ, List.set_cons_zero, Nat.zero_add, Nat.reduceAdd, p0, p1, p2, p3, p4, p5, p6, p7, p8, p9]
    clear hv p0 p1 p2 p3 p4 p5 p6 p7 p8 p9
    have BZ := Box'.mk hC.2
    clear hC AN AP RA
    go_wp2_with fail
    go_ret
    exact ⟨rfl, BZ.out⟩
end Go.Proofs.Ytnlladjkajmpoaa
