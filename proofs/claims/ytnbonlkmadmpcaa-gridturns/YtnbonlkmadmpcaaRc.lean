/- The reference's May, of all cells. -/
import Derived.Test.YtnbonlkmadmpcaaRb
namespace Go.Proofs.Ytnbonlkmadmpcaa
open Go.RowKit Go.BigFrame
set_option linter.unusedVariables false
set_option linter.unusedSimpArgs false
set_option maxRecDepth 100000 in
theorem guard22 : Try.prog.eqGuardType Try.prog.depth 47 = false := by kernel_rfl
theorem run_eql_marks_op {op : Oper} {a : Act} (ty : TypeId) (p q : Operand) (ho : op.op = .binOp .eql 47 p q ty) (x0 x1 x2 y0 y1 y2 : Int) (hx : a.eval p = .agg #[.int .i32 x0, .int .i32 x1, .int .i32 x2]) (hy : a.eval q = .agg #[.int .i32 y0, .int .i32 y1, .int .i32 y2]) (r : Bool) (hr : decide (x0 = y0 ∧ x1 = y1 ∧ x2 = y2) = r) (w : World) :
  (execOp a.eval op).run Try.prog w = .ok (.value (.bool r)) w := by
 unfold execOp
 simp only [ho, hx, hy, Sem.run_bind, run_eqGuard_agg w .eql 47 p q _ _ guard22, Result.andThen_ok, run_eql_struct, eqMs w 9998 x0 x1 x2 y0 y1 y2, hr, Sem.run_pure]
theorem wpList_eqMG {ops : Array Oper} {rest : List Oper} {op : Oper} {a : Act} {w : World} {Q : Exit → Act → World → Prop} (hw : Region.wanted op (yielded ops a.tmps) = true) (ty : TypeId) (p q : Operand) (ho : op.op = .binOp .eql 47 p q ty) (x0 x1 x2 y0 y1 y2 : Int) (hx : a.eval p = .agg #[.int .i32 x0, .int .i32 x1, .int .i32 x2]) (hy : a.eval q = .agg #[.int .i32 y0, .int .i32 y1, .int .i32 y2]) (r : Bool) (hr : decide (x0 = y0 ∧ x1 = y1 ∧ x2 = y2) = r)
  (h : wpList Try.prog ops Q rest (a.put op.dst (.bool r)) w) : wpList Try.prog ops Q (op :: rest) a w := by
 refine wpList_step fun K hK => ?_
 rw [if_pos hw]
 exact wp_val _ (run_eql_marks_op ty p q ho x0 x1 x2 y0 y1 y2 hx hy r hr w) (hK _ _ h)
set_option maxHeartbeats 4000000 in
theorem rmay_no (x : Cl) (hs : mayS x.st = false) (w : World) : Calls Try.prog 38 #[.agg (cA x)] w fun e w' => e = .returned (.bool false) ∧ Below w.heap.size w w' := by
 have MS := Box'.mk (refMayStyle_any x.st)
 rw [hs] at MS
 have RX := Box'.mk (Row.new w 49 (cA x))
 have BB := Box'.mk ((Below.refl w.heap.size w).alloc (Nat.le_refl _) (.cells (cA x) 49))
 go_enter Try.func38, Try.ntmps38
 go_upto_region 1 with (fail)
 generalize w.alloc (.cells (cA x) 49) = w1 at *
 have c0 : w1.cell? ⟨w.heap.size, 0, none⟩ = some (.int .i32 x.ch) := RX.out.cell 0
 have c1 : w1.cell? ⟨w.heap.size, 1, none⟩ = some (.int .i32 x.m0) := RX.out.cell 1
 have c2 : w1.cell? ⟨w.heap.size, 2, none⟩ = some (.int .i32 x.m1) := RX.out.cell 2
 have c3 : w1.cell? ⟨w.heap.size, 3, none⟩ = some (.int .i32 x.m2) := RX.out.cell 3
 have c4 : w1.cell? ⟨w.heap.size, 4, none⟩ = some (.int .u8 (x.wd : Int)) := RX.out.cell 4
 have c5 : w1.cell? ⟨w.heap.size, 5, none⟩ = some (.int .i64 x.st.fg) := RX.out.cell 5
 have c6 : w1.cell? ⟨w.heap.size, 6, none⟩ = some (.int .i64 x.st.bg) := RX.out.cell 6
 have c7 : w1.cell? ⟨w.heap.size, 7, none⟩ = some (.bool x.st.b1) := RX.out.cell 7
 have c8 : w1.cell? ⟨w.heap.size, 8, none⟩ = some (.bool x.st.b2) := RX.out.cell 8
 have c9 : w1.cell? ⟨w.heap.size, 9, none⟩ = some (.bool x.st.b3) := RX.out.cell 9
 have c10 : w1.cell? ⟨w.heap.size, 10, none⟩ = some (.bool x.st.b4) := RX.out.cell 10
 have c11 : w1.cell? ⟨w.heap.size, 11, none⟩ = some (.bool x.st.b5) := RX.out.cell 11
 have c12 : w1.cell? ⟨w.heap.size, 12, none⟩ = some (.bool x.st.b7) := RX.out.cell 12
 have c13 : w1.cell? ⟨w.heap.size, 13, none⟩ = some (.bool x.st.b8) := RX.out.cell 13
 have c14 : w1.cell? ⟨w.heap.size, 14, none⟩ = some (.bool x.st.b9) := RX.out.cell 14
 clear hs
 go_wp2_with fail
 refine (MS.out _).mono ?_
 rintro e w2 ⟨rfl, hb2⟩
 have R2 := Box'.mk (RX.out.below hb2 RX.out.lt)
 have B2 := Box'.mk (BB.out.trans (hb2.mono BB.out.size))
 clear hb2 BB MS RX c0 c1 c2 c3 c4 c5 c6 c7 c8 c9 c10 c11 c12 c13 c14
 have c4 : w2.cell? ⟨w.heap.size, 4, none⟩ = some (.int .u8 (x.wd : Int)) := R2.out.cell 4
 go_wp2_with fail
 go_ret
 exact ⟨rfl, B2.out⟩
set_option maxHeartbeats 4000000 in
theorem rmay_0 (x : Cl) (hs : mayS x.st = true) (h0 : (x.wd : Int) = 0) (w : World) : Calls Try.prog 38 #[.agg (cA x)] w fun e w' => e = .returned (.bool (decide (x.ch = 0 ∧ x.m0 = 0 ∧ x.m1 = 0 ∧ x.m2 = 0))) ∧ Below w.heap.size w w' := by
 have H0 := Box'.mk h0
 clear h0
 have MS := Box'.mk (refMayStyle_any x.st)
 rw [hs] at MS
 have RX := Box'.mk (Row.new w 49 (cA x))
 have BB := Box'.mk ((Below.refl w.heap.size w).alloc (Nat.le_refl _) (.cells (cA x) 49))
 go_enter Try.func38, Try.ntmps38
 go_upto_region 1 with (fail)
 generalize w.alloc (.cells (cA x) 49) = w1 at *
 have c0 : w1.cell? ⟨w.heap.size, 0, none⟩ = some (.int .i32 x.ch) := RX.out.cell 0
 have c1 : w1.cell? ⟨w.heap.size, 1, none⟩ = some (.int .i32 x.m0) := RX.out.cell 1
 have c2 : w1.cell? ⟨w.heap.size, 2, none⟩ = some (.int .i32 x.m1) := RX.out.cell 2
 have c3 : w1.cell? ⟨w.heap.size, 3, none⟩ = some (.int .i32 x.m2) := RX.out.cell 3
 have c4 : w1.cell? ⟨w.heap.size, 4, none⟩ = some (.int .u8 (x.wd : Int)) := RX.out.cell 4
 have c5 : w1.cell? ⟨w.heap.size, 5, none⟩ = some (.int .i64 x.st.fg) := RX.out.cell 5
 have c6 : w1.cell? ⟨w.heap.size, 6, none⟩ = some (.int .i64 x.st.bg) := RX.out.cell 6
 have c7 : w1.cell? ⟨w.heap.size, 7, none⟩ = some (.bool x.st.b1) := RX.out.cell 7
 have c8 : w1.cell? ⟨w.heap.size, 8, none⟩ = some (.bool x.st.b2) := RX.out.cell 8
 have c9 : w1.cell? ⟨w.heap.size, 9, none⟩ = some (.bool x.st.b3) := RX.out.cell 9
 have c10 : w1.cell? ⟨w.heap.size, 10, none⟩ = some (.bool x.st.b4) := RX.out.cell 10
 have c11 : w1.cell? ⟨w.heap.size, 11, none⟩ = some (.bool x.st.b5) := RX.out.cell 11
 have c12 : w1.cell? ⟨w.heap.size, 12, none⟩ = some (.bool x.st.b7) := RX.out.cell 12
 have c13 : w1.cell? ⟨w.heap.size, 13, none⟩ = some (.bool x.st.b8) := RX.out.cell 13
 have c14 : w1.cell? ⟨w.heap.size, 14, none⟩ = some (.bool x.st.b9) := RX.out.cell 14
 clear hs
 go_wp2_with fail
 refine (MS.out _).mono ?_
 rintro e w2 ⟨rfl, hb2⟩
 have R2 := Box'.mk (RX.out.below hb2 RX.out.lt)
 have B2 := Box'.mk (BB.out.trans (hb2.mono BB.out.size))
 clear hb2 BB MS RX c0 c1 c2 c3 c4 c5 c6 c7 c8 c9 c10 c11 c12 c13 c14
 have c4 : w2.cell? ⟨w.heap.size, 4, none⟩ = some (.int .u8 (x.wd : Int)) := R2.out.cell 4
 rw [H0.out] at c4
 have d0 : w2.cell? ⟨w.heap.size, 0, none⟩ = some (.int .i32 x.ch) := R2.out.cell 0
 have d1 : w2.cell? ⟨w.heap.size, 1, none⟩ = some (.int .i32 x.m0) := R2.out.cell 1
 have d2 : w2.cell? ⟨w.heap.size, 2, none⟩ = some (.int .i32 x.m1) := R2.out.cell 2
 have d3 : w2.cell? ⟨w.heap.size, 3, none⟩ = some (.int .i32 x.m2) := R2.out.cell 3
 by_cases hc : x.ch = 0
 ·have E : Box' (decide (x.ch = 0 ∧ x.m0 = 0 ∧ x.m1 = 0 ∧ x.m2 = 0) = decide (x.m0 = 0 ∧ x.m1 = 0 ∧ x.m2 = 0)) := ⟨decide_eq_decide.2 (by simp [hc])⟩
  rw [hc] at d0
  clear hc
  obtain ⟨r, hr⟩ : ∃ r, decide (x.m0 = 0 ∧ x.m1 = 0 ∧ x.m2 = 0) = r := ⟨_, rfl⟩
  have HR := Box'.mk hr
  rw [hr] at E
  clear hr
  go_wp2_with (first
   | (refine wpList_eqMG rfl 47 (.tmp 16) (.tmp 17) rfl x.m0 x.m1 x.m2 0 0 0 rfl rfl r HR.out ?_))
  go_ret
  exact ⟨by rw [E.out]; rfl, B2.out⟩
 ·have E : Box' (decide (x.ch = 0 ∧ x.m0 = 0 ∧ x.m1 = 0 ∧ x.m2 = 0) = false) := ⟨by simp [hc]⟩
  go_wp2_with fail
  go_ret
  exact ⟨by rw [E.out]; rfl, B2.out⟩
set_option maxRecDepth 100000 in
set_option maxHeartbeats 4000000 in
theorem rmay_3 (x : Cl) (hs : mayS x.st = true) (h0 : ¬ (x.wd : Int) = 0) (h3 : (2 : Int) < (x.wd : Int)) (w : World) : Calls Try.prog 38 #[.agg (cA x)] w fun e w' => e = .returned (.bool false) ∧ Below w.heap.size w w' := by
 have MS := Box'.mk (refMayStyle_any x.st)
 rw [hs] at MS
 have RX := Box'.mk (Row.new w 49 (cA x))
 have BB := Box'.mk ((Below.refl w.heap.size w).alloc (Nat.le_refl _) (.cells (cA x) 49))
 go_enter Try.func38, Try.ntmps38
 go_upto_region 1 with (fail)
 generalize w.alloc (.cells (cA x) 49) = w1 at *
 have c0 : w1.cell? ⟨w.heap.size, 0, none⟩ = some (.int .i32 x.ch) := RX.out.cell 0
 have c1 : w1.cell? ⟨w.heap.size, 1, none⟩ = some (.int .i32 x.m0) := RX.out.cell 1
 have c2 : w1.cell? ⟨w.heap.size, 2, none⟩ = some (.int .i32 x.m1) := RX.out.cell 2
 have c3 : w1.cell? ⟨w.heap.size, 3, none⟩ = some (.int .i32 x.m2) := RX.out.cell 3
 have c4 : w1.cell? ⟨w.heap.size, 4, none⟩ = some (.int .u8 (x.wd : Int)) := RX.out.cell 4
 have c5 : w1.cell? ⟨w.heap.size, 5, none⟩ = some (.int .i64 x.st.fg) := RX.out.cell 5
 have c6 : w1.cell? ⟨w.heap.size, 6, none⟩ = some (.int .i64 x.st.bg) := RX.out.cell 6
 have c7 : w1.cell? ⟨w.heap.size, 7, none⟩ = some (.bool x.st.b1) := RX.out.cell 7
 have c8 : w1.cell? ⟨w.heap.size, 8, none⟩ = some (.bool x.st.b2) := RX.out.cell 8
 have c9 : w1.cell? ⟨w.heap.size, 9, none⟩ = some (.bool x.st.b3) := RX.out.cell 9
 have c10 : w1.cell? ⟨w.heap.size, 10, none⟩ = some (.bool x.st.b4) := RX.out.cell 10
 have c11 : w1.cell? ⟨w.heap.size, 11, none⟩ = some (.bool x.st.b5) := RX.out.cell 11
 have c12 : w1.cell? ⟨w.heap.size, 12, none⟩ = some (.bool x.st.b7) := RX.out.cell 12
 have c13 : w1.cell? ⟨w.heap.size, 13, none⟩ = some (.bool x.st.b8) := RX.out.cell 13
 have c14 : w1.cell? ⟨w.heap.size, 14, none⟩ = some (.bool x.st.b9) := RX.out.cell 14
 clear hs
 go_wp2_with fail
 refine (MS.out _).mono ?_
 rintro e w2 ⟨rfl, hb2⟩
 have R2 := Box'.mk (RX.out.below hb2 RX.out.lt)
 have B2 := Box'.mk (BB.out.trans (hb2.mono BB.out.size))
 clear hb2 BB MS RX c0 c1 c2 c3 c4 c5 c6 c7 c8 c9 c10 c11 c12 c13 c14
 have c4 : w2.cell? ⟨w.heap.size, 4, none⟩ = some (.int .u8 (x.wd : Int)) := R2.out.cell 4
 go_wp2_with fail
 have g3 : decide ((2 : Int) < (x.wd : Int)) = true := decide_eq_true h3
 go_quiet (fail)
 go_wp2_with fail
 go_ret
 exact ⟨rfl, Below.drewN B2.out _⟩
set_option maxRecDepth 100000 in
set_option maxHeartbeats 8000000 in
theorem rmay_1 (x : Cl) (hs : mayS x.st = true) (h0 : (x.wd : Int) = 1) (w : World) : Calls Try.prog 38 #[.agg (cA x)] w fun e w' => e = .returned (.bool (if ofF x.ch = 1 then rmL [x.m0, x.m1, x.m2] else false)) ∧ Below w.heap.size w w' := by
 have OFF := Box'.mk refOf_any
 have OF := Box'.mk (refOf_any x.ch)
 obtain ⟨z, hz⟩ : ∃ z, ofF x.ch = z := ⟨_, rfl⟩
 rw [hz] at OF ⊢
 clear hz
 obtain ⟨R, hR⟩ : ∃ R, (if z = 1 then rmL [x.m0, x.m1, x.m2] else false) = R := ⟨_, rfl⟩
 have HQ := Box'.mk hR
 rw [hR]
 clear hR
 have H0 := Box'.mk h0
 clear h0
 have MS := Box'.mk (refMayStyle_any x.st)
 rw [hs] at MS
 have RX := Box'.mk (Row.new w 49 (cA x))
 have BB := Box'.mk ((Below.refl w.heap.size w).alloc (Nat.le_refl _) (.cells (cA x) 49))
 go_enter Try.func38, Try.ntmps38
 go_upto_region 1 with (fail)
 generalize w.alloc (.cells (cA x) 49) = w1 at *
 have c0 : w1.cell? ⟨w.heap.size, 0, none⟩ = some (.int .i32 x.ch) := RX.out.cell 0
 have c1 : w1.cell? ⟨w.heap.size, 1, none⟩ = some (.int .i32 x.m0) := RX.out.cell 1
 have c2 : w1.cell? ⟨w.heap.size, 2, none⟩ = some (.int .i32 x.m1) := RX.out.cell 2
 have c3 : w1.cell? ⟨w.heap.size, 3, none⟩ = some (.int .i32 x.m2) := RX.out.cell 3
 have c4 : w1.cell? ⟨w.heap.size, 4, none⟩ = some (.int .u8 (x.wd : Int)) := RX.out.cell 4
 have c5 : w1.cell? ⟨w.heap.size, 5, none⟩ = some (.int .i64 x.st.fg) := RX.out.cell 5
 have c6 : w1.cell? ⟨w.heap.size, 6, none⟩ = some (.int .i64 x.st.bg) := RX.out.cell 6
 have c7 : w1.cell? ⟨w.heap.size, 7, none⟩ = some (.bool x.st.b1) := RX.out.cell 7
 have c8 : w1.cell? ⟨w.heap.size, 8, none⟩ = some (.bool x.st.b2) := RX.out.cell 8
 have c9 : w1.cell? ⟨w.heap.size, 9, none⟩ = some (.bool x.st.b3) := RX.out.cell 9
 have c10 : w1.cell? ⟨w.heap.size, 10, none⟩ = some (.bool x.st.b4) := RX.out.cell 10
 have c11 : w1.cell? ⟨w.heap.size, 11, none⟩ = some (.bool x.st.b5) := RX.out.cell 11
 have c12 : w1.cell? ⟨w.heap.size, 12, none⟩ = some (.bool x.st.b7) := RX.out.cell 12
 have c13 : w1.cell? ⟨w.heap.size, 13, none⟩ = some (.bool x.st.b8) := RX.out.cell 13
 have c14 : w1.cell? ⟨w.heap.size, 14, none⟩ = some (.bool x.st.b9) := RX.out.cell 14
 clear hs
 go_wp2_with fail
 refine (MS.out _).mono ?_
 rintro e w2 ⟨rfl, hb2⟩
 have R2 := Box'.mk (RX.out.below hb2 RX.out.lt)
 have B2 := Box'.mk (BB.out.trans (hb2.mono BB.out.size))
 clear hb2 BB MS RX c0 c1 c2 c3 c4 c5 c6 c7 c8 c9 c10 c11 c12 c13 c14
 have c4 : w2.cell? ⟨w.heap.size, 4, none⟩ = some (.int .u8 (x.wd : Int)) := R2.out.cell 4
 rw [H0.out] at c4
 go_wp2_with fail
 have h0 := H0.out
 refine wp_region_growg 12 (by kernel_rfl) 58 rfl (by kernel_rfl) (fun wa wb => Below wa.heap.size wa wb) (fun wa => Row wa w.heap.size 49 (cA x) ∧ Below w.heap.size w wa) (fun kc wa v => match kc with
  | 0 => v = .pointer (some ⟨w.heap.size, 4, none⟩)
  | 1 => v = .int .u8 1
  | 2 => v = .bool false
  | 3 => v = .bool false
  | 4 => v = .pointer (some ⟨w.heap.size, 0, none⟩)
  | 5 => v = .int .i32 x.ch
  | 6 => v = .int .i64 z
  | 7 => v = .pointer (some ⟨w.heap.size, 4, none⟩)
  | 8 => v = .int .u8 1
  | 9 => v = .int .i64 1
  | 10 => v = .bool (z != 1)
  | 11 => v = .bool (z != 1)
  | _ => True) ?_ ?_ ?_ ?_ ?_ ?_
 ·intro i o' j b' hi hg wa v hC hV
  have hlt : i < 12 := by rcases Nat.lt_or_ge i 12 with q | q; exact q; rw [List.getElem?_eq_none (by simpa using q)] at hi; cases hi
  revert hi hg hV
  rcases (show i = 0 ∨ i = 1 ∨ i = 2 ∨ i = 3 ∨ i = 4 ∨ i = 5 ∨ i = 6 ∨ i = 7 ∨ i = 8 ∨ i = 9 ∨ i = 10 ∨ i = 11 by omega) with rfl | rfl | rfl | rfl | rfl | rfl | rfl | rfl | rfl | rfl | rfl | rfl <;>
   (intro hi hg hV; simp only [tkS, List.getElem?_cons_zero, List.getElem?_cons_succ, Option.some.injEq] at hi; subst hi; first | (cases hg; exact hV) | (cases hg))
 ·rintro wa wb hb ⟨q1, q2⟩; exact ⟨q1.below hb q1.lt, q2.trans (hb.mono q2.size)⟩
 ·intro kc v wa wb hC1 hb h
  match kc, h with
  | 0, h => exact h
  | 1, h => exact h
  | 2, h => exact h
  | 3, h => exact h
  | 4, h => exact h
  | 5, h => exact h
  | 6, h => exact h
  | 7, h => exact h
  | 8, h => exact h
  | 9, h => exact h
  | 10, h => exact h
  | 11, h => exact h
  | kc + 12, h => trivial
 ·exact ⟨R2.out.drew, B2.out.drew⟩
 ·refine ⟨?_, ?_, ?_, ?_, ?_, ?_, ?_, ?_, ?_, ?_, ?_, ?_, trivial⟩
  ·intro f wq hC hd KK hK
   clear hd
   simp only [tkS, tkZ, setAll, siB, stS, stZ, Nat.zero_add, Nat.reduceAdd] at hK ⊢
   refine wp_of_quiet rfl ?_
   go_big_quiet_step (fail)
   exact wpQuiet_nil (hK _ _ (rfl) bR)
  ·intro f wq hC hd KK hK
   have g0 : f 0 = .pointer (some ⟨w.heap.size, 4, none⟩) := hd 0 (by kernel_rfl)
   clear hd
   have hR : Row wq w.heap.size 49 (cA x) := hC.1
   have c0 : wq.cell? ⟨w.heap.size, 0, none⟩ = some (.int .i32 x.ch) := hR.cell 0
   have c1 : wq.cell? ⟨w.heap.size, 1, none⟩ = some (.int .i32 x.m0) := hR.cell 1
   have c2 : wq.cell? ⟨w.heap.size, 2, none⟩ = some (.int .i32 x.m1) := hR.cell 2
   have c3 : wq.cell? ⟨w.heap.size, 3, none⟩ = some (.int .i32 x.m2) := hR.cell 3
   have c4 : wq.cell? ⟨w.heap.size, 4, none⟩ = some (.int .u8 1) := h0 ▸ hR.cell 4
   have c5 : wq.cell? ⟨w.heap.size, 5, none⟩ = some (.int .i64 x.st.fg) := hR.cell 5
   have c6 : wq.cell? ⟨w.heap.size, 6, none⟩ = some (.int .i64 x.st.bg) := hR.cell 6
   have c7 : wq.cell? ⟨w.heap.size, 7, none⟩ = some (.bool x.st.b1) := hR.cell 7
   have c8 : wq.cell? ⟨w.heap.size, 8, none⟩ = some (.bool x.st.b2) := hR.cell 8
   have c9 : wq.cell? ⟨w.heap.size, 9, none⟩ = some (.bool x.st.b3) := hR.cell 9
   have c10 : wq.cell? ⟨w.heap.size, 10, none⟩ = some (.bool x.st.b4) := hR.cell 10
   have c11 : wq.cell? ⟨w.heap.size, 11, none⟩ = some (.bool x.st.b5) := hR.cell 11
   have c12 : wq.cell? ⟨w.heap.size, 12, none⟩ = some (.bool x.st.b7) := hR.cell 12
   have c13 : wq.cell? ⟨w.heap.size, 13, none⟩ = some (.bool x.st.b8) := hR.cell 13
   have c14 : wq.cell? ⟨w.heap.size, 14, none⟩ = some (.bool x.st.b9) := hR.cell 14
   clear hC hR
   simp only [tkS, tkZ, setAll, siB, stS, stZ, Nat.zero_add, Nat.reduceAdd, g0] at hK ⊢
   refine wp_of_quiet rfl ?_
   go_big_quiet_step (fail)
   exact wpQuiet_nil (hK _ _ (rfl) bR)
  ·intro f wq hC hd KK hK
   have g1 : f 1 = .int .u8 1 := hd 1 (by kernel_rfl)
   clear hd
   simp only [tkS, tkZ, setAll, siB, stS, stZ, Nat.zero_add, Nat.reduceAdd, g1] at hK ⊢
   refine wp_of_quiet rfl ?_
   go_big_quiet_step (fail)
   exact wpQuiet_nil (hK _ _ (rfl) bR)
  ·intro f wq hC hd KK hK
   have g2 : f 2 = .bool false := hd 2 (by kernel_rfl)
   clear hd
   simp only [tkS, tkZ, setAll, siB, stS, stZ, Nat.zero_add, Nat.reduceAdd, g2] at hK ⊢
   refine wp_of_quiet rfl ?_
   go_big_quiet_step (fail)
   exact wpQuiet_nil (hK _ _ (rfl) bR)
  ·intro f wq hC hd KK hK
   clear hd
   simp only [tkS, tkZ, setAll, siB, stS, stZ, Nat.zero_add, Nat.reduceAdd] at hK ⊢
   refine wp_unguard ?_
   refine wp_of_quiet rfl ?_
   go_big_quiet_step (fail)
   exact wpQuiet_nil (hK _ _ (rfl) bR)
  ·intro f wq hC hd KK hK
   have g4 : f 4 = .pointer (some ⟨w.heap.size, 0, none⟩) := hd 4 (by kernel_rfl)
   clear hd
   have hR : Row wq w.heap.size 49 (cA x) := hC.1
   have c0 : wq.cell? ⟨w.heap.size, 0, none⟩ = some (.int .i32 x.ch) := hR.cell 0
   have c1 : wq.cell? ⟨w.heap.size, 1, none⟩ = some (.int .i32 x.m0) := hR.cell 1
   have c2 : wq.cell? ⟨w.heap.size, 2, none⟩ = some (.int .i32 x.m1) := hR.cell 2
   have c3 : wq.cell? ⟨w.heap.size, 3, none⟩ = some (.int .i32 x.m2) := hR.cell 3
   have c4 : wq.cell? ⟨w.heap.size, 4, none⟩ = some (.int .u8 1) := h0 ▸ hR.cell 4
   have c5 : wq.cell? ⟨w.heap.size, 5, none⟩ = some (.int .i64 x.st.fg) := hR.cell 5
   have c6 : wq.cell? ⟨w.heap.size, 6, none⟩ = some (.int .i64 x.st.bg) := hR.cell 6
   have c7 : wq.cell? ⟨w.heap.size, 7, none⟩ = some (.bool x.st.b1) := hR.cell 7
   have c8 : wq.cell? ⟨w.heap.size, 8, none⟩ = some (.bool x.st.b2) := hR.cell 8
   have c9 : wq.cell? ⟨w.heap.size, 9, none⟩ = some (.bool x.st.b3) := hR.cell 9
   have c10 : wq.cell? ⟨w.heap.size, 10, none⟩ = some (.bool x.st.b4) := hR.cell 10
   have c11 : wq.cell? ⟨w.heap.size, 11, none⟩ = some (.bool x.st.b5) := hR.cell 11
   have c12 : wq.cell? ⟨w.heap.size, 12, none⟩ = some (.bool x.st.b7) := hR.cell 12
   have c13 : wq.cell? ⟨w.heap.size, 13, none⟩ = some (.bool x.st.b8) := hR.cell 13
   have c14 : wq.cell? ⟨w.heap.size, 14, none⟩ = some (.bool x.st.b9) := hR.cell 14
   clear hC hR
   simp only [tkS, tkZ, setAll, siB, stS, stZ, Nat.zero_add, Nat.reduceAdd, g4] at hK ⊢
   refine wp_unguard ?_
   refine wp_of_quiet rfl ?_
   go_big_quiet_step (fail)
   exact wpQuiet_nil (hK _ _ (rfl) bR)
  ·intro f wq hC hd KK hK
   have g5 : f 5 = .int .i32 x.ch := hd 5 (by kernel_rfl)
   clear hd
   simp only [tkS, tkZ, setAll, siB, stS, stZ, Nat.zero_add, Nat.reduceAdd, g5] at hK ⊢
   refine wp_unguard ?_
   exact wp_call 54 #[.int .i32 x.ch] (by simp [go_sem]) _ _ (OF.out wq) (fun w' hb => hK _ _ rfl hb)
  ·intro f wq hC hd KK hK
   clear hd
   simp only [tkS, tkZ, setAll, siB, stS, stZ, Nat.zero_add, Nat.reduceAdd] at hK ⊢
   refine wp_unguard ?_
   refine wp_of_quiet rfl ?_
   go_big_quiet_step (fail)
   exact wpQuiet_nil (hK _ _ (rfl) bR)
  ·intro f wq hC hd KK hK
   have g7 : f 7 = .pointer (some ⟨w.heap.size, 4, none⟩) := hd 7 (by kernel_rfl)
   clear hd
   have hR : Row wq w.heap.size 49 (cA x) := hC.1
   have c0 : wq.cell? ⟨w.heap.size, 0, none⟩ = some (.int .i32 x.ch) := hR.cell 0
   have c1 : wq.cell? ⟨w.heap.size, 1, none⟩ = some (.int .i32 x.m0) := hR.cell 1
   have c2 : wq.cell? ⟨w.heap.size, 2, none⟩ = some (.int .i32 x.m1) := hR.cell 2
   have c3 : wq.cell? ⟨w.heap.size, 3, none⟩ = some (.int .i32 x.m2) := hR.cell 3
   have c4 : wq.cell? ⟨w.heap.size, 4, none⟩ = some (.int .u8 1) := h0 ▸ hR.cell 4
   have c5 : wq.cell? ⟨w.heap.size, 5, none⟩ = some (.int .i64 x.st.fg) := hR.cell 5
   have c6 : wq.cell? ⟨w.heap.size, 6, none⟩ = some (.int .i64 x.st.bg) := hR.cell 6
   have c7 : wq.cell? ⟨w.heap.size, 7, none⟩ = some (.bool x.st.b1) := hR.cell 7
   have c8 : wq.cell? ⟨w.heap.size, 8, none⟩ = some (.bool x.st.b2) := hR.cell 8
   have c9 : wq.cell? ⟨w.heap.size, 9, none⟩ = some (.bool x.st.b3) := hR.cell 9
   have c10 : wq.cell? ⟨w.heap.size, 10, none⟩ = some (.bool x.st.b4) := hR.cell 10
   have c11 : wq.cell? ⟨w.heap.size, 11, none⟩ = some (.bool x.st.b5) := hR.cell 11
   have c12 : wq.cell? ⟨w.heap.size, 12, none⟩ = some (.bool x.st.b7) := hR.cell 12
   have c13 : wq.cell? ⟨w.heap.size, 13, none⟩ = some (.bool x.st.b8) := hR.cell 13
   have c14 : wq.cell? ⟨w.heap.size, 14, none⟩ = some (.bool x.st.b9) := hR.cell 14
   clear hC hR
   simp only [tkS, tkZ, setAll, siB, stS, stZ, Nat.zero_add, Nat.reduceAdd, g7] at hK ⊢
   refine wp_unguard ?_
   refine wp_of_quiet rfl ?_
   go_big_quiet_step (fail)
   exact wpQuiet_nil (hK _ _ (rfl) bR)
  ·intro f wq hC hd KK hK
   have g8 : f 8 = .int .u8 1 := hd 8 (by kernel_rfl)
   clear hd
   simp only [tkS, tkZ, setAll, siB, stS, stZ, Nat.zero_add, Nat.reduceAdd, g8] at hK ⊢
   refine wp_unguard ?_
   refine wp_of_quiet rfl ?_
   go_big_quiet_step (fail)
   exact wpQuiet_nil (hK _ _ (rfl) bR)
  ·intro f wq hC hd KK hK
   have g6 : f 6 = .int .i64 z := hd 6 (by kernel_rfl)
   have g9 : f 9 = .int .i64 1 := hd 9 (by kernel_rfl)
   clear hd
   simp only [tkS, tkZ, setAll, siB, stS, stZ, Nat.zero_add, Nat.reduceAdd, g6, g9] at hK ⊢
   refine wp_unguard ?_
   refine wp_of_quiet rfl ?_
   go_big_quiet_step (fail)
   exact wpQuiet_nil (hK _ _ (rfl) bR)
  ·intro f wq hC hd KK hK
   have g3 : f 3 = .bool false := hd 3 (by kernel_rfl)
   have g10 : f 10 = .bool (z != 1) := hd 10 (by kernel_rfl)
   clear hd
   simp only [tkS, tkZ, setAll, siB, stS, stZ, Nat.zero_add, Nat.reduceAdd, g3, g10] at hK ⊢
   refine wp_of_quiet rfl ?_
   go_big_quiet_step (fail)
   exact wpQuiet_nil (hK _ _ (by first | rfl | simp) bR)
 ·intro f wz hC hv
  have p0 : f 0 = .pointer (some ⟨w.heap.size, 4, none⟩) := hv 0 (by decide)
  have p1 : f 1 = .int .u8 1 := hv 1 (by decide)
  have p2 : f 2 = .bool false := hv 2 (by decide)
  have p3 : f 3 = .bool false := hv 3 (by decide)
  have p4 : f 4 = .pointer (some ⟨w.heap.size, 0, none⟩) := hv 4 (by decide)
  have p5 : f 5 = .int .i32 x.ch := hv 5 (by decide)
  have p6 : f 6 = .int .i64 z := hv 6 (by decide)
  have p7 : f 7 = .pointer (some ⟨w.heap.size, 4, none⟩) := hv 7 (by decide)
  have p8 : f 8 = .int .u8 1 := hv 8 (by decide)
  have p9 : f 9 = .int .i64 1 := hv 9 (by decide)
  have p10 : f 10 = .bool (z != 1) := hv 10 (by decide)
  have p11 : f 11 = .bool (z != 1) := hv 11 (by decide)
  simp only [tkS, tkZ, List.drop_succ_cons, List.drop_zero, setAll, siB, stS, stZ, Nat.zero_add, Nat.reduceAdd, p0, p1, p2, p3, p4, p5, p6, p7, p8, p9, p10, p11]
  clear hv p0 p1 p2 p3 p4 p5 p6 p7 p8 p9 p10 p11
  have R9 := Box'.mk hC.1
  have B9 := Box'.mk hC.2
  clear hC OF H0 h0
  by_cases ho : z = 1
  case neg =>
   have E : Box' (R = false) := ⟨by rw [← HQ.out, if_neg ho]⟩
   have ho1 : (z != 1) = true := by simpa using ho
   clear HQ
   go_wp2_with fail
   go_ret
   exact ⟨by rw [E.out]; rfl, B9.out⟩
  case pos =>
   have HR : Box' (rmL [x.m0, x.m1, x.m2] = R) := ⟨by rw [← HQ.out, if_pos ho]⟩
   have ho1 : (z != 1) = false := by rw [ho]; rfl
   clear HQ ho
   rw [ho1]
   go_wp2_with fail
   clear ho1
   go_loopw [3] (fun i wr => ∃ k : Nat, k ≤ 3 ∧ i = .int .i64 (k : Int) ∧ Box' (rmL ([x.m0, x.m1, x.m2].drop k) = R) ∧ Box' (Row wr w.heap.size 49 (cA x)) ∧ Box' (Below w.heap.size w wr)) (fun i _ => 3 - (intOf i).toNat)
   case atStart => exact ⟨0, by omega, rfl, HR, R9, B9⟩
   case round =>
    obtain ⟨k, hk, rfl, HM, RR, BB⟩ := hrel
    clear HR R9 B9
    have e1 : wr.cell? ⟨w.heap.size, 1, none⟩ = some (.int .i32 x.m0) := RR.out.cell 1
    have e2 : wr.cell? ⟨w.heap.size, 2, none⟩ = some (.int .i32 x.m1) := RR.out.cell 2
    have e3 : wr.cell? ⟨w.heap.size, 3, none⟩ = some (.int .i32 x.m2) := RR.out.cell 3
    obtain ⟨n0, hn0⟩ : ∃ n0, x.m0 = n0 := ⟨_, rfl⟩
    obtain ⟨n1, hn1⟩ : ∃ n1, x.m1 = n1 := ⟨_, rfl⟩
    obtain ⟨n2, hn2⟩ : ∃ n2, x.m2 = n2 := ⟨_, rfl⟩
    rw [hn0] at e1 HM
    rw [hn1] at e2 HM
    rw [hn2] at e3 HM
    have N0 := Box'.mk hn0
    have N1 := Box'.mk hn1
    have N2 := Box'.mk hn2
    clear hn0 hn1 hn2
    obtain rfl | rfl | rfl | rfl : k = 0 ∨ k = 1 ∨ k = 2 ∨ k = 3 := by omega
    ·have HS : Box' (rmL (n0 :: [n1, n2]) = R) := ⟨HM.out⟩
     have HE : Box' (rmL (n0 :: [n1, n2]) = if n0 = 0 then (if n1 = 0 then rmL [n1, n2] else false) else if ofF n0 = 0 then rmL [n1, n2] else false) := ⟨rfl⟩
     clear HM
     by_cases hz : n0 = 0
     case pos =>
      rw [hz] at e1
      by_cases hy : n1 = 0
      case pos =>
       have HN : Box' (rmL [n1, n2] = R) := ⟨by rw [← HS.out, HE.out, if_pos hz, if_pos hy]⟩
       rw [hy] at e2
       clear HS HE OFF hz hy
       go_wp2_with fail
       exact ⟨⟨1, by omega, rfl, ⟨by rw [N0.out, N1.out, N2.out]; exact HN.out⟩, RR, BB⟩, by simp [intOf]⟩
      case neg =>
       have HN : Box' (R = false) := ⟨by rw [← HS.out, HE.out, if_pos hz, if_neg hy]⟩
       have hy1 : (n1 != 0) = true := by simpa using hy
       clear HS HE OFF hz
       go_wp2_with fail
       go_ret
       exact ⟨by rw [HN.out]; rfl, BB.out⟩
     case neg =>
      have OM := Box'.mk (OFF.out n0)
      by_cases hy : ofF n0 = 0
      case pos =>
       have HN : Box' (rmL [n1, n2] = R) := ⟨by rw [← HS.out, HE.out, if_neg hz, if_pos hy]⟩
       rw [hy] at OM
       clear HS HE OFF hy
       go_wp2_with fail
       refine (OM.out _).mono ?_
       rintro e w3 ⟨rfl, hb3⟩
       have R3 := Box'.mk (RR.out.below hb3 RR.out.lt)
       have B3 := Box'.mk (BB.out.trans (hb3.mono BB.out.size))
       clear hb3 RR BB
       go_wp2_with fail
       exact ⟨⟨1, by omega, rfl, ⟨by rw [N0.out, N1.out, N2.out]; exact HN.out⟩, R3, B3⟩, by simp [intOf]⟩
      case neg =>
       have HN : Box' (R = false) := ⟨by rw [← HS.out, HE.out, if_neg hz, if_neg hy]⟩
       have hy1 : (ofF n0 != 0) = true := by simpa using hy
       generalize ofF n0 = v at *
       clear HS HE OFF
       go_wp2_with fail
       refine (OM.out _).mono ?_
       rintro e w3 ⟨rfl, hb3⟩
       have B3 := Box'.mk (BB.out.trans (hb3.mono BB.out.size))
       clear hb3 RR BB
       go_wp2_with fail
       go_ret
       exact ⟨by rw [HN.out]; rfl, B3.out⟩
    ·have HS : Box' (rmL (n1 :: [n2]) = R) := ⟨HM.out⟩
     have HE : Box' (rmL (n1 :: [n2]) = if n1 = 0 then (if n2 = 0 then rmL [n2] else false) else if ofF n1 = 0 then rmL [n2] else false) := ⟨rfl⟩
     clear HM
     by_cases hz : n1 = 0
     case pos =>
      rw [hz] at e2
      by_cases hy : n2 = 0
      case pos =>
       have HN : Box' (rmL [n2] = R) := ⟨by rw [← HS.out, HE.out, if_pos hz, if_pos hy]⟩
       rw [hy] at e3
       clear HS HE OFF hz hy
       go_wp2_with fail
       exact ⟨⟨2, by omega, rfl, ⟨by rw [N0.out, N1.out, N2.out]; exact HN.out⟩, RR, BB⟩, by simp [intOf]⟩
      case neg =>
       have HN : Box' (R = false) := ⟨by rw [← HS.out, HE.out, if_pos hz, if_neg hy]⟩
       have hy1 : (n2 != 0) = true := by simpa using hy
       clear HS HE OFF hz
       go_wp2_with fail
       go_ret
       exact ⟨by rw [HN.out]; rfl, BB.out⟩
     case neg =>
      have OM := Box'.mk (OFF.out n1)
      by_cases hy : ofF n1 = 0
      case pos =>
       have HN : Box' (rmL [n2] = R) := ⟨by rw [← HS.out, HE.out, if_neg hz, if_pos hy]⟩
       rw [hy] at OM
       clear HS HE OFF hy
       go_wp2_with fail
       refine (OM.out _).mono ?_
       rintro e w3 ⟨rfl, hb3⟩
       have R3 := Box'.mk (RR.out.below hb3 RR.out.lt)
       have B3 := Box'.mk (BB.out.trans (hb3.mono BB.out.size))
       clear hb3 RR BB
       go_wp2_with fail
       exact ⟨⟨2, by omega, rfl, ⟨by rw [N0.out, N1.out, N2.out]; exact HN.out⟩, R3, B3⟩, by simp [intOf]⟩
      case neg =>
       have HN : Box' (R = false) := ⟨by rw [← HS.out, HE.out, if_neg hz, if_neg hy]⟩
       have hy1 : (ofF n1 != 0) = true := by simpa using hy
       generalize ofF n1 = v at *
       clear HS HE OFF
       go_wp2_with fail
       refine (OM.out _).mono ?_
       rintro e w3 ⟨rfl, hb3⟩
       have B3 := Box'.mk (BB.out.trans (hb3.mono BB.out.size))
       clear hb3 RR BB
       go_wp2_with fail
       go_ret
       exact ⟨by rw [HN.out]; rfl, B3.out⟩
    ·have HS : Box' (rmL (n2 :: []) = R) := ⟨HM.out⟩
     have HE : Box' (rmL (n2 :: []) = if n2 = 0 then true else decide (ofF n2 = 0)) := ⟨rfl⟩
     clear HM
     by_cases hz : n2 = 0
     case pos =>
      have HN : Box' (rmL [] = R) := ⟨by rw [← HS.out, HE.out, if_pos hz]; rfl⟩
      rw [hz] at e3
      clear HS HE OFF hz
      go_wp2_with fail
      exact ⟨⟨3, by omega, rfl, ⟨by rw [N0.out, N1.out, N2.out]; exact HN.out⟩, RR, BB⟩, by simp [intOf]⟩
     case neg =>
      have OM := Box'.mk (OFF.out n2)
      by_cases hy : ofF n2 = 0
      case pos =>
       have HN : Box' (rmL [] = R) := ⟨by rw [← HS.out, HE.out, if_neg hz]; simp [hy, rmL]⟩
       rw [hy] at OM
       clear HS HE OFF hy
       go_wp2_with fail
       refine (OM.out _).mono ?_
       rintro e w3 ⟨rfl, hb3⟩
       have R3 := Box'.mk (RR.out.below hb3 RR.out.lt)
       have B3 := Box'.mk (BB.out.trans (hb3.mono BB.out.size))
       clear hb3 RR BB
       go_wp2_with fail
       exact ⟨⟨3, by omega, rfl, ⟨by rw [N0.out, N1.out, N2.out]; exact HN.out⟩, R3, B3⟩, by simp [intOf]⟩
      case neg =>
       have HN : Box' (R = false) := ⟨by rw [← HS.out, HE.out, if_neg hz]; simp [hy]⟩
       have hy1 : (ofF n2 != 0) = true := by simpa using hy
       generalize ofF n2 = v at *
       clear HS HE OFF
       go_wp2_with fail
       refine (OM.out _).mono ?_
       rintro e w3 ⟨rfl, hb3⟩
       have B3 := Box'.mk (BB.out.trans (hb3.mono BB.out.size))
       clear hb3 RR BB
       go_wp2_with fail
       go_ret
       exact ⟨by rw [HN.out]; rfl, B3.out⟩
    ·have HN : Box' (R = true) := ⟨HM.out.symm⟩
     clear HM OFF
     go_wp2_with fail
     go_ret
     exact ⟨by rw [HN.out]; rfl, BB.out⟩
set_option maxRecDepth 100000 in
set_option maxHeartbeats 8000000 in
theorem rmay_2 (x : Cl) (hs : mayS x.st = true) (h0 : (x.wd : Int) = 2) (w : World) : Calls Try.prog 38 #[.agg (cA x)] w fun e w' => e = .returned (.bool (if ofF x.ch = 2 then rmL [x.m0, x.m1, x.m2] else false)) ∧ Below w.heap.size w w' := by
 have OFF := Box'.mk refOf_any
 have OF := Box'.mk (refOf_any x.ch)
 obtain ⟨z, hz⟩ : ∃ z, ofF x.ch = z := ⟨_, rfl⟩
 rw [hz] at OF ⊢
 clear hz
 obtain ⟨R, hR⟩ : ∃ R, (if z = 2 then rmL [x.m0, x.m1, x.m2] else false) = R := ⟨_, rfl⟩
 have HQ := Box'.mk hR
 rw [hR]
 clear hR
 have H0 := Box'.mk h0
 clear h0
 have MS := Box'.mk (refMayStyle_any x.st)
 rw [hs] at MS
 have RX := Box'.mk (Row.new w 49 (cA x))
 have BB := Box'.mk ((Below.refl w.heap.size w).alloc (Nat.le_refl _) (.cells (cA x) 49))
 go_enter Try.func38, Try.ntmps38
 go_upto_region 1 with (fail)
 generalize w.alloc (.cells (cA x) 49) = w1 at *
 have c0 : w1.cell? ⟨w.heap.size, 0, none⟩ = some (.int .i32 x.ch) := RX.out.cell 0
 have c1 : w1.cell? ⟨w.heap.size, 1, none⟩ = some (.int .i32 x.m0) := RX.out.cell 1
 have c2 : w1.cell? ⟨w.heap.size, 2, none⟩ = some (.int .i32 x.m1) := RX.out.cell 2
 have c3 : w1.cell? ⟨w.heap.size, 3, none⟩ = some (.int .i32 x.m2) := RX.out.cell 3
 have c4 : w1.cell? ⟨w.heap.size, 4, none⟩ = some (.int .u8 (x.wd : Int)) := RX.out.cell 4
 have c5 : w1.cell? ⟨w.heap.size, 5, none⟩ = some (.int .i64 x.st.fg) := RX.out.cell 5
 have c6 : w1.cell? ⟨w.heap.size, 6, none⟩ = some (.int .i64 x.st.bg) := RX.out.cell 6
 have c7 : w1.cell? ⟨w.heap.size, 7, none⟩ = some (.bool x.st.b1) := RX.out.cell 7
 have c8 : w1.cell? ⟨w.heap.size, 8, none⟩ = some (.bool x.st.b2) := RX.out.cell 8
 have c9 : w1.cell? ⟨w.heap.size, 9, none⟩ = some (.bool x.st.b3) := RX.out.cell 9
 have c10 : w1.cell? ⟨w.heap.size, 10, none⟩ = some (.bool x.st.b4) := RX.out.cell 10
 have c11 : w1.cell? ⟨w.heap.size, 11, none⟩ = some (.bool x.st.b5) := RX.out.cell 11
 have c12 : w1.cell? ⟨w.heap.size, 12, none⟩ = some (.bool x.st.b7) := RX.out.cell 12
 have c13 : w1.cell? ⟨w.heap.size, 13, none⟩ = some (.bool x.st.b8) := RX.out.cell 13
 have c14 : w1.cell? ⟨w.heap.size, 14, none⟩ = some (.bool x.st.b9) := RX.out.cell 14
 clear hs
 go_wp2_with fail
 refine (MS.out _).mono ?_
 rintro e w2 ⟨rfl, hb2⟩
 have R2 := Box'.mk (RX.out.below hb2 RX.out.lt)
 have B2 := Box'.mk (BB.out.trans (hb2.mono BB.out.size))
 clear hb2 BB MS RX c0 c1 c2 c3 c4 c5 c6 c7 c8 c9 c10 c11 c12 c13 c14
 have c4 : w2.cell? ⟨w.heap.size, 4, none⟩ = some (.int .u8 (x.wd : Int)) := R2.out.cell 4
 rw [H0.out] at c4
 go_wp2_with fail
 have h0 := H0.out
 refine wp_region_growg 12 (by kernel_rfl) 58 rfl (by kernel_rfl) (fun wa wb => Below wa.heap.size wa wb) (fun wa => Row wa w.heap.size 49 (cA x) ∧ Below w.heap.size w wa) (fun kc wa v => match kc with
  | 0 => v = .pointer (some ⟨w.heap.size, 4, none⟩)
  | 1 => v = .int .u8 2
  | 2 => v = .bool false
  | 3 => v = .bool false
  | 4 => v = .pointer (some ⟨w.heap.size, 0, none⟩)
  | 5 => v = .int .i32 x.ch
  | 6 => v = .int .i64 z
  | 7 => v = .pointer (some ⟨w.heap.size, 4, none⟩)
  | 8 => v = .int .u8 2
  | 9 => v = .int .i64 2
  | 10 => v = .bool (z != 2)
  | 11 => v = .bool (z != 2)
  | _ => True) ?_ ?_ ?_ ?_ ?_ ?_
 ·intro i o' j b' hi hg wa v hC hV
  have hlt : i < 12 := by rcases Nat.lt_or_ge i 12 with q | q; exact q; rw [List.getElem?_eq_none (by simpa using q)] at hi; cases hi
  revert hi hg hV
  rcases (show i = 0 ∨ i = 1 ∨ i = 2 ∨ i = 3 ∨ i = 4 ∨ i = 5 ∨ i = 6 ∨ i = 7 ∨ i = 8 ∨ i = 9 ∨ i = 10 ∨ i = 11 by omega) with rfl | rfl | rfl | rfl | rfl | rfl | rfl | rfl | rfl | rfl | rfl | rfl <;>
   (intro hi hg hV; simp only [tkS, List.getElem?_cons_zero, List.getElem?_cons_succ, Option.some.injEq] at hi; subst hi; first | (cases hg; exact hV) | (cases hg))
 ·rintro wa wb hb ⟨q1, q2⟩; exact ⟨q1.below hb q1.lt, q2.trans (hb.mono q2.size)⟩
 ·intro kc v wa wb hC1 hb h
  match kc, h with
  | 0, h => exact h
  | 1, h => exact h
  | 2, h => exact h
  | 3, h => exact h
  | 4, h => exact h
  | 5, h => exact h
  | 6, h => exact h
  | 7, h => exact h
  | 8, h => exact h
  | 9, h => exact h
  | 10, h => exact h
  | 11, h => exact h
  | kc + 12, h => trivial
 ·exact ⟨R2.out.drew, B2.out.drew⟩
 ·refine ⟨?_, ?_, ?_, ?_, ?_, ?_, ?_, ?_, ?_, ?_, ?_, ?_, trivial⟩
  ·intro f wq hC hd KK hK
   clear hd
   simp only [tkS, tkZ, setAll, siB, stS, stZ, Nat.zero_add, Nat.reduceAdd] at hK ⊢
   refine wp_of_quiet rfl ?_
   go_big_quiet_step (fail)
   exact wpQuiet_nil (hK _ _ (rfl) bR)
  ·intro f wq hC hd KK hK
   have g0 : f 0 = .pointer (some ⟨w.heap.size, 4, none⟩) := hd 0 (by kernel_rfl)
   clear hd
   have hR : Row wq w.heap.size 49 (cA x) := hC.1
   have c0 : wq.cell? ⟨w.heap.size, 0, none⟩ = some (.int .i32 x.ch) := hR.cell 0
   have c1 : wq.cell? ⟨w.heap.size, 1, none⟩ = some (.int .i32 x.m0) := hR.cell 1
   have c2 : wq.cell? ⟨w.heap.size, 2, none⟩ = some (.int .i32 x.m1) := hR.cell 2
   have c3 : wq.cell? ⟨w.heap.size, 3, none⟩ = some (.int .i32 x.m2) := hR.cell 3
   have c4 : wq.cell? ⟨w.heap.size, 4, none⟩ = some (.int .u8 2) := h0 ▸ hR.cell 4
   have c5 : wq.cell? ⟨w.heap.size, 5, none⟩ = some (.int .i64 x.st.fg) := hR.cell 5
   have c6 : wq.cell? ⟨w.heap.size, 6, none⟩ = some (.int .i64 x.st.bg) := hR.cell 6
   have c7 : wq.cell? ⟨w.heap.size, 7, none⟩ = some (.bool x.st.b1) := hR.cell 7
   have c8 : wq.cell? ⟨w.heap.size, 8, none⟩ = some (.bool x.st.b2) := hR.cell 8
   have c9 : wq.cell? ⟨w.heap.size, 9, none⟩ = some (.bool x.st.b3) := hR.cell 9
   have c10 : wq.cell? ⟨w.heap.size, 10, none⟩ = some (.bool x.st.b4) := hR.cell 10
   have c11 : wq.cell? ⟨w.heap.size, 11, none⟩ = some (.bool x.st.b5) := hR.cell 11
   have c12 : wq.cell? ⟨w.heap.size, 12, none⟩ = some (.bool x.st.b7) := hR.cell 12
   have c13 : wq.cell? ⟨w.heap.size, 13, none⟩ = some (.bool x.st.b8) := hR.cell 13
   have c14 : wq.cell? ⟨w.heap.size, 14, none⟩ = some (.bool x.st.b9) := hR.cell 14
   clear hC hR
   simp only [tkS, tkZ, setAll, siB, stS, stZ, Nat.zero_add, Nat.reduceAdd, g0] at hK ⊢
   refine wp_of_quiet rfl ?_
   go_big_quiet_step (fail)
   exact wpQuiet_nil (hK _ _ (rfl) bR)
  ·intro f wq hC hd KK hK
   have g1 : f 1 = .int .u8 2 := hd 1 (by kernel_rfl)
   clear hd
   simp only [tkS, tkZ, setAll, siB, stS, stZ, Nat.zero_add, Nat.reduceAdd, g1] at hK ⊢
   refine wp_of_quiet rfl ?_
   go_big_quiet_step (fail)
   exact wpQuiet_nil (hK _ _ (rfl) bR)
  ·intro f wq hC hd KK hK
   have g2 : f 2 = .bool false := hd 2 (by kernel_rfl)
   clear hd
   simp only [tkS, tkZ, setAll, siB, stS, stZ, Nat.zero_add, Nat.reduceAdd, g2] at hK ⊢
   refine wp_of_quiet rfl ?_
   go_big_quiet_step (fail)
   exact wpQuiet_nil (hK _ _ (rfl) bR)
  ·intro f wq hC hd KK hK
   clear hd
   simp only [tkS, tkZ, setAll, siB, stS, stZ, Nat.zero_add, Nat.reduceAdd] at hK ⊢
   refine wp_unguard ?_
   refine wp_of_quiet rfl ?_
   go_big_quiet_step (fail)
   exact wpQuiet_nil (hK _ _ (rfl) bR)
  ·intro f wq hC hd KK hK
   have g4 : f 4 = .pointer (some ⟨w.heap.size, 0, none⟩) := hd 4 (by kernel_rfl)
   clear hd
   have hR : Row wq w.heap.size 49 (cA x) := hC.1
   have c0 : wq.cell? ⟨w.heap.size, 0, none⟩ = some (.int .i32 x.ch) := hR.cell 0
   have c1 : wq.cell? ⟨w.heap.size, 1, none⟩ = some (.int .i32 x.m0) := hR.cell 1
   have c2 : wq.cell? ⟨w.heap.size, 2, none⟩ = some (.int .i32 x.m1) := hR.cell 2
   have c3 : wq.cell? ⟨w.heap.size, 3, none⟩ = some (.int .i32 x.m2) := hR.cell 3
   have c4 : wq.cell? ⟨w.heap.size, 4, none⟩ = some (.int .u8 2) := h0 ▸ hR.cell 4
   have c5 : wq.cell? ⟨w.heap.size, 5, none⟩ = some (.int .i64 x.st.fg) := hR.cell 5
   have c6 : wq.cell? ⟨w.heap.size, 6, none⟩ = some (.int .i64 x.st.bg) := hR.cell 6
   have c7 : wq.cell? ⟨w.heap.size, 7, none⟩ = some (.bool x.st.b1) := hR.cell 7
   have c8 : wq.cell? ⟨w.heap.size, 8, none⟩ = some (.bool x.st.b2) := hR.cell 8
   have c9 : wq.cell? ⟨w.heap.size, 9, none⟩ = some (.bool x.st.b3) := hR.cell 9
   have c10 : wq.cell? ⟨w.heap.size, 10, none⟩ = some (.bool x.st.b4) := hR.cell 10
   have c11 : wq.cell? ⟨w.heap.size, 11, none⟩ = some (.bool x.st.b5) := hR.cell 11
   have c12 : wq.cell? ⟨w.heap.size, 12, none⟩ = some (.bool x.st.b7) := hR.cell 12
   have c13 : wq.cell? ⟨w.heap.size, 13, none⟩ = some (.bool x.st.b8) := hR.cell 13
   have c14 : wq.cell? ⟨w.heap.size, 14, none⟩ = some (.bool x.st.b9) := hR.cell 14
   clear hC hR
   simp only [tkS, tkZ, setAll, siB, stS, stZ, Nat.zero_add, Nat.reduceAdd, g4] at hK ⊢
   refine wp_unguard ?_
   refine wp_of_quiet rfl ?_
   go_big_quiet_step (fail)
   exact wpQuiet_nil (hK _ _ (rfl) bR)
  ·intro f wq hC hd KK hK
   have g5 : f 5 = .int .i32 x.ch := hd 5 (by kernel_rfl)
   clear hd
   simp only [tkS, tkZ, setAll, siB, stS, stZ, Nat.zero_add, Nat.reduceAdd, g5] at hK ⊢
   refine wp_unguard ?_
   exact wp_call 54 #[.int .i32 x.ch] (by simp [go_sem]) _ _ (OF.out wq) (fun w' hb => hK _ _ rfl hb)
  ·intro f wq hC hd KK hK
   clear hd
   simp only [tkS, tkZ, setAll, siB, stS, stZ, Nat.zero_add, Nat.reduceAdd] at hK ⊢
   refine wp_unguard ?_
   refine wp_of_quiet rfl ?_
   go_big_quiet_step (fail)
   exact wpQuiet_nil (hK _ _ (rfl) bR)
  ·intro f wq hC hd KK hK
   have g7 : f 7 = .pointer (some ⟨w.heap.size, 4, none⟩) := hd 7 (by kernel_rfl)
   clear hd
   have hR : Row wq w.heap.size 49 (cA x) := hC.1
   have c0 : wq.cell? ⟨w.heap.size, 0, none⟩ = some (.int .i32 x.ch) := hR.cell 0
   have c1 : wq.cell? ⟨w.heap.size, 1, none⟩ = some (.int .i32 x.m0) := hR.cell 1
   have c2 : wq.cell? ⟨w.heap.size, 2, none⟩ = some (.int .i32 x.m1) := hR.cell 2
   have c3 : wq.cell? ⟨w.heap.size, 3, none⟩ = some (.int .i32 x.m2) := hR.cell 3
   have c4 : wq.cell? ⟨w.heap.size, 4, none⟩ = some (.int .u8 2) := h0 ▸ hR.cell 4
   have c5 : wq.cell? ⟨w.heap.size, 5, none⟩ = some (.int .i64 x.st.fg) := hR.cell 5
   have c6 : wq.cell? ⟨w.heap.size, 6, none⟩ = some (.int .i64 x.st.bg) := hR.cell 6
   have c7 : wq.cell? ⟨w.heap.size, 7, none⟩ = some (.bool x.st.b1) := hR.cell 7
   have c8 : wq.cell? ⟨w.heap.size, 8, none⟩ = some (.bool x.st.b2) := hR.cell 8
   have c9 : wq.cell? ⟨w.heap.size, 9, none⟩ = some (.bool x.st.b3) := hR.cell 9
   have c10 : wq.cell? ⟨w.heap.size, 10, none⟩ = some (.bool x.st.b4) := hR.cell 10
   have c11 : wq.cell? ⟨w.heap.size, 11, none⟩ = some (.bool x.st.b5) := hR.cell 11
   have c12 : wq.cell? ⟨w.heap.size, 12, none⟩ = some (.bool x.st.b7) := hR.cell 12
   have c13 : wq.cell? ⟨w.heap.size, 13, none⟩ = some (.bool x.st.b8) := hR.cell 13
   have c14 : wq.cell? ⟨w.heap.size, 14, none⟩ = some (.bool x.st.b9) := hR.cell 14
   clear hC hR
   simp only [tkS, tkZ, setAll, siB, stS, stZ, Nat.zero_add, Nat.reduceAdd, g7] at hK ⊢
   refine wp_unguard ?_
   refine wp_of_quiet rfl ?_
   go_big_quiet_step (fail)
   exact wpQuiet_nil (hK _ _ (rfl) bR)
  ·intro f wq hC hd KK hK
   have g8 : f 8 = .int .u8 2 := hd 8 (by kernel_rfl)
   clear hd
   simp only [tkS, tkZ, setAll, siB, stS, stZ, Nat.zero_add, Nat.reduceAdd, g8] at hK ⊢
   refine wp_unguard ?_
   refine wp_of_quiet rfl ?_
   go_big_quiet_step (fail)
   exact wpQuiet_nil (hK _ _ (rfl) bR)
  ·intro f wq hC hd KK hK
   have g6 : f 6 = .int .i64 z := hd 6 (by kernel_rfl)
   have g9 : f 9 = .int .i64 2 := hd 9 (by kernel_rfl)
   clear hd
   simp only [tkS, tkZ, setAll, siB, stS, stZ, Nat.zero_add, Nat.reduceAdd, g6, g9] at hK ⊢
   refine wp_unguard ?_
   refine wp_of_quiet rfl ?_
   go_big_quiet_step (fail)
   exact wpQuiet_nil (hK _ _ (rfl) bR)
  ·intro f wq hC hd KK hK
   have g3 : f 3 = .bool false := hd 3 (by kernel_rfl)
   have g10 : f 10 = .bool (z != 2) := hd 10 (by kernel_rfl)
   clear hd
   simp only [tkS, tkZ, setAll, siB, stS, stZ, Nat.zero_add, Nat.reduceAdd, g3, g10] at hK ⊢
   refine wp_of_quiet rfl ?_
   go_big_quiet_step (fail)
   exact wpQuiet_nil (hK _ _ (by first | rfl | simp) bR)
 ·intro f wz hC hv
  have p0 : f 0 = .pointer (some ⟨w.heap.size, 4, none⟩) := hv 0 (by decide)
  have p1 : f 1 = .int .u8 2 := hv 1 (by decide)
  have p2 : f 2 = .bool false := hv 2 (by decide)
  have p3 : f 3 = .bool false := hv 3 (by decide)
  have p4 : f 4 = .pointer (some ⟨w.heap.size, 0, none⟩) := hv 4 (by decide)
  have p5 : f 5 = .int .i32 x.ch := hv 5 (by decide)
  have p6 : f 6 = .int .i64 z := hv 6 (by decide)
  have p7 : f 7 = .pointer (some ⟨w.heap.size, 4, none⟩) := hv 7 (by decide)
  have p8 : f 8 = .int .u8 2 := hv 8 (by decide)
  have p9 : f 9 = .int .i64 2 := hv 9 (by decide)
  have p10 : f 10 = .bool (z != 2) := hv 10 (by decide)
  have p11 : f 11 = .bool (z != 2) := hv 11 (by decide)
  simp only [tkS, tkZ, List.drop_succ_cons, List.drop_zero, setAll, siB, stS, stZ, Nat.zero_add, Nat.reduceAdd, p0, p1, p2, p3, p4, p5, p6, p7, p8, p9, p10, p11]
  clear hv p0 p1 p2 p3 p4 p5 p6 p7 p8 p9 p10 p11
  have R9 := Box'.mk hC.1
  have B9 := Box'.mk hC.2
  clear hC OF H0 h0
  by_cases ho : z = 2
  case neg =>
   have E : Box' (R = false) := ⟨by rw [← HQ.out, if_neg ho]⟩
   have ho1 : (z != 2) = true := by simpa using ho
   clear HQ
   go_wp2_with fail
   go_ret
   exact ⟨by rw [E.out]; rfl, B9.out⟩
  case pos =>
   have HR : Box' (rmL [x.m0, x.m1, x.m2] = R) := ⟨by rw [← HQ.out, if_pos ho]⟩
   have ho1 : (z != 2) = false := by rw [ho]; rfl
   clear HQ ho
   rw [ho1]
   go_wp2_with fail
   clear ho1
   go_loopw [3] (fun i wr => ∃ k : Nat, k ≤ 3 ∧ i = .int .i64 (k : Int) ∧ Box' (rmL ([x.m0, x.m1, x.m2].drop k) = R) ∧ Box' (Row wr w.heap.size 49 (cA x)) ∧ Box' (Below w.heap.size w wr)) (fun i _ => 3 - (intOf i).toNat)
   case atStart => exact ⟨0, by omega, rfl, HR, R9, B9⟩
   case round =>
    obtain ⟨k, hk, rfl, HM, RR, BB⟩ := hrel
    clear HR R9 B9
    have e1 : wr.cell? ⟨w.heap.size, 1, none⟩ = some (.int .i32 x.m0) := RR.out.cell 1
    have e2 : wr.cell? ⟨w.heap.size, 2, none⟩ = some (.int .i32 x.m1) := RR.out.cell 2
    have e3 : wr.cell? ⟨w.heap.size, 3, none⟩ = some (.int .i32 x.m2) := RR.out.cell 3
    obtain ⟨n0, hn0⟩ : ∃ n0, x.m0 = n0 := ⟨_, rfl⟩
    obtain ⟨n1, hn1⟩ : ∃ n1, x.m1 = n1 := ⟨_, rfl⟩
    obtain ⟨n2, hn2⟩ : ∃ n2, x.m2 = n2 := ⟨_, rfl⟩
    rw [hn0] at e1 HM
    rw [hn1] at e2 HM
    rw [hn2] at e3 HM
    have N0 := Box'.mk hn0
    have N1 := Box'.mk hn1
    have N2 := Box'.mk hn2
    clear hn0 hn1 hn2
    obtain rfl | rfl | rfl | rfl : k = 0 ∨ k = 1 ∨ k = 2 ∨ k = 3 := by omega
    ·have HS : Box' (rmL (n0 :: [n1, n2]) = R) := ⟨HM.out⟩
     have HE : Box' (rmL (n0 :: [n1, n2]) = if n0 = 0 then (if n1 = 0 then rmL [n1, n2] else false) else if ofF n0 = 0 then rmL [n1, n2] else false) := ⟨rfl⟩
     clear HM
     by_cases hz : n0 = 0
     case pos =>
      rw [hz] at e1
      by_cases hy : n1 = 0
      case pos =>
       have HN : Box' (rmL [n1, n2] = R) := ⟨by rw [← HS.out, HE.out, if_pos hz, if_pos hy]⟩
       rw [hy] at e2
       clear HS HE OFF hz hy
       go_wp2_with fail
       exact ⟨⟨1, by omega, rfl, ⟨by rw [N0.out, N1.out, N2.out]; exact HN.out⟩, RR, BB⟩, by simp [intOf]⟩
      case neg =>
       have HN : Box' (R = false) := ⟨by rw [← HS.out, HE.out, if_pos hz, if_neg hy]⟩
       have hy1 : (n1 != 0) = true := by simpa using hy
       clear HS HE OFF hz
       go_wp2_with fail
       go_ret
       exact ⟨by rw [HN.out]; rfl, BB.out⟩
     case neg =>
      have OM := Box'.mk (OFF.out n0)
      by_cases hy : ofF n0 = 0
      case pos =>
       have HN : Box' (rmL [n1, n2] = R) := ⟨by rw [← HS.out, HE.out, if_neg hz, if_pos hy]⟩
       rw [hy] at OM
       clear HS HE OFF hy
       go_wp2_with fail
       refine (OM.out _).mono ?_
       rintro e w3 ⟨rfl, hb3⟩
       have R3 := Box'.mk (RR.out.below hb3 RR.out.lt)
       have B3 := Box'.mk (BB.out.trans (hb3.mono BB.out.size))
       clear hb3 RR BB
       go_wp2_with fail
       exact ⟨⟨1, by omega, rfl, ⟨by rw [N0.out, N1.out, N2.out]; exact HN.out⟩, R3, B3⟩, by simp [intOf]⟩
      case neg =>
       have HN : Box' (R = false) := ⟨by rw [← HS.out, HE.out, if_neg hz, if_neg hy]⟩
       have hy1 : (ofF n0 != 0) = true := by simpa using hy
       generalize ofF n0 = v at *
       clear HS HE OFF
       go_wp2_with fail
       refine (OM.out _).mono ?_
       rintro e w3 ⟨rfl, hb3⟩
       have B3 := Box'.mk (BB.out.trans (hb3.mono BB.out.size))
       clear hb3 RR BB
       go_wp2_with fail
       go_ret
       exact ⟨by rw [HN.out]; rfl, B3.out⟩
    ·have HS : Box' (rmL (n1 :: [n2]) = R) := ⟨HM.out⟩
     have HE : Box' (rmL (n1 :: [n2]) = if n1 = 0 then (if n2 = 0 then rmL [n2] else false) else if ofF n1 = 0 then rmL [n2] else false) := ⟨rfl⟩
     clear HM
     by_cases hz : n1 = 0
     case pos =>
      rw [hz] at e2
      by_cases hy : n2 = 0
      case pos =>
       have HN : Box' (rmL [n2] = R) := ⟨by rw [← HS.out, HE.out, if_pos hz, if_pos hy]⟩
       rw [hy] at e3
       clear HS HE OFF hz hy
       go_wp2_with fail
       exact ⟨⟨2, by omega, rfl, ⟨by rw [N0.out, N1.out, N2.out]; exact HN.out⟩, RR, BB⟩, by simp [intOf]⟩
      case neg =>
       have HN : Box' (R = false) := ⟨by rw [← HS.out, HE.out, if_pos hz, if_neg hy]⟩
       have hy1 : (n2 != 0) = true := by simpa using hy
       clear HS HE OFF hz
       go_wp2_with fail
       go_ret
       exact ⟨by rw [HN.out]; rfl, BB.out⟩
     case neg =>
      have OM := Box'.mk (OFF.out n1)
      by_cases hy : ofF n1 = 0
      case pos =>
       have HN : Box' (rmL [n2] = R) := ⟨by rw [← HS.out, HE.out, if_neg hz, if_pos hy]⟩
       rw [hy] at OM
       clear HS HE OFF hy
       go_wp2_with fail
       refine (OM.out _).mono ?_
       rintro e w3 ⟨rfl, hb3⟩
       have R3 := Box'.mk (RR.out.below hb3 RR.out.lt)
       have B3 := Box'.mk (BB.out.trans (hb3.mono BB.out.size))
       clear hb3 RR BB
       go_wp2_with fail
       exact ⟨⟨2, by omega, rfl, ⟨by rw [N0.out, N1.out, N2.out]; exact HN.out⟩, R3, B3⟩, by simp [intOf]⟩
      case neg =>
       have HN : Box' (R = false) := ⟨by rw [← HS.out, HE.out, if_neg hz, if_neg hy]⟩
       have hy1 : (ofF n1 != 0) = true := by simpa using hy
       generalize ofF n1 = v at *
       clear HS HE OFF
       go_wp2_with fail
       refine (OM.out _).mono ?_
       rintro e w3 ⟨rfl, hb3⟩
       have B3 := Box'.mk (BB.out.trans (hb3.mono BB.out.size))
       clear hb3 RR BB
       go_wp2_with fail
       go_ret
       exact ⟨by rw [HN.out]; rfl, B3.out⟩
    ·have HS : Box' (rmL (n2 :: []) = R) := ⟨HM.out⟩
     have HE : Box' (rmL (n2 :: []) = if n2 = 0 then true else decide (ofF n2 = 0)) := ⟨rfl⟩
     clear HM
     by_cases hz : n2 = 0
     case pos =>
      have HN : Box' (rmL [] = R) := ⟨by rw [← HS.out, HE.out, if_pos hz]; rfl⟩
      rw [hz] at e3
      clear HS HE OFF hz
      go_wp2_with fail
      exact ⟨⟨3, by omega, rfl, ⟨by rw [N0.out, N1.out, N2.out]; exact HN.out⟩, RR, BB⟩, by simp [intOf]⟩
     case neg =>
      have OM := Box'.mk (OFF.out n2)
      by_cases hy : ofF n2 = 0
      case pos =>
       have HN : Box' (rmL [] = R) := ⟨by rw [← HS.out, HE.out, if_neg hz]; simp [hy, rmL]⟩
       rw [hy] at OM
       clear HS HE OFF hy
       go_wp2_with fail
       refine (OM.out _).mono ?_
       rintro e w3 ⟨rfl, hb3⟩
       have R3 := Box'.mk (RR.out.below hb3 RR.out.lt)
       have B3 := Box'.mk (BB.out.trans (hb3.mono BB.out.size))
       clear hb3 RR BB
       go_wp2_with fail
       exact ⟨⟨3, by omega, rfl, ⟨by rw [N0.out, N1.out, N2.out]; exact HN.out⟩, R3, B3⟩, by simp [intOf]⟩
      case neg =>
       have HN : Box' (R = false) := ⟨by rw [← HS.out, HE.out, if_neg hz]; simp [hy]⟩
       have hy1 : (ofF n2 != 0) = true := by simpa using hy
       generalize ofF n2 = v at *
       clear HS HE OFF
       go_wp2_with fail
       refine (OM.out _).mono ?_
       rintro e w3 ⟨rfl, hb3⟩
       have B3 := Box'.mk (BB.out.trans (hb3.mono BB.out.size))
       clear hb3 RR BB
       go_wp2_with fail
       go_ret
       exact ⟨by rw [HN.out]; rfl, B3.out⟩
    ·have HN : Box' (R = true) := ⟨HM.out.symm⟩
     clear HM OFF
     go_wp2_with fail
     go_ret
     exact ⟨by rw [HN.out]; rfl, BB.out⟩
theorem refMay_any (x : Cl) (w : World) : Calls Try.prog 38 #[.agg (cA x)] w fun e w' => e = .returned (.bool (mayC x)) ∧ Below w.heap.size w w' := by
 cases hs : mayS x.st with
 | false =>
  rw [show mayC x = false by unfold mayC; rw [if_pos hs]]
  exact rmay_no x hs w
 | true =>
  have hs' : ¬ mayS x.st = false := by rw [hs]; simp
  by_cases h0 : x.wd = 0
  ·rw [show mayC x = decide (x.ch = 0 ∧ x.m0 = 0 ∧ x.m1 = 0 ∧ x.m2 = 0) by unfold mayC; rw [if_neg hs', if_pos h0]]
   exact rmay_0 x hs (by rw [h0]; rfl) w
  by_cases h3 : 2 < x.wd
  ·rw [show mayC x = false by unfold mayC; rw [if_neg hs', if_neg h0, if_pos h3]]
   exact rmay_3 x hs (by omega) (by omega) w
  have e : mayC x = if ofF x.ch = (x.wd : Int) then rmL [x.m0, x.m1, x.m2] else false := by unfold mayC; rw [if_neg hs', if_neg h0, if_neg h3, rm_mm]
  have hw : x.wd = 1 ∨ x.wd = 2 := by omega
  rw [e]
  rcases hw with h1 | h1
  ·rw [h1]; exact rmay_1 x hs (by rw [h1]; rfl) w
  ·rw [h1]; exact rmay_2 x hs (by rw [h1]; rfl) w
end Go.Proofs.Ytnbonlkmadmpcaa
