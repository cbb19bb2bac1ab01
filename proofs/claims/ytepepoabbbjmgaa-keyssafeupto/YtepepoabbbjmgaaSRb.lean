/- Cells compared as one; May, of all cells. -/
import Derived.Test.YtepepoabbbjmgaaSMb
import Derived.Test.YtepepoabbbjmgaaSEq
namespace Go.Proofs.Ytepepoabbbjmgaa.Sc
open Go.RowKit Go.BigFrame
set_option linter.unusedVariables false
set_option linter.unusedSimpArgs false
set_option maxRecDepth 100000
set_option maxHeartbeats 4000000
theorem eqMs (w : World) (d : Nat) (a b c a' b' c' : Int) : (Op.equalIn (d + 2) 70 (.agg #[.int .i32 a, .int .i32 b, .int .i32 c]) (.agg #[.int .i32 a', .int .i32 b', .int .i32 c'])).run Try.prog w = .ok (decide (a = a' ∧ b = b' ∧ c = c')) w := by
 have h0 : ∀ a b c : Int, (part 21 #[.int .i32 a, .int .i32 b, .int .i32 c] 0).run Try.prog w = .ok (.int .i32 a) w := fun a b c => run_part21 w _ 0 _ rfl
 have h1 : ∀ a b c : Int, (part 21 #[.int .i32 a, .int .i32 b, .int .i32 c] 1).run Try.prog w = .ok (.int .i32 b) w := fun a b c => run_part21 w _ 1 _ rfl
 have h2 : ∀ a b c : Int, (part 21 #[.int .i32 a, .int .i32 b, .int .i32 c] 2).run Try.prog w = .ok (.int .i32 c) w := fun a b c => run_part21 w _ 2 _ rfl
 have e : ∀ x y : Int, (Op.equalIn (d + 1) 21 (.int .i32 x) (.int .i32 y)).run Try.prog w = .ok (x == y) w := fun x y => run_equalIn_int w d 21 .i32 .i32 x y Try.underlying21
 rw [Op.equalIn]
 simp only [Sem.run_bind, run_underlying Try.underlying70, Result.andThen_ok, size21]
 rw [Std.Legacy.Range.forIn_eq_forIn_range']
 have e1 : [:3].size = 3 := by simp [Std.Legacy.Range.size]
 rw [e1]
 by_cases g0 : a = a' <;> by_cases g1 : b = b' <;> by_cases g2 : c = c' <;> simp [List.range', h0, h1, h2, e, g0, g1, g2]
theorem fields26 : (Try.prog.fieldsOf 72).toList = [⟨"Char", 21, 0, false, "", "", 0⟩, ⟨"Marks", 70, 1, false, "", "", 4⟩, ⟨"Wide", 5, 4, false, "", "", 16⟩, ⟨"Style", 41, 5, false, "", "", 24⟩] := by kernel_rfl
theorem run_part5 (w : World) (c : Array Value) (i : Nat) (v : Value) (hc : c[i]? = some v) : (part 5 c i).run Try.prog w = .ok v w := by
 simp [part, isAgg, underlying, Try.underlying5, hc]
theorem run_partM (w : World) (x : Cl) : (part 70 (cA x) 1).run Try.prog w = .ok (.agg #[.int .i32 x.m0, .int .i32 x.m1, .int .i32 x.m2]) w := by
 simp [go_sem, part, cA]
theorem run_partS (w : World) (x : Cl) : (part 41 (cA x) 5).run Try.prog w = .ok (.agg (sA x.st)) w := by
 simp [go_sem, part, cA, sA]
/-- Are two cells the same? -/
def clB (x y : Cl) : Bool := decide (x.ch = y.ch) && (decide (x.m0 = y.m0) && (decide (x.m1 = y.m1) && decide (x.m2 = y.m2))) && decide (x.wd = y.wd) && stB x.st y.st
theorem clB_iff (x y : Cl) : clB x y = true ↔ x = y := by
 cases x; cases y
 simp [clB, stB_iff, and_assoc]
theorem clB_yes {x y : Cl} (h : x = y) : clB x y = true := (clB_iff x y).2 h
theorem clB_no {x y : Cl} (h : ¬ x = y) : clB x y = false := by
 cases e : clB x y with
 | false => rfl
 | true => exact absurd ((clB_iff x y).1 e) h
theorem run_eq_cell (w : World) (d : Nat) (x y : Cl) : (Op.equalIn (d + 4) 72 (.agg (cA x)) (.agg (cA y))).run Try.prog w = .ok (clB x y) w := by
 have i1 : (Op.equalIn (d + 3) 21 (.int .i32 x.ch) (.int .i32 y.ch)).run Try.prog w = .ok (x.ch == y.ch) w := run_equalIn_int w (d + 2) 21 .i32 .i32 x.ch y.ch Try.underlying21
 have i2 := eqMs w (d + 1) x.m0 x.m1 x.m2 y.m0 y.m1 y.m2
 have i3 : (Op.equalIn (d + 3) 5 (.int .u8 (x.wd : Int)) (.int .u8 (y.wd : Int))).run Try.prog w = .ok ((x.wd : Int) == (y.wd : Int)) w := run_equalIn_int w (d + 2) 5 .u8 .u8 _ _ Try.underlying5
 have i4 := run_eq_style w (d + 1) x.st y.st
 have p1 : ∀ z : Cl, (part 21 (cA z) 0).run Try.prog w = .ok (.int .i32 z.ch) w := fun z => run_part21 w (cA z) 0 _ rfl
 have p3 : ∀ z : Cl, (part 5 (cA z) 4).run Try.prog w = .ok (.int .u8 (z.wd : Int)) w := fun z => run_part5 w (cA z) 4 _ rfl
 rw [run_equalIn_struct w (d + 3) 72 _ _ (by kernel_rfl) (by kernel_rfl), fields26]
 simp only [Op.eqFields, Sem.run_bind, p1, p3, run_partM, run_partS, Result.andThen_ok, i1, i2, i3, i4, ne_eq, String.reduceEq, not_false_eq_true, if_true, Sem.run_ite, Sem.run_pure, Bool.not_eq_true']
 have e3 : ((x.wd : Int) == (y.wd : Int)) = decide (x.wd = y.wd) := by
  by_cases h : x.wd = y.wd
  ·rw [h]; simp
  ·rw [beq_eq_false_iff_ne.2 (by omega)]; simp [h]
 rw [e3]
 unfold clB
 by_cases g1 : x.ch = y.ch <;> by_cases g2 : (x.m0 = y.m0 ∧ x.m1 = y.m1 ∧ x.m2 = y.m2) <;> by_cases g3 : x.wd = y.wd <;> cases g4 : stB x.st y.st <;> simp_all
theorem guard26 : Try.prog.eqGuardType Try.prog.depth 72 = false := by kernel_rfl
theorem run_eql_cell_op {op : Oper} {a : Act} (ty : TypeId) (p q : Operand) (ho : op.op = .binOp .eql 72 p q ty) (x y : Cl) (hx : a.eval p = .agg (cA x)) (hy : a.eval q = .agg (cA y)) (r : Bool) (hr : clB x y = r) (w : World) :
  (execOp a.eval op).run Try.prog w = .ok (.value (.bool r)) w := by
 unfold execOp
 simp only [ho, hx, hy, Sem.run_bind, run_eqGuard_agg w .eql 72 p q (cA x) (cA y) guard26, Result.andThen_ok, run_eql_struct, run_eq_cell w 9996 x y, hr, Sem.run_pure]
theorem run_neq_cell_op {op : Oper} {a : Act} (ty : TypeId) (p q : Operand) (ho : op.op = .binOp .neq 72 p q ty) (x y : Cl) (hx : a.eval p = .agg (cA x)) (hy : a.eval q = .agg (cA y)) (r : Bool) (hr : (!clB x y) = r) (w : World) :
  (execOp a.eval op).run Try.prog w = .ok (.value (.bool r)) w := by
 unfold execOp
 simp only [ho, hx, hy, Sem.run_bind, run_eqGuard_agg w .neq 72 p q (cA x) (cA y) guard26, Result.andThen_ok, run_neq_struct, run_eq_cell w 9996 x y, hr, Sem.run_pure]
theorem mayF_0 (x : Cl) (hs : mayS x.st = true) (h0 : (x.wd : Int) = 0) (w : World) : Calls Try.prog 34 #[.agg (cA x)] w fun e w' => e = .returned (.bool (clB x (hf x.st))) ∧ Below w.heap.size w w' := by
 have HF := Box'.mk (half_any x.st)
 have H0 := Box'.mk h0
 clear h0
 have MS := Box'.mk (mayStyle_any x.st)
 rw [hs] at MS
 have RX := Box'.mk (Row.new w 72 (cA x))
 have BB := Box'.mk ((Below.refl w.heap.size w).alloc (Nat.le_refl _) (.cells (cA x) 72))
 go_enter Try.func34, Try.ntmps34
 go_upto_region 1 with (fail)
 generalize w.alloc (.cells (cA x) 72) = w1 at *
 obtain ⟨c0, c1, c2, c3, c4, c5, c6, c7, c8, c9, c10, c11, c12, c13, c14⟩ := RX.out.c15
 clear hs
 go_wp2_with fail
 refine (MS.out _).mono ?_
 rintro e w2 ⟨rfl, hb2⟩
 have R2 := Box'.mk (RX.out.below hb2 RX.out.lt)
 have B2 := Box'.mk (BB.out.trans (hb2.mono BB.out.size))
 clear hb2 BB MS RX c0 c1 c2 c3 c4 c5 c6 c7 c8 c9 c10 c11 c12 c13 c14
 have c4 : w2.cell? ⟨w.heap.size, 4, none⟩ = some (.int .u8 (x.wd : Int)) := R2.out.cell 4
 rw [H0.out] at c4
 go_wp2_with fail
 refine wp_region_growg 5 (by kernel_rfl) 31 rfl (by kernel_rfl) (fun wa wb => Below wa.heap.size wa wb) (fun wa => Row wa w.heap.size 72 (cA x) ∧ Below w.heap.size w wa) (fun kc wa v => v = (match kc with
  | 0 => .agg (cA x)
  | 1 => .pointer (some ⟨w.heap.size, 5, none⟩)
  | 2 => .agg (sA x.st)
  | 3 => .agg (cA (hf x.st))
  | 4 => .bool (clB x (hf x.st))
  | _ => undef)) ?_ ?_ ?_ ?_ ?_ ?_
 ·intro i o' j b' hi hg wa v hC hV
  have hlt : i < 5 := by rcases Nat.lt_or_ge i 5 with q | q; exact q; rw [List.getElem?_eq_none (by simpa using q)] at hi; cases hi
  revert hi hg hV
  rcases (show i = 0 ∨ i = 1 ∨ i = 2 ∨ i = 3 ∨ i = 4 by omega) with rfl | rfl | rfl | rfl | rfl <;>
   (intro hi hg hV; simp only [tkS, List.getElem?_cons_zero, List.getElem?_cons_succ, Option.some.injEq] at hi; subst hi; first | (cases hg; exact hV) | (cases hg))
 ·rintro wa wb hb ⟨q1, q2⟩; exact ⟨q1.below hb q1.lt, q2.trans (hb.mono q2.size)⟩
 ·exact fun kc v wa wb hC1 hb h => h
 ·exact ⟨R2.out.drew, B2.out.drew⟩
 ·refine ⟨?a0, ?a1, ?a2, ?a3, ?a4, trivial⟩
  all_goals intro f wq hC hd KK hK
  all_goals simp (disch := decide +kernel) only [tkS, tkZ, setAll, siB, stS, stZ, Nat.zero_add, Nat.reduceAdd, hd] at hK ⊢
  case a0 =>
   have hR : Row wq w.heap.size 72 (cA x) := hC.1
   obtain ⟨c0, c1, c2, c3, c4, c5, c6, c7, c8, c9, c10, c11, c12, c13, c14⟩ := hR.c15
   clear hC hR
   refine wp_of_quiet rfl ?_
   go_big_quiet_step (fail)
   exact wpQuiet_nil (hK _ _ (rfl) bR)
  case a2 =>
   have hR : Row wq w.heap.size 72 (cA x) := hC.1
   obtain ⟨c0, c1, c2, c3, c4, c5, c6, c7, c8, c9, c10, c11, c12, c13, c14⟩ := hR.c15
   clear hC hR
   refine wp_of_quiet rfl ?_
   go_big_quiet_step (fail)
   exact wpQuiet_nil (hK _ _ (rfl) bR)
  case a3 =>
   exact wp_call 45 #[.agg (sA x.st)] (by simp [go_sem]) _ _ (HF.out wq) (fun w' hb => hK _ _ rfl hb)
  case a4 =>
   refine wp_val _ (run_eql_cell_op 72 (.tmp 11) (.tmp 14) rfl x (hf x.st) rfl rfl _ rfl _) ?_
   exact hK _ _ rfl bR
  all_goals (skip; refine wp_of_quiet rfl ?_; go_big_quiet_step (fail); exact wpQuiet_nil (hK _ _ (rfl) bR))
 ·intro f wz hC hv
  simp (disch := decide) only [tkS, tkZ, List.drop_succ_cons, List.drop_zero, setAll, siB, stS, stZ, Nat.zero_add, Nat.reduceAdd, hv]
  clear hv
  have B9 := Box'.mk hC.2
  clear hC
  go_wp2_with fail
  go_ret
  exact ⟨rfl, B9.out⟩
theorem mayF_3 (x : Cl) (hs : mayS x.st = true) (h0 : ¬ (x.wd : Int) = 0) (h1 : ¬ (x.wd : Int) = 1) (h2 : ¬ (x.wd : Int) = 2) (w : World) : Calls Try.prog 34 #[.agg (cA x)] w fun e w' => e = .returned (.bool false) ∧ Below w.heap.size w w' := by
 have MS := Box'.mk (mayStyle_any x.st)
 rw [hs] at MS
 have RX := Box'.mk (Row.new w 72 (cA x))
 have BB := Box'.mk ((Below.refl w.heap.size w).alloc (Nat.le_refl _) (.cells (cA x) 72))
 go_enter Try.func34, Try.ntmps34
 go_upto_region 1 with (fail)
 generalize w.alloc (.cells (cA x) 72) = w1 at *
 obtain ⟨c0, c1, c2, c3, c4, c5, c6, c7, c8, c9, c10, c11, c12, c13, c14⟩ := RX.out.c15
 clear hs
 go_wp2_with fail
 refine (MS.out _).mono ?_
 rintro e w2 ⟨rfl, hb2⟩
 have R2 := Box'.mk (RX.out.below hb2 RX.out.lt)
 have B2 := Box'.mk (BB.out.trans (hb2.mono BB.out.size))
 clear hb2 BB MS RX c0 c1 c2 c3 c4 c5 c6 c7 c8 c9 c10 c11 c12 c13 c14
 have c4 : w2.cell? ⟨w.heap.size, 4, none⟩ = some (.int .u8 (x.wd : Int)) := R2.out.cell 4
 generalize (x.wd : Int) = z at *
 go_wp2_with fail
 go_ret
 exact ⟨rfl, B2.out⟩
theorem mayF_w (x : Cl) (hs : mayS x.st = true) (h0 : (x.wd : Int) = 1 ∨ (x.wd : Int) = 2) (ho : ofF x.ch = (x.wd : Int)) (w : World) : Calls Try.prog 34 #[.agg (cA x)] w fun e w' => e = .returned (.bool (mmL false [x.m0, x.m1, x.m2])) ∧ Below w.heap.size w w' := by
 obtain h0 | h0 := h0
 all_goals (
 have MM := Box'.mk (mayMarksF_any x.m0 x.m1 x.m2)
 have OF := Box'.mk (of_any x.ch)
 rw [ho] at OF
 clear ho
 have H0 := Box'.mk h0
 clear h0
 have MS := Box'.mk (mayStyle_any x.st)
 rw [hs] at MS
 have RX := Box'.mk (Row.new w 72 (cA x))
 have BB := Box'.mk ((Below.refl w.heap.size w).alloc (Nat.le_refl _) (.cells (cA x) 72))
 go_enter Try.func34, Try.ntmps34
 go_upto_region 1 with (fail)
 generalize w.alloc (.cells (cA x) 72) = w1 at *
 obtain ⟨c0, c1, c2, c3, c4, c5, c6, c7, c8, c9, c10, c11, c12, c13, c14⟩ := RX.out.c15
 clear hs
 go_wp2_with fail
 refine (MS.out _).mono ?_
 rintro e w2 ⟨rfl, hb2⟩
 have R2 := Box'.mk (RX.out.below hb2 RX.out.lt)
 have B2 := Box'.mk (BB.out.trans (hb2.mono BB.out.size))
 clear hb2 BB MS RX c0 c1 c2 c3 c4 c5 c6 c7 c8 c9 c10 c11 c12 c13 c14
 have c4 : w2.cell? ⟨w.heap.size, 4, none⟩ = some (.int .u8 (x.wd : Int)) := R2.out.cell 4
 rw [H0.out] at c4
 go_wp2_with fail
 have h0 := H0.out
 refine wp_region_growg 12 (by kernel_rfl) 31 rfl (by kernel_rfl) (fun wa wb => Below wa.heap.size wa wb) (fun wa => Row wa w.heap.size 72 (cA x) ∧ Below w.heap.size w wa) (fun kc wa v => v = (match kc with
  | 0 => .pointer (some ⟨w.heap.size, 0, none⟩)
  | 1 => .int .i32 x.ch
  | 2 => .int .i64 (x.wd : Int)
  | 3 => .pointer (some ⟨w.heap.size, 4, none⟩)
  | 4 => .int .u8 (x.wd : Int)
  | 5 => .int .i64 (x.wd : Int)
  | 6 => .bool true
  | 7 => .bool true
  | 8 => .pointer (some ⟨w.heap.size, 1, none⟩)
  | 9 => .agg #[.int .i32 x.m0, .int .i32 x.m1, .int .i32 x.m2]
  | 10 => .bool (mmL false [x.m0, x.m1, x.m2])
  | 11 => .bool (mmL false [x.m0, x.m1, x.m2])
  | _ => undef)) ?_ ?_ ?_ ?_ ?_ ?_
 ·intro i o' j b' hi hg wa v hC hV
  have hlt : i < 12 := by rcases Nat.lt_or_ge i 12 with q | q; exact q; rw [List.getElem?_eq_none (by simpa using q)] at hi; cases hi
  revert hi hg hV
  rcases (show i = 0 ∨ i = 1 ∨ i = 2 ∨ i = 3 ∨ i = 4 ∨ i = 5 ∨ i = 6 ∨ i = 7 ∨ i = 8 ∨ i = 9 ∨ i = 10 ∨ i = 11 by omega) with rfl | rfl | rfl | rfl | rfl | rfl | rfl | rfl | rfl | rfl | rfl | rfl <;>
   (intro hi hg hV; simp only [tkS, List.getElem?_cons_zero, List.getElem?_cons_succ, Option.some.injEq] at hi; subst hi; first | (cases hg; exact hV) | (cases hg))
 ·rintro wa wb hb ⟨q1, q2⟩; exact ⟨q1.below hb q1.lt, q2.trans (hb.mono q2.size)⟩
 ·exact fun kc v wa wb hC1 hb h => h
 ·exact ⟨R2.out.drew, B2.out.drew⟩
 ·refine ⟨?_, ?_, ?_, ?_, ?_, ?_, ?_, ?_, ?_, ?_, ?_, ?_, trivial⟩
  all_goals intro f wq hC hd KK hK
  all_goals simp (disch := decide +kernel) only [tkS, tkZ, setAll, siB, stS, stZ, Nat.zero_add, Nat.reduceAdd, hd] at hK ⊢
  rotate_left 1
  ·
   have hR : Row wq w.heap.size 72 (cA x) := hC.1
   obtain ⟨c0, c1, c2, c3, c4, c5, c6, c7, c8, c9, c10, c11, c12, c13, c14⟩ := hR.c15
   clear hC hR
   refine wp_of_quiet rfl ?_
   go_big_quiet_step (fail)
   exact wpQuiet_nil (hK _ _ (by first | rfl | (rw [h0]; rfl) | (simp [h0]; done) | (simp; done)) bR)
  ·
   exact wp_call 46 #[.int .i32 x.ch] (by simp [go_sem]) _ _ (OF.out wq) (fun w' hb => hK _ _ rfl hb)
  rotate_left 1
  ·
   have hR : Row wq w.heap.size 72 (cA x) := hC.1
   obtain ⟨c0, c1, c2, c3, c4, c5, c6, c7, c8, c9, c10, c11, c12, c13, c14⟩ := hR.c15
   clear hC hR
   refine wp_of_quiet rfl ?_
   go_big_quiet_step (fail)
   exact wpQuiet_nil (hK _ _ (by first | rfl | (rw [h0]; rfl) | (simp [h0]; done) | (simp; done)) bR)
  rotate_left 4
  ·
   have hR : Row wq w.heap.size 72 (cA x) := hC.1
   obtain ⟨c0, c1, c2, c3, c4, c5, c6, c7, c8, c9, c10, c11, c12, c13, c14⟩ := hR.c15
   clear hC hR
   refine wp_unguard ?_
   refine wp_of_quiet rfl ?_
   go_big_quiet_step (fail)
   exact wpQuiet_nil (hK _ _ (by first | rfl | (rw [h0]; rfl) | (simp [h0]; done) | (simp; done)) bR)
  ·
   refine wp_unguard ?_
   exact wp_call 47 #[.agg #[.int .i32 x.m0, .int .i32 x.m1, .int .i32 x.m2]] (by simp [go_sem]) _ _ (MM.out wq) (fun w' hb => hK _ _ rfl hb)
  all_goals (try refine wp_unguard ?_; refine wp_of_quiet rfl ?_; go_big_quiet_step (fail); exact wpQuiet_nil (hK _ _ (by first | rfl | (rw [h0]; rfl) | (simp [h0]; done) | (simp; assumption) | (simp; omega) | simp) bR))
 ·intro f wz hC hv
  simp (disch := decide) only [tkS, tkZ, List.drop_succ_cons, List.drop_zero, setAll, siB, stS, stZ, Nat.zero_add, Nat.reduceAdd, hv]
  clear hv
  have B9 := Box'.mk hC.2
  clear hC
  go_wp2_with fail
  go_ret
  exact ⟨rfl, B9.out⟩)
theorem mayF_wn (x : Cl) (hs : mayS x.st = true) (h0 : (x.wd : Int) = 1 ∨ (x.wd : Int) = 2) (ho : ¬ ofF x.ch = (x.wd : Int)) (w : World) : Calls Try.prog 34 #[.agg (cA x)] w fun e w' => e = .returned (.bool false) ∧ Below w.heap.size w w' := by
 obtain h0 | h0 := h0
 all_goals (
 have OF := Box'.mk (of_any x.ch)
 have ho1 : (ofF x.ch == (x.wd : Int)) = false := beq_eq_false_iff_ne.2 ho
 generalize ofF x.ch = z at *
 clear ho
 have H0 := Box'.mk h0
 clear h0
 have MS := Box'.mk (mayStyle_any x.st)
 rw [hs] at MS
 have RX := Box'.mk (Row.new w 72 (cA x))
 have BB := Box'.mk ((Below.refl w.heap.size w).alloc (Nat.le_refl _) (.cells (cA x) 72))
 go_enter Try.func34, Try.ntmps34
 go_upto_region 1 with (fail)
 generalize w.alloc (.cells (cA x) 72) = w1 at *
 obtain ⟨c0, c1, c2, c3, c4, c5, c6, c7, c8, c9, c10, c11, c12, c13, c14⟩ := RX.out.c15
 clear hs
 go_wp2_with fail
 refine (MS.out _).mono ?_
 rintro e w2 ⟨rfl, hb2⟩
 have R2 := Box'.mk (RX.out.below hb2 RX.out.lt)
 have B2 := Box'.mk (BB.out.trans (hb2.mono BB.out.size))
 clear hb2 BB MS RX c0 c1 c2 c3 c4 c5 c6 c7 c8 c9 c10 c11 c12 c13 c14
 have c4 : w2.cell? ⟨w.heap.size, 4, none⟩ = some (.int .u8 (x.wd : Int)) := R2.out.cell 4
 rw [H0.out] at c4
 go_wp2_with fail
 have h0 := H0.out
 refine wp_region_growg 8 (by kernel_rfl) 31 rfl (by kernel_rfl) (fun wa wb => Below wa.heap.size wa wb) (fun wa => Row wa w.heap.size 72 (cA x) ∧ Below w.heap.size w wa) (fun kc wa v => v = (match kc with
  | 0 => .pointer (some ⟨w.heap.size, 0, none⟩)
  | 1 => .int .i32 x.ch
  | 2 => .int .i64 z
  | 3 => .pointer (some ⟨w.heap.size, 4, none⟩)
  | 4 => .int .u8 (x.wd : Int)
  | 5 => .int .i64 (x.wd : Int)
  | 6 => .bool false
  | 7 => .bool false
  | _ => undef)) ?_ ?_ ?_ ?_ ?_ ?_
 ·intro i o' j b' hi hg wa v hC hV
  have hlt : i < 8 := by rcases Nat.lt_or_ge i 8 with q | q; exact q; rw [List.getElem?_eq_none (by simpa using q)] at hi; cases hi
  revert hi hg hV
  rcases (show i = 0 ∨ i = 1 ∨ i = 2 ∨ i = 3 ∨ i = 4 ∨ i = 5 ∨ i = 6 ∨ i = 7 by omega) with rfl | rfl | rfl | rfl | rfl | rfl | rfl | rfl <;>
   (intro hi hg hV; simp only [tkS, List.getElem?_cons_zero, List.getElem?_cons_succ, Option.some.injEq] at hi; subst hi; first | (cases hg; exact hV) | (cases hg))
 ·rintro wa wb hb ⟨q1, q2⟩; exact ⟨q1.below hb q1.lt, q2.trans (hb.mono q2.size)⟩
 ·exact fun kc v wa wb hC1 hb h => h
 ·exact ⟨R2.out.drew, B2.out.drew⟩
 ·refine ⟨?_, ?_, ?_, ?_, ?_, ?_, ?_, ?_, trivial⟩
  all_goals intro f wq hC hd KK hK
  all_goals simp (disch := decide +kernel) only [tkS, tkZ, setAll, siB, stS, stZ, Nat.zero_add, Nat.reduceAdd, hd] at hK ⊢
  rotate_left 1
  ·
   have hR : Row wq w.heap.size 72 (cA x) := hC.1
   obtain ⟨c0, c1, c2, c3, c4, c5, c6, c7, c8, c9, c10, c11, c12, c13, c14⟩ := hR.c15
   clear hC hR
   refine wp_of_quiet rfl ?_
   go_big_quiet_step (fail)
   exact wpQuiet_nil (hK _ _ (by first | rfl | (rw [h0]; rfl) | (simp [h0]; done) | (simp; done)) bR)
  ·
   exact wp_call 46 #[.int .i32 x.ch] (by simp [go_sem]) _ _ (OF.out wq) (fun w' hb => hK _ _ rfl hb)
  rotate_left 1
  ·
   have hR : Row wq w.heap.size 72 (cA x) := hC.1
   obtain ⟨c0, c1, c2, c3, c4, c5, c6, c7, c8, c9, c10, c11, c12, c13, c14⟩ := hR.c15
   clear hC hR
   refine wp_of_quiet rfl ?_
   go_big_quiet_step (fail)
   exact wpQuiet_nil (hK _ _ (by first | rfl | (rw [h0]; rfl) | (simp [h0]; done) | (simp; done)) bR)
  rotate_left 1
  ·
   have ho2 := ho1
   refine wp_of_quiet rfl ?_
   go_big_quiet_step (fail)
   exact wpQuiet_nil (hK _ _ (by first | rfl | (simp [ho1]; done) | simpa using ho1 | (simp at ho1 ⊢; first | exact ho1 | omega)) bR)
  all_goals (skip; refine wp_of_quiet rfl ?_; go_big_quiet_step (fail); exact wpQuiet_nil (hK _ _ (by first | rfl | (rw [h0]; rfl) | (simp [h0]; done) | (simp; done)) bR))
 ·intro f wz hC hv
  simp (disch := decide) only [tkS, tkZ, List.drop_succ_cons, List.drop_zero, setAll, siB, stS, stZ, Nat.zero_add, Nat.reduceAdd, hv]
  clear hv
  have B9 := Box'.mk hC.2
  clear hC
  go_wp2_with fail
  go_ret
  exact ⟨rfl, B9.out⟩)
theorem mayF_any (x : Cl) (w : World) : Calls Try.prog 34 #[.agg (cA x)] w fun e w' => e = .returned (.bool (mayC x)) ∧ Below w.heap.size w w' := by
 cases hs : mayS x.st with
 | false =>
  rw [show mayC x = false by unfold mayC; rw [if_pos hs]]
  exact may_no x hs w
 | true =>
  have hs' : ¬ mayS x.st = false := by rw [hs]; simp
  by_cases h0 : x.wd = 0
  ·have e : mayC x = clB x (hf x.st) := by
    unfold mayC
    rw [if_neg hs', if_pos h0]
    obtain ⟨ch, m0, m1, m2, wd, st⟩ := x
    simp only at h0
    subst h0
    by_cases a1 : ch = 0 <;> by_cases a2 : m0 = 0 <;> by_cases a3 : m1 = 0 <;> by_cases a4 : m2 = 0 <;> simp [hf, clB, stB_yes, a1, a2, a3, a4]
   rw [e]
   exact mayF_0 x hs (by rw [h0]; rfl) w
  by_cases h3 : 2 < x.wd
  ·rw [show mayC x = false by unfold mayC; rw [if_neg hs', if_neg h0, if_pos h3]]
   exact mayF_3 x hs (by omega) (by omega) (by omega) w
  have e : mayC x = if ofF x.ch = (x.wd : Int) then mmL false [x.m0, x.m1, x.m2] else false := by unfold mayC; rw [if_neg hs', if_neg h0, if_neg h3]
  have hw : (x.wd : Int) = 1 ∨ (x.wd : Int) = 2 := by omega
  rw [e]
  by_cases ho : ofF x.ch = (x.wd : Int)
  ·rw [if_pos ho]; exact mayF_w x hs hw ho w
  ·rw [if_neg ho]; exact mayF_wn x hs hw ho w
end Go.Proofs.Ytepepoabbbjmgaa.Sc
