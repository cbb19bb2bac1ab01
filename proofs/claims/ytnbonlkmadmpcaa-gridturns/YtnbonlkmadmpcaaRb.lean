/- Cells compared as one; May, of all cells. -/
import Derived.Test.YtnbonlkmadmpcaaRa
namespace Go.Proofs.Ytnbonlkmadmpcaa
open Go.RowKit Go.BigFrame
set_option linter.unusedVariables false
set_option linter.unusedSimpArgs false
theorem eqMs (w : World) (d : Nat) (a b c a' b' c' : Int) : (Op.equalIn (d + 2) 47 (.agg #[.int .i32 a, .int .i32 b, .int .i32 c]) (.agg #[.int .i32 a', .int .i32 b', .int .i32 c'])).run Try.prog w = .ok (decide (a = a' ∧ b = b' ∧ c = c')) w := by
 have h0 : ∀ a b c : Int, (part 21 #[.int .i32 a, .int .i32 b, .int .i32 c] 0).run Try.prog w = .ok (.int .i32 a) w := fun a b c => run_part21 w _ 0 _ rfl
 have h1 : ∀ a b c : Int, (part 21 #[.int .i32 a, .int .i32 b, .int .i32 c] 1).run Try.prog w = .ok (.int .i32 b) w := fun a b c => run_part21 w _ 1 _ rfl
 have h2 : ∀ a b c : Int, (part 21 #[.int .i32 a, .int .i32 b, .int .i32 c] 2).run Try.prog w = .ok (.int .i32 c) w := fun a b c => run_part21 w _ 2 _ rfl
 have e : ∀ x y : Int, (Op.equalIn (d + 1) 21 (.int .i32 x) (.int .i32 y)).run Try.prog w = .ok (x == y) w := fun x y => run_equalIn_int w d 21 .i32 .i32 x y Try.underlying21
 rw [Op.equalIn]
 simp only [Sem.run_bind, run_underlying Try.underlying47, Result.andThen_ok, size21]
 rw [Std.Legacy.Range.forIn_eq_forIn_range']
 have e1 : [:3].size = 3 := by simp [Std.Legacy.Range.size]
 rw [e1]
 by_cases g0 : a = a' <;> by_cases g1 : b = b' <;> by_cases g2 : c = c' <;> simp [List.range', h0, h1, h2, e, g0, g1, g2]
set_option maxRecDepth 100000 in
theorem fields26 : (Try.prog.fieldsOf 49).toList = [⟨"Char", 21, 0, false, "", "", 0⟩, ⟨"Marks", 47, 1, false, "", "", 4⟩, ⟨"Wide", 5, 4, false, "", "", 16⟩, ⟨"Style", 26, 5, false, "", "", 24⟩] := by kernel_rfl
theorem run_part5 (w : World) (c : Array Value) (i : Nat) (v : Value) (hc : c[i]? = some v) : (part 5 c i).run Try.prog w = .ok v w := by
 simp [part, isAgg, underlying, Try.underlying5, hc]
set_option maxRecDepth 100000 in
theorem run_partM (w : World) (x : Cl) : (part 47 (cA x) 1).run Try.prog w = .ok (.agg #[.int .i32 x.m0, .int .i32 x.m1, .int .i32 x.m2]) w := by
 simp [go_sem, part, cA]
set_option maxRecDepth 100000 in
theorem run_partS (w : World) (x : Cl) : (part 26 (cA x) 5).run Try.prog w = .ok (.agg (sA x.st)) w := by
 simp [go_sem, part, cA, sA]
/-- Are two cells the same? -/
def clB (x y : Cl) : Bool := decide (x.ch = y.ch) && (decide (x.m0 = y.m0) && (decide (x.m1 = y.m1) && decide (x.m2 = y.m2))) && decide (x.wd = y.wd) && stB x.st y.st
theorem clB_iff (x y : Cl) : clB x y = true ↔ x = y := by
 cases x; cases y
 simp [clB, stB_iff, and_assoc]
theorem clB_yes {x y : Cl} (h : x = y) : clB x y = true := (clB_iff x y).2 h
theorem clB_no {x y : Cl} (h : ¬ x = y) : clB x y = false := by
 cases e : clB x y with
 | false => rfl
 | true => exact absurd ((clB_iff x y).1 e) h
theorem run_eq_cell (w : World) (d : Nat) (x y : Cl) : (Op.equalIn (d + 4) 49 (.agg (cA x)) (.agg (cA y))).run Try.prog w = .ok (clB x y) w := by
 have i1 : (Op.equalIn (d + 3) 21 (.int .i32 x.ch) (.int .i32 y.ch)).run Try.prog w = .ok (x.ch == y.ch) w := run_equalIn_int w (d + 2) 21 .i32 .i32 x.ch y.ch Try.underlying21
 have i2 := eqMs w (d + 1) x.m0 x.m1 x.m2 y.m0 y.m1 y.m2
 have i3 : (Op.equalIn (d + 3) 5 (.int .u8 (x.wd : Int)) (.int .u8 (y.wd : Int))).run Try.prog w = .ok ((x.wd : Int) == (y.wd : Int)) w := run_equalIn_int w (d + 2) 5 .u8 .u8 _ _ Try.underlying5
 have i4 := run_eq_style w (d + 1) x.st y.st
 have p1 : ∀ z : Cl, (part 21 (cA z) 0).run Try.prog w = .ok (.int .i32 z.ch) w := fun z => run_part21 w (cA z) 0 _ rfl
 have p3 : ∀ z : Cl, (part 5 (cA z) 4).run Try.prog w = .ok (.int .u8 (z.wd : Int)) w := fun z => run_part5 w (cA z) 4 _ rfl
 rw [run_equalIn_struct w (d + 3) 49 _ _ (by kernel_rfl) (by kernel_rfl), fields26]
 simp only [Op.eqFields, Sem.run_bind, p1, p3, run_partM, run_partS, Result.andThen_ok, i1, i2, i3, i4, ne_eq, String.reduceEq, not_false_eq_true, if_true, Sem.run_ite, Sem.run_pure, Bool.not_eq_true']
 have e3 : ((x.wd : Int) == (y.wd : Int)) = decide (x.wd = y.wd) := by
  by_cases h : x.wd = y.wd
  ·rw [h]; simp
  ·rw [beq_eq_false_iff_ne.2 (by omega)]; simp [h]
 rw [e3]
 unfold clB
 by_cases g1 : x.ch = y.ch <;> by_cases g2 : (x.m0 = y.m0 ∧ x.m1 = y.m1 ∧ x.m2 = y.m2) <;> by_cases g3 : x.wd = y.wd <;> cases g4 : stB x.st y.st <;> simp_all
set_option maxRecDepth 100000 in
theorem guard26 : Try.prog.eqGuardType Try.prog.depth 49 = false := by kernel_rfl
theorem run_eql_cell_op {op : Oper} {a : Act} (ty : TypeId) (p q : Operand) (ho : op.op = .binOp .eql 49 p q ty) (x y : Cl) (hx : a.eval p = .agg (cA x)) (hy : a.eval q = .agg (cA y)) (r : Bool) (hr : clB x y = r) (w : World) :
  (execOp a.eval op).run Try.prog w = .ok (.value (.bool r)) w := by
 unfold execOp
 simp only [ho, hx, hy, Sem.run_bind, run_eqGuard_agg w .eql 49 p q (cA x) (cA y) guard26, Result.andThen_ok, run_eql_struct, run_eq_cell w 9996 x y, hr, Sem.run_pure]
theorem run_neq_cell_op {op : Oper} {a : Act} (ty : TypeId) (p q : Operand) (ho : op.op = .binOp .neq 49 p q ty) (x y : Cl) (hx : a.eval p = .agg (cA x)) (hy : a.eval q = .agg (cA y)) (r : Bool) (hr : (!clB x y) = r) (w : World) :
  (execOp a.eval op).run Try.prog w = .ok (.value (.bool r)) w := by
 unfold execOp
 simp only [ho, hx, hy, Sem.run_bind, run_eqGuard_agg w .neq 49 p q (cA x) (cA y) guard26, Result.andThen_ok, run_neq_struct, run_eq_cell w 9996 x y, hr, Sem.run_pure]
set_option maxRecDepth 100000 in
set_option maxHeartbeats 4000000 in
theorem mayF_0 (x : Cl) (hs : mayS x.st = true) (h0 : (x.wd : Int) = 0) (w : World) : Calls Try.prog 50 #[.agg (cA x)] w fun e w' => e = .returned (.bool (clB x (hf x.st))) ∧ Below w.heap.size w w' := by
 have HF := Box'.mk (half_any x.st)
 have H0 := Box'.mk h0
 clear h0
 have MS := Box'.mk (mayStyle_any x.st)
 rw [hs] at MS
 have RX := Box'.mk (Row.new w 49 (cA x))
 have BB := Box'.mk ((Below.refl w.heap.size w).alloc (Nat.le_refl _) (.cells (cA x) 49))
 go_enter Try.func50, Try.ntmps50
 go_upto_region 1 with (fail)
 generalize w.alloc (.cells (cA x) 49) = w1 at *
 have c0 : w1.cell? ⟨w.heap.size, 0, none⟩ = some (.int .i32 x.ch) := RX.out.cell 0
 have c1 : w1.cell? ⟨w.heap.size, 1, none⟩ = some (.int .i32 x.m0) := RX.out.cell 1
 have c2 : w1.cell? ⟨w.heap.size, 2, none⟩ = some (.int .i32 x.m1) := RX.out.cell 2
 have c3 : w1.cell? ⟨w.heap.size, 3, none⟩ = some (.int .i32 x.m2) := RX.out.cell 3
 have c4 : w1.cell? ⟨w.heap.size, 4, none⟩ = some (.int .u8 (x.wd : Int)) := RX.out.cell 4
 have c5 : w1.cell? ⟨w.heap.size, 5, none⟩ = some (.int .i64 x.st.fg) := RX.out.cell 5
 have c6 : w1.cell? ⟨w.heap.size, 6, none⟩ = some (.int .i64 x.st.bg) := RX.out.cell 6
 have c7 : w1.cell? ⟨w.heap.size, 7, none⟩ = some (.bool x.st.b1) := RX.out.cell 7
 have c8 : w1.cell? ⟨w.heap.size, 8, none⟩ = some (.bool x.st.b2) := RX.out.cell 8
 have c9 : w1.cell? ⟨w.heap.size, 9, none⟩ = some (.bool x.st.b3) := RX.out.cell 9
 have c10 : w1.cell? ⟨w.heap.size, 10, none⟩ = some (.bool x.st.b4) := RX.out.cell 10
 have c11 : w1.cell? ⟨w.heap.size, 11, none⟩ = some (.bool x.st.b5) := RX.out.cell 11
 have c12 : w1.cell? ⟨w.heap.size, 12, none⟩ = some (.bool x.st.b7) := RX.out.cell 12
 have c13 : w1.cell? ⟨w.heap.size, 13, none⟩ = some (.bool x.st.b8) := RX.out.cell 13
 have c14 : w1.cell? ⟨w.heap.size, 14, none⟩ = some (.bool x.st.b9) := RX.out.cell 14
 clear hs
 go_wp2_with fail
 refine (MS.out _).mono ?_
 rintro e w2 ⟨rfl, hb2⟩
 have R2 := Box'.mk (RX.out.below hb2 RX.out.lt)
 have B2 := Box'.mk (BB.out.trans (hb2.mono BB.out.size))
 clear hb2 BB MS RX c0 c1 c2 c3 c4 c5 c6 c7 c8 c9 c10 c11 c12 c13 c14
 have c4 : w2.cell? ⟨w.heap.size, 4, none⟩ = some (.int .u8 (x.wd : Int)) := R2.out.cell 4
 rw [H0.out] at c4
 go_wp2_with fail
 refine wp_region_growg 5 (by kernel_rfl) 31 rfl (by kernel_rfl) (fun wa wb => Below wa.heap.size wa wb) (fun wa => Row wa w.heap.size 49 (cA x) ∧ Below w.heap.size w wa) (fun kc wa v => match kc with
  | 0 => v = .agg (cA x)
  | 1 => v = .pointer (some ⟨w.heap.size, 5, none⟩)
  | 2 => v = .agg (sA x.st)
  | 3 => v = .agg (cA (hf x.st))
  | 4 => v = .bool (clB x (hf x.st))
  | _ => True) ?_ ?_ ?_ ?_ ?_ ?_
 ·intro i o' j b' hi hg wa v hC hV
  have hlt : i < 5 := by rcases Nat.lt_or_ge i 5 with q | q; exact q; rw [List.getElem?_eq_none (by simpa using q)] at hi; cases hi
  revert hi hg hV
  rcases (show i = 0 ∨ i = 1 ∨ i = 2 ∨ i = 3 ∨ i = 4 by omega) with rfl | rfl | rfl | rfl | rfl <;>
   (intro hi hg hV; simp only [tkS, List.getElem?_cons_zero, List.getElem?_cons_succ, Option.some.injEq] at hi; subst hi; first | (cases hg; exact hV) | (cases hg))
 ·rintro wa wb hb ⟨q1, q2⟩; exact ⟨q1.below hb q1.lt, q2.trans (hb.mono q2.size)⟩
 ·intro kc v wa wb hC1 hb h
  match kc, h with
  | 0, h => exact h
  | 1, h => exact h
  | 2, h => exact h
  | 3, h => exact h
  | 4, h => exact h
  | kc + 5, h => trivial
 ·exact ⟨R2.out.drew, B2.out.drew⟩
 ·refine ⟨?_, ?_, ?_, ?_, ?_, trivial⟩
  ·intro f wq hC hd KK hK
   clear hd
   have hR : Row wq w.heap.size 49 (cA x) := hC.1
   have c0 : wq.cell? ⟨w.heap.size, 0, none⟩ = some (.int .i32 x.ch) := hR.cell 0
   have c1 : wq.cell? ⟨w.heap.size, 1, none⟩ = some (.int .i32 x.m0) := hR.cell 1
   have c2 : wq.cell? ⟨w.heap.size, 2, none⟩ = some (.int .i32 x.m1) := hR.cell 2
   have c3 : wq.cell? ⟨w.heap.size, 3, none⟩ = some (.int .i32 x.m2) := hR.cell 3
   have c4 : wq.cell? ⟨w.heap.size, 4, none⟩ = some (.int .u8 (x.wd : Int)) := hR.cell 4
   have c5 : wq.cell? ⟨w.heap.size, 5, none⟩ = some (.int .i64 x.st.fg) := hR.cell 5
   have c6 : wq.cell? ⟨w.heap.size, 6, none⟩ = some (.int .i64 x.st.bg) := hR.cell 6
   have c7 : wq.cell? ⟨w.heap.size, 7, none⟩ = some (.bool x.st.b1) := hR.cell 7
   have c8 : wq.cell? ⟨w.heap.size, 8, none⟩ = some (.bool x.st.b2) := hR.cell 8
   have c9 : wq.cell? ⟨w.heap.size, 9, none⟩ = some (.bool x.st.b3) := hR.cell 9
   have c10 : wq.cell? ⟨w.heap.size, 10, none⟩ = some (.bool x.st.b4) := hR.cell 10
   have c11 : wq.cell? ⟨w.heap.size, 11, none⟩ = some (.bool x.st.b5) := hR.cell 11
   have c12 : wq.cell? ⟨w.heap.size, 12, none⟩ = some (.bool x.st.b7) := hR.cell 12
   have c13 : wq.cell? ⟨w.heap.size, 13, none⟩ = some (.bool x.st.b8) := hR.cell 13
   have c14 : wq.cell? ⟨w.heap.size, 14, none⟩ = some (.bool x.st.b9) := hR.cell 14
   clear hC hR
   simp only [tkS, tkZ, setAll, siB, stS, stZ, Nat.zero_add, Nat.reduceAdd] at hK ⊢
   refine wp_of_quiet rfl ?_
   go_big_quiet_step (fail)
   exact wpQuiet_nil (hK _ _ (rfl) bR)
  ·intro f wq hC hd KK hK
   clear hd
   simp only [tkS, tkZ, setAll, siB, stS, stZ, Nat.zero_add, Nat.reduceAdd] at hK ⊢
   refine wp_of_quiet rfl ?_
   go_big_quiet_step (fail)
   exact wpQuiet_nil (hK _ _ (rfl) bR)
  ·intro f wq hC hd KK hK
   have g1 : f 1 = .pointer (some ⟨w.heap.size, 5, none⟩) := hd 1 (by kernel_rfl)
   clear hd
   have hR : Row wq w.heap.size 49 (cA x) := hC.1
   have c0 : wq.cell? ⟨w.heap.size, 0, none⟩ = some (.int .i32 x.ch) := hR.cell 0
   have c1 : wq.cell? ⟨w.heap.size, 1, none⟩ = some (.int .i32 x.m0) := hR.cell 1
   have c2 : wq.cell? ⟨w.heap.size, 2, none⟩ = some (.int .i32 x.m1) := hR.cell 2
   have c3 : wq.cell? ⟨w.heap.size, 3, none⟩ = some (.int .i32 x.m2) := hR.cell 3
   have c4 : wq.cell? ⟨w.heap.size, 4, none⟩ = some (.int .u8 (x.wd : Int)) := hR.cell 4
   have c5 : wq.cell? ⟨w.heap.size, 5, none⟩ = some (.int .i64 x.st.fg) := hR.cell 5
   have c6 : wq.cell? ⟨w.heap.size, 6, none⟩ = some (.int .i64 x.st.bg) := hR.cell 6
   have c7 : wq.cell? ⟨w.heap.size, 7, none⟩ = some (.bool x.st.b1) := hR.cell 7
   have c8 : wq.cell? ⟨w.heap.size, 8, none⟩ = some (.bool x.st.b2) := hR.cell 8
   have c9 : wq.cell? ⟨w.heap.size, 9, none⟩ = some (.bool x.st.b3) := hR.cell 9
   have c10 : wq.cell? ⟨w.heap.size, 10, none⟩ = some (.bool x.st.b4) := hR.cell 10
   have c11 : wq.cell? ⟨w.heap.size, 11, none⟩ = some (.bool x.st.b5) := hR.cell 11
   have c12 : wq.cell? ⟨w.heap.size, 12, none⟩ = some (.bool x.st.b7) := hR.cell 12
   have c13 : wq.cell? ⟨w.heap.size, 13, none⟩ = some (.bool x.st.b8) := hR.cell 13
   have c14 : wq.cell? ⟨w.heap.size, 14, none⟩ = some (.bool x.st.b9) := hR.cell 14
   clear hC hR
   simp only [tkS, tkZ, setAll, siB, stS, stZ, Nat.zero_add, Nat.reduceAdd, g1] at hK ⊢
   refine wp_of_quiet rfl ?_
   go_big_quiet_step (fail)
   exact wpQuiet_nil (hK _ _ (rfl) bR)
  ·intro f wq hC hd KK hK
   have g2 : f 2 = .agg (sA x.st) := hd 2 (by kernel_rfl)
   clear hd
   simp only [tkS, tkZ, setAll, siB, stS, stZ, Nat.zero_add, Nat.reduceAdd, g2] at hK ⊢
   exact wp_call 56 #[.agg (sA x.st)] (by simp [go_sem]) _ _ (HF.out wq) (fun w' hb => hK _ _ rfl hb)
  ·intro f wq hC hd KK hK
   have g0 : f 0 = .agg (cA x) := hd 0 (by kernel_rfl)
   have g3 : f 3 = .agg (cA (hf x.st)) := hd 3 (by kernel_rfl)
   clear hd
   simp only [tkS, tkZ, setAll, siB, stS, stZ, Nat.zero_add, Nat.reduceAdd, g0, g3] at hK ⊢
   refine wp_val _ (run_eql_cell_op 49 (.tmp 11) (.tmp 14) rfl x (hf x.st) rfl rfl _ rfl _) ?_
   exact hK _ _ rfl bR
 ·intro f wz hC hv
  have p0 : f 0 = .agg (cA x) := hv 0 (by decide)
  have p1 : f 1 = .pointer (some ⟨w.heap.size, 5, none⟩) := hv 1 (by decide)
  have p2 : f 2 = .agg (sA x.st) := hv 2 (by decide)
  have p3 : f 3 = .agg (cA (hf x.st)) := hv 3 (by decide)
  have p4 : f 4 = .bool (clB x (hf x.st)) := hv 4 (by decide)
  simp only [tkS, tkZ, List.drop_succ_cons, List.drop_zero, setAll, siB, stS, stZ, Nat.zero_add, Nat.reduceAdd, p0, p1, p2, p3, p4]
  clear hv p0 p1 p2 p3 p4
  have B9 := Box'.mk hC.2
  clear hC
  go_wp2_with fail
  go_ret
  exact ⟨rfl, B9.out⟩
set_option maxRecDepth 100000 in
set_option maxHeartbeats 4000000 in
theorem mayF_3 (x : Cl) (hs : mayS x.st = true) (h0 : ¬ (x.wd : Int) = 0) (h1 : ¬ (x.wd : Int) = 1) (h2 : ¬ (x.wd : Int) = 2) (w : World) : Calls Try.prog 50 #[.agg (cA x)] w fun e w' => e = .returned (.bool false) ∧ Below w.heap.size w w' := by
 have MS := Box'.mk (mayStyle_any x.st)
 rw [hs] at MS
 have RX := Box'.mk (Row.new w 49 (cA x))
 have BB := Box'.mk ((Below.refl w.heap.size w).alloc (Nat.le_refl _) (.cells (cA x) 49))
 go_enter Try.func50, Try.ntmps50
 go_upto_region 1 with (fail)
 generalize w.alloc (.cells (cA x) 49) = w1 at *
 have c0 : w1.cell? ⟨w.heap.size, 0, none⟩ = some (.int .i32 x.ch) := RX.out.cell 0
 have c1 : w1.cell? ⟨w.heap.size, 1, none⟩ = some (.int .i32 x.m0) := RX.out.cell 1
 have c2 : w1.cell? ⟨w.heap.size, 2, none⟩ = some (.int .i32 x.m1) := RX.out.cell 2
 have c3 : w1.cell? ⟨w.heap.size, 3, none⟩ = some (.int .i32 x.m2) := RX.out.cell 3
 have c4 : w1.cell? ⟨w.heap.size, 4, none⟩ = some (.int .u8 (x.wd : Int)) := RX.out.cell 4
 have c5 : w1.cell? ⟨w.heap.size, 5, none⟩ = some (.int .i64 x.st.fg) := RX.out.cell 5
 have c6 : w1.cell? ⟨w.heap.size, 6, none⟩ = some (.int .i64 x.st.bg) := RX.out.cell 6
 have c7 : w1.cell? ⟨w.heap.size, 7, none⟩ = some (.bool x.st.b1) := RX.out.cell 7
 have c8 : w1.cell? ⟨w.heap.size, 8, none⟩ = some (.bool x.st.b2) := RX.out.cell 8
 have c9 : w1.cell? ⟨w.heap.size, 9, none⟩ = some (.bool x.st.b3) := RX.out.cell 9
 have c10 : w1.cell? ⟨w.heap.size, 10, none⟩ = some (.bool x.st.b4) := RX.out.cell 10
 have c11 : w1.cell? ⟨w.heap.size, 11, none⟩ = some (.bool x.st.b5) := RX.out.cell 11
 have c12 : w1.cell? ⟨w.heap.size, 12, none⟩ = some (.bool x.st.b7) := RX.out.cell 12
 have c13 : w1.cell? ⟨w.heap.size, 13, none⟩ = some (.bool x.st.b8) := RX.out.cell 13
 have c14 : w1.cell? ⟨w.heap.size, 14, none⟩ = some (.bool x.st.b9) := RX.out.cell 14
 clear hs
 go_wp2_with fail
 refine (MS.out _).mono ?_
 rintro e w2 ⟨rfl, hb2⟩
 have R2 := Box'.mk (RX.out.below hb2 RX.out.lt)
 have B2 := Box'.mk (BB.out.trans (hb2.mono BB.out.size))
 clear hb2 BB MS RX c0 c1 c2 c3 c4 c5 c6 c7 c8 c9 c10 c11 c12 c13 c14
 have c4 : w2.cell? ⟨w.heap.size, 4, none⟩ = some (.int .u8 (x.wd : Int)) := R2.out.cell 4
 generalize (x.wd : Int) = z at *
 go_wp2_with fail
 go_ret
 exact ⟨rfl, B2.out⟩
set_option maxRecDepth 100000 in
set_option maxHeartbeats 4000000 in
theorem mayF_1 (x : Cl) (hs : mayS x.st = true) (h0 : (x.wd : Int) = 1) (ho : ofF x.ch = 1) (w : World) : Calls Try.prog 50 #[.agg (cA x)] w fun e w' => e = .returned (.bool (mmL false [x.m0, x.m1, x.m2])) ∧ Below w.heap.size w w' := by
 have MM := Box'.mk (mayMarksF_any x.m0 x.m1 x.m2)
 have OF := Box'.mk (of_any x.ch)
 rw [ho] at OF
 clear ho
 have H0 := Box'.mk h0
 clear h0
 have MS := Box'.mk (mayStyle_any x.st)
 rw [hs] at MS
 have RX := Box'.mk (Row.new w 49 (cA x))
 have BB := Box'.mk ((Below.refl w.heap.size w).alloc (Nat.le_refl _) (.cells (cA x) 49))
 go_enter Try.func50, Try.ntmps50
 go_upto_region 1 with (fail)
 generalize w.alloc (.cells (cA x) 49) = w1 at *
 have c0 : w1.cell? ⟨w.heap.size, 0, none⟩ = some (.int .i32 x.ch) := RX.out.cell 0
 have c1 : w1.cell? ⟨w.heap.size, 1, none⟩ = some (.int .i32 x.m0) := RX.out.cell 1
 have c2 : w1.cell? ⟨w.heap.size, 2, none⟩ = some (.int .i32 x.m1) := RX.out.cell 2
 have c3 : w1.cell? ⟨w.heap.size, 3, none⟩ = some (.int .i32 x.m2) := RX.out.cell 3
 have c4 : w1.cell? ⟨w.heap.size, 4, none⟩ = some (.int .u8 (x.wd : Int)) := RX.out.cell 4
 have c5 : w1.cell? ⟨w.heap.size, 5, none⟩ = some (.int .i64 x.st.fg) := RX.out.cell 5
 have c6 : w1.cell? ⟨w.heap.size, 6, none⟩ = some (.int .i64 x.st.bg) := RX.out.cell 6
 have c7 : w1.cell? ⟨w.heap.size, 7, none⟩ = some (.bool x.st.b1) := RX.out.cell 7
 have c8 : w1.cell? ⟨w.heap.size, 8, none⟩ = some (.bool x.st.b2) := RX.out.cell 8
 have c9 : w1.cell? ⟨w.heap.size, 9, none⟩ = some (.bool x.st.b3) := RX.out.cell 9
 have c10 : w1.cell? ⟨w.heap.size, 10, none⟩ = some (.bool x.st.b4) := RX.out.cell 10
 have c11 : w1.cell? ⟨w.heap.size, 11, none⟩ = some (.bool x.st.b5) := RX.out.cell 11
 have c12 : w1.cell? ⟨w.heap.size, 12, none⟩ = some (.bool x.st.b7) := RX.out.cell 12
 have c13 : w1.cell? ⟨w.heap.size, 13, none⟩ = some (.bool x.st.b8) := RX.out.cell 13
 have c14 : w1.cell? ⟨w.heap.size, 14, none⟩ = some (.bool x.st.b9) := RX.out.cell 14
 clear hs
 go_wp2_with fail
 refine (MS.out _).mono ?_
 rintro e w2 ⟨rfl, hb2⟩
 have R2 := Box'.mk (RX.out.below hb2 RX.out.lt)
 have B2 := Box'.mk (BB.out.trans (hb2.mono BB.out.size))
 clear hb2 BB MS RX c0 c1 c2 c3 c4 c5 c6 c7 c8 c9 c10 c11 c12 c13 c14
 have c4 : w2.cell? ⟨w.heap.size, 4, none⟩ = some (.int .u8 (x.wd : Int)) := R2.out.cell 4
 rw [H0.out] at c4
 go_wp2_with fail
 have h0 := H0.out
 refine wp_region_growg 12 (by kernel_rfl) 31 rfl (by kernel_rfl) (fun wa wb => Below wa.heap.size wa wb) (fun wa => Row wa w.heap.size 49 (cA x) ∧ Below w.heap.size w wa) (fun kc wa v => match kc with
  | 0 => v = .pointer (some ⟨w.heap.size, 0, none⟩)
  | 1 => v = .int .i32 x.ch
  | 2 => v = .int .i64 1
  | 3 => v = .pointer (some ⟨w.heap.size, 4, none⟩)
  | 4 => v = .int .u8 1
  | 5 => v = .int .i64 1
  | 6 => v = .bool true
  | 7 => v = .bool true
  | 8 => v = .pointer (some ⟨w.heap.size, 1, none⟩)
  | 9 => v = .agg #[.int .i32 x.m0, .int .i32 x.m1, .int .i32 x.m2]
  | 10 => v = .bool (mmL false [x.m0, x.m1, x.m2])
  | 11 => v = .bool (mmL false [x.m0, x.m1, x.m2])
  | _ => True) ?_ ?_ ?_ ?_ ?_ ?_
 ·intro i o' j b' hi hg wa v hC hV
  have hlt : i < 12 := by rcases Nat.lt_or_ge i 12 with q | q; exact q; rw [List.getElem?_eq_none (by simpa using q)] at hi; cases hi
  revert hi hg hV
  rcases (show i = 0 ∨ i = 1 ∨ i = 2 ∨ i = 3 ∨ i = 4 ∨ i = 5 ∨ i = 6 ∨ i = 7 ∨ i = 8 ∨ i = 9 ∨ i = 10 ∨ i = 11 by omega) with rfl | rfl | rfl | rfl | rfl | rfl | rfl | rfl | rfl | rfl | rfl | rfl <;>
   (intro hi hg hV; simp only [tkS, List.getElem?_cons_zero, List.getElem?_cons_succ, Option.some.injEq] at hi; subst hi; first | (cases hg; exact hV) | (cases hg))
 ·rintro wa wb hb ⟨q1, q2⟩; exact ⟨q1.below hb q1.lt, q2.trans (hb.mono q2.size)⟩
 ·intro kc v wa wb hC1 hb h
  match kc, h with
  | 0, h => exact h
  | 1, h => exact h
  | 2, h => exact h
  | 3, h => exact h
  | 4, h => exact h
  | 5, h => exact h
  | 6, h => exact h
  | 7, h => exact h
  | 8, h => exact h
  | 9, h => exact h
  | 10, h => exact h
  | 11, h => exact h
  | kc + 12, h => trivial
 ·exact ⟨R2.out.drew, B2.out.drew⟩
 ·refine ⟨?_, ?_, ?_, ?_, ?_, ?_, ?_, ?_, ?_, ?_, ?_, ?_, trivial⟩
  ·intro f wq hC hd KK hK
   clear hd
   simp only [tkS, tkZ, setAll, siB, stS, stZ, Nat.zero_add, Nat.reduceAdd] at hK ⊢
   refine wp_of_quiet rfl ?_
   go_big_quiet_step (fail)
   exact wpQuiet_nil (hK _ _ (rfl) bR)
  ·intro f wq hC hd KK hK
   have g0 : f 0 = .pointer (some ⟨w.heap.size, 0, none⟩) := hd 0 (by kernel_rfl)
   clear hd
   have hR : Row wq w.heap.size 49 (cA x) := hC.1
   have c0 : wq.cell? ⟨w.heap.size, 0, none⟩ = some (.int .i32 x.ch) := hR.cell 0
   have c1 : wq.cell? ⟨w.heap.size, 1, none⟩ = some (.int .i32 x.m0) := hR.cell 1
   have c2 : wq.cell? ⟨w.heap.size, 2, none⟩ = some (.int .i32 x.m1) := hR.cell 2
   have c3 : wq.cell? ⟨w.heap.size, 3, none⟩ = some (.int .i32 x.m2) := hR.cell 3
   have c4 : wq.cell? ⟨w.heap.size, 4, none⟩ = some (.int .u8 1) := h0 ▸ hR.cell 4
   have c5 : wq.cell? ⟨w.heap.size, 5, none⟩ = some (.int .i64 x.st.fg) := hR.cell 5
   have c6 : wq.cell? ⟨w.heap.size, 6, none⟩ = some (.int .i64 x.st.bg) := hR.cell 6
   have c7 : wq.cell? ⟨w.heap.size, 7, none⟩ = some (.bool x.st.b1) := hR.cell 7
   have c8 : wq.cell? ⟨w.heap.size, 8, none⟩ = some (.bool x.st.b2) := hR.cell 8
   have c9 : wq.cell? ⟨w.heap.size, 9, none⟩ = some (.bool x.st.b3) := hR.cell 9
   have c10 : wq.cell? ⟨w.heap.size, 10, none⟩ = some (.bool x.st.b4) := hR.cell 10
   have c11 : wq.cell? ⟨w.heap.size, 11, none⟩ = some (.bool x.st.b5) := hR.cell 11
   have c12 : wq.cell? ⟨w.heap.size, 12, none⟩ = some (.bool x.st.b7) := hR.cell 12
   have c13 : wq.cell? ⟨w.heap.size, 13, none⟩ = some (.bool x.st.b8) := hR.cell 13
   have c14 : wq.cell? ⟨w.heap.size, 14, none⟩ = some (.bool x.st.b9) := hR.cell 14
   clear hC hR
   simp only [tkS, tkZ, setAll, siB, stS, stZ, Nat.zero_add, Nat.reduceAdd, g0] at hK ⊢
   refine wp_of_quiet rfl ?_
   go_big_quiet_step (fail)
   exact wpQuiet_nil (hK _ _ (rfl) bR)
  ·intro f wq hC hd KK hK
   have g1 : f 1 = .int .i32 x.ch := hd 1 (by kernel_rfl)
   clear hd
   simp only [tkS, tkZ, setAll, siB, stS, stZ, Nat.zero_add, Nat.reduceAdd, g1] at hK ⊢
   exact wp_call 57 #[.int .i32 x.ch] (by simp [go_sem]) _ _ (OF.out wq) (fun w' hb => hK _ _ rfl hb)
  ·intro f wq hC hd KK hK
   clear hd
   simp only [tkS, tkZ, setAll, siB, stS, stZ, Nat.zero_add, Nat.reduceAdd] at hK ⊢
   refine wp_of_quiet rfl ?_
   go_big_quiet_step (fail)
   exact wpQuiet_nil (hK _ _ (rfl) bR)
  ·intro f wq hC hd KK hK
   have g3 : f 3 = .pointer (some ⟨w.heap.size, 4, none⟩) := hd 3 (by kernel_rfl)
   clear hd
   have hR : Row wq w.heap.size 49 (cA x) := hC.1
   have c0 : wq.cell? ⟨w.heap.size, 0, none⟩ = some (.int .i32 x.ch) := hR.cell 0
   have c1 : wq.cell? ⟨w.heap.size, 1, none⟩ = some (.int .i32 x.m0) := hR.cell 1
   have c2 : wq.cell? ⟨w.heap.size, 2, none⟩ = some (.int .i32 x.m1) := hR.cell 2
   have c3 : wq.cell? ⟨w.heap.size, 3, none⟩ = some (.int .i32 x.m2) := hR.cell 3
   have c4 : wq.cell? ⟨w.heap.size, 4, none⟩ = some (.int .u8 1) := h0 ▸ hR.cell 4
   have c5 : wq.cell? ⟨w.heap.size, 5, none⟩ = some (.int .i64 x.st.fg) := hR.cell 5
   have c6 : wq.cell? ⟨w.heap.size, 6, none⟩ = some (.int .i64 x.st.bg) := hR.cell 6
   have c7 : wq.cell? ⟨w.heap.size, 7, none⟩ = some (.bool x.st.b1) := hR.cell 7
   have c8 : wq.cell? ⟨w.heap.size, 8, none⟩ = some (.bool x.st.b2) := hR.cell 8
   have c9 : wq.cell? ⟨w.heap.size, 9, none⟩ = some (.bool x.st.b3) := hR.cell 9
   have c10 : wq.cell? ⟨w.heap.size, 10, none⟩ = some (.bool x.st.b4) := hR.cell 10
   have c11 : wq.cell? ⟨w.heap.size, 11, none⟩ = some (.bool x.st.b5) := hR.cell 11
   have c12 : wq.cell? ⟨w.heap.size, 12, none⟩ = some (.bool x.st.b7) := hR.cell 12
   have c13 : wq.cell? ⟨w.heap.size, 13, none⟩ = some (.bool x.st.b8) := hR.cell 13
   have c14 : wq.cell? ⟨w.heap.size, 14, none⟩ = some (.bool x.st.b9) := hR.cell 14
   clear hC hR
   simp only [tkS, tkZ, setAll, siB, stS, stZ, Nat.zero_add, Nat.reduceAdd, g3] at hK ⊢
   refine wp_of_quiet rfl ?_
   go_big_quiet_step (fail)
   exact wpQuiet_nil (hK _ _ (rfl) bR)
  ·intro f wq hC hd KK hK
   have g4 : f 4 = .int .u8 1 := hd 4 (by kernel_rfl)
   clear hd
   simp only [tkS, tkZ, setAll, siB, stS, stZ, Nat.zero_add, Nat.reduceAdd, g4] at hK ⊢
   refine wp_of_quiet rfl ?_
   go_big_quiet_step (fail)
   exact wpQuiet_nil (hK _ _ (rfl) bR)
  ·intro f wq hC hd KK hK
   have g2 : f 2 = .int .i64 1 := hd 2 (by kernel_rfl)
   have g5 : f 5 = .int .i64 1 := hd 5 (by kernel_rfl)
   clear hd
   simp only [tkS, tkZ, setAll, siB, stS, stZ, Nat.zero_add, Nat.reduceAdd, g2, g5] at hK ⊢
   refine wp_of_quiet rfl ?_
   go_big_quiet_step (fail)
   exact wpQuiet_nil (hK _ _ (by first | rfl | simp) bR)
  ·intro f wq hC hd KK hK
   have g6 : f 6 = .bool true := hd 6 (by kernel_rfl)
   clear hd
   simp only [tkS, tkZ, setAll, siB, stS, stZ, Nat.zero_add, Nat.reduceAdd, g6] at hK ⊢
   refine wp_of_quiet rfl ?_
   go_big_quiet_step (fail)
   exact wpQuiet_nil (hK _ _ (rfl) bR)
  ·intro f wq hC hd KK hK
   clear hd
   simp only [tkS, tkZ, setAll, siB, stS, stZ, Nat.zero_add, Nat.reduceAdd] at hK ⊢
   refine wp_unguard ?_
   refine wp_of_quiet rfl ?_
   go_big_quiet_step (fail)
   exact wpQuiet_nil (hK _ _ (rfl) bR)
  ·intro f wq hC hd KK hK
   have g8 : f 8 = .pointer (some ⟨w.heap.size, 1, none⟩) := hd 8 (by kernel_rfl)
   clear hd
   have hR : Row wq w.heap.size 49 (cA x) := hC.1
   have c0 : wq.cell? ⟨w.heap.size, 0, none⟩ = some (.int .i32 x.ch) := hR.cell 0
   have c1 : wq.cell? ⟨w.heap.size, 1, none⟩ = some (.int .i32 x.m0) := hR.cell 1
   have c2 : wq.cell? ⟨w.heap.size, 2, none⟩ = some (.int .i32 x.m1) := hR.cell 2
   have c3 : wq.cell? ⟨w.heap.size, 3, none⟩ = some (.int .i32 x.m2) := hR.cell 3
   have c4 : wq.cell? ⟨w.heap.size, 4, none⟩ = some (.int .u8 1) := h0 ▸ hR.cell 4
   have c5 : wq.cell? ⟨w.heap.size, 5, none⟩ = some (.int .i64 x.st.fg) := hR.cell 5
   have c6 : wq.cell? ⟨w.heap.size, 6, none⟩ = some (.int .i64 x.st.bg) := hR.cell 6
   have c7 : wq.cell? ⟨w.heap.size, 7, none⟩ = some (.bool x.st.b1) := hR.cell 7
   have c8 : wq.cell? ⟨w.heap.size, 8, none⟩ = some (.bool x.st.b2) := hR.cell 8
   have c9 : wq.cell? ⟨w.heap.size, 9, none⟩ = some (.bool x.st.b3) := hR.cell 9
   have c10 : wq.cell? ⟨w.heap.size, 10, none⟩ = some (.bool x.st.b4) := hR.cell 10
   have c11 : wq.cell? ⟨w.heap.size, 11, none⟩ = some (.bool x.st.b5) := hR.cell 11
   have c12 : wq.cell? ⟨w.heap.size, 12, none⟩ = some (.bool x.st.b7) := hR.cell 12
   have c13 : wq.cell? ⟨w.heap.size, 13, none⟩ = some (.bool x.st.b8) := hR.cell 13
   have c14 : wq.cell? ⟨w.heap.size, 14, none⟩ = some (.bool x.st.b9) := hR.cell 14
   clear hC hR
   simp only [tkS, tkZ, setAll, siB, stS, stZ, Nat.zero_add, Nat.reduceAdd, g8] at hK ⊢
   refine wp_unguard ?_
   refine wp_of_quiet rfl ?_
   go_big_quiet_step (fail)
   exact wpQuiet_nil (hK _ _ (rfl) bR)
  ·intro f wq hC hd KK hK
   have g9 : f 9 = .agg #[.int .i32 x.m0, .int .i32 x.m1, .int .i32 x.m2] := hd 9 (by kernel_rfl)
   clear hd
   simp only [tkS, tkZ, setAll, siB, stS, stZ, Nat.zero_add, Nat.reduceAdd, g9] at hK ⊢
   refine wp_unguard ?_
   exact wp_call 58 #[.agg #[.int .i32 x.m0, .int .i32 x.m1, .int .i32 x.m2]] (by simp [go_sem]) _ _ (MM.out wq) (fun w' hb => hK _ _ rfl hb)
  ·intro f wq hC hd KK hK
   have g7 : f 7 = .bool true := hd 7 (by kernel_rfl)
   have g10 : f 10 = .bool (mmL false [x.m0, x.m1, x.m2]) := hd 10 (by kernel_rfl)
   clear hd
   simp only [tkS, tkZ, setAll, siB, stS, stZ, Nat.zero_add, Nat.reduceAdd, g7, g10] at hK ⊢
   refine wp_of_quiet rfl ?_
   go_big_quiet_step (fail)
   exact wpQuiet_nil (hK _ _ (by first | rfl | simp) bR)
 ·intro f wz hC hv
  have p0 : f 0 = .pointer (some ⟨w.heap.size, 0, none⟩) := hv 0 (by decide)
  have p1 : f 1 = .int .i32 x.ch := hv 1 (by decide)
  have p2 : f 2 = .int .i64 1 := hv 2 (by decide)
  have p3 : f 3 = .pointer (some ⟨w.heap.size, 4, none⟩) := hv 3 (by decide)
  have p4 : f 4 = .int .u8 1 := hv 4 (by decide)
  have p5 : f 5 = .int .i64 1 := hv 5 (by decide)
  have p6 : f 6 = .bool true := hv 6 (by decide)
  have p7 : f 7 = .bool true := hv 7 (by decide)
  have p8 : f 8 = .pointer (some ⟨w.heap.size, 1, none⟩) := hv 8 (by decide)
  have p9 : f 9 = .agg #[.int .i32 x.m0, .int .i32 x.m1, .int .i32 x.m2] := hv 9 (by decide)
  have p10 : f 10 = .bool (mmL false [x.m0, x.m1, x.m2]) := hv 10 (by decide)
  have p11 : f 11 = .bool (mmL false [x.m0, x.m1, x.m2]) := hv 11 (by decide)
  simp only [tkS, tkZ, List.drop_succ_cons, List.drop_zero, setAll, siB, stS, stZ, Nat.zero_add, Nat.reduceAdd, p0, p1, p2, p3, p4, p5, p6, p7, p8, p9, p10, p11]
  clear hv p0 p1 p2 p3 p4 p5 p6 p7 p8 p9 p10 p11
  have B9 := Box'.mk hC.2
  clear hC
  go_wp2_with fail
  go_ret
  exact ⟨rfl, B9.out⟩
set_option maxRecDepth 100000 in
set_option maxHeartbeats 4000000 in
theorem mayF_1n (x : Cl) (hs : mayS x.st = true) (h0 : (x.wd : Int) = 1) (ho : ¬ ofF x.ch = 1) (w : World) : Calls Try.prog 50 #[.agg (cA x)] w fun e w' => e = .returned (.bool false) ∧ Below w.heap.size w w' := by
 have OF := Box'.mk (of_any x.ch)
 have ho1 : (ofF x.ch == 1) = false := beq_eq_false_iff_ne.2 ho
 generalize ofF x.ch = z at *
 clear ho
 have H0 := Box'.mk h0
 clear h0
 have MS := Box'.mk (mayStyle_any x.st)
 rw [hs] at MS
 have RX := Box'.mk (Row.new w 49 (cA x))
 have BB := Box'.mk ((Below.refl w.heap.size w).alloc (Nat.le_refl _) (.cells (cA x) 49))
 go_enter Try.func50, Try.ntmps50
 go_upto_region 1 with (fail)
 generalize w.alloc (.cells (cA x) 49) = w1 at *
 have c0 : w1.cell? ⟨w.heap.size, 0, none⟩ = some (.int .i32 x.ch) := RX.out.cell 0
 have c1 : w1.cell? ⟨w.heap.size, 1, none⟩ = some (.int .i32 x.m0) := RX.out.cell 1
 have c2 : w1.cell? ⟨w.heap.size, 2, none⟩ = some (.int .i32 x.m1) := RX.out.cell 2
 have c3 : w1.cell? ⟨w.heap.size, 3, none⟩ = some (.int .i32 x.m2) := RX.out.cell 3
 have c4 : w1.cell? ⟨w.heap.size, 4, none⟩ = some (.int .u8 (x.wd : Int)) := RX.out.cell 4
 have c5 : w1.cell? ⟨w.heap.size, 5, none⟩ = some (.int .i64 x.st.fg) := RX.out.cell 5
 have c6 : w1.cell? ⟨w.heap.size, 6, none⟩ = some (.int .i64 x.st.bg) := RX.out.cell 6
 have c7 : w1.cell? ⟨w.heap.size, 7, none⟩ = some (.bool x.st.b1) := RX.out.cell 7
 have c8 : w1.cell? ⟨w.heap.size, 8, none⟩ = some (.bool x.st.b2) := RX.out.cell 8
 have c9 : w1.cell? ⟨w.heap.size, 9, none⟩ = some (.bool x.st.b3) := RX.out.cell 9
 have c10 : w1.cell? ⟨w.heap.size, 10, none⟩ = some (.bool x.st.b4) := RX.out.cell 10
 have c11 : w1.cell? ⟨w.heap.size, 11, none⟩ = some (.bool x.st.b5) := RX.out.cell 11
 have c12 : w1.cell? ⟨w.heap.size, 12, none⟩ = some (.bool x.st.b7) := RX.out.cell 12
 have c13 : w1.cell? ⟨w.heap.size, 13, none⟩ = some (.bool x.st.b8) := RX.out.cell 13
 have c14 : w1.cell? ⟨w.heap.size, 14, none⟩ = some (.bool x.st.b9) := RX.out.cell 14
 clear hs
 go_wp2_with fail
 refine (MS.out _).mono ?_
 rintro e w2 ⟨rfl, hb2⟩
 have R2 := Box'.mk (RX.out.below hb2 RX.out.lt)
 have B2 := Box'.mk (BB.out.trans (hb2.mono BB.out.size))
 clear hb2 BB MS RX c0 c1 c2 c3 c4 c5 c6 c7 c8 c9 c10 c11 c12 c13 c14
 have c4 : w2.cell? ⟨w.heap.size, 4, none⟩ = some (.int .u8 (x.wd : Int)) := R2.out.cell 4
 rw [H0.out] at c4
 go_wp2_with fail
 have h0 := H0.out
 refine wp_region_growg 8 (by kernel_rfl) 31 rfl (by kernel_rfl) (fun wa wb => Below wa.heap.size wa wb) (fun wa => Row wa w.heap.size 49 (cA x) ∧ Below w.heap.size w wa) (fun kc wa v => match kc with
  | 0 => v = .pointer (some ⟨w.heap.size, 0, none⟩)
  | 1 => v = .int .i32 x.ch
  | 2 => v = .int .i64 z
  | 3 => v = .pointer (some ⟨w.heap.size, 4, none⟩)
  | 4 => v = .int .u8 1
  | 5 => v = .int .i64 1
  | 6 => v = .bool false
  | 7 => v = .bool false
  | _ => True) ?_ ?_ ?_ ?_ ?_ ?_
 ·intro i o' j b' hi hg wa v hC hV
  have hlt : i < 8 := by rcases Nat.lt_or_ge i 8 with q | q; exact q; rw [List.getElem?_eq_none (by simpa using q)] at hi; cases hi
  revert hi hg hV
  rcases (show i = 0 ∨ i = 1 ∨ i = 2 ∨ i = 3 ∨ i = 4 ∨ i = 5 ∨ i = 6 ∨ i = 7 by omega) with rfl | rfl | rfl | rfl | rfl | rfl | rfl | rfl <;>
   (intro hi hg hV; simp only [tkS, List.getElem?_cons_zero, List.getElem?_cons_succ, Option.some.injEq] at hi; subst hi; first | (cases hg; exact hV) | (cases hg))
 ·rintro wa wb hb ⟨q1, q2⟩; exact ⟨q1.below hb q1.lt, q2.trans (hb.mono q2.size)⟩
 ·intro kc v wa wb hC1 hb h
  match kc, h with
  | 0, h => exact h
  | 1, h => exact h
  | 2, h => exact h
  | 3, h => exact h
  | 4, h => exact h
  | 5, h => exact h
  | 6, h => exact h
  | 7, h => exact h
  | kc + 8, h => trivial
 ·exact ⟨R2.out.drew, B2.out.drew⟩
 ·refine ⟨?_, ?_, ?_, ?_, ?_, ?_, ?_, ?_, trivial⟩
  ·intro f wq hC hd KK hK
   clear hd
   simp only [tkS, tkZ, setAll, siB, stS, stZ, Nat.zero_add, Nat.reduceAdd] at hK ⊢
   refine wp_of_quiet rfl ?_
   go_big_quiet_step (fail)
   exact wpQuiet_nil (hK _ _ (rfl) bR)
  ·intro f wq hC hd KK hK
   have g0 : f 0 = .pointer (some ⟨w.heap.size, 0, none⟩) := hd 0 (by kernel_rfl)
   clear hd
   have hR : Row wq w.heap.size 49 (cA x) := hC.1
   have c0 : wq.cell? ⟨w.heap.size, 0, none⟩ = some (.int .i32 x.ch) := hR.cell 0
   have c1 : wq.cell? ⟨w.heap.size, 1, none⟩ = some (.int .i32 x.m0) := hR.cell 1
   have c2 : wq.cell? ⟨w.heap.size, 2, none⟩ = some (.int .i32 x.m1) := hR.cell 2
   have c3 : wq.cell? ⟨w.heap.size, 3, none⟩ = some (.int .i32 x.m2) := hR.cell 3
   have c4 : wq.cell? ⟨w.heap.size, 4, none⟩ = some (.int .u8 1) := h0 ▸ hR.cell 4
   have c5 : wq.cell? ⟨w.heap.size, 5, none⟩ = some (.int .i64 x.st.fg) := hR.cell 5
   have c6 : wq.cell? ⟨w.heap.size, 6, none⟩ = some (.int .i64 x.st.bg) := hR.cell 6
   have c7 : wq.cell? ⟨w.heap.size, 7, none⟩ = some (.bool x.st.b1) := hR.cell 7
   have c8 : wq.cell? ⟨w.heap.size, 8, none⟩ = some (.bool x.st.b2) := hR.cell 8
   have c9 : wq.cell? ⟨w.heap.size, 9, none⟩ = some (.bool x.st.b3) := hR.cell 9
   have c10 : wq.cell? ⟨w.heap.size, 10, none⟩ = some (.bool x.st.b4) := hR.cell 10
   have c11 : wq.cell? ⟨w.heap.size, 11, none⟩ = some (.bool x.st.b5) := hR.cell 11
   have c12 : wq.cell? ⟨w.heap.size, 12, none⟩ = some (.bool x.st.b7) := hR.cell 12
   have c13 : wq.cell? ⟨w.heap.size, 13, none⟩ = some (.bool x.st.b8) := hR.cell 13
   have c14 : wq.cell? ⟨w.heap.size, 14, none⟩ = some (.bool x.st.b9) := hR.cell 14
   clear hC hR
   simp only [tkS, tkZ, setAll, siB, stS, stZ, Nat.zero_add, Nat.reduceAdd, g0] at hK ⊢
   refine wp_of_quiet rfl ?_
   go_big_quiet_step (fail)
   exact wpQuiet_nil (hK _ _ (rfl) bR)
  ·intro f wq hC hd KK hK
   have g1 : f 1 = .int .i32 x.ch := hd 1 (by kernel_rfl)
   clear hd
   simp only [tkS, tkZ, setAll, siB, stS, stZ, Nat.zero_add, Nat.reduceAdd, g1] at hK ⊢
   exact wp_call 57 #[.int .i32 x.ch] (by simp [go_sem]) _ _ (OF.out wq) (fun w' hb => hK _ _ rfl hb)
  ·intro f wq hC hd KK hK
   clear hd
   simp only [tkS, tkZ, setAll, siB, stS, stZ, Nat.zero_add, Nat.reduceAdd] at hK ⊢
   refine wp_of_quiet rfl ?_
   go_big_quiet_step (fail)
   exact wpQuiet_nil (hK _ _ (rfl) bR)
  ·intro f wq hC hd KK hK
   have g3 : f 3 = .pointer (some ⟨w.heap.size, 4, none⟩) := hd 3 (by kernel_rfl)
   clear hd
   have hR : Row wq w.heap.size 49 (cA x) := hC.1
   have c0 : wq.cell? ⟨w.heap.size, 0, none⟩ = some (.int .i32 x.ch) := hR.cell 0
   have c1 : wq.cell? ⟨w.heap.size, 1, none⟩ = some (.int .i32 x.m0) := hR.cell 1
   have c2 : wq.cell? ⟨w.heap.size, 2, none⟩ = some (.int .i32 x.m1) := hR.cell 2
   have c3 : wq.cell? ⟨w.heap.size, 3, none⟩ = some (.int .i32 x.m2) := hR.cell 3
   have c4 : wq.cell? ⟨w.heap.size, 4, none⟩ = some (.int .u8 1) := h0 ▸ hR.cell 4
   have c5 : wq.cell? ⟨w.heap.size, 5, none⟩ = some (.int .i64 x.st.fg) := hR.cell 5
   have c6 : wq.cell? ⟨w.heap.size, 6, none⟩ = some (.int .i64 x.st.bg) := hR.cell 6
   have c7 : wq.cell? ⟨w.heap.size, 7, none⟩ = some (.bool x.st.b1) := hR.cell 7
   have c8 : wq.cell? ⟨w.heap.size, 8, none⟩ = some (.bool x.st.b2) := hR.cell 8
   have c9 : wq.cell? ⟨w.heap.size, 9, none⟩ = some (.bool x.st.b3) := hR.cell 9
   have c10 : wq.cell? ⟨w.heap.size, 10, none⟩ = some (.bool x.st.b4) := hR.cell 10
   have c11 : wq.cell? ⟨w.heap.size, 11, none⟩ = some (.bool x.st.b5) := hR.cell 11
   have c12 : wq.cell? ⟨w.heap.size, 12, none⟩ = some (.bool x.st.b7) := hR.cell 12
   have c13 : wq.cell? ⟨w.heap.size, 13, none⟩ = some (.bool x.st.b8) := hR.cell 13
   have c14 : wq.cell? ⟨w.heap.size, 14, none⟩ = some (.bool x.st.b9) := hR.cell 14
   clear hC hR
   simp only [tkS, tkZ, setAll, siB, stS, stZ, Nat.zero_add, Nat.reduceAdd, g3] at hK ⊢
   refine wp_of_quiet rfl ?_
   go_big_quiet_step (fail)
   exact wpQuiet_nil (hK _ _ (rfl) bR)
  ·intro f wq hC hd KK hK
   have g4 : f 4 = .int .u8 1 := hd 4 (by kernel_rfl)
   clear hd
   simp only [tkS, tkZ, setAll, siB, stS, stZ, Nat.zero_add, Nat.reduceAdd, g4] at hK ⊢
   refine wp_of_quiet rfl ?_
   go_big_quiet_step (fail)
   exact wpQuiet_nil (hK _ _ (rfl) bR)
  ·intro f wq hC hd KK hK
   have g2 : f 2 = .int .i64 z := hd 2 (by kernel_rfl)
   have g5 : f 5 = .int .i64 1 := hd 5 (by kernel_rfl)
   clear hd
   have ho2 := ho1
   simp only [tkS, tkZ, setAll, siB, stS, stZ, Nat.zero_add, Nat.reduceAdd, g2, g5] at hK ⊢
   refine wp_of_quiet rfl ?_
   go_big_quiet_step (fail)
   exact wpQuiet_nil (hK _ _ (by first | rfl | simp [ho1] | simpa using ho1) bR)
  ·intro f wq hC hd KK hK
   have g6 : f 6 = .bool false := hd 6 (by kernel_rfl)
   clear hd
   simp only [tkS, tkZ, setAll, siB, stS, stZ, Nat.zero_add, Nat.reduceAdd, g6] at hK ⊢
   refine wp_of_quiet rfl ?_
   go_big_quiet_step (fail)
   exact wpQuiet_nil (hK _ _ (rfl) bR)
 ·intro f wz hC hv
  have p0 : f 0 = .pointer (some ⟨w.heap.size, 0, none⟩) := hv 0 (by decide)
  have p1 : f 1 = .int .i32 x.ch := hv 1 (by decide)
  have p2 : f 2 = .int .i64 z := hv 2 (by decide)
  have p3 : f 3 = .pointer (some ⟨w.heap.size, 4, none⟩) := hv 3 (by decide)
  have p4 : f 4 = .int .u8 1 := hv 4 (by decide)
  have p5 : f 5 = .int .i64 1 := hv 5 (by decide)
  have p6 : f 6 = .bool false := hv 6 (by decide)
  have p7 : f 7 = .bool false := hv 7 (by decide)
  simp only [tkS, tkZ, List.drop_succ_cons, List.drop_zero, setAll, siB, stS, stZ, Nat.zero_add, Nat.reduceAdd, p0, p1, p2, p3, p4, p5, p6, p7]
  clear hv p0 p1 p2 p3 p4 p5 p6 p7
  have B9 := Box'.mk hC.2
  clear hC
  go_wp2_with fail
  go_ret
  exact ⟨rfl, B9.out⟩
set_option maxRecDepth 100000 in
set_option maxHeartbeats 4000000 in
theorem mayF_2 (x : Cl) (hs : mayS x.st = true) (h0 : (x.wd : Int) = 2) (ho : ofF x.ch = 2) (w : World) : Calls Try.prog 50 #[.agg (cA x)] w fun e w' => e = .returned (.bool (mmL false [x.m0, x.m1, x.m2])) ∧ Below w.heap.size w w' := by
 have MM := Box'.mk (mayMarksF_any x.m0 x.m1 x.m2)
 have OF := Box'.mk (of_any x.ch)
 rw [ho] at OF
 clear ho
 have H0 := Box'.mk h0
 clear h0
 have MS := Box'.mk (mayStyle_any x.st)
 rw [hs] at MS
 have RX := Box'.mk (Row.new w 49 (cA x))
 have BB := Box'.mk ((Below.refl w.heap.size w).alloc (Nat.le_refl _) (.cells (cA x) 49))
 go_enter Try.func50, Try.ntmps50
 go_upto_region 1 with (fail)
 generalize w.alloc (.cells (cA x) 49) = w1 at *
 have c0 : w1.cell? ⟨w.heap.size, 0, none⟩ = some (.int .i32 x.ch) := RX.out.cell 0
 have c1 : w1.cell? ⟨w.heap.size, 1, none⟩ = some (.int .i32 x.m0) := RX.out.cell 1
 have c2 : w1.cell? ⟨w.heap.size, 2, none⟩ = some (.int .i32 x.m1) := RX.out.cell 2
 have c3 : w1.cell? ⟨w.heap.size, 3, none⟩ = some (.int .i32 x.m2) := RX.out.cell 3
 have c4 : w1.cell? ⟨w.heap.size, 4, none⟩ = some (.int .u8 (x.wd : Int)) := RX.out.cell 4
 have c5 : w1.cell? ⟨w.heap.size, 5, none⟩ = some (.int .i64 x.st.fg) := RX.out.cell 5
 have c6 : w1.cell? ⟨w.heap.size, 6, none⟩ = some (.int .i64 x.st.bg) := RX.out.cell 6
 have c7 : w1.cell? ⟨w.heap.size, 7, none⟩ = some (.bool x.st.b1) := RX.out.cell 7
 have c8 : w1.cell? ⟨w.heap.size, 8, none⟩ = some (.bool x.st.b2) := RX.out.cell 8
 have c9 : w1.cell? ⟨w.heap.size, 9, none⟩ = some (.bool x.st.b3) := RX.out.cell 9
 have c10 : w1.cell? ⟨w.heap.size, 10, none⟩ = some (.bool x.st.b4) := RX.out.cell 10
 have c11 : w1.cell? ⟨w.heap.size, 11, none⟩ = some (.bool x.st.b5) := RX.out.cell 11
 have c12 : w1.cell? ⟨w.heap.size, 12, none⟩ = some (.bool x.st.b7) := RX.out.cell 12
 have c13 : w1.cell? ⟨w.heap.size, 13, none⟩ = some (.bool x.st.b8) := RX.out.cell 13
 have c14 : w1.cell? ⟨w.heap.size, 14, none⟩ = some (.bool x.st.b9) := RX.out.cell 14
 clear hs
 go_wp2_with fail
 refine (MS.out _).mono ?_
 rintro e w2 ⟨rfl, hb2⟩
 have R2 := Box'.mk (RX.out.below hb2 RX.out.lt)
 have B2 := Box'.mk (BB.out.trans (hb2.mono BB.out.size))
 clear hb2 BB MS RX c0 c1 c2 c3 c4 c5 c6 c7 c8 c9 c10 c11 c12 c13 c14
 have c4 : w2.cell? ⟨w.heap.size, 4, none⟩ = some (.int .u8 (x.wd : Int)) := R2.out.cell 4
 rw [H0.out] at c4
 go_wp2_with fail
 have h0 := H0.out
 refine wp_region_growg 12 (by kernel_rfl) 31 rfl (by kernel_rfl) (fun wa wb => Below wa.heap.size wa wb) (fun wa => Row wa w.heap.size 49 (cA x) ∧ Below w.heap.size w wa) (fun kc wa v => match kc with
  | 0 => v = .pointer (some ⟨w.heap.size, 0, none⟩)
  | 1 => v = .int .i32 x.ch
  | 2 => v = .int .i64 2
  | 3 => v = .pointer (some ⟨w.heap.size, 4, none⟩)
  | 4 => v = .int .u8 2
  | 5 => v = .int .i64 2
  | 6 => v = .bool true
  | 7 => v = .bool true
  | 8 => v = .pointer (some ⟨w.heap.size, 1, none⟩)
  | 9 => v = .agg #[.int .i32 x.m0, .int .i32 x.m1, .int .i32 x.m2]
  | 10 => v = .bool (mmL false [x.m0, x.m1, x.m2])
  | 11 => v = .bool (mmL false [x.m0, x.m1, x.m2])
  | _ => True) ?_ ?_ ?_ ?_ ?_ ?_
 ·intro i o' j b' hi hg wa v hC hV
  have hlt : i < 12 := by rcases Nat.lt_or_ge i 12 with q | q; exact q; rw [List.getElem?_eq_none (by simpa using q)] at hi; cases hi
  revert hi hg hV
  rcases (show i = 0 ∨ i = 1 ∨ i = 2 ∨ i = 3 ∨ i = 4 ∨ i = 5 ∨ i = 6 ∨ i = 7 ∨ i = 8 ∨ i = 9 ∨ i = 10 ∨ i = 11 by omega) with rfl | rfl | rfl | rfl | rfl | rfl | rfl | rfl | rfl | rfl | rfl | rfl <;>
   (intro hi hg hV; simp only [tkS, List.getElem?_cons_zero, List.getElem?_cons_succ, Option.some.injEq] at hi; subst hi; first | (cases hg; exact hV) | (cases hg))
 ·rintro wa wb hb ⟨q1, q2⟩; exact ⟨q1.below hb q1.lt, q2.trans (hb.mono q2.size)⟩
 ·intro kc v wa wb hC1 hb h
  match kc, h with
  | 0, h => exact h
  | 1, h => exact h
  | 2, h => exact h
  | 3, h => exact h
  | 4, h => exact h
  | 5, h => exact h
  | 6, h => exact h
  | 7, h => exact h
  | 8, h => exact h
  | 9, h => exact h
  | 10, h => exact h
  | 11, h => exact h
  | kc + 12, h => trivial
 ·exact ⟨R2.out.drew, B2.out.drew⟩
 ·refine ⟨?_, ?_, ?_, ?_, ?_, ?_, ?_, ?_, ?_, ?_, ?_, ?_, trivial⟩
  ·intro f wq hC hd KK hK
   clear hd
   simp only [tkS, tkZ, setAll, siB, stS, stZ, Nat.zero_add, Nat.reduceAdd] at hK ⊢
   refine wp_of_quiet rfl ?_
   go_big_quiet_step (fail)
   exact wpQuiet_nil (hK _ _ (rfl) bR)
  ·intro f wq hC hd KK hK
   have g0 : f 0 = .pointer (some ⟨w.heap.size, 0, none⟩) := hd 0 (by kernel_rfl)
   clear hd
   have hR : Row wq w.heap.size 49 (cA x) := hC.1
   have c0 : wq.cell? ⟨w.heap.size, 0, none⟩ = some (.int .i32 x.ch) := hR.cell 0
   have c1 : wq.cell? ⟨w.heap.size, 1, none⟩ = some (.int .i32 x.m0) := hR.cell 1
   have c2 : wq.cell? ⟨w.heap.size, 2, none⟩ = some (.int .i32 x.m1) := hR.cell 2
   have c3 : wq.cell? ⟨w.heap.size, 3, none⟩ = some (.int .i32 x.m2) := hR.cell 3
   have c4 : wq.cell? ⟨w.heap.size, 4, none⟩ = some (.int .u8 2) := h0 ▸ hR.cell 4
   have c5 : wq.cell? ⟨w.heap.size, 5, none⟩ = some (.int .i64 x.st.fg) := hR.cell 5
   have c6 : wq.cell? ⟨w.heap.size, 6, none⟩ = some (.int .i64 x.st.bg) := hR.cell 6
   have c7 : wq.cell? ⟨w.heap.size, 7, none⟩ = some (.bool x.st.b1) := hR.cell 7
   have c8 : wq.cell? ⟨w.heap.size, 8, none⟩ = some (.bool x.st.b2) := hR.cell 8
   have c9 : wq.cell? ⟨w.heap.size, 9, none⟩ = some (.bool x.st.b3) := hR.cell 9
   have c10 : wq.cell? ⟨w.heap.size, 10, none⟩ = some (.bool x.st.b4) := hR.cell 10
   have c11 : wq.cell? ⟨w.heap.size, 11, none⟩ = some (.bool x.st.b5) := hR.cell 11
   have c12 : wq.cell? ⟨w.heap.size, 12, none⟩ = some (.bool x.st.b7) := hR.cell 12
   have c13 : wq.cell? ⟨w.heap.size, 13, none⟩ = some (.bool x.st.b8) := hR.cell 13
   have c14 : wq.cell? ⟨w.heap.size, 14, none⟩ = some (.bool x.st.b9) := hR.cell 14
   clear hC hR
   simp only [tkS, tkZ, setAll, siB, stS, stZ, Nat.zero_add, Nat.reduceAdd, g0] at hK ⊢
   refine wp_of_quiet rfl ?_
   go_big_quiet_step (fail)
   exact wpQuiet_nil (hK _ _ (rfl) bR)
  ·intro f wq hC hd KK hK
   have g1 : f 1 = .int .i32 x.ch := hd 1 (by kernel_rfl)
   clear hd
   simp only [tkS, tkZ, setAll, siB, stS, stZ, Nat.zero_add, Nat.reduceAdd, g1] at hK ⊢
   exact wp_call 57 #[.int .i32 x.ch] (by simp [go_sem]) _ _ (OF.out wq) (fun w' hb => hK _ _ rfl hb)
  ·intro f wq hC hd KK hK
   clear hd
   simp only [tkS, tkZ, setAll, siB, stS, stZ, Nat.zero_add, Nat.reduceAdd] at hK ⊢
   refine wp_of_quiet rfl ?_
   go_big_quiet_step (fail)
   exact wpQuiet_nil (hK _ _ (rfl) bR)
  ·intro f wq hC hd KK hK
   have g3 : f 3 = .pointer (some ⟨w.heap.size, 4, none⟩) := hd 3 (by kernel_rfl)
   clear hd
   have hR : Row wq w.heap.size 49 (cA x) := hC.1
   have c0 : wq.cell? ⟨w.heap.size, 0, none⟩ = some (.int .i32 x.ch) := hR.cell 0
   have c1 : wq.cell? ⟨w.heap.size, 1, none⟩ = some (.int .i32 x.m0) := hR.cell 1
   have c2 : wq.cell? ⟨w.heap.size, 2, none⟩ = some (.int .i32 x.m1) := hR.cell 2
   have c3 : wq.cell? ⟨w.heap.size, 3, none⟩ = some (.int .i32 x.m2) := hR.cell 3
   have c4 : wq.cell? ⟨w.heap.size, 4, none⟩ = some (.int .u8 2) := h0 ▸ hR.cell 4
   have c5 : wq.cell? ⟨w.heap.size, 5, none⟩ = some (.int .i64 x.st.fg) := hR.cell 5
   have c6 : wq.cell? ⟨w.heap.size, 6, none⟩ = some (.int .i64 x.st.bg) := hR.cell 6
   have c7 : wq.cell? ⟨w.heap.size, 7, none⟩ = some (.bool x.st.b1) := hR.cell 7
   have c8 : wq.cell? ⟨w.heap.size, 8, none⟩ = some (.bool x.st.b2) := hR.cell 8
   have c9 : wq.cell? ⟨w.heap.size, 9, none⟩ = some (.bool x.st.b3) := hR.cell 9
   have c10 : wq.cell? ⟨w.heap.size, 10, none⟩ = some (.bool x.st.b4) := hR.cell 10
   have c11 : wq.cell? ⟨w.heap.size, 11, none⟩ = some (.bool x.st.b5) := hR.cell 11
   have c12 : wq.cell? ⟨w.heap.size, 12, none⟩ = some (.bool x.st.b7) := hR.cell 12
   have c13 : wq.cell? ⟨w.heap.size, 13, none⟩ = some (.bool x.st.b8) := hR.cell 13
   have c14 : wq.cell? ⟨w.heap.size, 14, none⟩ = some (.bool x.st.b9) := hR.cell 14
   clear hC hR
   simp only [tkS, tkZ, setAll, siB, stS, stZ, Nat.zero_add, Nat.reduceAdd, g3] at hK ⊢
   refine wp_of_quiet rfl ?_
   go_big_quiet_step (fail)
   exact wpQuiet_nil (hK _ _ (rfl) bR)
  ·intro f wq hC hd KK hK
   have g4 : f 4 = .int .u8 2 := hd 4 (by kernel_rfl)
   clear hd
   simp only [tkS, tkZ, setAll, siB, stS, stZ, Nat.zero_add, Nat.reduceAdd, g4] at hK ⊢
   refine wp_of_quiet rfl ?_
   go_big_quiet_step (fail)
   exact wpQuiet_nil (hK _ _ (rfl) bR)
  ·intro f wq hC hd KK hK
   have g2 : f 2 = .int .i64 2 := hd 2 (by kernel_rfl)
   have g5 : f 5 = .int .i64 2 := hd 5 (by kernel_rfl)
   clear hd
   simp only [tkS, tkZ, setAll, siB, stS, stZ, Nat.zero_add, Nat.reduceAdd, g2, g5] at hK ⊢
   refine wp_of_quiet rfl ?_
   go_big_quiet_step (fail)
   exact wpQuiet_nil (hK _ _ (by first | rfl | simp) bR)
  ·intro f wq hC hd KK hK
   have g6 : f 6 = .bool true := hd 6 (by kernel_rfl)
   clear hd
   simp only [tkS, tkZ, setAll, siB, stS, stZ, Nat.zero_add, Nat.reduceAdd, g6] at hK ⊢
   refine wp_of_quiet rfl ?_
   go_big_quiet_step (fail)
   exact wpQuiet_nil (hK _ _ (rfl) bR)
  ·intro f wq hC hd KK hK
   clear hd
   simp only [tkS, tkZ, setAll, siB, stS, stZ, Nat.zero_add, Nat.reduceAdd] at hK ⊢
   refine wp_unguard ?_
   refine wp_of_quiet rfl ?_
   go_big_quiet_step (fail)
   exact wpQuiet_nil (hK _ _ (rfl) bR)
  ·intro f wq hC hd KK hK
   have g8 : f 8 = .pointer (some ⟨w.heap.size, 1, none⟩) := hd 8 (by kernel_rfl)
   clear hd
   have hR : Row wq w.heap.size 49 (cA x) := hC.1
   have c0 : wq.cell? ⟨w.heap.size, 0, none⟩ = some (.int .i32 x.ch) := hR.cell 0
   have c1 : wq.cell? ⟨w.heap.size, 1, none⟩ = some (.int .i32 x.m0) := hR.cell 1
   have c2 : wq.cell? ⟨w.heap.size, 2, none⟩ = some (.int .i32 x.m1) := hR.cell 2
   have c3 : wq.cell? ⟨w.heap.size, 3, none⟩ = some (.int .i32 x.m2) := hR.cell 3
   have c4 : wq.cell? ⟨w.heap.size, 4, none⟩ = some (.int .u8 2) := h0 ▸ hR.cell 4
   have c5 : wq.cell? ⟨w.heap.size, 5, none⟩ = some (.int .i64 x.st.fg) := hR.cell 5
   have c6 : wq.cell? ⟨w.heap.size, 6, none⟩ = some (.int .i64 x.st.bg) := hR.cell 6
   have c7 : wq.cell? ⟨w.heap.size, 7, none⟩ = some (.bool x.st.b1) := hR.cell 7
   have c8 : wq.cell? ⟨w.heap.size, 8, none⟩ = some (.bool x.st.b2) := hR.cell 8
   have c9 : wq.cell? ⟨w.heap.size, 9, none⟩ = some (.bool x.st.b3) := hR.cell 9
   have c10 : wq.cell? ⟨w.heap.size, 10, none⟩ = some (.bool x.st.b4) := hR.cell 10
   have c11 : wq.cell? ⟨w.heap.size, 11, none⟩ = some (.bool x.st.b5) := hR.cell 11
   have c12 : wq.cell? ⟨w.heap.size, 12, none⟩ = some (.bool x.st.b7) := hR.cell 12
   have c13 : wq.cell? ⟨w.heap.size, 13, none⟩ = some (.bool x.st.b8) := hR.cell 13
   have c14 : wq.cell? ⟨w.heap.size, 14, none⟩ = some (.bool x.st.b9) := hR.cell 14
   clear hC hR
   simp only [tkS, tkZ, setAll, siB, stS, stZ, Nat.zero_add, Nat.reduceAdd, g8] at hK ⊢
   refine wp_unguard ?_
   refine wp_of_quiet rfl ?_
   go_big_quiet_step (fail)
   exact wpQuiet_nil (hK _ _ (rfl) bR)
  ·intro f wq hC hd KK hK
   have g9 : f 9 = .agg #[.int .i32 x.m0, .int .i32 x.m1, .int .i32 x.m2] := hd 9 (by kernel_rfl)
   clear hd
   simp only [tkS, tkZ, setAll, siB, stS, stZ, Nat.zero_add, Nat.reduceAdd, g9] at hK ⊢
   refine wp_unguard ?_
   exact wp_call 58 #[.agg #[.int .i32 x.m0, .int .i32 x.m1, .int .i32 x.m2]] (by simp [go_sem]) _ _ (MM.out wq) (fun w' hb => hK _ _ rfl hb)
  ·intro f wq hC hd KK hK
   have g7 : f 7 = .bool true := hd 7 (by kernel_rfl)
   have g10 : f 10 = .bool (mmL false [x.m0, x.m1, x.m2]) := hd 10 (by kernel_rfl)
   clear hd
   simp only [tkS, tkZ, setAll, siB, stS, stZ, Nat.zero_add, Nat.reduceAdd, g7, g10] at hK ⊢
   refine wp_of_quiet rfl ?_
   go_big_quiet_step (fail)
   exact wpQuiet_nil (hK _ _ (by first | rfl | simp) bR)
 ·intro f wz hC hv
  have p0 : f 0 = .pointer (some ⟨w.heap.size, 0, none⟩) := hv 0 (by decide)
  have p1 : f 1 = .int .i32 x.ch := hv 1 (by decide)
  have p2 : f 2 = .int .i64 2 := hv 2 (by decide)
  have p3 : f 3 = .pointer (some ⟨w.heap.size, 4, none⟩) := hv 3 (by decide)
  have p4 : f 4 = .int .u8 2 := hv 4 (by decide)
  have p5 : f 5 = .int .i64 2 := hv 5 (by decide)
  have p6 : f 6 = .bool true := hv 6 (by decide)
  have p7 : f 7 = .bool true := hv 7 (by decide)
  have p8 : f 8 = .pointer (some ⟨w.heap.size, 1, none⟩) := hv 8 (by decide)
  have p9 : f 9 = .agg #[.int .i32 x.m0, .int .i32 x.m1, .int .i32 x.m2] := hv 9 (by decide)
  have p10 : f 10 = .bool (mmL false [x.m0, x.m1, x.m2]) := hv 10 (by decide)
  have p11 : f 11 = .bool (mmL false [x.m0, x.m1, x.m2]) := hv 11 (by decide)
  simp only [tkS, tkZ, List.drop_succ_cons, List.drop_zero, setAll, siB, stS, stZ, Nat.zero_add, Nat.reduceAdd, p0, p1, p2, p3, p4, p5, p6, p7, p8, p9, p10, p11]
  clear hv p0 p1 p2 p3 p4 p5 p6 p7 p8 p9 p10 p11
  have B9 := Box'.mk hC.2
  clear hC
  go_wp2_with fail
  go_ret
  exact ⟨rfl, B9.out⟩
set_option maxRecDepth 100000 in
set_option maxHeartbeats 4000000 in
theorem mayF_2n (x : Cl) (hs : mayS x.st = true) (h0 : (x.wd : Int) = 2) (ho : ¬ ofF x.ch = 2) (w : World) : Calls Try.prog 50 #[.agg (cA x)] w fun e w' => e = .returned (.bool false) ∧ Below w.heap.size w w' := by
 have OF := Box'.mk (of_any x.ch)
 have ho1 : (ofF x.ch == 2) = false := beq_eq_false_iff_ne.2 ho
 generalize ofF x.ch = z at *
 clear ho
 have H0 := Box'.mk h0
 clear h0
 have MS := Box'.mk (mayStyle_any x.st)
 rw [hs] at MS
 have RX := Box'.mk (Row.new w 49 (cA x))
 have BB := Box'.mk ((Below.refl w.heap.size w).alloc (Nat.le_refl _) (.cells (cA x) 49))
 go_enter Try.func50, Try.ntmps50
 go_upto_region 1 with (fail)
 generalize w.alloc (.cells (cA x) 49) = w1 at *
 have c0 : w1.cell? ⟨w.heap.size, 0, none⟩ = some (.int .i32 x.ch) := RX.out.cell 0
 have c1 : w1.cell? ⟨w.heap.size, 1, none⟩ = some (.int .i32 x.m0) := RX.out.cell 1
 have c2 : w1.cell? ⟨w.heap.size, 2, none⟩ = some (.int .i32 x.m1) := RX.out.cell 2
 have c3 : w1.cell? ⟨w.heap.size, 3, none⟩ = some (.int .i32 x.m2) := RX.out.cell 3
 have c4 : w1.cell? ⟨w.heap.size, 4, none⟩ = some (.int .u8 (x.wd : Int)) := RX.out.cell 4
 have c5 : w1.cell? ⟨w.heap.size, 5, none⟩ = some (.int .i64 x.st.fg) := RX.out.cell 5
 have c6 : w1.cell? ⟨w.heap.size, 6, none⟩ = some (.int .i64 x.st.bg) := RX.out.cell 6
 have c7 : w1.cell? ⟨w.heap.size, 7, none⟩ = some (.bool x.st.b1) := RX.out.cell 7
 have c8 : w1.cell? ⟨w.heap.size, 8, none⟩ = some (.bool x.st.b2) := RX.out.cell 8
 have c9 : w1.cell? ⟨w.heap.size, 9, none⟩ = some (.bool x.st.b3) := RX.out.cell 9
 have c10 : w1.cell? ⟨w.heap.size, 10, none⟩ = some (.bool x.st.b4) := RX.out.cell 10
 have c11 : w1.cell? ⟨w.heap.size, 11, none⟩ = some (.bool x.st.b5) := RX.out.cell 11
 have c12 : w1.cell? ⟨w.heap.size, 12, none⟩ = some (.bool x.st.b7) := RX.out.cell 12
 have c13 : w1.cell? ⟨w.heap.size, 13, none⟩ = some (.bool x.st.b8) := RX.out.cell 13
 have c14 : w1.cell? ⟨w.heap.size, 14, none⟩ = some (.bool x.st.b9) := RX.out.cell 14
 clear hs
 go_wp2_with fail
 refine (MS.out _).mono ?_
 rintro e w2 ⟨rfl, hb2⟩
 have R2 := Box'.mk (RX.out.below hb2 RX.out.lt)
 have B2 := Box'.mk (BB.out.trans (hb2.mono BB.out.size))
 clear hb2 BB MS RX c0 c1 c2 c3 c4 c5 c6 c7 c8 c9 c10 c11 c12 c13 c14
 have c4 : w2.cell? ⟨w.heap.size, 4, none⟩ = some (.int .u8 (x.wd : Int)) := R2.out.cell 4
 rw [H0.out] at c4
 go_wp2_with fail
 have h0 := H0.out
 refine wp_region_growg 8 (by kernel_rfl) 31 rfl (by kernel_rfl) (fun wa wb => Below wa.heap.size wa wb) (fun wa => Row wa w.heap.size 49 (cA x) ∧ Below w.heap.size w wa) (fun kc wa v => match kc with
  | 0 => v = .pointer (some ⟨w.heap.size, 0, none⟩)
  | 1 => v = .int .i32 x.ch
  | 2 => v = .int .i64 z
  | 3 => v = .pointer (some ⟨w.heap.size, 4, none⟩)
  | 4 => v = .int .u8 2
  | 5 => v = .int .i64 2
  | 6 => v = .bool false
  | 7 => v = .bool false
  | _ => True) ?_ ?_ ?_ ?_ ?_ ?_
 ·intro i o' j b' hi hg wa v hC hV
  have hlt : i < 8 := by rcases Nat.lt_or_ge i 8 with q | q; exact q; rw [List.getElem?_eq_none (by simpa using q)] at hi; cases hi
  revert hi hg hV
  rcases (show i = 0 ∨ i = 1 ∨ i = 2 ∨ i = 3 ∨ i = 4 ∨ i = 5 ∨ i = 6 ∨ i = 7 by omega) with rfl | rfl | rfl | rfl | rfl | rfl | rfl | rfl <;>
   (intro hi hg hV; simp only [tkS, List.getElem?_cons_zero, List.getElem?_cons_succ, Option.some.injEq] at hi; subst hi; first | (cases hg; exact hV) | (cases hg))
 ·rintro wa wb hb ⟨q1, q2⟩; exact ⟨q1.below hb q1.lt, q2.trans (hb.mono q2.size)⟩
 ·intro kc v wa wb hC1 hb h
  match kc, h with
  | 0, h => exact h
  | 1, h => exact h
  | 2, h => exact h
  | 3, h => exact h
  | 4, h => exact h
  | 5, h => exact h
  | 6, h => exact h
  | 7, h => exact h
  | kc + 8, h => trivial
 ·exact ⟨R2.out.drew, B2.out.drew⟩
 ·refine ⟨?_, ?_, ?_, ?_, ?_, ?_, ?_, ?_, trivial⟩
  ·intro f wq hC hd KK hK
   clear hd
   simp only [tkS, tkZ, setAll, siB, stS, stZ, Nat.zero_add, Nat.reduceAdd] at hK ⊢
   refine wp_of_quiet rfl ?_
   go_big_quiet_step (fail)
   exact wpQuiet_nil (hK _ _ (rfl) bR)
  ·intro f wq hC hd KK hK
   have g0 : f 0 = .pointer (some ⟨w.heap.size, 0, none⟩) := hd 0 (by kernel_rfl)
   clear hd
   have hR : Row wq w.heap.size 49 (cA x) := hC.1
   have c0 : wq.cell? ⟨w.heap.size, 0, none⟩ = some (.int .i32 x.ch) := hR.cell 0
   have c1 : wq.cell? ⟨w.heap.size, 1, none⟩ = some (.int .i32 x.m0) := hR.cell 1
   have c2 : wq.cell? ⟨w.heap.size, 2, none⟩ = some (.int .i32 x.m1) := hR.cell 2
   have c3 : wq.cell? ⟨w.heap.size, 3, none⟩ = some (.int .i32 x.m2) := hR.cell 3
   have c4 : wq.cell? ⟨w.heap.size, 4, none⟩ = some (.int .u8 2) := h0 ▸ hR.cell 4
   have c5 : wq.cell? ⟨w.heap.size, 5, none⟩ = some (.int .i64 x.st.fg) := hR.cell 5
   have c6 : wq.cell? ⟨w.heap.size, 6, none⟩ = some (.int .i64 x.st.bg) := hR.cell 6
   have c7 : wq.cell? ⟨w.heap.size, 7, none⟩ = some (.bool x.st.b1) := hR.cell 7
   have c8 : wq.cell? ⟨w.heap.size, 8, none⟩ = some (.bool x.st.b2) := hR.cell 8
   have c9 : wq.cell? ⟨w.heap.size, 9, none⟩ = some (.bool x.st.b3) := hR.cell 9
   have c10 : wq.cell? ⟨w.heap.size, 10, none⟩ = some (.bool x.st.b4) := hR.cell 10
   have c11 : wq.cell? ⟨w.heap.size, 11, none⟩ = some (.bool x.st.b5) := hR.cell 11
   have c12 : wq.cell? ⟨w.heap.size, 12, none⟩ = some (.bool x.st.b7) := hR.cell 12
   have c13 : wq.cell? ⟨w.heap.size, 13, none⟩ = some (.bool x.st.b8) := hR.cell 13
   have c14 : wq.cell? ⟨w.heap.size, 14, none⟩ = some (.bool x.st.b9) := hR.cell 14
   clear hC hR
   simp only [tkS, tkZ, setAll, siB, stS, stZ, Nat.zero_add, Nat.reduceAdd, g0] at hK ⊢
   refine wp_of_quiet rfl ?_
   go_big_quiet_step (fail)
   exact wpQuiet_nil (hK _ _ (rfl) bR)
  ·intro f wq hC hd KK hK
   have g1 : f 1 = .int .i32 x.ch := hd 1 (by kernel_rfl)
   clear hd
   simp only [tkS, tkZ, setAll, siB, stS, stZ, Nat.zero_add, Nat.reduceAdd, g1] at hK ⊢
   exact wp_call 57 #[.int .i32 x.ch] (by simp [go_sem]) _ _ (OF.out wq) (fun w' hb => hK _ _ rfl hb)
  ·intro f wq hC hd KK hK
   clear hd
   simp only [tkS, tkZ, setAll, siB, stS, stZ, Nat.zero_add, Nat.reduceAdd] at hK ⊢
   refine wp_of_quiet rfl ?_
   go_big_quiet_step (fail)
   exact wpQuiet_nil (hK _ _ (rfl) bR)
  ·intro f wq hC hd KK hK
   have g3 : f 3 = .pointer (some ⟨w.heap.size, 4, none⟩) := hd 3 (by kernel_rfl)
   clear hd
   have hR : Row wq w.heap.size 49 (cA x) := hC.1
   have c0 : wq.cell? ⟨w.heap.size, 0, none⟩ = some (.int .i32 x.ch) := hR.cell 0
   have c1 : wq.cell? ⟨w.heap.size, 1, none⟩ = some (.int .i32 x.m0) := hR.cell 1
   have c2 : wq.cell? ⟨w.heap.size, 2, none⟩ = some (.int .i32 x.m1) := hR.cell 2
   have c3 : wq.cell? ⟨w.heap.size, 3, none⟩ = some (.int .i32 x.m2) := hR.cell 3
   have c4 : wq.cell? ⟨w.heap.size, 4, none⟩ = some (.int .u8 2) := h0 ▸ hR.cell 4
   have c5 : wq.cell? ⟨w.heap.size, 5, none⟩ = some (.int .i64 x.st.fg) := hR.cell 5
   have c6 : wq.cell? ⟨w.heap.size, 6, none⟩ = some (.int .i64 x.st.bg) := hR.cell 6
   have c7 : wq.cell? ⟨w.heap.size, 7, none⟩ = some (.bool x.st.b1) := hR.cell 7
   have c8 : wq.cell? ⟨w.heap.size, 8, none⟩ = some (.bool x.st.b2) := hR.cell 8
   have c9 : wq.cell? ⟨w.heap.size, 9, none⟩ = some (.bool x.st.b3) := hR.cell 9
   have c10 : wq.cell? ⟨w.heap.size, 10, none⟩ = some (.bool x.st.b4) := hR.cell 10
   have c11 : wq.cell? ⟨w.heap.size, 11, none⟩ = some (.bool x.st.b5) := hR.cell 11
   have c12 : wq.cell? ⟨w.heap.size, 12, none⟩ = some (.bool x.st.b7) := hR.cell 12
   have c13 : wq.cell? ⟨w.heap.size, 13, none⟩ = some (.bool x.st.b8) := hR.cell 13
   have c14 : wq.cell? ⟨w.heap.size, 14, none⟩ = some (.bool x.st.b9) := hR.cell 14
   clear hC hR
   simp only [tkS, tkZ, setAll, siB, stS, stZ, Nat.zero_add, Nat.reduceAdd, g3] at hK ⊢
   refine wp_of_quiet rfl ?_
   go_big_quiet_step (fail)
   exact wpQuiet_nil (hK _ _ (rfl) bR)
  ·intro f wq hC hd KK hK
   have g4 : f 4 = .int .u8 2 := hd 4 (by kernel_rfl)
   clear hd
   simp only [tkS, tkZ, setAll, siB, stS, stZ, Nat.zero_add, Nat.reduceAdd, g4] at hK ⊢
   refine wp_of_quiet rfl ?_
   go_big_quiet_step (fail)
   exact wpQuiet_nil (hK _ _ (rfl) bR)
  ·intro f wq hC hd KK hK
   have g2 : f 2 = .int .i64 z := hd 2 (by kernel_rfl)
   have g5 : f 5 = .int .i64 2 := hd 5 (by kernel_rfl)
   clear hd
   have ho2 := ho1
   simp only [tkS, tkZ, setAll, siB, stS, stZ, Nat.zero_add, Nat.reduceAdd, g2, g5] at hK ⊢
   refine wp_of_quiet rfl ?_
   go_big_quiet_step (fail)
   exact wpQuiet_nil (hK _ _ (by first | rfl | simp [ho1] | simpa using ho1) bR)
  ·intro f wq hC hd KK hK
   have g6 : f 6 = .bool false := hd 6 (by kernel_rfl)
   clear hd
   simp only [tkS, tkZ, setAll, siB, stS, stZ, Nat.zero_add, Nat.reduceAdd, g6] at hK ⊢
   refine wp_of_quiet rfl ?_
   go_big_quiet_step (fail)
   exact wpQuiet_nil (hK _ _ (rfl) bR)
 ·intro f wz hC hv
  have p0 : f 0 = .pointer (some ⟨w.heap.size, 0, none⟩) := hv 0 (by decide)
  have p1 : f 1 = .int .i32 x.ch := hv 1 (by decide)
  have p2 : f 2 = .int .i64 z := hv 2 (by decide)
  have p3 : f 3 = .pointer (some ⟨w.heap.size, 4, none⟩) := hv 3 (by decide)
  have p4 : f 4 = .int .u8 2 := hv 4 (by decide)
  have p5 : f 5 = .int .i64 2 := hv 5 (by decide)
  have p6 : f 6 = .bool false := hv 6 (by decide)
  have p7 : f 7 = .bool false := hv 7 (by decide)
  simp only [tkS, tkZ, List.drop_succ_cons, List.drop_zero, setAll, siB, stS, stZ, Nat.zero_add, Nat.reduceAdd, p0, p1, p2, p3, p4, p5, p6, p7]
  clear hv p0 p1 p2 p3 p4 p5 p6 p7
  have B9 := Box'.mk hC.2
  clear hC
  go_wp2_with fail
  go_ret
  exact ⟨rfl, B9.out⟩
theorem mayF_any (x : Cl) (w : World) : Calls Try.prog 50 #[.agg (cA x)] w fun e w' => e = .returned (.bool (mayC x)) ∧ Below w.heap.size w w' := by
 cases hs : mayS x.st with
 | false =>
  rw [show mayC x = false by unfold mayC; rw [if_pos hs]]
  exact may_no x hs w
 | true =>
  have hs' : ¬ mayS x.st = false := by rw [hs]; simp
  by_cases h0 : x.wd = 0
  ·have e : mayC x = clB x (hf x.st) := by
    unfold mayC
    rw [if_neg hs', if_pos h0]
    obtain ⟨ch, m0, m1, m2, wd, st⟩ := x
    simp only at h0
    subst h0
    by_cases a1 : ch = 0 <;> by_cases a2 : m0 = 0 <;> by_cases a3 : m1 = 0 <;> by_cases a4 : m2 = 0 <;> simp [hf, clB, stB_yes, a1, a2, a3, a4]
   rw [e]
   exact mayF_0 x hs (by rw [h0]; rfl) w
  by_cases h3 : 2 < x.wd
  ·rw [show mayC x = false by unfold mayC; rw [if_neg hs', if_neg h0, if_pos h3]]
   exact mayF_3 x hs (by omega) (by omega) (by omega) w
  have e : mayC x = if ofF x.ch = (x.wd : Int) then mmL false [x.m0, x.m1, x.m2] else false := by unfold mayC; rw [if_neg hs', if_neg h0, if_neg h3]
  have hw : x.wd = 1 ∨ x.wd = 2 := by omega
  rw [e]
  rcases hw with h1 | h1
  ·by_cases ho : ofF x.ch = 1
   ·rw [h1, if_pos (by rw [ho]; rfl)]; exact mayF_1 x hs (by rw [h1]; rfl) ho w
   ·rw [h1, if_neg (by intro h; exact ho h)]; exact mayF_1n x hs (by rw [h1]; rfl) ho w
  ·by_cases ho : ofF x.ch = 2
   ·rw [h1, if_pos (by rw [ho]; rfl)]; exact mayF_2 x hs (by rw [h1]; rfl) ho w
   ·rw [h1, if_neg (by intro h; exact ho h)]; exact mayF_2n x hs (by rw [h1]; rfl) ho w
end Go.Proofs.Ytnbonlkmadmpcaa
