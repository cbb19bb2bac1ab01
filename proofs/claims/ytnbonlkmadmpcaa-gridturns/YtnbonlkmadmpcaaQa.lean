/- Which grids may be, as the reference asks: the refusals. -/
import Derived.Test.YtnbonlkmadmpcaaNi
import Derived.Test.YtnbonlkmadmpcaaRc
namespace Go.Proofs.Ytnbonlkmadmpcaa
open Go.RowKit Go.BigFrame
set_option linter.unusedVariables false
set_option linter.unusedSimpArgs false
theorem run_neq_op {op : Oper} {a : Act} (ty : TypeId) (x y : Operand) (ho : op.op = .binOp .neq 26 x y ty) (s t : St) (hx : a.eval x = .agg (sA s)) (hy : a.eval y = .agg (sA t)) (r : Bool) (hr : (!stB s t) = r) (w : World) :
  (execOp a.eval op).run Try.prog w = .ok (.value (.bool r)) w := by
 unfold execOp
 simp only [ho, hx, hy, Sem.run_bind, run_eqGuard_agg w .neq 26 x y (sA s) (sA t) guard24, Result.andThen_ok, run_neq_struct, run_eq_style w 9998 s t, hr, Sem.run_pure]
/-- The grid that came in stands, and the cells behind it. -/
structure GrM (w : World) (g : Array Value) (wr : World) : Prop where
 rg : Row wr w.heap.size 24 g
 be : Below w.heap.size w wr
theorem GrM.begin (w : World) (g : Array Value) : GrM w g (w.alloc (.cells g 24)) := ⟨Row.new _ _ _, (Below.refl w.heap.size w).alloc (Nat.le_refl _) _⟩
theorem GrM.below {w : World} {g : Array Value} {wr w' : World} (h : GrM w g wr) (hb : Below wr.heap.size wr w') : GrM w g w' := ⟨h.rg.below hb h.rg.lt, h.be.trans (hb.mono h.be.size)⟩
theorem GrM.drew {w : World} {g : Array Value} {wr : World} (h : GrM w g wr) : GrM w g wr.drew := h.below (bR.drew)
set_option maxRecDepth 100000 in
set_option maxHeartbeats 8000000 in
theorem rmayg_1 (co ro : Int) (v : Value) (h : sideF co = false) (w : World) : Calls Try.prog 21 #[.agg (gA co ro v)] w fun e w' => e = .returned (.bool false) ∧ Below w.heap.size w w' := by
 have MS := Box'.mk (side_any co)
 rw [h] at MS
 have F := Box'.mk (GrM.begin w (gA co ro v))
 clear h
 go_enter Try.func21, Try.ntmps21
 go_upto_region 1 with (fail)
 generalize (w.alloc (.cells (gA co ro v) 24)) = w1 at *
 have c0 : w1.cell? ⟨w.heap.size, 0, none⟩ = some (.int .i64 co) := F.out.rg.cell 0
 go_wp2_with fail
 refine (MS.out _).mono ?_
 rintro e w2 ⟨rfl, rfl⟩
 go_wp2_with fail
 go_ret
 exact ⟨rfl, F.out.be⟩
set_option maxRecDepth 100000 in
set_option maxHeartbeats 8000000 in
theorem rmayg_2 (co ro : Int) (v : Value) (h : sideF co = true) (h2 : sideF ro = false) (w : World) : Calls Try.prog 21 #[.agg (gA co ro v)] w fun e w' => e = .returned (.bool false) ∧ Below w.heap.size w w' := by
 have MS := Box'.mk (side_any co)
 rw [h] at MS
 have MT := Box'.mk (side_any ro)
 rw [h2] at MT
 have F := Box'.mk (GrM.begin w (gA co ro v))
 clear h h2
 go_enter Try.func21, Try.ntmps21
 go_upto_region 1 with (fail)
 generalize (w.alloc (.cells (gA co ro v) 24)) = w1 at *
 have c0 : w1.cell? ⟨w.heap.size, 0, none⟩ = some (.int .i64 co) := F.out.rg.cell 0
 have c1 : w1.cell? ⟨w.heap.size, 1, none⟩ = some (.int .i64 ro) := F.out.rg.cell 1
 go_wp2_with fail
 refine (MS.out _).mono ?_
 rintro e w2 ⟨rfl, rfl⟩
 go_wp2_with fail
 refine (MT.out _).mono ?_
 rintro e w2 ⟨rfl, rfl⟩
 go_wp2_with fail
 go_ret
 exact ⟨rfl, F.out.be⟩
set_option maxRecDepth 100000 in
set_option maxHeartbeats 8000000 in
theorem rmayg_3 (cols rows : Nat) (a : Option Addr) (n cp : Nat) (h1 : 1 ≤ cols) (h2 : cols ≤ 512) (h3 : 1 ≤ rows) (h4 : rows ≤ 512) (hne : ¬ n = cols * rows) (w : World) : Calls Try.prog 21 #[.agg (gA (cols : Int) (rows : Int) (.slice a n cp))] w fun e w' => e = .returned (.bool false) ∧ Below w.heap.size w w' := by
 have MS := Box'.mk (side_any (cols : Int))
 rw [side_of h1 h2] at MS
 have MT := Box'.mk (side_any (rows : Int))
 rw [side_of h3 h4] at MT
 have hle : cols * rows ≤ 512 * 512 := Nat.mul_le_mul h2 h4
 have F := Box'.mk (GrM.begin w (gA (cols : Int) (rows : Int) (.slice a n cp)))
 have q1 : (cols : Int) * (rows : Int) ≤ 262144 := by rw [← Int.natCast_mul]; omega
 have q2 : 0 ≤ (cols : Int) * (rows : Int) := by rw [← Int.natCast_mul]; omega
 have q3 : ((n : Int) != (cols : Int) * (rows : Int)) = true := by rw [← Int.natCast_mul]; simp; omega
 clear hne hle
 go_enter Try.func21, Try.ntmps21
 go_upto_region 1 with (fail)
 generalize (w.alloc (.cells (gA (cols : Int) (rows : Int) (.slice a n cp)) 24)) = w1 at *
 have c0 : w1.cell? ⟨w.heap.size, 0, none⟩ = some (.int .i64 (cols : Int)) := F.out.rg.cell 0
 have c1 : w1.cell? ⟨w.heap.size, 1, none⟩ = some (.int .i64 (rows : Int)) := F.out.rg.cell 1
 have c2 : w1.cell? ⟨w.heap.size, 2, none⟩ = some (.slice a n cp) := F.out.rg.cell 2
 go_wp2_with fail
 refine (MS.out _).mono ?_
 rintro e w2 ⟨rfl, rfl⟩
 go_wp2_with fail
 refine (MT.out _).mono ?_
 rintro e w2 ⟨rfl, rfl⟩
 go_wp2_with fail
 go_ret
 exact ⟨rfl, F.out.be⟩
end Go.Proofs.Ytnbonlkmadmpcaa
