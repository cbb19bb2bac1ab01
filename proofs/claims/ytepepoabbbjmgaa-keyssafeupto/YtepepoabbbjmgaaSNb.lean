/- What a call leaves but for one block; rows cut out of a grid. Slices of cells cut anywhere, copied, filled. Cells pushed along. -/
import Derived.Test.YtepepoabbbjmgaaSMb
import Derived.Test.YtepepoabbbjmgaaSEq
namespace Go.Proofs.Ytepepoabbbjmgaa.Sc
open Go.RowKit Go.BigFrame
set_option linter.unusedVariables false
set_option linter.unusedSimpArgs false
set_option maxRecDepth 100000
set_option maxHeartbeats 8000000
/-- The cells of a grid's own value. -/
def gA (co ro : Int) (v : Value) : Array Value := #[.int .i64 co, .int .i64 ro, v]
theorem s24g : (Try.prog.info? 39).map (·.size) = some 3 := by kernel_rfl
theorem muls {a b c : Nat} : a * (b + c) - a * b = a * c := by rw [Nat.mul_add]; omega
theorem place_b (a b : Nat) (ha : a ≤ 1024) (hb : b ≤ 1024) (w : World) : Calls Try.prog 36 #[.int .i64 (a : Int), .int .i64 (b : Int)] w fun e w' => e = .returned (.int .i64 ((a * b : Nat) : Int)) ∧ Below w.heap.size w w' :=
 (place_any a b ha hb w).mono fun e w' h => ⟨h.1, h.2 ▸ Below.refl _ _⟩
theorem rowsOf_any (cols top count b o n c : Nat) (ro : Int) (h1 : 1 ≤ cols) (h2 : cols ≤ 512) (h3 : 1 ≤ count) (h4 : top + count ≤ 512) (h5 : cols * (top + count) ≤ c) (w : World) :
  Calls Try.prog 50 #[.agg (gA (cols : Int) ro (.slice (some ⟨b, o, none⟩) n c)), .int .i64 (top : Int), .int .i64 (count : Int)] w fun e w' =>
   e = .returned (.slice (some ⟨b, o + cols * top * 15, none⟩) (cols * count) (cols * count)) ∧ Below w.heap.size w w' := by
 have P1 := Box'.mk (place_b cols top (by omega) (by omega))
 have P2 := Box'.mk (place_b cols (top + count) (by omega) (by omega))
 rw [Int.natCast_add] at P2
 have hle : cols * top ≤ cols * (top + count) := Nat.mul_le_mul_left _ (by omega)
 have hlt : cols * top < cols * (top + count) := Nat.mul_lt_mul_of_pos_left (by omega) (by omega)
 have E : Box' (cols * (top + count) - cols * top = cols * count) := ⟨muls⟩
 have CT := Box'.mk (fun w => run_cutC3 b o n c (cols * top) (cols * (top + count)) (cols * (top + count)) hle (Nat.le_refl _) h5 hlt w)
 have R1 := Box'.mk (Row.new w 39 (gA (cols : Int) ro (.slice (some ⟨b, o, none⟩) n c)))
 have B1 := Box'.mk ((Below.refl w.heap.size w).alloc (Nat.le_refl _) (.cells (gA (cols : Int) ro (.slice (some ⟨b, o, none⟩) n c)) 39))
 generalize cols * top = lo at *
 generalize cols * (top + count) = hi at *
 go_enter Try.func50, Try.ntmps50
 go_upto_region 1 with (fail)
 generalize (w.alloc (.cells (gA (cols : Int) ro (.slice (some ⟨b, o, none⟩) n c)) 39)) = w1 at *
 refine wp_region_growg 10 (by kernel_rfl) 25 rfl (by kernel_rfl) (fun wa wb => Below wa.heap.size wa wb) (fun wa => Row wa w.heap.size 39 (gA (cols : Int) ro (.slice (some ⟨b, o, none⟩) n c)) ∧ Below w.heap.size w wa) (fun kc wa v => v = (match kc with
  | 0 => .pointer (some ⟨w.heap.size, 0, none⟩)
  | 1 => .int .i64 (cols : Int)
  | 2 => .int .i64 (top : Int)
  | 3 => .int .i64 (lo : Int)
  | 4 => .pointer (some ⟨w.heap.size, 0, none⟩)
  | 5 => .int .i64 (cols : Int)
  | 6 => .int .i64 (top : Int)
  | 7 => .int .i64 (count : Int)
  | 8 => .int .i64 ((top : Int) + (count : Int))
  | 9 => .int .i64 (hi : Int)
  | _ => undef)) ?_ ?_ ?_ ?_ ?_ ?_
 ·intro i o' j b' hi hg wa v hC hV
  have hlt : i < 10 := by rcases Nat.lt_or_ge i 10 with q | q; exact q; rw [List.getElem?_eq_none (by simpa using q)] at hi; cases hi
  revert hi hg hV
  rcases (show i = 0 ∨ i = 1 ∨ i = 2 ∨ i = 3 ∨ i = 4 ∨ i = 5 ∨ i = 6 ∨ i = 7 ∨ i = 8 ∨ i = 9 by omega) with rfl | rfl | rfl | rfl | rfl | rfl | rfl | rfl | rfl | rfl <;>
   (intro hi hg hV; simp only [tkS, List.getElem?_cons_zero, List.getElem?_cons_succ, Option.some.injEq] at hi; subst hi; first | (cases hg; exact hV) | (cases hg))
 ·rintro wa wb hb ⟨q1, q2⟩; exact ⟨q1.below hb q1.lt, q2.trans (hb.mono q2.size)⟩
 ·exact fun kc v wa wb hC1 hb h => h
 ·exact ⟨R1.out.drew, B1.out.drew⟩
 ·refine ⟨?a0, ?a1, ?a2, ?a3, ?a4, ?a5, ?a6, ?a7, ?a8, ?a9, trivial⟩
  all_goals intro f wq hC hd KK hK
  all_goals have cq0 : wq.cell? ⟨w.heap.size, 0, none⟩ = some (.int .i64 (cols : Int)) := hC.1.cell 0
  all_goals simp (disch := decide +kernel) only [tkS, tkZ, setAll, siB, stS, stZ, Nat.zero_add, Nat.reduceAdd, hd] at hK ⊢
  case a3 =>
   exact wp_call 36 #[.int .i64 (cols : Int), .int .i64 (top : Int)] (by simp [go_sem]) _ _ (P1.out wq) (fun w' hb => hK _ _ rfl hb)
  case a9 =>
   exact wp_call 36 #[.int .i64 (cols : Int), .int .i64 ((top : Int) + (count : Int))] (by simp [go_sem]) _ _ (P2.out wq) (fun w' hb => hK _ _ rfl hb)
  all_goals (skip; refine wp_of_quiet rfl ?_; go_big_quiet_step (fail); exact wpQuiet_nil (hK _ _ (rfl) bR))
 ·intro f wz hC hv
  simp (disch := decide) only [tkS, tkZ, List.drop_succ_cons, List.drop_zero, setAll, siB, stS, stZ, Nat.zero_add, Nat.reduceAdd, hv]
  clear hv
  have c2 : wz.cell? ⟨w.heap.size, 2, none⟩ = some (.slice (some ⟨b, o, none⟩) n c) := hC.1.cell 2
  have B2 := Box'.mk hC.2
  clear hC R1 B1 P1 P2
  go_wp2_with (first
   | (refine wpList_slice rfl 37 (.tmp 20) (some (.tmp 21)) (some (.tmp 22)) (some (.tmp 23)) rfl _ (CT.out _) ?_))
  go_ret
  rw [← E.out]
  exact ⟨rfl, B2.out⟩
theorem rowOf_any (cols top b o n c : Nat) (ro : Int) (h1 : 1 ≤ cols) (h2 : cols ≤ 512) (h4 : top < 512) (h5 : cols * (top + 1) ≤ c) (w : World) :
  Calls Try.prog 39 #[.agg (gA (cols : Int) ro (.slice (some ⟨b, o, none⟩) n c)), .int .i64 (top : Int)] w fun e w' =>
   e = .returned (.slice (some ⟨b, o + cols * top * 15, none⟩) cols cols) ∧ Below w.heap.size w w' := by
 have RW := Box'.mk (rowsOf_any cols top 1 b o n c ro h1 h2 (by omega) (by omega) h5)
 have U24 := Box'.mk Try.underlying39
 have S24 := Box'.mk s24g
 rw [Nat.mul_one] at RW
 have R1 := Box'.mk (Row.new w 39 (gA (cols : Int) ro (.slice (some ⟨b, o, none⟩) n c)))
 have B1 := Box'.mk ((Below.refl w.heap.size w).alloc (Nat.le_refl _) (.cells (gA (cols : Int) ro (.slice (some ⟨b, o, none⟩) n c)) 39))
 go_enter Try.func39, Try.ntmps39
 go_upto_region 1 with (fail)
 generalize (w.alloc (.cells (gA (cols : Int) ro (.slice (some ⟨b, o, none⟩) n c)) 39)) = w1 at *
 go_wp2_with (first
  | (refine wpList_load_row rfl 39 (.tmp 2) rfl w.heap.size rfl 39 (gA (cols : Int) ro (.slice (some ⟨b, o, none⟩) n c)) R1.out _ U24.out rfl 3 S24.out rfl ?_))
 refine (RW.out _).mono ?_
 rintro e w2 ⟨rfl, hb2⟩
 have B2 := Box'.mk (B1.out.trans (hb2.mono B1.out.size))
 clear hb2 RW R1 B1
 go_wp2_with fail
 go_ret
 exact ⟨rfl, B2.out⟩
section
variable {ops : Array Oper} {rest : List Oper} {op : Oper} {a : Act} {w : World} {Q : Exit → Act → World → Prop}
end
end Go.Proofs.Ytepepoabbbjmgaa.Sc
