/- Which grids may be, as the program asks. -/
import Derived.Test.YtnbonlkmadmpcaaNh
namespace Go.Proofs.Ytnbonlkmadmpcaa
open Go.RowKit Go.BigFrame
set_option linter.unusedVariables false
set_option linter.unusedSimpArgs false
theorem maySize_b (a b : Int) (w : World) : Calls Try.prog 26 #[.int .i64 a, .int .i64 b] w fun e w' => e = .returned (.bool (sideF a && sideF b)) ∧ Below w.heap.size w w' :=
 (maySize_any a b w).mono fun e w' h => ⟨h.1, h.2 ▸ Below.refl _ _⟩
theorem side_nat {n : Int} (h : sideF n = true) : ∃ k : Nat, n = (k : Int) ∧ 1 ≤ k ∧ k ≤ 512 := by
 unfold sideF at h
 simp only [decide_eq_true_eq] at h
 exact ⟨n.toNat, by omega, by omega, by omega⟩
theorem side_of {k : Nat} (h1 : 1 ≤ k) (h2 : k ≤ 512) : sideF (k : Int) = true := by
 unfold sideF
 simp only [decide_eq_true_eq]
 omega
set_option maxRecDepth 100000 in
set_option maxHeartbeats 16000000 in
theorem gmay_1 (co ro : Int) (v : Value) (h : (sideF co && sideF ro) = false) (w : World) : Calls Try.prog 20 #[.agg (gA co ro v)] w fun e w' => e = .returned (.bool false) ∧ Below w.heap.size w w' := by
 have MS := Box'.mk (maySize_b co ro)
 rw [h] at MS
 have R1 := Box'.mk (Row.new w 24 (gA co ro v))
 have B1 := Box'.mk ((Below.refl w.heap.size w).alloc (Nat.le_refl _) (.cells (gA co ro v) 24))
 clear h
 go_enter Try.func20, Try.ntmps20
 go_upto_region 1 with (fail)
 generalize (w.alloc (.cells (gA co ro v) 24)) = w1 at *
 refine wp_region_growh 23 (by kernel_rfl) 38 rfl (by kernel_rfl) (fun wa wb => Below wa.heap.size wa wb) (fun wa => Row wa w.heap.size 24 (gA co ro v) ∧ Below w.heap.size w wa) (fun kc wa v => match kc with
  | 0 => v = .pointer (some ⟨w.heap.size, 0, none⟩)
  | 1 => v = .int .i64 co
  | 2 => v = .pointer (some ⟨w.heap.size, 1, none⟩)
  | 3 => v = .int .i64 ro
  | 4 => v = .bool false
  | 5 => v = .bool true
  | 6 => v = .bool true
  | 7 => v = undef
  | 8 => v = undef
  | 9 => v = undef
  | 10 => v = undef
  | 11 => v = undef
  | 12 => v = undef
  | 13 => v = undef
  | 14 => v = undef
  | 15 => v = undef
  | 16 => v = .bool true
  | 17 => v = .bool true
  | 18 => v = undef
  | 19 => v = undef
  | 20 => v = undef
  | 21 => v = undef
  | 22 => v = .bool true
  | _ => True) (fun i => !([7, 8, 9, 10, 11, 12, 13, 14, 15, 18, 19, 20, 21] : List Nat).contains i) ?_ ?_ ?_ ?_ ?_ ?_ ?_ ?_
 ·intro i o' j b' hi hg wa v hC hV
  have hlt : i < 23 := by rcases Nat.lt_or_ge i 23 with q | q; exact q; rw [List.getElem?_eq_none (by simpa using q)] at hi; cases hi
  revert hi hg hV
  rcases (show i = 0 ∨ i = 1 ∨ i = 2 ∨ i = 3 ∨ i = 4 ∨ i = 5 ∨ i = 6 ∨ i = 7 ∨ i = 8 ∨ i = 9 ∨ i = 10 ∨ i = 11 ∨ i = 12 ∨ i = 13 ∨ i = 14 ∨ i = 15 ∨ i = 16 ∨ i = 17 ∨ i = 18 ∨ i = 19 ∨ i = 20 ∨ i = 21 ∨ i = 22 by omega) with rfl | rfl | rfl | rfl | rfl | rfl | rfl | rfl | rfl | rfl | rfl | rfl | rfl | rfl | rfl | rfl | rfl | rfl | rfl | rfl | rfl | rfl | rfl <;>
   (intro hi hg hV; simp only [tkS, List.getElem?_cons_zero, List.getElem?_cons_succ, Option.some.injEq] at hi; subst hi; first | (cases hg; first | exact hV | exact (show v ≠ _ from (by rw [hV]; intro hh; cases hh))) | (cases hg))
 ·intro i o' hi hg
  have hlt : i < 23 := by rcases Nat.lt_or_ge i 23 with q | q; exact q; rw [List.getElem?_eq_none (by simpa using q)] at hi; cases hi
  revert hi hg
  rcases (show i = 0 ∨ i = 1 ∨ i = 2 ∨ i = 3 ∨ i = 4 ∨ i = 5 ∨ i = 6 ∨ i = 7 ∨ i = 8 ∨ i = 9 ∨ i = 10 ∨ i = 11 ∨ i = 12 ∨ i = 13 ∨ i = 14 ∨ i = 15 ∨ i = 16 ∨ i = 17 ∨ i = 18 ∨ i = 19 ∨ i = 20 ∨ i = 21 ∨ i = 22 by omega) with rfl | rfl | rfl | rfl | rfl | rfl | rfl | rfl | rfl | rfl | rfl | rfl | rfl | rfl | rfl | rfl | rfl | rfl | rfl | rfl | rfl | rfl | rfl <;>
   (intro hi hg; simp only [tkS, List.getElem?_cons_zero, List.getElem?_cons_succ, Option.some.injEq] at hi; subst hi; first | (cases hg; done) | (intro hh; cases hh))
 ·intro i hi wa
  have hi' : (!([7, 8, 9, 10, 11, 12, 13, 14, 15, 18, 19, 20, 21] : List Nat).contains i) = false := hi
  have hm : i ∈ ([7, 8, 9, 10, 11, 12, 13, 14, 15, 18, 19, 20, 21] : List Nat) := List.contains_iff_mem.1 (by cases hc : ([7, 8, 9, 10, 11, 12, 13, 14, 15, 18, 19, 20, 21] : List Nat).contains i with | true => rfl | false => rw [hc] at hi'; cases hi')
  simp only [List.mem_cons, List.not_mem_nil, or_false] at hm
  rcases hm with rfl | rfl | rfl | rfl | rfl | rfl | rfl | rfl | rfl | rfl | rfl | rfl | rfl <;> rfl
 ·rintro wa wb hb ⟨q1, q2⟩; exact ⟨q1.below hb q1.lt, q2.trans (hb.mono q2.size)⟩
 ·intro kc v wa wb hC1 hb h
  match kc, h with
  | 0, h => exact h
  | 1, h => exact h
  | 2, h => exact h
  | 3, h => exact h
  | 4, h => exact h
  | 5, h => exact h
  | 6, h => exact h
  | 7, h => exact h
  | 8, h => exact h
  | 9, h => exact h
  | 10, h => exact h
  | 11, h => exact h
  | 12, h => exact h
  | 13, h => exact h
  | 14, h => exact h
  | 15, h => exact h
  | 16, h => exact h
  | 17, h => exact h
  | 18, h => exact h
  | 19, h => exact h
  | 20, h => exact h
  | 21, h => exact h
  | 22, h => exact h
  | kc + 23, h => trivial
 ·exact ⟨R1.out.drew, B1.out.drew⟩
 ·refine ⟨?_, ?_, ?_, ?_, ?_, ?_, ?_, ?_, ?_, ?_, ?_, ?_, ?_, ?_, ?_, ?_, ?_, ?_, ?_, ?_, ?_, ?_, ?_, trivial⟩
  ·intro _ f wq hC hd KK hK
   clear hd
   simp only [tkS, tkZ, setAll, siB, stS, stZ, Nat.zero_add, Nat.reduceAdd] at hK ⊢
   refine wp_of_quiet rfl ?_
   go_big_quiet_step (fail)
   exact wpQuiet_nil (hK _ _ (rfl) bR)
  ·intro _ f wq hC hd KK hK
   have g0 : f 0 = .pointer (some ⟨w.heap.size, 0, none⟩) := hd 0 (by kernel_rfl)
   clear hd
   have c0 : wq.cell? ⟨w.heap.size, 0, none⟩ = some (.int .i64 co) := hC.1.cell 0
   clear hC
   simp only [tkS, tkZ, setAll, siB, stS, stZ, Nat.zero_add, Nat.reduceAdd, g0] at hK ⊢
   refine wp_of_quiet rfl ?_
   go_big_quiet_step (fail)
   exact wpQuiet_nil (hK _ _ (rfl) bR)
  ·intro _ f wq hC hd KK hK
   clear hd
   simp only [tkS, tkZ, setAll, siB, stS, stZ, Nat.zero_add, Nat.reduceAdd] at hK ⊢
   refine wp_of_quiet rfl ?_
   go_big_quiet_step (fail)
   exact wpQuiet_nil (hK _ _ (rfl) bR)
  ·intro _ f wq hC hd KK hK
   have g2 : f 2 = .pointer (some ⟨w.heap.size, 1, none⟩) := hd 2 (by kernel_rfl)
   clear hd
   have c1 : wq.cell? ⟨w.heap.size, 1, none⟩ = some (.int .i64 ro) := hC.1.cell 1
   clear hC
   simp only [tkS, tkZ, setAll, siB, stS, stZ, Nat.zero_add, Nat.reduceAdd, g2] at hK ⊢
   refine wp_of_quiet rfl ?_
   go_big_quiet_step (fail)
   exact wpQuiet_nil (hK _ _ (rfl) bR)
  ·intro _ f wq hC hd KK hK
   have g1 : f 1 = .int .i64 co := hd 1 (by kernel_rfl)
   have g3 : f 3 = .int .i64 ro := hd 3 (by kernel_rfl)
   clear hd
   simp only [tkS, tkZ, setAll, siB, stS, stZ, Nat.zero_add, Nat.reduceAdd, g1, g3] at hK ⊢
   exact wp_call 26 #[.int .i64 co, .int .i64 ro] (by simp [go_sem]) _ _ (MS.out wq) (fun w' hb => hK _ _ rfl hb)
  ·intro _ f wq hC hd KK hK
   have g4 : f 4 = .bool false := hd 4 (by kernel_rfl)
   clear hd
   simp only [tkS, tkZ, setAll, siB, stS, stZ, Nat.zero_add, Nat.reduceAdd, g4] at hK ⊢
   refine wp_of_quiet rfl ?_
   go_big_quiet_step (fail)
   exact wpQuiet_nil (hK _ _ (rfl) bR)
  ·intro _ f wq hC hd KK hK
   have g5 : f 5 = .bool true := hd 5 (by kernel_rfl)
   clear hd
   simp only [tkS, tkZ, setAll, siB, stS, stZ, Nat.zero_add, Nat.reduceAdd, g5] at hK ⊢
   refine wp_of_quiet rfl ?_
   go_big_quiet_step (fail)
   exact wpQuiet_nil (hK _ _ (rfl) bR)
  ·intro hh; cases hh
  ·intro hh; cases hh
  ·intro hh; cases hh
  ·intro hh; cases hh
  ·intro hh; cases hh
  ·intro hh; cases hh
  ·intro hh; cases hh
  ·intro hh; cases hh
  ·intro hh; cases hh
  ·intro _ f wq hC hd KK hK
   have g6 : f 6 = .bool true := hd 6 (by kernel_rfl)
   clear hd
   simp only [tkS, tkZ, setAll, siB, stS, stZ, Nat.zero_add, Nat.reduceAdd, g6] at hK ⊢
   refine wp_of_quiet rfl ?_
   go_big_quiet_step (fail)
   exact wpQuiet_nil (hK _ _ (rfl) bR)
  ·intro _ f wq hC hd KK hK
   have g16 : f 16 = .bool true := hd 16 (by kernel_rfl)
   clear hd
   simp only [tkS, tkZ, setAll, siB, stS, stZ, Nat.zero_add, Nat.reduceAdd, g16] at hK ⊢
   refine wp_of_quiet rfl ?_
   go_big_quiet_step (fail)
   exact wpQuiet_nil (hK _ _ (rfl) bR)
  ·intro hh; cases hh
  ·intro hh; cases hh
  ·intro hh; cases hh
  ·intro hh; cases hh
  ·intro _ f wq hC hd KK hK
   have g17 : f 17 = .bool true := hd 17 (by kernel_rfl)
   clear hd
   simp only [tkS, tkZ, setAll, siB, stS, stZ, Nat.zero_add, Nat.reduceAdd, g17] at hK ⊢
   refine wp_of_quiet rfl ?_
   go_big_quiet_step (fail)
   exact wpQuiet_nil (hK _ _ (rfl) bR)
 ·intro f wz hC hv
  have p0 : f 0 = .pointer (some ⟨w.heap.size, 0, none⟩) := hv 0 (by decide)
  have p1 : f 1 = .int .i64 co := hv 1 (by decide)
  have p2 : f 2 = .pointer (some ⟨w.heap.size, 1, none⟩) := hv 2 (by decide)
  have p3 : f 3 = .int .i64 ro := hv 3 (by decide)
  have p4 : f 4 = .bool false := hv 4 (by decide)
  have p5 : f 5 = .bool true := hv 5 (by decide)
  have p6 : f 6 = .bool true := hv 6 (by decide)
  have p16 : f 16 = .bool true := hv 16 (by decide)
  have p17 : f 17 = .bool true := hv 17 (by decide)
  have p22 : f 22 = .bool true := hv 22 (by decide)
  simp only [tkS, tkZ, List.drop_succ_cons, List.drop_zero, setAll, siB, stS, stZ, Nat.zero_add, Nat.reduceAdd, p0, p1, p2, p3, p4, p5, p6, p16, p17, p22]
  clear hv p0 p1 p2 p3 p4 p5 p6 p16 p17 p22
  have B2 := Box'.mk hC.2
  clear hC R1 B1
  go_wp2_with fail
  go_ret
  exact ⟨rfl, B2.out⟩
set_option maxRecDepth 100000 in
set_option maxHeartbeats 16000000 in
theorem gmay_2 (cols rows : Nat) (a : Option Addr) (n cp : Nat) (h1 : 1 ≤ cols) (h2 : cols ≤ 512) (h3 : 1 ≤ rows) (h4 : rows ≤ 512) (hne : ¬ n = cols * rows) (w : World) : Calls Try.prog 20 #[.agg (gA (cols : Int) (rows : Int) (.slice a n cp))] w fun e w' => e = .returned (.bool false) ∧ Below w.heap.size w w' := by
 have MS := Box'.mk (maySize_b (cols : Int) (rows : Int))
 rw [side_of h1 h2, side_of h3 h4] at MS
 have PL := Box'.mk (place_b cols rows (by omega) (by omega))
 have R1 := Box'.mk (Row.new w 24 (gA (cols : Int) (rows : Int) (.slice a n cp)))
 have B1 := Box'.mk ((Below.refl w.heap.size w).alloc (Nat.le_refl _) (.cells (gA (cols : Int) (rows : Int) (.slice a n cp)) 24))
 generalize cols * rows = m at *
 have hq : ((n : Int) != (m : Int)) = true := by simp; omega
 clear hne
 go_enter Try.func20, Try.ntmps20
 go_upto_region 1 with (fail)
 generalize (w.alloc (.cells (gA (cols : Int) (rows : Int) (.slice a n cp)) 24)) = w1 at *
 refine wp_region_growh 23 (by kernel_rfl) 38 rfl (by kernel_rfl) (fun wa wb => Below wa.heap.size wa wb) (fun wa => Row wa w.heap.size 24 (gA (cols : Int) (rows : Int) (.slice a n cp)) ∧ Below w.heap.size w wa) (fun kc wa v => match kc with
  | 0 => v = .pointer (some ⟨w.heap.size, 0, none⟩)
  | 1 => v = .int .i64 (cols : Int)
  | 2 => v = .pointer (some ⟨w.heap.size, 1, none⟩)
  | 3 => v = .int .i64 (rows : Int)
  | 4 => v = .bool true
  | 5 => v = .bool false
  | 6 => v = .bool false
  | 7 => v = .pointer (some ⟨w.heap.size, 2, none⟩)
  | 8 => v = .slice a n cp
  | 9 => v = .int .i64 (n : Int)
  | 10 => v = .pointer (some ⟨w.heap.size, 0, none⟩)
  | 11 => v = .int .i64 (cols : Int)
  | 12 => v = .pointer (some ⟨w.heap.size, 1, none⟩)
  | 13 => v = .int .i64 (rows : Int)
  | 14 => v = .int .i64 (m : Int)
  | 15 => v = .bool true
  | 16 => v = .bool true
  | 17 => v = .bool true
  | 18 => v = undef
  | 19 => v = undef
  | 20 => v = undef
  | 21 => v = undef
  | 22 => v = .bool true
  | _ => True) (fun i => !([18, 19, 20, 21] : List Nat).contains i) ?_ ?_ ?_ ?_ ?_ ?_ ?_ ?_
 ·intro i o' j b' hi hg wa v hC hV
  have hlt : i < 23 := by rcases Nat.lt_or_ge i 23 with q | q; exact q; rw [List.getElem?_eq_none (by simpa using q)] at hi; cases hi
  revert hi hg hV
  rcases (show i = 0 ∨ i = 1 ∨ i = 2 ∨ i = 3 ∨ i = 4 ∨ i = 5 ∨ i = 6 ∨ i = 7 ∨ i = 8 ∨ i = 9 ∨ i = 10 ∨ i = 11 ∨ i = 12 ∨ i = 13 ∨ i = 14 ∨ i = 15 ∨ i = 16 ∨ i = 17 ∨ i = 18 ∨ i = 19 ∨ i = 20 ∨ i = 21 ∨ i = 22 by omega) with rfl | rfl | rfl | rfl | rfl | rfl | rfl | rfl | rfl | rfl | rfl | rfl | rfl | rfl | rfl | rfl | rfl | rfl | rfl | rfl | rfl | rfl | rfl <;>
   (intro hi hg hV; simp only [tkS, List.getElem?_cons_zero, List.getElem?_cons_succ, Option.some.injEq] at hi; subst hi; first | (cases hg; first | exact hV | exact (show v ≠ _ from (by rw [hV]; intro hh; cases hh))) | (cases hg))
 ·intro i o' hi hg
  have hlt : i < 23 := by rcases Nat.lt_or_ge i 23 with q | q; exact q; rw [List.getElem?_eq_none (by simpa using q)] at hi; cases hi
  revert hi hg
  rcases (show i = 0 ∨ i = 1 ∨ i = 2 ∨ i = 3 ∨ i = 4 ∨ i = 5 ∨ i = 6 ∨ i = 7 ∨ i = 8 ∨ i = 9 ∨ i = 10 ∨ i = 11 ∨ i = 12 ∨ i = 13 ∨ i = 14 ∨ i = 15 ∨ i = 16 ∨ i = 17 ∨ i = 18 ∨ i = 19 ∨ i = 20 ∨ i = 21 ∨ i = 22 by omega) with rfl | rfl | rfl | rfl | rfl | rfl | rfl | rfl | rfl | rfl | rfl | rfl | rfl | rfl | rfl | rfl | rfl | rfl | rfl | rfl | rfl | rfl | rfl <;>
   (intro hi hg; simp only [tkS, List.getElem?_cons_zero, List.getElem?_cons_succ, Option.some.injEq] at hi; subst hi; first | (cases hg; done) | (intro hh; cases hh))
 ·intro i hi wa
  have hi' : (!([18, 19, 20, 21] : List Nat).contains i) = false := hi
  have hm : i ∈ ([18, 19, 20, 21] : List Nat) := List.contains_iff_mem.1 (by cases hc : ([18, 19, 20, 21] : List Nat).contains i with | true => rfl | false => rw [hc] at hi'; cases hi')
  simp only [List.mem_cons, List.not_mem_nil, or_false] at hm
  rcases hm with rfl | rfl | rfl | rfl <;> rfl
 ·rintro wa wb hb ⟨q1, q2⟩; exact ⟨q1.below hb q1.lt, q2.trans (hb.mono q2.size)⟩
 ·intro kc v wa wb hC1 hb h
  match kc, h with
  | 0, h => exact h
  | 1, h => exact h
  | 2, h => exact h
  | 3, h => exact h
  | 4, h => exact h
  | 5, h => exact h
  | 6, h => exact h
  | 7, h => exact h
  | 8, h => exact h
  | 9, h => exact h
  | 10, h => exact h
  | 11, h => exact h
  | 12, h => exact h
  | 13, h => exact h
  | 14, h => exact h
  | 15, h => exact h
  | 16, h => exact h
  | 17, h => exact h
  | 18, h => exact h
  | 19, h => exact h
  | 20, h => exact h
  | 21, h => exact h
  | 22, h => exact h
  | kc + 23, h => trivial
 ·exact ⟨R1.out.drew, B1.out.drew⟩
 ·refine ⟨?_, ?_, ?_, ?_, ?_, ?_, ?_, ?_, ?_, ?_, ?_, ?_, ?_, ?_, ?_, ?_, ?_, ?_, ?_, ?_, ?_, ?_, ?_, trivial⟩
  ·intro _ f wq hC hd KK hK
   clear hd
   simp only [tkS, tkZ, setAll, siB, stS, stZ, Nat.zero_add, Nat.reduceAdd] at hK ⊢
   refine wp_of_quiet rfl ?_
   go_big_quiet_step (fail)
   exact wpQuiet_nil (hK _ _ (rfl) bR)
  ·intro _ f wq hC hd KK hK
   have g0 : f 0 = .pointer (some ⟨w.heap.size, 0, none⟩) := hd 0 (by kernel_rfl)
   clear hd
   have c0 : wq.cell? ⟨w.heap.size, 0, none⟩ = some (.int .i64 (cols : Int)) := hC.1.cell 0
   clear hC
   simp only [tkS, tkZ, setAll, siB, stS, stZ, Nat.zero_add, Nat.reduceAdd, g0] at hK ⊢
   refine wp_of_quiet rfl ?_
   go_big_quiet_step (fail)
   exact wpQuiet_nil (hK _ _ (rfl) bR)
  ·intro _ f wq hC hd KK hK
   clear hd
   simp only [tkS, tkZ, setAll, siB, stS, stZ, Nat.zero_add, Nat.reduceAdd] at hK ⊢
   refine wp_of_quiet rfl ?_
   go_big_quiet_step (fail)
   exact wpQuiet_nil (hK _ _ (rfl) bR)
  ·intro _ f wq hC hd KK hK
   have g2 : f 2 = .pointer (some ⟨w.heap.size, 1, none⟩) := hd 2 (by kernel_rfl)
   clear hd
   have c1 : wq.cell? ⟨w.heap.size, 1, none⟩ = some (.int .i64 (rows : Int)) := hC.1.cell 1
   clear hC
   simp only [tkS, tkZ, setAll, siB, stS, stZ, Nat.zero_add, Nat.reduceAdd, g2] at hK ⊢
   refine wp_of_quiet rfl ?_
   go_big_quiet_step (fail)
   exact wpQuiet_nil (hK _ _ (rfl) bR)
  ·intro _ f wq hC hd KK hK
   have g1 : f 1 = .int .i64 (cols : Int) := hd 1 (by kernel_rfl)
   have g3 : f 3 = .int .i64 (rows : Int) := hd 3 (by kernel_rfl)
   clear hd
   simp only [tkS, tkZ, setAll, siB, stS, stZ, Nat.zero_add, Nat.reduceAdd, g1, g3] at hK ⊢
   exact wp_call 26 #[.int .i64 (cols : Int), .int .i64 (rows : Int)] (by simp [go_sem]) _ _ (MS.out wq) (fun w' hb => hK _ _ rfl hb)
  ·intro _ f wq hC hd KK hK
   have g4 : f 4 = .bool true := hd 4 (by kernel_rfl)
   clear hd
   simp only [tkS, tkZ, setAll, siB, stS, stZ, Nat.zero_add, Nat.reduceAdd, g4] at hK ⊢
   refine wp_of_quiet rfl ?_
   go_big_quiet_step (fail)
   exact wpQuiet_nil (hK _ _ (rfl) bR)
  ·intro _ f wq hC hd KK hK
   have g5 : f 5 = .bool false := hd 5 (by kernel_rfl)
   clear hd
   simp only [tkS, tkZ, setAll, siB, stS, stZ, Nat.zero_add, Nat.reduceAdd, g5] at hK ⊢
   refine wp_of_quiet rfl ?_
   go_big_quiet_step (fail)
   exact wpQuiet_nil (hK _ _ (rfl) bR)
  ·intro _ f wq hC hd KK hK
   clear hd
   simp only [tkS, tkZ, setAll, siB, stS, stZ, Nat.zero_add, Nat.reduceAdd] at hK ⊢
   refine wp_unguard ?_
   refine wp_of_quiet rfl ?_
   go_big_quiet_step (fail)
   exact wpQuiet_nil (hK _ _ (rfl) bR)
  ·intro _ f wq hC hd KK hK
   have g7 : f 7 = .pointer (some ⟨w.heap.size, 2, none⟩) := hd 7 (by kernel_rfl)
   clear hd
   have c2 : wq.cell? ⟨w.heap.size, 2, none⟩ = some (.slice a n cp) := hC.1.cell 2
   clear hC
   simp only [tkS, tkZ, setAll, siB, stS, stZ, Nat.zero_add, Nat.reduceAdd, g7] at hK ⊢
   refine wp_unguard ?_
   refine wp_of_quiet rfl ?_
   go_big_quiet_step (fail)
   exact wpQuiet_nil (hK _ _ (rfl) bR)
  ·intro _ f wq hC hd KK hK
   have g8 : f 8 = .slice a n cp := hd 8 (by kernel_rfl)
   clear hd
   simp only [tkS, tkZ, setAll, siB, stS, stZ, Nat.zero_add, Nat.reduceAdd, g8] at hK ⊢
   refine wp_unguard ?_
   refine wp_of_quiet rfl ?_
   go_big_quiet_step (fail)
   exact wpQuiet_nil (hK _ _ (rfl) bR)
  ·intro _ f wq hC hd KK hK
   clear hd
   simp only [tkS, tkZ, setAll, siB, stS, stZ, Nat.zero_add, Nat.reduceAdd] at hK ⊢
   refine wp_unguard ?_
   refine wp_of_quiet rfl ?_
   go_big_quiet_step (fail)
   exact wpQuiet_nil (hK _ _ (rfl) bR)
  ·intro _ f wq hC hd KK hK
   have g10 : f 10 = .pointer (some ⟨w.heap.size, 0, none⟩) := hd 10 (by kernel_rfl)
   clear hd
   have c0 : wq.cell? ⟨w.heap.size, 0, none⟩ = some (.int .i64 (cols : Int)) := hC.1.cell 0
   clear hC
   simp only [tkS, tkZ, setAll, siB, stS, stZ, Nat.zero_add, Nat.reduceAdd, g10] at hK ⊢
   refine wp_unguard ?_
   refine wp_of_quiet rfl ?_
   go_big_quiet_step (fail)
   exact wpQuiet_nil (hK _ _ (rfl) bR)
  ·intro _ f wq hC hd KK hK
   clear hd
   simp only [tkS, tkZ, setAll, siB, stS, stZ, Nat.zero_add, Nat.reduceAdd] at hK ⊢
   refine wp_unguard ?_
   refine wp_of_quiet rfl ?_
   go_big_quiet_step (fail)
   exact wpQuiet_nil (hK _ _ (rfl) bR)
  ·intro _ f wq hC hd KK hK
   have g12 : f 12 = .pointer (some ⟨w.heap.size, 1, none⟩) := hd 12 (by kernel_rfl)
   clear hd
   have c1 : wq.cell? ⟨w.heap.size, 1, none⟩ = some (.int .i64 (rows : Int)) := hC.1.cell 1
   clear hC
   simp only [tkS, tkZ, setAll, siB, stS, stZ, Nat.zero_add, Nat.reduceAdd, g12] at hK ⊢
   refine wp_unguard ?_
   refine wp_of_quiet rfl ?_
   go_big_quiet_step (fail)
   exact wpQuiet_nil (hK _ _ (rfl) bR)
  ·intro _ f wq hC hd KK hK
   have g11 : f 11 = .int .i64 (cols : Int) := hd 11 (by kernel_rfl)
   have g13 : f 13 = .int .i64 (rows : Int) := hd 13 (by kernel_rfl)
   clear hd
   simp only [tkS, tkZ, setAll, siB, stS, stZ, Nat.zero_add, Nat.reduceAdd, g11, g13] at hK ⊢
   refine wp_unguard ?_
   exact wp_call 45 #[.int .i64 (cols : Int), .int .i64 (rows : Int)] (by simp [go_sem]) _ _ (PL.out wq) (fun w' hb => hK _ _ rfl hb)
  ·intro _ f wq hC hd KK hK
   have g9 : f 9 = .int .i64 (n : Int) := hd 9 (by kernel_rfl)
   have g14 : f 14 = .int .i64 (m : Int) := hd 14 (by kernel_rfl)
   clear hd
   simp only [tkS, tkZ, setAll, siB, stS, stZ, Nat.zero_add, Nat.reduceAdd, g9, g14] at hK ⊢
   refine wp_unguard ?_
   refine wp_of_quiet rfl ?_
   go_big_quiet_step (fail)
   exact wpQuiet_nil (hK _ _ (by first | rfl | (simp [hq]; done) | (simp; omega)) bR)
  ·intro _ f wq hC hd KK hK
   have g6 : f 6 = .bool false := hd 6 (by kernel_rfl)
   have g15 : f 15 = .bool true := hd 15 (by kernel_rfl)
   clear hd
   simp only [tkS, tkZ, setAll, siB, stS, stZ, Nat.zero_add, Nat.reduceAdd, g6, g15] at hK ⊢
   refine wp_of_quiet rfl ?_
   go_big_quiet_step (fail)
   exact wpQuiet_nil (hK _ _ (rfl) bR)
  ·intro _ f wq hC hd KK hK
   have g16 : f 16 = .bool true := hd 16 (by kernel_rfl)
   clear hd
   simp only [tkS, tkZ, setAll, siB, stS, stZ, Nat.zero_add, Nat.reduceAdd, g16] at hK ⊢
   refine wp_of_quiet rfl ?_
   go_big_quiet_step (fail)
   exact wpQuiet_nil (hK _ _ (rfl) bR)
  ·intro hh; cases hh
  ·intro hh; cases hh
  ·intro hh; cases hh
  ·intro hh; cases hh
  ·intro _ f wq hC hd KK hK
   have g17 : f 17 = .bool true := hd 17 (by kernel_rfl)
   clear hd
   simp only [tkS, tkZ, setAll, siB, stS, stZ, Nat.zero_add, Nat.reduceAdd, g17] at hK ⊢
   refine wp_of_quiet rfl ?_
   go_big_quiet_step (fail)
   exact wpQuiet_nil (hK _ _ (rfl) bR)
 ·intro f wz hC hv
  have p0 : f 0 = .pointer (some ⟨w.heap.size, 0, none⟩) := hv 0 (by decide)
  have p1 : f 1 = .int .i64 (cols : Int) := hv 1 (by decide)
  have p2 : f 2 = .pointer (some ⟨w.heap.size, 1, none⟩) := hv 2 (by decide)
  have p3 : f 3 = .int .i64 (rows : Int) := hv 3 (by decide)
  have p4 : f 4 = .bool true := hv 4 (by decide)
  have p5 : f 5 = .bool false := hv 5 (by decide)
  have p6 : f 6 = .bool false := hv 6 (by decide)
  have p7 : f 7 = .pointer (some ⟨w.heap.size, 2, none⟩) := hv 7 (by decide)
  have p8 : f 8 = .slice a n cp := hv 8 (by decide)
  have p9 : f 9 = .int .i64 (n : Int) := hv 9 (by decide)
  have p10 : f 10 = .pointer (some ⟨w.heap.size, 0, none⟩) := hv 10 (by decide)
  have p11 : f 11 = .int .i64 (cols : Int) := hv 11 (by decide)
  have p12 : f 12 = .pointer (some ⟨w.heap.size, 1, none⟩) := hv 12 (by decide)
  have p13 : f 13 = .int .i64 (rows : Int) := hv 13 (by decide)
  have p14 : f 14 = .int .i64 (m : Int) := hv 14 (by decide)
  have p15 : f 15 = .bool true := hv 15 (by decide)
  have p16 : f 16 = .bool true := hv 16 (by decide)
  have p17 : f 17 = .bool true := hv 17 (by decide)
  have p22 : f 22 = .bool true := hv 22 (by decide)
  simp only [tkS, tkZ, List.drop_succ_cons, List.drop_zero, setAll, siB, stS, stZ, Nat.zero_add, Nat.reduceAdd, p0, p1, p2, p3, p4, p5, p6, p7, p8, p9, p10, p11, p12, p13, p14, p15, p16, p17, p22]
  clear hv p0 p1 p2 p3 p4 p5 p6 p7 p8 p9 p10 p11 p12 p13 p14 p15 p16 p17 p22
  have B2 := Box'.mk hC.2
  clear hC R1 B1
  go_wp2_with fail
  go_ret
  exact ⟨rfl, B2.out⟩
set_option maxRecDepth 100000 in
set_option maxHeartbeats 16000000 in
theorem gmay_3 (cols rows : Nat) (v : Value) (c : List Cl) (h1 : 1 ≤ cols) (h2 : cols ≤ 512) (h3 : 1 ≤ rows) (h4 : rows ≤ 512) (hl : c.length = cols * rows) (w : World) (hv : Cls w.heap.size w v c) : Calls Try.prog 20 #[.agg (gA (cols : Int) (rows : Int) v)] w fun e w' => e = .returned (.bool (mayG (cols : Int) (rows : Int) c)) ∧ Below w.heap.size w w' := by
 have MS := Box'.mk (maySize_b (cols : Int) (rows : Int))
 rw [side_of h1 h2, side_of h3 h4] at MS
 have PL := Box'.mk (place_b cols rows (by omega) (by omega))
 have hle : cols * rows ≤ 512 * 512 := Nat.mul_le_mul h2 h4
 have hpos : 1 * 1 ≤ cols * rows := Nat.mul_le_mul h1 h3
 have MC : Box' (∀ wx, Below w.heap.size w wx → Calls Try.prog 32 #[v] wx fun e w' => e = .returned (.bool (c.all mayC)) ∧ Below wx.heap.size wx w') := ⟨fun wx hb => mayCells_any v c (by omega) wx ((hv.below hb (Nat.le_refl _)).up hb.size)⟩
 have EW := Box'.mk (may_whole cols rows c h1 h2 h3 h4 hl)
 have GT : Box' (c.all mayC = true → (∀ i, i < rows → whF (rowF c cols i) = true) → mayG (cols : Int) (rows : Int) c = true) := ⟨fun a1 a2 => by
  rw [EW.out, a1, Bool.true_and, List.all_eq_true]
  intro i hi
  exact a2 i (List.mem_range.1 hi)⟩
 have GF : Box' (∀ i, i < rows → whF (rowF c cols i) = false → mayG (cols : Int) (rows : Int) c = false) := ⟨fun i hi h => by
  rw [EW.out, Bool.and_eq_false_iff]
  right
  rw [List.all_eq_false]
  exact ⟨i, List.mem_range.2 hi, by rw [h]; simp⟩⟩
 have GC : Box' (c.all mayC = false → mayG (cols : Int) (rows : Int) c = false) := ⟨fun h => by rw [EW.out, h]; rfl⟩
 obtain ⟨b, o, cp, rfl, hb, hcp, HC0⟩ : ∃ b o cp, v = .slice (some ⟨b, o, none⟩) c.length cp ∧ b < w.heap.size ∧ c.length ≤ cp ∧ ∀ k, k < c.length → ∀ j, j < 15 → w.cell? ⟨b, o + k * 15 + j, none⟩ = (cA (cat c k))[j]? := by
  obtain ⟨a, cp, rfl, hcp, h3⟩ := hv
  rcases h3 with rfl | ⟨b, o, rfl, h5, h6⟩
  ·simp at hl; omega
  ·exact ⟨b, o, cp, rfl, h5, hcp, h6⟩
 have RO : Box' (∀ k wx, k < rows → Calls Try.prog 35 #[.agg (gA (cols : Int) (rows : Int) (.slice (some ⟨b, o, none⟩) c.length cp)), .int .i64 (k : Int)] wx fun e w' => e = .returned (.slice (some ⟨b, o + cols * k * 15, none⟩) cols cols) ∧ Below wx.heap.size wx w') := ⟨fun k wx hk => rowOf_any cols k b o c.length cp (rows : Int) h1 h2 (by omega) (by have := Nat.mul_le_mul_left cols (show k + 1 ≤ rows by omega); omega) wx⟩
 have WH : Box' (∀ k wx, k < rows → Below w.heap.size w wx → Calls Try.prog 46 #[.slice (some ⟨b, o + cols * k * 15, none⟩) cols cols] wx fun e w' => e = .returned (.bool (whF (rowF c cols k))) ∧ Below wx.heap.size wx w') := ⟨fun k wx hk hbe => by
  have hf := fits (cols := cols) hk
  refine isWhole_any b (o + cols * k * 15) cols cols (rowF c cols k) wx (by omega) (Nat.le_refl _) (rowF_len c cols k (by omega)) (Nat.lt_of_lt_of_le hb hbe.size) (fun j hj i hi => ?_)
  rw [hbe.cell (p := ⟨b, o + cols * k * 15 + j * 15 + i, none⟩) hb, cat_row c cols k j hj, show o + cols * k * 15 + j * 15 + i = o + (k * cols + j) * 15 + i by rw [Nat.add_mul, Nat.mul_comm k cols]; omega]
  exact HC0 (k * cols + j) (by omega) i hi⟩
 have R1 := Box'.mk (Row.new w 24 (gA (cols : Int) (rows : Int) (.slice (some ⟨b, o, none⟩) c.length cp)))
 have B1 := Box'.mk ((Below.refl w.heap.size w).alloc (Nat.le_refl _) (.cells (gA (cols : Int) (rows : Int) (.slice (some ⟨b, o, none⟩) c.length cp)) 24))
 have U24 := Box'.mk Try.underlying24
 have S24 := Box'.mk s24g
 clear HC0 hcp hle hpos EW
 rw [← hl] at PL
 generalize hn : c.length = n at *
 have HN := Box'.mk hl
 clear hl hn
 go_enter Try.func20, Try.ntmps20
 go_upto_region 1 with (fail)
 generalize (w.alloc (.cells (gA (cols : Int) (rows : Int) (.slice (some ⟨b, o, none⟩) n cp)) 24)) = w1 at *
 cases hm : c.all mayC with
 | false =>
  rw [hm] at MC
  have E := Box'.mk (GC.out hm)
  clear hm
  refine wp_region_growg 23 (by kernel_rfl) 38 rfl (by kernel_rfl) (fun wa wb => Below wa.heap.size wa wb) (fun wa => Row wa w.heap.size 24 (gA (cols : Int) (rows : Int) (.slice (some ⟨b, o, none⟩) n cp)) ∧ Below w.heap.size w wa) (fun kc wa v => match kc with
   | 0 => v = .pointer (some ⟨w.heap.size, 0, none⟩)
   | 1 => v = .int .i64 (cols : Int)
   | 2 => v = .pointer (some ⟨w.heap.size, 1, none⟩)
   | 3 => v = .int .i64 (rows : Int)
   | 4 => v = .bool true
   | 5 => v = .bool false
   | 6 => v = .bool false
   | 7 => v = .pointer (some ⟨w.heap.size, 2, none⟩)
   | 8 => v = .slice (some ⟨b, o, none⟩) n cp
   | 9 => v = .int .i64 (n : Int)
   | 10 => v = .pointer (some ⟨w.heap.size, 0, none⟩)
   | 11 => v = .int .i64 (cols : Int)
   | 12 => v = .pointer (some ⟨w.heap.size, 1, none⟩)
   | 13 => v = .int .i64 (rows : Int)
   | 14 => v = .int .i64 (n : Int)
   | 15 => v = .bool false
   | 16 => v = .bool false
   | 17 => v = .bool false
   | 18 => v = .pointer (some ⟨w.heap.size, 2, none⟩)
   | 19 => v = .slice (some ⟨b, o, none⟩) n cp
   | 20 => v = .bool false
   | 21 => v = .bool true
   | 22 => v = .bool true
   | _ => True) ?_ ?_ ?_ ?_ ?_ ?_
  ·intro i o' j b' hi hg wa v hC hV
   have hlt : i < 23 := by rcases Nat.lt_or_ge i 23 with q | q; exact q; rw [List.getElem?_eq_none (by simpa using q)] at hi; cases hi
   revert hi hg hV
   rcases (show i = 0 ∨ i = 1 ∨ i = 2 ∨ i = 3 ∨ i = 4 ∨ i = 5 ∨ i = 6 ∨ i = 7 ∨ i = 8 ∨ i = 9 ∨ i = 10 ∨ i = 11 ∨ i = 12 ∨ i = 13 ∨ i = 14 ∨ i = 15 ∨ i = 16 ∨ i = 17 ∨ i = 18 ∨ i = 19 ∨ i = 20 ∨ i = 21 ∨ i = 22 by omega) with rfl | rfl | rfl | rfl | rfl | rfl | rfl | rfl | rfl | rfl | rfl | rfl | rfl | rfl | rfl | rfl | rfl | rfl | rfl | rfl | rfl | rfl | rfl <;>
    (intro hi hg hV; simp only [tkS, List.getElem?_cons_zero, List.getElem?_cons_succ, Option.some.injEq] at hi; subst hi; first | (cases hg; exact hV) | (cases hg))
  ·rintro wa wb hb ⟨q1, q2⟩; exact ⟨q1.below hb q1.lt, q2.trans (hb.mono q2.size)⟩
  ·intro kc v wa wb hC1 hb h
   match kc, h with
   | 0, h => exact h
   | 1, h => exact h
   | 2, h => exact h
   | 3, h => exact h
   | 4, h => exact h
   | 5, h => exact h
   | 6, h => exact h
   | 7, h => exact h
   | 8, h => exact h
   | 9, h => exact h
   | 10, h => exact h
   | 11, h => exact h
   | 12, h => exact h
   | 13, h => exact h
   | 14, h => exact h
   | 15, h => exact h
   | 16, h => exact h
   | 17, h => exact h
   | 18, h => exact h
   | 19, h => exact h
   | 20, h => exact h
   | 21, h => exact h
   | 22, h => exact h
   | kc + 23, h => trivial
  ·exact ⟨R1.out.drew, B1.out.drew⟩
  ·refine ⟨?_, ?_, ?_, ?_, ?_, ?_, ?_, ?_, ?_, ?_, ?_, ?_, ?_, ?_, ?_, ?_, ?_, ?_, ?_, ?_, ?_, ?_, ?_, trivial⟩
   ·intro f wq hC hd KK hK
    clear hd
    simp only [tkS, tkZ, setAll, siB, stS, stZ, Nat.zero_add, Nat.reduceAdd] at hK ⊢
    refine wp_of_quiet rfl ?_
    go_big_quiet_step (fail)
    exact wpQuiet_nil (hK _ _ (rfl) bR)
   ·intro f wq hC hd KK hK
    have g0 : f 0 = .pointer (some ⟨w.heap.size, 0, none⟩) := hd 0 (by kernel_rfl)
    clear hd
    have c0 : wq.cell? ⟨w.heap.size, 0, none⟩ = some (.int .i64 (cols : Int)) := hC.1.cell 0
    clear hC
    simp only [tkS, tkZ, setAll, siB, stS, stZ, Nat.zero_add, Nat.reduceAdd, g0] at hK ⊢
    refine wp_of_quiet rfl ?_
    go_big_quiet_step (fail)
    exact wpQuiet_nil (hK _ _ (rfl) bR)
   ·intro f wq hC hd KK hK
    clear hd
    simp only [tkS, tkZ, setAll, siB, stS, stZ, Nat.zero_add, Nat.reduceAdd] at hK ⊢
    refine wp_of_quiet rfl ?_
    go_big_quiet_step (fail)
    exact wpQuiet_nil (hK _ _ (rfl) bR)
   ·intro f wq hC hd KK hK
    have g2 : f 2 = .pointer (some ⟨w.heap.size, 1, none⟩) := hd 2 (by kernel_rfl)
    clear hd
    have c1 : wq.cell? ⟨w.heap.size, 1, none⟩ = some (.int .i64 (rows : Int)) := hC.1.cell 1
    clear hC
    simp only [tkS, tkZ, setAll, siB, stS, stZ, Nat.zero_add, Nat.reduceAdd, g2] at hK ⊢
    refine wp_of_quiet rfl ?_
    go_big_quiet_step (fail)
    exact wpQuiet_nil (hK _ _ (rfl) bR)
   ·intro f wq hC hd KK hK
    have g1 : f 1 = .int .i64 (cols : Int) := hd 1 (by kernel_rfl)
    have g3 : f 3 = .int .i64 (rows : Int) := hd 3 (by kernel_rfl)
    clear hd
    simp only [tkS, tkZ, setAll, siB, stS, stZ, Nat.zero_add, Nat.reduceAdd, g1, g3] at hK ⊢
    exact wp_call 26 #[.int .i64 (cols : Int), .int .i64 (rows : Int)] (by simp [go_sem]) _ _ (MS.out wq) (fun w' hb => hK _ _ rfl hb)
   ·intro f wq hC hd KK hK
    have g4 : f 4 = .bool true := hd 4 (by kernel_rfl)
    clear hd
    simp only [tkS, tkZ, setAll, siB, stS, stZ, Nat.zero_add, Nat.reduceAdd, g4] at hK ⊢
    refine wp_of_quiet rfl ?_
    go_big_quiet_step (fail)
    exact wpQuiet_nil (hK _ _ (rfl) bR)
   ·intro f wq hC hd KK hK
    have g5 : f 5 = .bool false := hd 5 (by kernel_rfl)
    clear hd
    simp only [tkS, tkZ, setAll, siB, stS, stZ, Nat.zero_add, Nat.reduceAdd, g5] at hK ⊢
    refine wp_of_quiet rfl ?_
    go_big_quiet_step (fail)
    exact wpQuiet_nil (hK _ _ (rfl) bR)
   ·intro f wq hC hd KK hK
    clear hd
    simp only [tkS, tkZ, setAll, siB, stS, stZ, Nat.zero_add, Nat.reduceAdd] at hK ⊢
    refine wp_unguard ?_
    refine wp_of_quiet rfl ?_
    go_big_quiet_step (fail)
    exact wpQuiet_nil (hK _ _ (rfl) bR)
   ·intro f wq hC hd KK hK
    have g7 : f 7 = .pointer (some ⟨w.heap.size, 2, none⟩) := hd 7 (by kernel_rfl)
    clear hd
    have c2 : wq.cell? ⟨w.heap.size, 2, none⟩ = some (.slice (some ⟨b, o, none⟩) n cp) := hC.1.cell 2
    clear hC
    simp only [tkS, tkZ, setAll, siB, stS, stZ, Nat.zero_add, Nat.reduceAdd, g7] at hK ⊢
    refine wp_unguard ?_
    refine wp_of_quiet rfl ?_
    go_big_quiet_step (fail)
    exact wpQuiet_nil (hK _ _ (rfl) bR)
   ·intro f wq hC hd KK hK
    have g8 : f 8 = .slice (some ⟨b, o, none⟩) n cp := hd 8 (by kernel_rfl)
    clear hd
    simp only [tkS, tkZ, setAll, siB, stS, stZ, Nat.zero_add, Nat.reduceAdd, g8] at hK ⊢
    refine wp_unguard ?_
    refine wp_of_quiet rfl ?_
    go_big_quiet_step (fail)
    exact wpQuiet_nil (hK _ _ (rfl) bR)
   ·intro f wq hC hd KK hK
    clear hd
    simp only [tkS, tkZ, setAll, siB, stS, stZ, Nat.zero_add, Nat.reduceAdd] at hK ⊢
    refine wp_unguard ?_
    refine wp_of_quiet rfl ?_
    go_big_quiet_step (fail)
    exact wpQuiet_nil (hK _ _ (rfl) bR)
   ·intro f wq hC hd KK hK
    have g10 : f 10 = .pointer (some ⟨w.heap.size, 0, none⟩) := hd 10 (by kernel_rfl)
    clear hd
    have c0 : wq.cell? ⟨w.heap.size, 0, none⟩ = some (.int .i64 (cols : Int)) := hC.1.cell 0
    clear hC
    simp only [tkS, tkZ, setAll, siB, stS, stZ, Nat.zero_add, Nat.reduceAdd, g10] at hK ⊢
    refine wp_unguard ?_
    refine wp_of_quiet rfl ?_
    go_big_quiet_step (fail)
    exact wpQuiet_nil (hK _ _ (rfl) bR)
   ·intro f wq hC hd KK hK
    clear hd
    simp only [tkS, tkZ, setAll, siB, stS, stZ, Nat.zero_add, Nat.reduceAdd] at hK ⊢
    refine wp_unguard ?_
    refine wp_of_quiet rfl ?_
    go_big_quiet_step (fail)
    exact wpQuiet_nil (hK _ _ (rfl) bR)
   ·intro f wq hC hd KK hK
    have g12 : f 12 = .pointer (some ⟨w.heap.size, 1, none⟩) := hd 12 (by kernel_rfl)
    clear hd
    have c1 : wq.cell? ⟨w.heap.size, 1, none⟩ = some (.int .i64 (rows : Int)) := hC.1.cell 1
    clear hC
    simp only [tkS, tkZ, setAll, siB, stS, stZ, Nat.zero_add, Nat.reduceAdd, g12] at hK ⊢
    refine wp_unguard ?_
    refine wp_of_quiet rfl ?_
    go_big_quiet_step (fail)
    exact wpQuiet_nil (hK _ _ (rfl) bR)
   ·intro f wq hC hd KK hK
    have g11 : f 11 = .int .i64 (cols : Int) := hd 11 (by kernel_rfl)
    have g13 : f 13 = .int .i64 (rows : Int) := hd 13 (by kernel_rfl)
    clear hd
    simp only [tkS, tkZ, setAll, siB, stS, stZ, Nat.zero_add, Nat.reduceAdd, g11, g13] at hK ⊢
    refine wp_unguard ?_
    exact wp_call 45 #[.int .i64 (cols : Int), .int .i64 (rows : Int)] (by simp [go_sem]) _ _ (PL.out wq) (fun w' hb => hK _ _ rfl hb)
   ·intro f wq hC hd KK hK
    have g9 : f 9 = .int .i64 (n : Int) := hd 9 (by kernel_rfl)
    have g14 : f 14 = .int .i64 (n : Int) := hd 14 (by kernel_rfl)
    clear hd
    simp only [tkS, tkZ, setAll, siB, stS, stZ, Nat.zero_add, Nat.reduceAdd, g9, g14] at hK ⊢
    refine wp_unguard ?_
    refine wp_of_quiet rfl ?_
    go_big_quiet_step (fail)
    exact wpQuiet_nil (hK _ _ (by first | rfl | simp) bR)
   ·intro f wq hC hd KK hK
    have g6 : f 6 = .bool false := hd 6 (by kernel_rfl)
    have g15 : f 15 = .bool false := hd 15 (by kernel_rfl)
    clear hd
    simp only [tkS, tkZ, setAll, siB, stS, stZ, Nat.zero_add, Nat.reduceAdd, g6, g15] at hK ⊢
    refine wp_of_quiet rfl ?_
    go_big_quiet_step (fail)
    exact wpQuiet_nil (hK _ _ (rfl) bR)
   ·intro f wq hC hd KK hK
    have g16 : f 16 = .bool false := hd 16 (by kernel_rfl)
    clear hd
    simp only [tkS, tkZ, setAll, siB, stS, stZ, Nat.zero_add, Nat.reduceAdd, g16] at hK ⊢
    refine wp_of_quiet rfl ?_
    go_big_quiet_step (fail)
    exact wpQuiet_nil (hK _ _ (rfl) bR)
   ·intro f wq hC hd KK hK
    clear hd
    simp only [tkS, tkZ, setAll, siB, stS, stZ, Nat.zero_add, Nat.reduceAdd] at hK ⊢
    refine wp_unguard ?_
    refine wp_of_quiet rfl ?_
    go_big_quiet_step (fail)
    exact wpQuiet_nil (hK _ _ (rfl) bR)
   ·intro f wq hC hd KK hK
    have g18 : f 18 = .pointer (some ⟨w.heap.size, 2, none⟩) := hd 18 (by kernel_rfl)
    clear hd
    have c2 : wq.cell? ⟨w.heap.size, 2, none⟩ = some (.slice (some ⟨b, o, none⟩) n cp) := hC.1.cell 2
    clear hC
    simp only [tkS, tkZ, setAll, siB, stS, stZ, Nat.zero_add, Nat.reduceAdd, g18] at hK ⊢
    refine wp_unguard ?_
    refine wp_of_quiet rfl ?_
    go_big_quiet_step (fail)
    exact wpQuiet_nil (hK _ _ (rfl) bR)
   ·intro f wq hC hd KK hK
    have g19 : f 19 = .slice (some ⟨b, o, none⟩) n cp := hd 19 (by kernel_rfl)
    clear hd
    simp only [tkS, tkZ, setAll, siB, stS, stZ, Nat.zero_add, Nat.reduceAdd, g19] at hK ⊢
    refine wp_unguard ?_
    exact wp_call 32 #[.slice (some ⟨b, o, none⟩) n cp] (by simp [go_sem]) _ _ (MC.out wq hC.2) (fun w' hb => hK _ _ rfl hb)
   ·intro f wq hC hd KK hK
    have g20 : f 20 = .bool false := hd 20 (by kernel_rfl)
    clear hd
    simp only [tkS, tkZ, setAll, siB, stS, stZ, Nat.zero_add, Nat.reduceAdd, g20] at hK ⊢
    refine wp_unguard ?_
    refine wp_of_quiet rfl ?_
    go_big_quiet_step (fail)
    exact wpQuiet_nil (hK _ _ (rfl) bR)
   ·intro f wq hC hd KK hK
    have g17 : f 17 = .bool false := hd 17 (by kernel_rfl)
    have g21 : f 21 = .bool true := hd 21 (by kernel_rfl)
    clear hd
    simp only [tkS, tkZ, setAll, siB, stS, stZ, Nat.zero_add, Nat.reduceAdd, g17, g21] at hK ⊢
    refine wp_of_quiet rfl ?_
    go_big_quiet_step (fail)
    exact wpQuiet_nil (hK _ _ (rfl) bR)
  ·intro f wz hC hv
   have p0 : f 0 = .pointer (some ⟨w.heap.size, 0, none⟩) := hv 0 (by decide)
   have p1 : f 1 = .int .i64 (cols : Int) := hv 1 (by decide)
   have p2 : f 2 = .pointer (some ⟨w.heap.size, 1, none⟩) := hv 2 (by decide)
   have p3 : f 3 = .int .i64 (rows : Int) := hv 3 (by decide)
   have p4 : f 4 = .bool true := hv 4 (by decide)
   have p5 : f 5 = .bool false := hv 5 (by decide)
   have p6 : f 6 = .bool false := hv 6 (by decide)
   have p7 : f 7 = .pointer (some ⟨w.heap.size, 2, none⟩) := hv 7 (by decide)
   have p8 : f 8 = .slice (some ⟨b, o, none⟩) n cp := hv 8 (by decide)
   have p9 : f 9 = .int .i64 (n : Int) := hv 9 (by decide)
   have p10 : f 10 = .pointer (some ⟨w.heap.size, 0, none⟩) := hv 10 (by decide)
   have p11 : f 11 = .int .i64 (cols : Int) := hv 11 (by decide)
   have p12 : f 12 = .pointer (some ⟨w.heap.size, 1, none⟩) := hv 12 (by decide)
   have p13 : f 13 = .int .i64 (rows : Int) := hv 13 (by decide)
   have p14 : f 14 = .int .i64 (n : Int) := hv 14 (by decide)
   have p15 : f 15 = .bool false := hv 15 (by decide)
   have p16 : f 16 = .bool false := hv 16 (by decide)
   have p17 : f 17 = .bool false := hv 17 (by decide)
   have p18 : f 18 = .pointer (some ⟨w.heap.size, 2, none⟩) := hv 18 (by decide)
   have p19 : f 19 = .slice (some ⟨b, o, none⟩) n cp := hv 19 (by decide)
   have p20 : f 20 = .bool false := hv 20 (by decide)
   have p21 : f 21 = .bool true := hv 21 (by decide)
   have p22 : f 22 = .bool true := hv 22 (by decide)
   simp only [tkS, tkZ, List.drop_succ_cons, List.drop_zero, setAll, siB, stS, stZ, Nat.zero_add, Nat.reduceAdd, p0, p1, p2, p3, p4, p5, p6, p7, p8, p9, p10, p11, p12, p13, p14, p15, p16, p17, p18, p19, p20, p21, p22]
   clear hv p0 p1 p2 p3 p4 p5 p6 p7 p8 p9 p10 p11 p12 p13 p14 p15 p16 p17 p18 p19 p20 p21 p22
   have B2 := Box'.mk hC.2
   clear hC R1 B1
   go_wp2_with fail
   go_ret
   exact ⟨by rw [E.out]; rfl, B2.out⟩
 | true =>
  rw [hm] at MC
  have GT2 := Box'.mk (GT.out hm)
  clear hm GT
  refine wp_region_growg 23 (by kernel_rfl) 38 rfl (by kernel_rfl) (fun wa wb => Below wa.heap.size wa wb) (fun wa => Row wa w.heap.size 24 (gA (cols : Int) (rows : Int) (.slice (some ⟨b, o, none⟩) n cp)) ∧ Below w.heap.size w wa) (fun kc wa v => match kc with
   | 0 => v = .pointer (some ⟨w.heap.size, 0, none⟩)
   | 1 => v = .int .i64 (cols : Int)
   | 2 => v = .pointer (some ⟨w.heap.size, 1, none⟩)
   | 3 => v = .int .i64 (rows : Int)
   | 4 => v = .bool true
   | 5 => v = .bool false
   | 6 => v = .bool false
   | 7 => v = .pointer (some ⟨w.heap.size, 2, none⟩)
   | 8 => v = .slice (some ⟨b, o, none⟩) n cp
   | 9 => v = .int .i64 (n : Int)
   | 10 => v = .pointer (some ⟨w.heap.size, 0, none⟩)
   | 11 => v = .int .i64 (cols : Int)
   | 12 => v = .pointer (some ⟨w.heap.size, 1, none⟩)
   | 13 => v = .int .i64 (rows : Int)
   | 14 => v = .int .i64 (n : Int)
   | 15 => v = .bool false
   | 16 => v = .bool false
   | 17 => v = .bool false
   | 18 => v = .pointer (some ⟨w.heap.size, 2, none⟩)
   | 19 => v = .slice (some ⟨b, o, none⟩) n cp
   | 20 => v = .bool true
   | 21 => v = .bool false
   | 22 => v = .bool false
   | _ => True) ?_ ?_ ?_ ?_ ?_ ?_
  ·intro i o' j b' hi hg wa v hC hV
   have hlt : i < 23 := by rcases Nat.lt_or_ge i 23 with q | q; exact q; rw [List.getElem?_eq_none (by simpa using q)] at hi; cases hi
   revert hi hg hV
   rcases (show i = 0 ∨ i = 1 ∨ i = 2 ∨ i = 3 ∨ i = 4 ∨ i = 5 ∨ i = 6 ∨ i = 7 ∨ i = 8 ∨ i = 9 ∨ i = 10 ∨ i = 11 ∨ i = 12 ∨ i = 13 ∨ i = 14 ∨ i = 15 ∨ i = 16 ∨ i = 17 ∨ i = 18 ∨ i = 19 ∨ i = 20 ∨ i = 21 ∨ i = 22 by omega) with rfl | rfl | rfl | rfl | rfl | rfl | rfl | rfl | rfl | rfl | rfl | rfl | rfl | rfl | rfl | rfl | rfl | rfl | rfl | rfl | rfl | rfl | rfl <;>
    (intro hi hg hV; simp only [tkS, List.getElem?_cons_zero, List.getElem?_cons_succ, Option.some.injEq] at hi; subst hi; first | (cases hg; exact hV) | (cases hg))
  ·rintro wa wb hb ⟨q1, q2⟩; exact ⟨q1.below hb q1.lt, q2.trans (hb.mono q2.size)⟩
  ·intro kc v wa wb hC1 hb h
   match kc, h with
   | 0, h => exact h
   | 1, h => exact h
   | 2, h => exact h
   | 3, h => exact h
   | 4, h => exact h
   | 5, h => exact h
   | 6, h => exact h
   | 7, h => exact h
   | 8, h => exact h
   | 9, h => exact h
   | 10, h => exact h
   | 11, h => exact h
   | 12, h => exact h
   | 13, h => exact h
   | 14, h => exact h
   | 15, h => exact h
   | 16, h => exact h
   | 17, h => exact h
   | 18, h => exact h
   | 19, h => exact h
   | 20, h => exact h
   | 21, h => exact h
   | 22, h => exact h
   | kc + 23, h => trivial
  ·exact ⟨R1.out.drew, B1.out.drew⟩
  ·refine ⟨?_, ?_, ?_, ?_, ?_, ?_, ?_, ?_, ?_, ?_, ?_, ?_, ?_, ?_, ?_, ?_, ?_, ?_, ?_, ?_, ?_, ?_, ?_, trivial⟩
   ·intro f wq hC hd KK hK
    clear hd
    simp only [tkS, tkZ, setAll, siB, stS, stZ, Nat.zero_add, Nat.reduceAdd] at hK ⊢
    refine wp_of_quiet rfl ?_
    go_big_quiet_step (fail)
    exact wpQuiet_nil (hK _ _ (rfl) bR)
   ·intro f wq hC hd KK hK
    have g0 : f 0 = .pointer (some ⟨w.heap.size, 0, none⟩) := hd 0 (by kernel_rfl)
    clear hd
    have c0 : wq.cell? ⟨w.heap.size, 0, none⟩ = some (.int .i64 (cols : Int)) := hC.1.cell 0
    clear hC
    simp only [tkS, tkZ, setAll, siB, stS, stZ, Nat.zero_add, Nat.reduceAdd, g0] at hK ⊢
    refine wp_of_quiet rfl ?_
    go_big_quiet_step (fail)
    exact wpQuiet_nil (hK _ _ (rfl) bR)
   ·intro f wq hC hd KK hK
    clear hd
    simp only [tkS, tkZ, setAll, siB, stS, stZ, Nat.zero_add, Nat.reduceAdd] at hK ⊢
    refine wp_of_quiet rfl ?_
    go_big_quiet_step (fail)
    exact wpQuiet_nil (hK _ _ (rfl) bR)
   ·intro f wq hC hd KK hK
    have g2 : f 2 = .pointer (some ⟨w.heap.size, 1, none⟩) := hd 2 (by kernel_rfl)
    clear hd
    have c1 : wq.cell? ⟨w.heap.size, 1, none⟩ = some (.int .i64 (rows : Int)) := hC.1.cell 1
    clear hC
    simp only [tkS, tkZ, setAll, siB, stS, stZ, Nat.zero_add, Nat.reduceAdd, g2] at hK ⊢
    refine wp_of_quiet rfl ?_
    go_big_quiet_step (fail)
    exact wpQuiet_nil (hK _ _ (rfl) bR)
   ·intro f wq hC hd KK hK
    have g1 : f 1 = .int .i64 (cols : Int) := hd 1 (by kernel_rfl)
    have g3 : f 3 = .int .i64 (rows : Int) := hd 3 (by kernel_rfl)
    clear hd
    simp only [tkS, tkZ, setAll, siB, stS, stZ, Nat.zero_add, Nat.reduceAdd, g1, g3] at hK ⊢
    exact wp_call 26 #[.int .i64 (cols : Int), .int .i64 (rows : Int)] (by simp [go_sem]) _ _ (MS.out wq) (fun w' hb => hK _ _ rfl hb)
   ·intro f wq hC hd KK hK
    have g4 : f 4 = .bool true := hd 4 (by kernel_rfl)
    clear hd
    simp only [tkS, tkZ, setAll, siB, stS, stZ, Nat.zero_add, Nat.reduceAdd, g4] at hK ⊢
    refine wp_of_quiet rfl ?_
    go_big_quiet_step (fail)
    exact wpQuiet_nil (hK _ _ (rfl) bR)
   ·intro f wq hC hd KK hK
    have g5 : f 5 = .bool false := hd 5 (by kernel_rfl)
    clear hd
    simp only [tkS, tkZ, setAll, siB, stS, stZ, Nat.zero_add, Nat.reduceAdd, g5] at hK ⊢
    refine wp_of_quiet rfl ?_
    go_big_quiet_step (fail)
    exact wpQuiet_nil (hK _ _ (rfl) bR)
   ·intro f wq hC hd KK hK
    clear hd
    simp only [tkS, tkZ, setAll, siB, stS, stZ, Nat.zero_add, Nat.reduceAdd] at hK ⊢
    refine wp_unguard ?_
    refine wp_of_quiet rfl ?_
    go_big_quiet_step (fail)
    exact wpQuiet_nil (hK _ _ (rfl) bR)
   ·intro f wq hC hd KK hK
    have g7 : f 7 = .pointer (some ⟨w.heap.size, 2, none⟩) := hd 7 (by kernel_rfl)
    clear hd
    have c2 : wq.cell? ⟨w.heap.size, 2, none⟩ = some (.slice (some ⟨b, o, none⟩) n cp) := hC.1.cell 2
    clear hC
    simp only [tkS, tkZ, setAll, siB, stS, stZ, Nat.zero_add, Nat.reduceAdd, g7] at hK ⊢
    refine wp_unguard ?_
    refine wp_of_quiet rfl ?_
    go_big_quiet_step (fail)
    exact wpQuiet_nil (hK _ _ (rfl) bR)
   ·intro f wq hC hd KK hK
    have g8 : f 8 = .slice (some ⟨b, o, none⟩) n cp := hd 8 (by kernel_rfl)
    clear hd
    simp only [tkS, tkZ, setAll, siB, stS, stZ, Nat.zero_add, Nat.reduceAdd, g8] at hK ⊢
    refine wp_unguard ?_
    refine wp_of_quiet rfl ?_
    go_big_quiet_step (fail)
    exact wpQuiet_nil (hK _ _ (rfl) bR)
   ·intro f wq hC hd KK hK
    clear hd
    simp only [tkS, tkZ, setAll, siB, stS, stZ, Nat.zero_add, Nat.reduceAdd] at hK ⊢
    refine wp_unguard ?_
    refine wp_of_quiet rfl ?_
    go_big_quiet_step (fail)
    exact wpQuiet_nil (hK _ _ (rfl) bR)
   ·intro f wq hC hd KK hK
    have g10 : f 10 = .pointer (some ⟨w.heap.size, 0, none⟩) := hd 10 (by kernel_rfl)
    clear hd
    have c0 : wq.cell? ⟨w.heap.size, 0, none⟩ = some (.int .i64 (cols : Int)) := hC.1.cell 0
    clear hC
    simp only [tkS, tkZ, setAll, siB, stS, stZ, Nat.zero_add, Nat.reduceAdd, g10] at hK ⊢
    refine wp_unguard ?_
    refine wp_of_quiet rfl ?_
    go_big_quiet_step (fail)
    exact wpQuiet_nil (hK _ _ (rfl) bR)
   ·intro f wq hC hd KK hK
    clear hd
    simp only [tkS, tkZ, setAll, siB, stS, stZ, Nat.zero_add, Nat.reduceAdd] at hK ⊢
    refine wp_unguard ?_
    refine wp_of_quiet rfl ?_
    go_big_quiet_step (fail)
    exact wpQuiet_nil (hK _ _ (rfl) bR)
   ·intro f wq hC hd KK hK
    have g12 : f 12 = .pointer (some ⟨w.heap.size, 1, none⟩) := hd 12 (by kernel_rfl)
    clear hd
    have c1 : wq.cell? ⟨w.heap.size, 1, none⟩ = some (.int .i64 (rows : Int)) := hC.1.cell 1
    clear hC
    simp only [tkS, tkZ, setAll, siB, stS, stZ, Nat.zero_add, Nat.reduceAdd, g12] at hK ⊢
    refine wp_unguard ?_
    refine wp_of_quiet rfl ?_
    go_big_quiet_step (fail)
    exact wpQuiet_nil (hK _ _ (rfl) bR)
   ·intro f wq hC hd KK hK
    have g11 : f 11 = .int .i64 (cols : Int) := hd 11 (by kernel_rfl)
    have g13 : f 13 = .int .i64 (rows : Int) := hd 13 (by kernel_rfl)
    clear hd
    simp only [tkS, tkZ, setAll, siB, stS, stZ, Nat.zero_add, Nat.reduceAdd, g11, g13] at hK ⊢
    refine wp_unguard ?_
    exact wp_call 45 #[.int .i64 (cols : Int), .int .i64 (rows : Int)] (by simp [go_sem]) _ _ (PL.out wq) (fun w' hb => hK _ _ rfl hb)
   ·intro f wq hC hd KK hK
    have g9 : f 9 = .int .i64 (n : Int) := hd 9 (by kernel_rfl)
    have g14 : f 14 = .int .i64 (n : Int) := hd 14 (by kernel_rfl)
    clear hd
    simp only [tkS, tkZ, setAll, siB, stS, stZ, Nat.zero_add, Nat.reduceAdd, g9, g14] at hK ⊢
    refine wp_unguard ?_
    refine wp_of_quiet rfl ?_
    go_big_quiet_step (fail)
    exact wpQuiet_nil (hK _ _ (by first | rfl | simp) bR)
   ·intro f wq hC hd KK hK
    have g6 : f 6 = .bool false := hd 6 (by kernel_rfl)
    have g15 : f 15 = .bool false := hd 15 (by kernel_rfl)
    clear hd
    simp only [tkS, tkZ, setAll, siB, stS, stZ, Nat.zero_add, Nat.reduceAdd, g6, g15] at hK ⊢
    refine wp_of_quiet rfl ?_
    go_big_quiet_step (fail)
    exact wpQuiet_nil (hK _ _ (rfl) bR)
   ·intro f wq hC hd KK hK
    have g16 : f 16 = .bool false := hd 16 (by kernel_rfl)
    clear hd
    simp only [tkS, tkZ, setAll, siB, stS, stZ, Nat.zero_add, Nat.reduceAdd, g16] at hK ⊢
    refine wp_of_quiet rfl ?_
    go_big_quiet_step (fail)
    exact wpQuiet_nil (hK _ _ (rfl) bR)
   ·intro f wq hC hd KK hK
    clear hd
    simp only [tkS, tkZ, setAll, siB, stS, stZ, Nat.zero_add, Nat.reduceAdd] at hK ⊢
    refine wp_unguard ?_
    refine wp_of_quiet rfl ?_
    go_big_quiet_step (fail)
    exact wpQuiet_nil (hK _ _ (rfl) bR)
   ·intro f wq hC hd KK hK
    have g18 : f 18 = .pointer (some ⟨w.heap.size, 2, none⟩) := hd 18 (by kernel_rfl)
    clear hd
    have c2 : wq.cell? ⟨w.heap.size, 2, none⟩ = some (.slice (some ⟨b, o, none⟩) n cp) := hC.1.cell 2
    clear hC
    simp only [tkS, tkZ, setAll, siB, stS, stZ, Nat.zero_add, Nat.reduceAdd, g18] at hK ⊢
    refine wp_unguard ?_
    refine wp_of_quiet rfl ?_
    go_big_quiet_step (fail)
    exact wpQuiet_nil (hK _ _ (rfl) bR)
   ·intro f wq hC hd KK hK
    have g19 : f 19 = .slice (some ⟨b, o, none⟩) n cp := hd 19 (by kernel_rfl)
    clear hd
    simp only [tkS, tkZ, setAll, siB, stS, stZ, Nat.zero_add, Nat.reduceAdd, g19] at hK ⊢
    refine wp_unguard ?_
    exact wp_call 32 #[.slice (some ⟨b, o, none⟩) n cp] (by simp [go_sem]) _ _ (MC.out wq hC.2) (fun w' hb => hK _ _ rfl hb)
   ·intro f wq hC hd KK hK
    have g20 : f 20 = .bool true := hd 20 (by kernel_rfl)
    clear hd
    simp only [tkS, tkZ, setAll, siB, stS, stZ, Nat.zero_add, Nat.reduceAdd, g20] at hK ⊢
    refine wp_unguard ?_
    refine wp_of_quiet rfl ?_
    go_big_quiet_step (fail)
    exact wpQuiet_nil (hK _ _ (rfl) bR)
   ·intro f wq hC hd KK hK
    have g17 : f 17 = .bool false := hd 17 (by kernel_rfl)
    have g21 : f 21 = .bool false := hd 21 (by kernel_rfl)
    clear hd
    simp only [tkS, tkZ, setAll, siB, stS, stZ, Nat.zero_add, Nat.reduceAdd, g17, g21] at hK ⊢
    refine wp_of_quiet rfl ?_
    go_big_quiet_step (fail)
    exact wpQuiet_nil (hK _ _ (rfl) bR)
  ·intro f wz hC hv
   have p0 : f 0 = .pointer (some ⟨w.heap.size, 0, none⟩) := hv 0 (by decide)
   have p1 : f 1 = .int .i64 (cols : Int) := hv 1 (by decide)
   have p2 : f 2 = .pointer (some ⟨w.heap.size, 1, none⟩) := hv 2 (by decide)
   have p3 : f 3 = .int .i64 (rows : Int) := hv 3 (by decide)
   have p4 : f 4 = .bool true := hv 4 (by decide)
   have p5 : f 5 = .bool false := hv 5 (by decide)
   have p6 : f 6 = .bool false := hv 6 (by decide)
   have p7 : f 7 = .pointer (some ⟨w.heap.size, 2, none⟩) := hv 7 (by decide)
   have p8 : f 8 = .slice (some ⟨b, o, none⟩) n cp := hv 8 (by decide)
   have p9 : f 9 = .int .i64 (n : Int) := hv 9 (by decide)
   have p10 : f 10 = .pointer (some ⟨w.heap.size, 0, none⟩) := hv 10 (by decide)
   have p11 : f 11 = .int .i64 (cols : Int) := hv 11 (by decide)
   have p12 : f 12 = .pointer (some ⟨w.heap.size, 1, none⟩) := hv 12 (by decide)
   have p13 : f 13 = .int .i64 (rows : Int) := hv 13 (by decide)
   have p14 : f 14 = .int .i64 (n : Int) := hv 14 (by decide)
   have p15 : f 15 = .bool false := hv 15 (by decide)
   have p16 : f 16 = .bool false := hv 16 (by decide)
   have p17 : f 17 = .bool false := hv 17 (by decide)
   have p18 : f 18 = .pointer (some ⟨w.heap.size, 2, none⟩) := hv 18 (by decide)
   have p19 : f 19 = .slice (some ⟨b, o, none⟩) n cp := hv 19 (by decide)
   have p20 : f 20 = .bool true := hv 20 (by decide)
   have p21 : f 21 = .bool false := hv 21 (by decide)
   have p22 : f 22 = .bool false := hv 22 (by decide)
   simp only [tkS, tkZ, List.drop_succ_cons, List.drop_zero, setAll, siB, stS, stZ, Nat.zero_add, Nat.reduceAdd, p0, p1, p2, p3, p4, p5, p6, p7, p8, p9, p10, p11, p12, p13, p14, p15, p16, p17, p18, p19, p20, p21, p22]
   clear hv p0 p1 p2 p3 p4 p5 p6 p7 p8 p9 p10 p11 p12 p13 p14 p15 p16 p17 p18 p19 p20 p21 p22
   have R2 := Box'.mk hC.1
   have B2 := Box'.mk hC.2
   have c1 : wz.cell? ⟨w.heap.size, 1, none⟩ = some (.int .i64 (rows : Int)) := hC.1.cell 1
   clear hC R1 B1 MC MS PL
   go_wp2_with fail
   clear c1
   go_loopw [29] (fun i wr => ∃ k : Nat, k ≤ rows ∧ i = .int .i64 (k : Int) ∧ Box' (∀ i, i < k → whF (rowF c cols i) = true) ∧ Box' (Row wr w.heap.size 24 (gA (cols : Int) (rows : Int) (.slice (some ⟨b, o, none⟩) n cp))) ∧ Box' (Below w.heap.size w wr)) (fun i _ => rows - (intOf i).toNat)
   case atStart => exact ⟨0, by omega, rfl, ⟨fun i hi => by omega⟩, R2, B2⟩
   case round =>
    obtain ⟨k, hk, rfl, OK, RR, BB⟩ := hrel
    clear R2 B2
    by_cases hlt : k < rows
    case neg =>
     obtain rfl : k = rows := by omega
     have E := Box'.mk (GT2.out OK.out)
     clear RO WH
     go_wp2_with fail
     go_ret
     exact ⟨by rw [E.out]; rfl, BB.out⟩
    case pos =>
     have RW := Box'.mk (fun wx => RO.out k wx hlt)
     have WK := Box'.mk (fun wx => WH.out k wx hlt)
     cases hw : whF (rowF c cols k) with
     | false =>
      have E := Box'.mk (GF.out k hlt hw)
      rw [hw] at WK
      clear hw
      go_wp2_with (first
       | (refine wpList_load_row rfl 24 (.tmp 1) rfl w.heap.size rfl 24 (gA (cols : Int) (rows : Int) (.slice (some ⟨b, o, none⟩) n cp)) RR.out _ U24.out rfl 3 S24.out rfl ?_))
      refine (RW.out _).mono ?_
      rintro e w2 ⟨rfl, hb2⟩
      have B2 := Box'.mk (BB.out.trans (hb2.mono BB.out.size))
      clear hb2
      go_wp2_with fail
      refine (WK.out _ B2.out).mono ?_
      rintro e w3 ⟨rfl, hb3⟩
      have B3 := Box'.mk (B2.out.trans (hb3.mono B2.out.size))
      clear hb3
      go_wp2_with fail
      go_ret
      exact ⟨by rw [E.out]; rfl, B3.out⟩
     | true =>
      have OK2 : Box' (∀ i, i < k + 1 → whF (rowF c cols i) = true) := ⟨fun i hi => by
       rcases Nat.lt_or_ge i k with q | q
       ·exact OK.out i q
       ·rw [show i = k by omega]; exact hw⟩
      rw [hw] at WK
      clear hw
      go_wp2_with (first
       | (refine wpList_load_row rfl 24 (.tmp 1) rfl w.heap.size rfl 24 (gA (cols : Int) (rows : Int) (.slice (some ⟨b, o, none⟩) n cp)) RR.out _ U24.out rfl 3 S24.out rfl ?_))
      refine (RW.out _).mono ?_
      rintro e w2 ⟨rfl, hb2⟩
      have B2 := Box'.mk (BB.out.trans (hb2.mono BB.out.size))
      have R2 := Box'.mk (RR.out.below hb2 RR.out.lt)
      clear hb2
      go_wp2_with fail
      refine (WK.out _ B2.out).mono ?_
      rintro e w3 ⟨rfl, hb3⟩
      have B3 := Box'.mk (B2.out.trans (hb3.mono B2.out.size))
      have R3 := Box'.mk (R2.out.below hb3 R2.out.lt)
      clear hb3
      go_wp2_with fail
      exact ⟨⟨k + 1, by omega, by go_num, OK2, R3, B3⟩, by simp [intOf]; omega⟩
/-- May, of every grid. -/
theorem gmay_any (co ro : Int) (v : Value) (c : List Cl) (w : World) (hv : Cls w.heap.size w v c) : Calls Try.prog 20 #[.agg (gA co ro v)] w fun e w' => e = .returned (.bool (mayG co ro c)) ∧ Below w.heap.size w w' := by
 cases h : (sideF co && sideF ro) with
 | false =>
  have e : mayG co ro c = false := by unfold mayG; rw [h]; rfl
  rw [e]
  exact gmay_1 co ro v h w
 | true =>
  rw [Bool.and_eq_true] at h
  obtain ⟨cols, rfl, h1, h2⟩ := side_nat h.1
  obtain ⟨rows, rfl, h3, h4⟩ := side_nat h.2
  by_cases hl : c.length = cols * rows
  ·exact gmay_3 cols rows v c h1 h2 h3 h4 hl w hv
  ·have e : mayG (cols : Int) (rows : Int) c = false := by
    unfold mayG
    rw [decide_eq_false (show ¬ (c.length : Int) = (cols : Int) * (rows : Int) by rw [← Int.natCast_mul]; omega)]
    simp
   rw [e]
   obtain ⟨a, cp, rfl, _⟩ := hv
   exact gmay_2 cols rows a c.length cp h1 h2 h3 h4 hl w
end Go.Proofs.Ytnbonlkmadmpcaa
