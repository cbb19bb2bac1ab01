/- Which grids may be, as the program asks. -/
import Derived.Test.YtepepoabbbjmgaaSNg
namespace Go.Proofs.Ytepepoabbbjmgaa.Sc
open Go.RowKit Go.BigFrame
set_option linter.unusedVariables false
set_option linter.unusedSimpArgs false
set_option maxHeartbeats 16000000
set_option maxRecDepth 100000
theorem maySize_b (a b : Int) (w : World) : Calls Try.prog 35 #[.int .i64 a, .int .i64 b] w fun e w' => e = .returned (.bool (sideF a && sideF b)) ∧ Below w.heap.size w w' :=
 (maySize_any a b w).mono fun e w' h => ⟨h.1, h.2 ▸ Below.refl _ _⟩
theorem side_nat {n : Int} (h : sideF n = true) : ∃ k : Nat, n = (k : Int) ∧ 1 ≤ k ∧ k ≤ 512 := by
 unfold sideF at h
 simp only [decide_eq_true_eq] at h
 exact ⟨n.toNat, by omega, by omega, by omega⟩
theorem side_of {k : Nat} (h1 : 1 ≤ k) (h2 : k ≤ 512) : sideF (k : Int) = true := by
 unfold sideF
 simp only [decide_eq_true_eq]
 omega
theorem gmay_1 (co ro : Int) (v : Value) (h : (sideF co && sideF ro) = false) (w : World) : Calls Try.prog 28 #[.agg (gA co ro v)] w fun e w' => e = .returned (.bool false) ∧ Below w.heap.size w w' := by
 have MS := Box'.mk (maySize_b co ro)
 rw [h] at MS
 have R1 := Box'.mk (Row.new w 39 (gA co ro v))
 have B1 := Box'.mk ((Below.refl w.heap.size w).alloc (Nat.le_refl _) (.cells (gA co ro v) 39))
 clear h
 go_enter Try.func28, Try.ntmps28
 go_upto_region 1 with (fail)
 generalize (w.alloc (.cells (gA co ro v) 39)) = w1 at *
 refine wp_region_growh 23 (by kernel_rfl) 38 rfl (by kernel_rfl) (fun wa wb => Below wa.heap.size wa wb) (fun wa => Row wa w.heap.size 39 (gA co ro v) ∧ Below w.heap.size w wa) (fun kc wa v => v = (match kc with
  | 0 => .pointer (some ⟨w.heap.size, 0, none⟩)
  | 1 => .int .i64 co
  | 2 => .pointer (some ⟨w.heap.size, 1, none⟩)
  | 3 => .int .i64 ro
  | 4 => .bool false
  | 5 => .bool true
  | 6 => .bool true
  | 7 => undef
  | 8 => undef
  | 9 => undef
  | 10 => undef
  | 11 => undef
  | 12 => undef
  | 13 => undef
  | 14 => undef
  | 15 => undef
  | 16 => .bool true
  | 17 => .bool true
  | 18 => undef
  | 19 => undef
  | 20 => undef
  | 21 => undef
  | 22 => .bool true
  | _ => undef)) (fun i => !([7, 8, 9, 10, 11, 12, 13, 14, 15, 18, 19, 20, 21] : List Nat).contains i) ?_ ?_ ?_ ?_ ?_ ?_ ?_ ?_
 ·intro i o' j b' hi hg wa v hC hV
  have hlt : i < 23 := by rcases Nat.lt_or_ge i 23 with q | q; exact q; rw [List.getElem?_eq_none (by simpa using q)] at hi; cases hi
  revert hi hg hV
  rcases (show i = 0 ∨ i = 1 ∨ i = 2 ∨ i = 3 ∨ i = 4 ∨ i = 5 ∨ i = 6 ∨ i = 7 ∨ i = 8 ∨ i = 9 ∨ i = 10 ∨ i = 11 ∨ i = 12 ∨ i = 13 ∨ i = 14 ∨ i = 15 ∨ i = 16 ∨ i = 17 ∨ i = 18 ∨ i = 19 ∨ i = 20 ∨ i = 21 ∨ i = 22 by omega) with rfl | rfl | rfl | rfl | rfl | rfl | rfl | rfl | rfl | rfl | rfl | rfl | rfl | rfl | rfl | rfl | rfl | rfl | rfl | rfl | rfl | rfl | rfl <;>
   (intro hi hg hV; simp only [tkS, List.getElem?_cons_zero, List.getElem?_cons_succ, Option.some.injEq] at hi; subst hi; first | (cases hg; first | exact hV | exact (show v ≠ _ from (by rw [hV]; intro hh; cases hh))) | (cases hg))
 ·intro i o' hi hg
  have hlt : i < 23 := by rcases Nat.lt_or_ge i 23 with q | q; exact q; rw [List.getElem?_eq_none (by simpa using q)] at hi; cases hi
  revert hi hg
  rcases (show i = 0 ∨ i = 1 ∨ i = 2 ∨ i = 3 ∨ i = 4 ∨ i = 5 ∨ i = 6 ∨ i = 7 ∨ i = 8 ∨ i = 9 ∨ i = 10 ∨ i = 11 ∨ i = 12 ∨ i = 13 ∨ i = 14 ∨ i = 15 ∨ i = 16 ∨ i = 17 ∨ i = 18 ∨ i = 19 ∨ i = 20 ∨ i = 21 ∨ i = 22 by omega) with rfl | rfl | rfl | rfl | rfl | rfl | rfl | rfl | rfl | rfl | rfl | rfl | rfl | rfl | rfl | rfl | rfl | rfl | rfl | rfl | rfl | rfl | rfl <;>
   (intro hi hg; simp only [tkS, List.getElem?_cons_zero, List.getElem?_cons_succ, Option.some.injEq] at hi; subst hi; first | (cases hg; done) | (intro hh; cases hh))
 ·intro i hi wa
  have hi' : (!([7, 8, 9, 10, 11, 12, 13, 14, 15, 18, 19, 20, 21] : List Nat).contains i) = false := hi
  have hm : i ∈ ([7, 8, 9, 10, 11, 12, 13, 14, 15, 18, 19, 20, 21] : List Nat) := List.contains_iff_mem.1 (by cases hc : ([7, 8, 9, 10, 11, 12, 13, 14, 15, 18, 19, 20, 21] : List Nat).contains i with | true => rfl | false => rw [hc] at hi'; cases hi')
  simp only [List.mem_cons, List.not_mem_nil, or_false] at hm
  rcases hm with rfl | rfl | rfl | rfl | rfl | rfl | rfl | rfl | rfl | rfl | rfl | rfl | rfl <;> rfl
 ·rintro wa wb hb ⟨q1, q2⟩; exact ⟨q1.below hb q1.lt, q2.trans (hb.mono q2.size)⟩
 ·exact fun kc v wa wb hC1 hb h => h
 ·exact ⟨R1.out.drew, B1.out.drew⟩
 ·refine ⟨?a0, ?a1, ?a2, ?a3, ?a4, ?a5, ?a6, ?a7, ?a8, ?a9, ?a10, ?a11, ?a12, ?a13, ?a14, ?a15, ?a16, ?a17, ?a18, ?a19, ?a20, ?a21, ?a22, trivial⟩
  all_goals try (intro hh; cases hh; done)
  all_goals intro _ f wq hC hd KK hK
  all_goals have cq0 : wq.cell? ⟨w.heap.size, 0, none⟩ = some (.int .i64 co) := hC.1.cell 0
  all_goals have cq1 : wq.cell? ⟨w.heap.size, 1, none⟩ = some (.int .i64 ro) := hC.1.cell 1
  all_goals simp (disch := decide +kernel) only [tkS, tkZ, setAll, siB, stS, stZ, Nat.zero_add, Nat.reduceAdd, hd] at hK ⊢
  case a4 =>
   exact wp_call 35 #[.int .i64 co, .int .i64 ro] (by simp [go_sem]) _ _ (MS.out wq) (fun w' hb => hK _ _ rfl hb)
  all_goals (skip; refine wp_of_quiet rfl ?_; go_big_quiet_step (fail); exact wpQuiet_nil (hK _ _ (rfl) bR))
 ·intro f wz hC hv
  simp (disch := decide) only [tkS, tkZ, List.drop_succ_cons, List.drop_zero, setAll, siB, stS, stZ, Nat.zero_add, Nat.reduceAdd, hv]
  clear hv
  have B2 := Box'.mk hC.2
  clear hC R1 B1
  go_wp2_with fail
  go_ret
  exact ⟨rfl, B2.out⟩
theorem gmay_2 (cols rows : Nat) (a : Option Addr) (n cp : Nat) (h1 : 1 ≤ cols) (h2 : cols ≤ 512) (h3 : 1 ≤ rows) (h4 : rows ≤ 512) (hne : ¬ n = cols * rows) (w : World) : Calls Try.prog 28 #[.agg (gA (cols : Int) (rows : Int) (.slice a n cp))] w fun e w' => e = .returned (.bool false) ∧ Below w.heap.size w w' := by
 have MS := Box'.mk (maySize_b (cols : Int) (rows : Int))
 rw [side_of h1 h2, side_of h3 h4] at MS
 have PL := Box'.mk (place_b cols rows (by omega) (by omega))
 have R1 := Box'.mk (Row.new w 39 (gA (cols : Int) (rows : Int) (.slice a n cp)))
 have B1 := Box'.mk ((Below.refl w.heap.size w).alloc (Nat.le_refl _) (.cells (gA (cols : Int) (rows : Int) (.slice a n cp)) 39))
 generalize cols * rows = m at *
 have hq : ((n : Int) != (m : Int)) = true := by simp; omega
 clear hne
 go_enter Try.func28, Try.ntmps28
 go_upto_region 1 with (fail)
 generalize (w.alloc (.cells (gA (cols : Int) (rows : Int) (.slice a n cp)) 39)) = w1 at *
 refine wp_region_growh 23 (by kernel_rfl) 38 rfl (by kernel_rfl) (fun wa wb => Below wa.heap.size wa wb) (fun wa => Row wa w.heap.size 39 (gA (cols : Int) (rows : Int) (.slice a n cp)) ∧ Below w.heap.size w wa) (fun kc wa v => v = (match kc with
  | 0 => .pointer (some ⟨w.heap.size, 0, none⟩)
  | 1 => .int .i64 (cols : Int)
  | 2 => .pointer (some ⟨w.heap.size, 1, none⟩)
  | 3 => .int .i64 (rows : Int)
  | 4 => .bool true
  | 5 => .bool false
  | 6 => .bool false
  | 7 => .pointer (some ⟨w.heap.size, 2, none⟩)
  | 8 => .slice a n cp
  | 9 => .int .i64 (n : Int)
  | 10 => .pointer (some ⟨w.heap.size, 0, none⟩)
  | 11 => .int .i64 (cols : Int)
  | 12 => .pointer (some ⟨w.heap.size, 1, none⟩)
  | 13 => .int .i64 (rows : Int)
  | 14 => .int .i64 (m : Int)
  | 15 => .bool true
  | 16 => .bool true
  | 17 => .bool true
  | 18 => undef
  | 19 => undef
  | 20 => undef
  | 21 => undef
  | 22 => .bool true
  | _ => undef)) (fun i => !([18, 19, 20, 21] : List Nat).contains i) ?_ ?_ ?_ ?_ ?_ ?_ ?_ ?_
 ·intro i o' j b' hi hg wa v hC hV
  have hlt : i < 23 := by rcases Nat.lt_or_ge i 23 with q | q; exact q; rw [List.getElem?_eq_none (by simpa using q)] at hi; cases hi
  revert hi hg hV
  rcases (show i = 0 ∨ i = 1 ∨ i = 2 ∨ i = 3 ∨ i = 4 ∨ i = 5 ∨ i = 6 ∨ i = 7 ∨ i = 8 ∨ i = 9 ∨ i = 10 ∨ i = 11 ∨ i = 12 ∨ i = 13 ∨ i = 14 ∨ i = 15 ∨ i = 16 ∨ i = 17 ∨ i = 18 ∨ i = 19 ∨ i = 20 ∨ i = 21 ∨ i = 22 by omega) with rfl | rfl | rfl | rfl | rfl | rfl | rfl | rfl | rfl | rfl | rfl | rfl | rfl | rfl | rfl | rfl | rfl | rfl | rfl | rfl | rfl | rfl | rfl <;>
   (intro hi hg hV; simp only [tkS, List.getElem?_cons_zero, List.getElem?_cons_succ, Option.some.injEq] at hi; subst hi; first | (cases hg; first | exact hV | exact (show v ≠ _ from (by rw [hV]; intro hh; cases hh))) | (cases hg))
 ·intro i o' hi hg
  have hlt : i < 23 := by rcases Nat.lt_or_ge i 23 with q | q; exact q; rw [List.getElem?_eq_none (by simpa using q)] at hi; cases hi
  revert hi hg
  rcases (show i = 0 ∨ i = 1 ∨ i = 2 ∨ i = 3 ∨ i = 4 ∨ i = 5 ∨ i = 6 ∨ i = 7 ∨ i = 8 ∨ i = 9 ∨ i = 10 ∨ i = 11 ∨ i = 12 ∨ i = 13 ∨ i = 14 ∨ i = 15 ∨ i = 16 ∨ i = 17 ∨ i = 18 ∨ i = 19 ∨ i = 20 ∨ i = 21 ∨ i = 22 by omega) with rfl | rfl | rfl | rfl | rfl | rfl | rfl | rfl | rfl | rfl | rfl | rfl | rfl | rfl | rfl | rfl | rfl | rfl | rfl | rfl | rfl | rfl | rfl <;>
   (intro hi hg; simp only [tkS, List.getElem?_cons_zero, List.getElem?_cons_succ, Option.some.injEq] at hi; subst hi; first | (cases hg; done) | (intro hh; cases hh))
 ·intro i hi wa
  have hi' : (!([18, 19, 20, 21] : List Nat).contains i) = false := hi
  have hm : i ∈ ([18, 19, 20, 21] : List Nat) := List.contains_iff_mem.1 (by cases hc : ([18, 19, 20, 21] : List Nat).contains i with | true => rfl | false => rw [hc] at hi'; cases hi')
  simp only [List.mem_cons, List.not_mem_nil, or_false] at hm
  rcases hm with rfl | rfl | rfl | rfl <;> rfl
 ·rintro wa wb hb ⟨q1, q2⟩; exact ⟨q1.below hb q1.lt, q2.trans (hb.mono q2.size)⟩
 ·exact fun kc v wa wb hC1 hb h => h
 ·exact ⟨R1.out.drew, B1.out.drew⟩
 ·refine ⟨?b0, ?b1, ?b2, ?b3, ?b4, ?b5, ?b6, ?b7, ?b8, ?b9, ?b10, ?b11, ?b12, ?b13, ?b14, ?b15, ?b16, ?b17, ?b18, ?b19, ?b20, ?b21, ?b22, trivial⟩
  all_goals try (intro hh; cases hh; done)
  all_goals intro _ f wq hC hd KK hK
  all_goals have cq0 : wq.cell? ⟨w.heap.size, 0, none⟩ = some (.int .i64 (cols : Int)) := hC.1.cell 0
  all_goals have cq1 : wq.cell? ⟨w.heap.size, 1, none⟩ = some (.int .i64 (rows : Int)) := hC.1.cell 1
  all_goals have cq2 : wq.cell? ⟨w.heap.size, 2, none⟩ = some (.slice a n cp) := hC.1.cell 2
  all_goals simp (disch := decide +kernel) only [tkS, tkZ, setAll, siB, stS, stZ, Nat.zero_add, Nat.reduceAdd, hd] at hK ⊢
  case b4 =>
   exact wp_call 35 #[.int .i64 (cols : Int), .int .i64 (rows : Int)] (by simp [go_sem]) _ _ (MS.out wq) (fun w' hb => hK _ _ rfl hb)
  case b14 =>
   refine wp_unguard ?_
   exact wp_call 36 #[.int .i64 (cols : Int), .int .i64 (rows : Int)] (by simp [go_sem]) _ _ (PL.out wq) (fun w' hb => hK _ _ rfl hb)
  all_goals (try refine wp_unguard ?_; refine wp_of_quiet rfl ?_; go_big_quiet_step (fail); exact wpQuiet_nil (hK _ _ (by first | exact (by first | rfl | (simp [hq]; done) | (simp; omega)) | exact (rfl) | rfl | (simp; assumption) | (simp; omega) | simp) bR))
 ·intro f wz hC hv
  simp (disch := decide) only [tkS, tkZ, List.drop_succ_cons, List.drop_zero, setAll, siB, stS, stZ, Nat.zero_add, Nat.reduceAdd, hv]
  clear hv
  have B2 := Box'.mk hC.2
  clear hC R1 B1
  go_wp2_with fail
  go_ret
  exact ⟨rfl, B2.out⟩
theorem gmay_3 (cols rows : Nat) (v : Value) (c : List Cl) (h1 : 1 ≤ cols) (h2 : cols ≤ 512) (h3 : 1 ≤ rows) (h4 : rows ≤ 512) (hl : c.length = cols * rows) (w : World) (hv : Cls w.heap.size w v c) : Calls Try.prog 28 #[.agg (gA (cols : Int) (rows : Int) v)] w fun e w' => e = .returned (.bool (mayG (cols : Int) (rows : Int) c)) ∧ Below w.heap.size w w' := by
 have MS := Box'.mk (maySize_b (cols : Int) (rows : Int))
 rw [side_of h1 h2, side_of h3 h4] at MS
 have PL := Box'.mk (place_b cols rows (by omega) (by omega))
 have hle : cols * rows ≤ 512 * 512 := Nat.mul_le_mul h2 h4
 have hpos : 1 * 1 ≤ cols * rows := Nat.mul_le_mul h1 h3
 have MC : Box' (∀ wx, Below w.heap.size w wx → Calls Try.prog 37 #[v] wx fun e w' => e = .returned (.bool (c.all mayC)) ∧ Below wx.heap.size wx w') := ⟨fun wx hb => mayCells_any v c (by omega) wx ((hv.below hb (Nat.le_refl _)).up hb.size)⟩
 have EW := Box'.mk (may_whole cols rows c h1 h2 h3 h4 hl)
 have GT : Box' (c.all mayC = true → (∀ i, i < rows → whF (rowF c cols i) = true) → mayG (cols : Int) (rows : Int) c = true) := ⟨fun a1 a2 => by
  rw [EW.out, a1, Bool.true_and, List.all_eq_true]
  intro i hi
  exact a2 i (List.mem_range.1 hi)⟩
 have GF : Box' (∀ i, i < rows → whF (rowF c cols i) = false → mayG (cols : Int) (rows : Int) c = false) := ⟨fun i hi h => by
  rw [EW.out, Bool.and_eq_false_iff]
  right
  rw [List.all_eq_false]
  exact ⟨i, List.mem_range.2 hi, by rw [h]; simp⟩⟩
 have GC : Box' (c.all mayC = false → mayG (cols : Int) (rows : Int) c = false) := ⟨fun h => by rw [EW.out, h]; rfl⟩
 obtain ⟨b, o, cp, rfl, hb, hcp, HC0⟩ : ∃ b o cp, v = .slice (some ⟨b, o, none⟩) c.length cp ∧ b < w.heap.size ∧ c.length ≤ cp ∧ ∀ k, k < c.length → ∀ j, j < 15 → w.cell? ⟨b, o + k * 15 + j, none⟩ = (cA (cat c k))[j]? := by
  obtain ⟨a, cp, rfl, hcp, h3⟩ := hv
  rcases h3 with rfl | ⟨b, o, rfl, h5, h6⟩
  ·simp at hl; omega
  ·exact ⟨b, o, cp, rfl, h5, hcp, h6⟩
 have RO : Box' (∀ k wx, k < rows → Calls Try.prog 39 #[.agg (gA (cols : Int) (rows : Int) (.slice (some ⟨b, o, none⟩) c.length cp)), .int .i64 (k : Int)] wx fun e w' => e = .returned (.slice (some ⟨b, o + cols * k * 15, none⟩) cols cols) ∧ Below wx.heap.size wx w') := ⟨fun k wx hk => rowOf_any cols k b o c.length cp (rows : Int) h1 h2 (by omega) (by have := Nat.mul_le_mul_left cols (show k + 1 ≤ rows by omega); omega) wx⟩
 have WH : Box' (∀ k wx, k < rows → Below w.heap.size w wx → Calls Try.prog 38 #[.slice (some ⟨b, o + cols * k * 15, none⟩) cols cols] wx fun e w' => e = .returned (.bool (whF (rowF c cols k))) ∧ Below wx.heap.size wx w') := ⟨fun k wx hk hbe => by
  have hf := fits (cols := cols) hk
  refine isWhole_any b (o + cols * k * 15) cols cols (rowF c cols k) wx (by omega) (Nat.le_refl _) (rowF_len c cols k (by omega)) (Nat.lt_of_lt_of_le hb hbe.size) (fun j hj i hi => ?_)
  rw [hbe.cell (p := ⟨b, o + cols * k * 15 + j * 15 + i, none⟩) hb, cat_row c cols k j hj, show o + cols * k * 15 + j * 15 + i = o + (k * cols + j) * 15 + i by rw [Nat.add_mul, Nat.mul_comm k cols]; omega]
  exact HC0 (k * cols + j) (by omega) i hi⟩
 have R1 := Box'.mk (Row.new w 39 (gA (cols : Int) (rows : Int) (.slice (some ⟨b, o, none⟩) c.length cp)))
 have B1 := Box'.mk ((Below.refl w.heap.size w).alloc (Nat.le_refl _) (.cells (gA (cols : Int) (rows : Int) (.slice (some ⟨b, o, none⟩) c.length cp)) 39))
 have U24 := Box'.mk Try.underlying39
 have S24 := Box'.mk s24g
 clear HC0 hcp hle hpos EW
 rw [← hl] at PL
 generalize hn : c.length = n at *
 have HN := Box'.mk hl
 clear hl hn
 go_enter Try.func28, Try.ntmps28
 go_upto_region 1 with (fail)
 generalize (w.alloc (.cells (gA (cols : Int) (rows : Int) (.slice (some ⟨b, o, none⟩) n cp)) 39)) = w1 at *
 cases hm : c.all mayC with
 | false =>
  rw [hm] at MC
  have E := Box'.mk (GC.out hm)
  clear hm
  refine wp_region_growg 23 (by kernel_rfl) 38 rfl (by kernel_rfl) (fun wa wb => Below wa.heap.size wa wb) (fun wa => Row wa w.heap.size 39 (gA (cols : Int) (rows : Int) (.slice (some ⟨b, o, none⟩) n cp)) ∧ Below w.heap.size w wa) (fun kc wa v => v = (match kc with
   | 0 => .pointer (some ⟨w.heap.size, 0, none⟩)
   | 1 => .int .i64 (cols : Int)
   | 2 => .pointer (some ⟨w.heap.size, 1, none⟩)
   | 3 => .int .i64 (rows : Int)
   | 4 => .bool true
   | 5 => .bool false
   | 6 => .bool false
   | 7 => .pointer (some ⟨w.heap.size, 2, none⟩)
   | 8 => .slice (some ⟨b, o, none⟩) n cp
   | 9 => .int .i64 (n : Int)
   | 10 => .pointer (some ⟨w.heap.size, 0, none⟩)
   | 11 => .int .i64 (cols : Int)
   | 12 => .pointer (some ⟨w.heap.size, 1, none⟩)
   | 13 => .int .i64 (rows : Int)
   | 14 => .int .i64 (n : Int)
   | 15 => .bool false
   | 16 => .bool false
   | 17 => .bool false
   | 18 => .pointer (some ⟨w.heap.size, 2, none⟩)
   | 19 => .slice (some ⟨b, o, none⟩) n cp
   | 20 => .bool false
   | 21 => .bool true
   | 22 => .bool true
   | _ => undef)) ?_ ?_ ?_ ?_ ?_ ?_
  ·intro i o' j b' hi hg wa v hC hV
   have hlt : i < 23 := by rcases Nat.lt_or_ge i 23 with q | q; exact q; rw [List.getElem?_eq_none (by simpa using q)] at hi; cases hi
   revert hi hg hV
   rcases (show i = 0 ∨ i = 1 ∨ i = 2 ∨ i = 3 ∨ i = 4 ∨ i = 5 ∨ i = 6 ∨ i = 7 ∨ i = 8 ∨ i = 9 ∨ i = 10 ∨ i = 11 ∨ i = 12 ∨ i = 13 ∨ i = 14 ∨ i = 15 ∨ i = 16 ∨ i = 17 ∨ i = 18 ∨ i = 19 ∨ i = 20 ∨ i = 21 ∨ i = 22 by omega) with rfl | rfl | rfl | rfl | rfl | rfl | rfl | rfl | rfl | rfl | rfl | rfl | rfl | rfl | rfl | rfl | rfl | rfl | rfl | rfl | rfl | rfl | rfl <;>
    (intro hi hg hV; simp only [tkS, List.getElem?_cons_zero, List.getElem?_cons_succ, Option.some.injEq] at hi; subst hi; first | (cases hg; exact hV) | (cases hg))
  ·rintro wa wb hb ⟨q1, q2⟩; exact ⟨q1.below hb q1.lt, q2.trans (hb.mono q2.size)⟩
  ·exact fun kc v wa wb hC1 hb h => h
  ·exact ⟨R1.out.drew, B1.out.drew⟩
  ·refine ⟨?c0, ?c1, ?c2, ?c3, ?c4, ?c5, ?c6, ?c7, ?c8, ?c9, ?c10, ?c11, ?c12, ?c13, ?c14, ?c15, ?c16, ?c17, ?c18, ?c19, ?c20, ?c21, ?c22, trivial⟩
   all_goals intro f wq hC hd KK hK
   all_goals have cq0 : wq.cell? ⟨w.heap.size, 0, none⟩ = some (.int .i64 (cols : Int)) := hC.1.cell 0
   all_goals have cq1 : wq.cell? ⟨w.heap.size, 1, none⟩ = some (.int .i64 (rows : Int)) := hC.1.cell 1
   all_goals have cq2 : wq.cell? ⟨w.heap.size, 2, none⟩ = some (.slice (some ⟨b, o, none⟩) n cp) := hC.1.cell 2
   all_goals simp (disch := decide +kernel) only [tkS, tkZ, setAll, siB, stS, stZ, Nat.zero_add, Nat.reduceAdd, hd] at hK ⊢
   case c4 =>
    exact wp_call 35 #[.int .i64 (cols : Int), .int .i64 (rows : Int)] (by simp [go_sem]) _ _ (MS.out wq) (fun w' hb => hK _ _ rfl hb)
   case c14 =>
    refine wp_unguard ?_
    exact wp_call 36 #[.int .i64 (cols : Int), .int .i64 (rows : Int)] (by simp [go_sem]) _ _ (PL.out wq) (fun w' hb => hK _ _ rfl hb)
   case c20 =>
    refine wp_unguard ?_
    exact wp_call 37 #[.slice (some ⟨b, o, none⟩) n cp] (by simp [go_sem]) _ _ (MC.out wq hC.2) (fun w' hb => hK _ _ rfl hb)
   all_goals (try refine wp_unguard ?_; refine wp_of_quiet rfl ?_; go_big_quiet_step (fail); exact wpQuiet_nil (hK _ _ (by first | exact (by first | rfl | simp) | exact (rfl) | rfl | (simp; assumption) | (simp; omega) | simp) bR))
  ·intro f wz hC hv
   simp (disch := decide) only [tkS, tkZ, List.drop_succ_cons, List.drop_zero, setAll, siB, stS, stZ, Nat.zero_add, Nat.reduceAdd, hv]
   clear hv
   have B2 := Box'.mk hC.2
   clear hC R1 B1
   go_wp2_with fail
   go_ret
   exact ⟨by rw [E.out]; rfl, B2.out⟩
 | true =>
  rw [hm] at MC
  have GT2 := Box'.mk (GT.out hm)
  clear hm GT
  refine wp_region_growg 23 (by kernel_rfl) 38 rfl (by kernel_rfl) (fun wa wb => Below wa.heap.size wa wb) (fun wa => Row wa w.heap.size 39 (gA (cols : Int) (rows : Int) (.slice (some ⟨b, o, none⟩) n cp)) ∧ Below w.heap.size w wa) (fun kc wa v => v = (match kc with
   | 0 => .pointer (some ⟨w.heap.size, 0, none⟩)
   | 1 => .int .i64 (cols : Int)
   | 2 => .pointer (some ⟨w.heap.size, 1, none⟩)
   | 3 => .int .i64 (rows : Int)
   | 4 => .bool true
   | 5 => .bool false
   | 6 => .bool false
   | 7 => .pointer (some ⟨w.heap.size, 2, none⟩)
   | 8 => .slice (some ⟨b, o, none⟩) n cp
   | 9 => .int .i64 (n : Int)
   | 10 => .pointer (some ⟨w.heap.size, 0, none⟩)
   | 11 => .int .i64 (cols : Int)
   | 12 => .pointer (some ⟨w.heap.size, 1, none⟩)
   | 13 => .int .i64 (rows : Int)
   | 14 => .int .i64 (n : Int)
   | 15 => .bool false
   | 16 => .bool false
   | 17 => .bool false
   | 18 => .pointer (some ⟨w.heap.size, 2, none⟩)
   | 19 => .slice (some ⟨b, o, none⟩) n cp
   | 20 => .bool true
   | 21 => .bool false
   | 22 => .bool false
   | _ => undef)) ?_ ?_ ?_ ?_ ?_ ?_
  ·intro i o' j b' hi hg wa v hC hV
   have hlt : i < 23 := by rcases Nat.lt_or_ge i 23 with q | q; exact q; rw [List.getElem?_eq_none (by simpa using q)] at hi; cases hi
   revert hi hg hV
   rcases (show i = 0 ∨ i = 1 ∨ i = 2 ∨ i = 3 ∨ i = 4 ∨ i = 5 ∨ i = 6 ∨ i = 7 ∨ i = 8 ∨ i = 9 ∨ i = 10 ∨ i = 11 ∨ i = 12 ∨ i = 13 ∨ i = 14 ∨ i = 15 ∨ i = 16 ∨ i = 17 ∨ i = 18 ∨ i = 19 ∨ i = 20 ∨ i = 21 ∨ i = 22 by omega) with rfl | rfl | rfl | rfl | rfl | rfl | rfl | rfl | rfl | rfl | rfl | rfl | rfl | rfl | rfl | rfl | rfl | rfl | rfl | rfl | rfl | rfl | rfl <;>
    (intro hi hg hV; simp only [tkS, List.getElem?_cons_zero, List.getElem?_cons_succ, Option.some.injEq] at hi; subst hi; first | (cases hg; exact hV) | (cases hg))
  ·rintro wa wb hb ⟨q1, q2⟩; exact ⟨q1.below hb q1.lt, q2.trans (hb.mono q2.size)⟩
  ·exact fun kc v wa wb hC1 hb h => h
  ·exact ⟨R1.out.drew, B1.out.drew⟩
  ·refine ⟨?d0, ?d1, ?d2, ?d3, ?d4, ?d5, ?d6, ?d7, ?d8, ?d9, ?d10, ?d11, ?d12, ?d13, ?d14, ?d15, ?d16, ?d17, ?d18, ?d19, ?d20, ?d21, ?d22, trivial⟩
   all_goals intro f wq hC hd KK hK
   all_goals have cq0 : wq.cell? ⟨w.heap.size, 0, none⟩ = some (.int .i64 (cols : Int)) := hC.1.cell 0
   all_goals have cq1 : wq.cell? ⟨w.heap.size, 1, none⟩ = some (.int .i64 (rows : Int)) := hC.1.cell 1
   all_goals have cq2 : wq.cell? ⟨w.heap.size, 2, none⟩ = some (.slice (some ⟨b, o, none⟩) n cp) := hC.1.cell 2
   all_goals simp (disch := decide +kernel) only [tkS, tkZ, setAll, siB, stS, stZ, Nat.zero_add, Nat.reduceAdd, hd] at hK ⊢
   case d4 =>
    exact wp_call 35 #[.int .i64 (cols : Int), .int .i64 (rows : Int)] (by simp [go_sem]) _ _ (MS.out wq) (fun w' hb => hK _ _ rfl hb)
   case d14 =>
    refine wp_unguard ?_
    exact wp_call 36 #[.int .i64 (cols : Int), .int .i64 (rows : Int)] (by simp [go_sem]) _ _ (PL.out wq) (fun w' hb => hK _ _ rfl hb)
   case d20 =>
    refine wp_unguard ?_
    exact wp_call 37 #[.slice (some ⟨b, o, none⟩) n cp] (by simp [go_sem]) _ _ (MC.out wq hC.2) (fun w' hb => hK _ _ rfl hb)
   all_goals (try refine wp_unguard ?_; refine wp_of_quiet rfl ?_; go_big_quiet_step (fail); exact wpQuiet_nil (hK _ _ (by first | exact (by first | rfl | simp) | exact (rfl) | rfl | (simp; assumption) | (simp; omega) | simp) bR))
  ·intro f wz hC hv
   simp (disch := decide) only [tkS, tkZ, List.drop_succ_cons, List.drop_zero, setAll, siB, stS, stZ, Nat.zero_add, Nat.reduceAdd, hv]
   clear hv
   have R2 := Box'.mk hC.1
   have B2 := Box'.mk hC.2
   have c1 : wz.cell? ⟨w.heap.size, 1, none⟩ = some (.int .i64 (rows : Int)) := hC.1.cell 1
   clear hC R1 B1 MC MS PL
   go_wp2_with fail
   clear c1
   go_loopw [29] (fun i wr => ∃ k : Nat, k ≤ rows ∧ i = .int .i64 (k : Int) ∧ Box' (∀ i, i < k → whF (rowF c cols i) = true) ∧ Box' (Row wr w.heap.size 39 (gA (cols : Int) (rows : Int) (.slice (some ⟨b, o, none⟩) n cp))) ∧ Box' (Below w.heap.size w wr)) (fun i _ => rows - (intOf i).toNat)
   case atStart => exact ⟨0, by omega, rfl, ⟨fun i hi => by omega⟩, R2, B2⟩
   case round =>
    obtain ⟨k, hk, rfl, OK, RR, BB⟩ := hrel
    clear R2 B2
    by_cases hlt : k < rows
    case neg =>
     obtain rfl : k = rows := by omega
     have E := Box'.mk (GT2.out OK.out)
     clear RO WH
     go_wp2_with fail
     go_ret
     exact ⟨by rw [E.out]; rfl, BB.out⟩
    case pos =>
     have RW := Box'.mk (fun wx => RO.out k wx hlt)
     have WK := Box'.mk (fun wx => WH.out k wx hlt)
     cases hw : whF (rowF c cols k) with
     | false =>
      have E := Box'.mk (GF.out k hlt hw)
      rw [hw] at WK
      clear hw
      go_wp2_with (first
       | (refine wpList_load_row rfl 39 (.tmp 1) rfl w.heap.size rfl 39 (gA (cols : Int) (rows : Int) (.slice (some ⟨b, o, none⟩) n cp)) RR.out _ U24.out rfl 3 S24.out rfl ?_))
      refine (RW.out _).mono ?_
      rintro e w2 ⟨rfl, hb2⟩
      have B2 := Box'.mk (BB.out.trans (hb2.mono BB.out.size))
      clear hb2
      go_wp2_with fail
      refine (WK.out _ B2.out).mono ?_
      rintro e w3 ⟨rfl, hb3⟩
      have B3 := Box'.mk (B2.out.trans (hb3.mono B2.out.size))
      clear hb3
      go_wp2_with fail
      go_ret
      exact ⟨by rw [E.out]; rfl, B3.out⟩
     | true =>
      have OK2 : Box' (∀ i, i < k + 1 → whF (rowF c cols i) = true) := ⟨fun i hi => by
       rcases Nat.lt_or_ge i k with q | q
       ·exact OK.out i q
       ·rw [show i = k by omega]; exact hw⟩
      rw [hw] at WK
      clear hw
      go_wp2_with (first
       | (refine wpList_load_row rfl 39 (.tmp 1) rfl w.heap.size rfl 39 (gA (cols : Int) (rows : Int) (.slice (some ⟨b, o, none⟩) n cp)) RR.out _ U24.out rfl 3 S24.out rfl ?_))
      refine (RW.out _).mono ?_
      rintro e w2 ⟨rfl, hb2⟩
      have B2 := Box'.mk (BB.out.trans (hb2.mono BB.out.size))
      have R2 := Box'.mk (RR.out.below hb2 RR.out.lt)
      clear hb2
      go_wp2_with fail
      refine (WK.out _ B2.out).mono ?_
      rintro e w3 ⟨rfl, hb3⟩
      have B3 := Box'.mk (B2.out.trans (hb3.mono B2.out.size))
      have R3 := Box'.mk (R2.out.below hb3 R2.out.lt)
      clear hb3
      go_wp2_with fail
      exact ⟨⟨k + 1, by omega, by go_num, OK2, R3, B3⟩, by simp [intOf]; omega⟩
/-- May, of every grid. -/
theorem gmay_any (co ro : Int) (v : Value) (c : List Cl) (w : World) (hv : Cls w.heap.size w v c) : Calls Try.prog 28 #[.agg (gA co ro v)] w fun e w' => e = .returned (.bool (mayG co ro c)) ∧ Below w.heap.size w w' := by
 cases h : (sideF co && sideF ro) with
 | false =>
  have e : mayG co ro c = false := by unfold mayG; rw [h]; rfl
  rw [e]
  exact gmay_1 co ro v h w
 | true =>
  rw [Bool.and_eq_true] at h
  obtain ⟨cols, rfl, h1, h2⟩ := side_nat h.1
  obtain ⟨rows, rfl, h3, h4⟩ := side_nat h.2
  by_cases hl : c.length = cols * rows
  ·exact gmay_3 cols rows v c h1 h2 h3 h4 hl w hv
  ·have e : mayG (cols : Int) (rows : Int) c = false := by
    unfold mayG
    rw [decide_eq_false (show ¬ (c.length : Int) = (cols : Int) * (rows : Int) by rw [← Int.natCast_mul]; omega)]
    simp
   rw [e]
   obtain ⟨a, cp, rfl, _⟩ := hv
   exact gmay_2 cols rows a c.length cp h1 h2 h3 h4 hl w
end Go.Proofs.Ytepepoabbbjmgaa.Sc
