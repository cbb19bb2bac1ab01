/- Grids that are refused. Rows moved, as lists. Rows written, erased, shifted, as lists. -/
import Derived.Test.YtlekleeckcdcgaaGreatNj
import Derived.Test.YtlekleeckcdcgaaGreatEq
namespace Go.Proofs.YtlekleeckcdcgaaGreat
open Go.RowKit Go.BigFrame
set_option linter.unusedVariables false
set_option linter.unusedSimpArgs false
set_option maxRecDepth 100000
set_option maxHeartbeats 8000000
/-- What stands while a grid is turned: the grid, the style, room for the answer. -/
structure FrG (w : World) (g : Array Value) (s : St) (wr : World) : Prop where
 rg : Row wr w.heap.size 24 g
 rs : Row wr (w.heap.size + 1) 26 (sA s)
 rr : Room wr (w.heap.size + 2) 24 3
 be : Below w.heap.size w wr
 sz : w.heap.size + 3 ≤ wr.heap.size
theorem FrG.begin (w : World) (g : Array Value) (s : St) : FrG w g s (((w.alloc (.cells g 24)).alloc (.cells (sA s) 26)).alloc (.cells #[.int .i64 0, .int .i64 0, .slice none 0 0] 24)) :=
 ⟨((Row.new _ _ _).alloc _).alloc _, (Row.made _ _ _ _ _ rfl (by simp)).alloc _, Room.made _ _ _ _ _ rfl (by simp), (((Below.refl w.heap.size w).alloc (Nat.le_refl _) _).alloc (by simp) _).alloc (by simp; omega) _, by simp⟩
theorem FrG.below {w : World} {g : Array Value} {s : St} {wr w' : World} (h : FrG w g s wr) (hb : Below wr.heap.size wr w') : FrG w g s w' :=
 ⟨h.rg.below hb h.rg.lt, h.rs.below hb h.rs.lt, h.rr.below hb (by have := h.sz; omega), h.be.trans (hb.mono h.be.size), Nat.le_trans h.sz hb.size⟩
theorem FrG.drew {w : World} {g : Array Value} {s : St} {wr : World} (h : FrG w g s wr) : FrG w g s wr.drew := h.below (bR.drew)
theorem FrG.tc {w : World} {g : Array Value} {s : St} {wr w' : World} {b : Nat} (h : FrG w g s wr) (ht : Tc b wr w') (hb : w.heap.size + 3 ≤ b) : FrG w g s w' :=
 ⟨ht.row h.rg (by omega), ht.row h.rs (by omega), by obtain ⟨c, h1, h2⟩ := h.rr; exact ⟨c, ht.row h1 (by omega), h2⟩, h.be.trans (ht.below (by omega) h.be.size), Nat.le_trans h.sz ht.size⟩
/-- The answer of an error. -/
def gErr : Value := .tuple #[.agg (gA 0 0 (.slice none 0 0)), .int .i64 2]
/-- The answer of a grid. -/
def gOk (co ro : Int) (v : Value) : Value := .tuple #[.agg (gA co ro v), .int .i64 0]
theorem erase_no0 (co ro : Int) (v : Value) (c : List Cl) (row fr to : Int) (s : St) (w : World) (hv : Cls w.heap.size w v c)  (hG : mayG co ro c = false) :
  Calls Tryz.prog 171 #[.agg (gA co ro v), .int .i64 row, .int .i64 fr, .int .i64 to, .agg (sA s)] w fun e w' => e = .returned gErr ∧ Below w.heap.size w w' := by
 have MG : Box' (∀ wx, Below w.heap.size w wx → Calls Tryz.prog 53 #[.agg (gA co ro v)] wx fun e w' => e = .returned (.bool (mayG co ro c)) ∧ Below wx.heap.size wx w') := ⟨fun wx hb => gmay_any co ro v c wx ((hv.below hb (Nat.le_refl _)).up hb.size)⟩
 rw [hG] at MG
 have F := Box'.mk (FrG.begin w (gA co ro v) s)
 have U24 := Box'.mk Tryz.underlying24
 have S24 := Box'.mk s24g
 have O := Box'.mk (gA_one 0 0 none 0 0)
 clear hG
 clear hv
 go_enter Tryz.func171, Tryz.ntmps171
 go_upto_region 1 with (fail)
 generalize (((w.alloc (.cells (gA co ro v) 24)).alloc (.cells (sA s) 26)).alloc (.cells #[.int .i64 0, .int .i64 0, .slice none 0 0] 24)) = w1 at *
 go_wp2_with (first
  | (refine wpList_load_row rfl 24 (.tmp 5) rfl w.heap.size rfl 24 (gA co ro v) F.out.rg _ U24.out rfl 3 S24.out rfl ?_))
 refine (MG.out _ F.out.be).mono ?_
 rintro e w2 ⟨rfl, hb⟩
 replace F := Box'.mk (F.out.below hb)
 clear hb
 obtain ⟨cs0, cs1, cs2, cs3, cs4, cs5, cs6, cs7, cs8, cs9⟩ := F.out.rs.s10
 have c0 : w2.cell? ⟨w.heap.size, 0, none⟩ = some (.int .i64 co) := F.out.rg.cell 0
 have c1 : w2.cell? ⟨w.heap.size, 1, none⟩ = some (.int .i64 ro) := F.out.rg.cell 1
 go_wp2_with (first
  | (refine wpList_store_row rfl 24 (.tmp 10) (.tmp 44) rfl (w.heap.size + 2) rfl (gA 0 0 (.slice none 0 0)) rfl 24 3 F.out.rr S24.out rfl O.out ?_))
 exact bodyPost_ret (results_two rfl _ (w.heap.size + 2) rfl _ rfl _ _ (F.out.rr.setRow _) rfl) rfl ⟨rfl, below_setRow F.out.be (by omega) _⟩
theorem resize_no0 (co ro : Int) (v : Value) (c : List Cl) (cols rows : Int) (s : St) (w : World) (hv : Cls w.heap.size w v c)  (hG : mayG co ro c = false) :
  Calls Tryz.prog 97 #[.agg (gA co ro v), .int .i64 cols, .int .i64 rows, .agg (sA s)] w fun e w' => e = .returned gErr ∧ Below w.heap.size w w' := by
 have MG : Box' (∀ wx, Below w.heap.size w wx → Calls Tryz.prog 53 #[.agg (gA co ro v)] wx fun e w' => e = .returned (.bool (mayG co ro c)) ∧ Below wx.heap.size wx w') := ⟨fun wx hb => gmay_any co ro v c wx ((hv.below hb (Nat.le_refl _)).up hb.size)⟩
 rw [hG] at MG
 have F := Box'.mk (FrG.begin w (gA co ro v) s)
 have U24 := Box'.mk Tryz.underlying24
 have S24 := Box'.mk s24g
 have O := Box'.mk (gA_one 0 0 none 0 0)
 clear hG
 clear hv
 go_enter Tryz.func97, Tryz.ntmps97
 go_upto_region 1 with (fail)
 generalize (((w.alloc (.cells (gA co ro v) 24)).alloc (.cells (sA s) 26)).alloc (.cells #[.int .i64 0, .int .i64 0, .slice none 0 0] 24)) = w1 at *
 go_wp2_with (first
  | (refine wpList_load_row rfl 24 (.tmp 4) rfl w.heap.size rfl 24 (gA co ro v) F.out.rg _ U24.out rfl 3 S24.out rfl ?_))
 refine (MG.out _ F.out.be).mono ?_
 rintro e w2 ⟨rfl, hb⟩
 replace F := Box'.mk (F.out.below hb)
 clear hb
 obtain ⟨cs0, cs1, cs2, cs3, cs4, cs5, cs6, cs7, cs8, cs9⟩ := F.out.rs.s10
 have c0 : w2.cell? ⟨w.heap.size, 0, none⟩ = some (.int .i64 co) := F.out.rg.cell 0
 have c1 : w2.cell? ⟨w.heap.size, 1, none⟩ = some (.int .i64 ro) := F.out.rg.cell 1
 go_wp2_with (first
  | (refine wpList_store_row rfl 24 (.tmp 8) (.tmp 27) rfl (w.heap.size + 2) rfl (gA 0 0 (.slice none 0 0)) rfl 24 3 F.out.rr S24.out rfl O.out ?_))
 exact bodyPost_ret (results_two rfl _ (w.heap.size + 2) rfl _ rfl _ _ (F.out.rr.setRow _) rfl) rfl ⟨rfl, below_setRow F.out.be (by omega) _⟩
theorem resize_no1 (co ro : Int) (v : Value) (c : List Cl) (cols rows : Int) (s : St) (w : World) (hv : Cls w.heap.size w v c)  (hG : mayG co ro c = true) (hS : mayS s = false) :
  Calls Tryz.prog 97 #[.agg (gA co ro v), .int .i64 cols, .int .i64 rows, .agg (sA s)] w fun e w' => e = .returned gErr ∧ Below w.heap.size w w' := by
 have MG : Box' (∀ wx, Below w.heap.size w wx → Calls Tryz.prog 53 #[.agg (gA co ro v)] wx fun e w' => e = .returned (.bool (mayG co ro c)) ∧ Below wx.heap.size wx w') := ⟨fun wx hb => gmay_any co ro v c wx ((hv.below hb (Nat.le_refl _)).up hb.size)⟩
 rw [hG] at MG
 have MS := Box'.mk (mayStyle15_any s)
 rw [hS] at MS
 have F := Box'.mk (FrG.begin w (gA co ro v) s)
 have U24 := Box'.mk Tryz.underlying24
 have S24 := Box'.mk s24g
 have O := Box'.mk (gA_one 0 0 none 0 0)
 clear hG hS
 clear hv
 go_enter Tryz.func97, Tryz.ntmps97
 go_upto_region 1 with (fail)
 generalize (((w.alloc (.cells (gA co ro v) 24)).alloc (.cells (sA s) 26)).alloc (.cells #[.int .i64 0, .int .i64 0, .slice none 0 0] 24)) = w1 at *
 go_wp2_with (first
  | (refine wpList_load_row rfl 24 (.tmp 4) rfl w.heap.size rfl 24 (gA co ro v) F.out.rg _ U24.out rfl 3 S24.out rfl ?_))
 refine (MG.out _ F.out.be).mono ?_
 rintro e w2 ⟨rfl, hb⟩
 replace F := Box'.mk (F.out.below hb)
 clear hb
 obtain ⟨cs0, cs1, cs2, cs3, cs4, cs5, cs6, cs7, cs8, cs9⟩ := F.out.rs.s10
 have c0 : w2.cell? ⟨w.heap.size, 0, none⟩ = some (.int .i64 co) := F.out.rg.cell 0
 have c1 : w2.cell? ⟨w.heap.size, 1, none⟩ = some (.int .i64 ro) := F.out.rg.cell 1
 go_wp2_with fail
 refine (MS.out _).mono ?_
 rintro e w3 ⟨rfl, hb⟩
 replace F := Box'.mk (F.out.below hb)
 clear hb
 clear c0 c1 cs0 cs1 cs2 cs3 cs4 cs5 cs6 cs7 cs8 cs9
 obtain ⟨cs0, cs1, cs2, cs3, cs4, cs5, cs6, cs7, cs8, cs9⟩ := F.out.rs.s10
 have c0 : w3.cell? ⟨w.heap.size, 0, none⟩ = some (.int .i64 co) := F.out.rg.cell 0
 have c1 : w3.cell? ⟨w.heap.size, 1, none⟩ = some (.int .i64 ro) := F.out.rg.cell 1
 go_wp2_with (first
  | (refine wpList_store_row rfl 24 (.tmp 8) (.tmp 27) rfl (w.heap.size + 2) rfl (gA 0 0 (.slice none 0 0)) rfl 24 3 F.out.rr S24.out rfl O.out ?_))
 exact bodyPost_ret (results_two rfl _ (w.heap.size + 2) rfl _ rfl _ _ (F.out.rr.setRow _) rfl) rfl ⟨rfl, below_setRow F.out.be (by omega) _⟩
theorem resize_no2 (co ro : Int) (v : Value) (c : List Cl) (cols rows : Int) (s : St) (w : World) (hv : Cls w.heap.size w v c)  (hG : mayG co ro c = true) (hS : mayS s = true) (h2 : (sideF cols && sideF rows) = false) :
  Calls Tryz.prog 97 #[.agg (gA co ro v), .int .i64 cols, .int .i64 rows, .agg (sA s)] w fun e w' => e = .returned gErr ∧ Below w.heap.size w w' := by
 have MG : Box' (∀ wx, Below w.heap.size w wx → Calls Tryz.prog 53 #[.agg (gA co ro v)] wx fun e w' => e = .returned (.bool (mayG co ro c)) ∧ Below wx.heap.size wx w') := ⟨fun wx hb => gmay_any co ro v c wx ((hv.below hb (Nat.le_refl _)).up hb.size)⟩
 rw [hG] at MG
 have MS := Box'.mk (mayStyle15_any s)
 rw [hS] at MS
 have IN2 := Box'.mk (maySize_any cols rows)
 rw [h2] at IN2
 have F := Box'.mk (FrG.begin w (gA co ro v) s)
 have U24 := Box'.mk Tryz.underlying24
 have S24 := Box'.mk s24g
 have O := Box'.mk (gA_one 0 0 none 0 0)
 clear hG hS h2
 clear hv
 go_enter Tryz.func97, Tryz.ntmps97
 go_upto_region 1 with (fail)
 generalize (((w.alloc (.cells (gA co ro v) 24)).alloc (.cells (sA s) 26)).alloc (.cells #[.int .i64 0, .int .i64 0, .slice none 0 0] 24)) = w1 at *
 go_wp2_with (first
  | (refine wpList_load_row rfl 24 (.tmp 4) rfl w.heap.size rfl 24 (gA co ro v) F.out.rg _ U24.out rfl 3 S24.out rfl ?_))
 refine (MG.out _ F.out.be).mono ?_
 rintro e w2 ⟨rfl, hb⟩
 replace F := Box'.mk (F.out.below hb)
 clear hb
 obtain ⟨cs0, cs1, cs2, cs3, cs4, cs5, cs6, cs7, cs8, cs9⟩ := F.out.rs.s10
 have c0 : w2.cell? ⟨w.heap.size, 0, none⟩ = some (.int .i64 co) := F.out.rg.cell 0
 have c1 : w2.cell? ⟨w.heap.size, 1, none⟩ = some (.int .i64 ro) := F.out.rg.cell 1
 go_wp2_with fail
 refine (MS.out _).mono ?_
 rintro e w3 ⟨rfl, hb⟩
 replace F := Box'.mk (F.out.below hb)
 clear hb
 clear c0 c1 cs0 cs1 cs2 cs3 cs4 cs5 cs6 cs7 cs8 cs9
 obtain ⟨cs0, cs1, cs2, cs3, cs4, cs5, cs6, cs7, cs8, cs9⟩ := F.out.rs.s10
 have c0 : w3.cell? ⟨w.heap.size, 0, none⟩ = some (.int .i64 co) := F.out.rg.cell 0
 have c1 : w3.cell? ⟨w.heap.size, 1, none⟩ = some (.int .i64 ro) := F.out.rg.cell 1
 go_wp2_with fail
 refine (IN2.out _).mono ?_
 rintro e w4 ⟨rfl, rfl⟩
 go_wp2_with (first
  | (refine wpList_store_row rfl 24 (.tmp 8) (.tmp 27) rfl (w.heap.size + 2) rfl (gA 0 0 (.slice none 0 0)) rfl 24 3 F.out.rr S24.out rfl O.out ?_))
 exact bodyPost_ret (results_two rfl _ (w.heap.size + 2) rfl _ rfl _ _ (F.out.rr.setRow _) rfl) rfl ⟨rfl, below_setRow F.out.be (by omega) _⟩
theorem mayG_dest {co ro : Int} {c : List Cl} (h : mayG co ro c = true) : ∃ cols rows : Nat, co = (cols : Int) ∧ ro = (rows : Int) ∧ 1 ≤ cols ∧ cols ≤ 512 ∧ 1 ≤ rows ∧ rows ≤ 512 ∧ c.length = cols * rows := by
 have h' := h
 unfold mayG at h'
 simp only [Bool.and_eq_true] at h'
 obtain ⟨⟨⟨a1, a2⟩, a3⟩, _⟩ := h'
 obtain ⟨cols, rfl, h1, h2⟩ := side_nat a1
 obtain ⟨rows, rfl, h3, h4⟩ := side_nat a2
 refine ⟨cols, rows, rfl, rfl, h1, h2, h3, h4, ?_⟩
 have := of_decide_eq_true a3
 rw [← Int.natCast_mul] at this
 omega
theorem cat_app (a b : List Cl) (i : Nat) : cat (a ++ b) i = if i < a.length then cat a i else cat b (i - a.length) := by
 split
 ·exact gd_app _ _ _ _ (by assumption)
 ·exact gd_appr _ _ _ _ (by omega)
theorem cat_take (a : List Cl) (n i : Nat) (h : i < n) : cat (a.take n) i = cat a i := by
 unfold cat; simp [List.getElem?_take_of_lt h]
theorem cat_drop (a : List Cl) (n i : Nat) : cat (a.drop n) i = cat a (n + i) := by
 unfold cat; simp
theorem cat_rep (n i : Nat) (x : Cl) (h : i < n) : cat (List.replicate n x) i = x := rep_get n i h x _
theorem cat_ext (a b : List Cl) (h : a.length = b.length) (h2 : ∀ i, i < a.length → cat a i = cat b i) : a = b := by
 apply List.ext_getElem h
 intro i h3 h4
 have := h2 i h3
 unfold cat at this
 rwa [List.getD_eq_getElem?_getD, List.getD_eq_getElem?_getD, List.getElem?_eq_getElem h3, List.getElem?_eq_getElem h4] at this
theorem cat_lay (l : List Cl) (o : Nat) (m : List Cl) (h : o + m.length ≤ l.length) (i : Nat) : cat (lay l o m) i = if i < o then cat l i else if i < o + m.length then cat m (i - o) else cat l i := by
 unfold lay
 have hl : (l.take o).length = o := by rw [List.length_take]; omega
 rw [List.append_assoc, cat_app, hl]
 split
 ·rw [cat_take _ _ _ (by assumption)]
 ·rw [cat_app]
  split
  ·rw [if_pos (by omega)]
  ·rw [if_neg (by omega), cat_drop]
   congr 1
   omega
theorem cat_pu (r : List Cl) (k : Int) (s : St) (h1 : -(r.length : Int) ≤ k) (h2 : k ≤ (r.length : Int)) (i : Nat) (hi : i < r.length) :
  cat (puF r k s) i = if 0 ≤ (i : Int) - k ∧ (i : Int) - k < (r.length : Int) then cat r ((i : Int) - k).toNat else bl s := by
 unfold puF
 by_cases hp : 0 < k
 ·rw [if_pos hp, cat_app, List.length_replicate]
  by_cases hq : i < k.toNat
  ·rw [if_pos hq, if_neg (by omega), cat_rep _ _ _ hq]
  ·rw [if_neg hq, if_pos (by omega), cat_take _ _ _ (by omega)]
   congr 1
   omega
 ·rw [if_neg hp]
  by_cases hn : k < 0
  ·rw [if_pos hn, cat_app, List.length_drop]
   by_cases hq : i < r.length - (-k).toNat
   ·rw [if_pos hq, if_pos (by omega), cat_drop]
    congr 1
    omega
   ·rw [if_neg hq, if_neg (by omega), cat_rep _ _ _ (by omega)]
  ·obtain rfl : k = 0 := by omega
   rw [if_neg hn, if_pos (by omega)]
   congr 1
/-- The cells of a grid as the cells of its rows. -/
theorem grid_ext (a b : List Cl) (cols rows : Nat) (hc : 1 ≤ cols) (ha : a.length = cols * rows) (hb : b.length = cols * rows) (h : ∀ n, n < rows → ∀ j, j < cols → cat a (n * cols + j) = cat b (n * cols + j)) : a = b := by
 refine cat_ext a b (by omega) fun i hi => ?_
 have hm : i % cols < cols := Nat.mod_lt _ (by omega)
 have hd : i / cols < rows := Nat.div_lt_of_lt_mul (by omega)
 have e : i = i / cols * cols + i % cols := by rw [Nat.mul_comm]; exact (Nat.div_add_mod i cols).symm
 rw [e]
 exact h _ hd _ hm
theorem row_lt {a b c j : Nat} (hj : j < c) : a * c + j < b * c ↔ a < b := by
 constructor
 ·intro h
  rcases Nat.lt_or_ge a b with q | q
  ·exact q
  ·have := Nat.mul_le_mul_right c q; omega
 ·intro h
  have := Nat.mul_le_mul_right c (show a + 1 ≤ b by omega)
  rw [Nat.add_mul, Nat.one_mul] at this
  omega
theorem row_ge {a b c j : Nat} (hj : j < c) : b * c ≤ a * c + j ↔ b ≤ a := by
 have := row_lt (a := a) (b := b) hj
 omega
theorem scF_cat (c : List Cl) (cols rows top bot : Nat) (b : Int) (s : St) (hl : c.length = cols * rows) (hb : bot < rows) (n : Nat) (hn : n < rows) (j : Nat) (hj : j < cols) :
  cat (scF c cols rows top bot b s) (n * cols + j) = if top ≤ n ∧ n ≤ bot then (if (top : Int) ≤ (n : Int) + b ∧ (n : Int) + b ≤ (bot : Int) then cat c (((n : Int) + b).toNat * cols + j) else bl s) else cat c (n * cols + j) := by
 rw [← cat_row _ cols n j hj, scF_row c cols rows top bot b s hl hb n hn]
 unfold scR
 split
 ·split
  ·rw [cat_row _ _ _ _ hj]
  ·rw [cat_rep _ _ _ hj]
 ·rw [cat_row _ _ _ _ hj]
/-- What Scroll does to the cells is what it says. -/
theorem scroll_eq (c : List Cl) (cols rows top bot : Nat) (k z : Int) (s : St) (hc : 1 ≤ cols) (hl : c.length = cols * rows) (h1 : top ≤ bot) (h2 : bot < rows) (hz : z = clF k ((bot - top + 1 : Nat) : Int)) :
  lay c (cols * top) (puF ((c.drop (cols * top)).take (cols * (bot - top + 1))) (-z * (cols : Int)) s) = scF c cols rows top bot k s := by
 have hcnt : cols * top + cols * (bot - top + 1) ≤ cols * rows := by rw [← Nat.mul_add]; exact Nat.mul_le_mul_left _ (by omega)
 have hrl : ((c.drop (cols * top)).take (cols * (bot - top + 1))).length = cols * (bot - top + 1) := by rw [List.length_take, List.length_drop]; omega
 have hz1 : -((bot - top + 1 : Nat) : Int) ≤ z := by rw [hz]; unfold clF; omega
 have hz2 : z ≤ ((bot - top + 1 : Nat) : Int) := by rw [hz]; unfold clF; omega
 have hm1 : -((cols * (bot - top + 1) : Nat) : Int) ≤ -z * (cols : Int) := by
  rw [Int.natCast_mul, Int.mul_comm (cols : Int), ← Int.neg_mul]
  exact Int.mul_le_mul_of_nonneg_right (by omega) (by omega)
 have hm2 : -z * (cols : Int) ≤ ((cols * (bot - top + 1) : Nat) : Int) := by
  rw [Int.natCast_mul, Int.mul_comm (cols : Int)]
  exact Int.mul_le_mul_of_nonneg_right (by omega) (by omega)
 have hpl := puF_len ((c.drop (cols * top)).take (cols * (bot - top + 1))) (-z * (cols : Int)) s (by rw [hrl]; exact hm1) (by rw [hrl]; exact hm2)
 rw [hrl] at hpl
 refine grid_ext _ _ cols rows hc (by rw [lay_len _ _ _ (by rw [hpl]; omega), hl]) (scF_len c cols rows top bot k s hl h2) fun n hn j hj => ?_
 rw [scF_cat c cols rows top bot k s hl h2 n hn j hj, cat_lay _ _ _ (by rw [hpl]; omega), hpl]
 by_cases ht : top ≤ n
 ·rw [if_neg (by rw [Nat.mul_comm cols top]; have := (row_ge (a := n) (b := top) hj).2 ht; omega)]
  by_cases hb : n ≤ bot
  ·have hin : n * cols + j < cols * top + cols * (bot - top + 1) := by
    rw [← Nat.mul_add, Nat.mul_comm cols]; exact (row_lt hj).2 (by omega)
   rw [if_pos hin, if_pos ⟨ht, hb⟩]
   obtain ⟨i, rfl⟩ : ∃ i, n = top + i := ⟨n - top, by omega⟩
   have hidx : (top + i) * cols + j - cols * top = i * cols + j := by rw [Nat.add_mul, Nat.mul_comm cols top]; omega
   have hir : i * cols + j < cols * (bot - top + 1) := by rw [Nat.mul_comm cols]; exact (row_lt hj).2 (by omega)
   rw [hidx, cat_pu _ _ _ (by rw [hrl]; exact hm1) (by rw [hrl]; exact hm2) _ (by rw [hrl]; exact hir), hrl]
   have e1 : ((i * cols + j : Nat) : Int) - -z * (cols : Int) = ((i : Int) + z) * (cols : Int) + (j : Int) := by
    rw [Int.natCast_add, Int.natCast_mul, Int.add_mul, Int.neg_mul]; omega
   rw [e1]
   by_cases hy : 0 ≤ (i : Int) + z ∧ (i : Int) + z < ((bot - top + 1 : Nat) : Int)
   ·obtain ⟨u, hu⟩ : ∃ u : Nat, (i : Int) + z = (u : Int) := ⟨((i : Int) + z).toNat, by omega⟩
    have hkz : (i : Int) + k = (u : Int) := by
     have : k = z := by rw [hz]; rw [hz] at hu hy; unfold clF at hu hy ⊢; omega
     omega
    have huc : u * cols + j < cols * (bot - top + 1) := by rw [Nat.mul_comm cols]; exact (row_lt hj).2 (by omega)
    have e2 : ((i : Int) + z) * (cols : Int) + (j : Int) = ((u * cols + j : Nat) : Int) := by rw [hu, Int.natCast_add, Int.natCast_mul]
    rw [e2, if_pos ⟨by omega, by omega⟩, if_pos (by omega), Int.toNat_natCast, cat_take _ _ _ huc, cat_drop]
    congr 1
    rw [show (((top + i : Nat) : Int) + k).toNat = top + u by omega, Nat.add_mul, Nat.mul_comm cols top, Nat.add_assoc]
   ·have hno : ¬ (0 ≤ ((i : Int) + z) * (cols : Int) + (j : Int) ∧ ((i : Int) + z) * (cols : Int) + (j : Int) < ((cols * (bot - top + 1) : Nat) : Int)) := by
     intro hh
     apply hy
     constructor
     ·rcases Int.lt_or_le ((i : Int) + z) 0 with q | q
      ·have := Int.mul_le_mul_of_nonneg_right (show (i : Int) + z ≤ -1 by omega) (show (0 : Int) ≤ (cols : Int) by omega)
       omega
      ·exact q
     ·rcases Int.lt_or_le ((i : Int) + z) ((bot - top + 1 : Nat) : Int) with q | q
      ·exact q
      ·have := Int.mul_le_mul_of_nonneg_right q (show (0 : Int) ≤ (cols : Int) by omega)
       rw [Int.natCast_mul, Int.mul_comm (cols : Int)] at hh
       omega
    rw [if_neg hno, if_neg]
    intro hh
    apply hy
    have : k = z := by rw [hz]; unfold clF; omega
    omega
  ·have hout : ¬ n * cols + j < cols * top + cols * (bot - top + 1) := by
    rw [← Nat.mul_add, Nat.mul_comm cols]
    intro hh
    have := (row_lt hj).1 hh
    omega
   rw [if_neg hout, if_neg (by omega)]
 ·rw [if_pos (by rw [Nat.mul_comm cols top]; exact (row_lt hj).2 (by omega)), if_neg (by omega)]
theorem lay_row (c : List Cl) (cols row a : Nat) (m : List Cl) (h : a + m.length ≤ cols) (hfit : cols * row + cols ≤ c.length) :
  lay c (cols * row + a) m = lay c (cols * row) (lay (rowF c cols row) a m) := by
 have hrl : (rowF c cols row).length = cols := rowF_len c cols row (by rw [Nat.mul_comm row cols]; omega)
 have hll : (lay (rowF c cols row) a m).length = cols := by rw [lay_len _ _ _ (by omega), hrl]
 refine cat_ext _ _ (by rw [lay_len _ _ _ (by omega), lay_len _ _ _ (by omega)]) fun i hi => ?_
 rw [cat_lay _ _ _ (by omega), cat_lay _ _ _ (by omega), hll]
 by_cases h1 : i < cols * row
 ·rw [if_pos (by omega), if_pos h1]
 ·rw [if_neg h1]
  by_cases h2 : i < cols * row + cols
  ·rw [if_pos h2, cat_lay _ _ _ (by omega)]
   have e : ∀ j, i - cols * row = j → j < cols → cat (rowF c cols row) j = cat c i := fun j hj hlt => by
    rw [cat_row c cols row j hlt, Nat.mul_comm row cols]
    congr 1
    omega
   by_cases h3 : i < cols * row + a
   ·rw [if_pos h3, if_pos (by omega), e _ rfl (by omega)]
   ·by_cases h4 : i < cols * row + a + m.length
    ·rw [if_neg h3, if_pos h4, if_neg (show ¬ i - cols * row < a by omega), if_pos (show i - cols * row < a + m.length by omega)]
     congr 1
     omega
    ·rw [if_neg h3, if_neg h4, if_neg (show ¬ i - cols * row < a by omega), if_neg (show ¬ i - cols * row < a + m.length by omega), e _ rfl (by omega)]
  ·rw [if_neg h2, if_neg (by omega), if_neg (by omega)]
theorem wrF_lay (r : List Cl) (col : Nat) (l : List Cl) (h : col ≤ r.length) : lay r col (l.take (r.length - col)) = wrF r col l := by
 unfold lay wrF
 congr 1
 rw [List.length_take]
 rcases Nat.le_total l.length (r.length - col) with q | q
 ·rw [Nat.min_eq_right q]
 ·rw [Nat.min_eq_left q, List.drop_of_length_le (by omega), List.drop_of_length_le (by omega)]
theorem erF_lay (r : List Cl) (f t : Nat) (s : St) (h : f ≤ t) : lay r f (List.replicate (t - f) (bl s)) = erF r f t s := by
 unfold lay erF
 rw [List.length_replicate, show f + (t - f) = t by omega]
theorem fiL_lay (l : List Cl) (o k : Nat) (s : St) : fiL l o k s = lay l o (List.replicate k (bl s)) := by
 unfold fiL lay
 rw [List.length_replicate]
theorem row_drop (c : List Cl) (cols row f : Nat) : (c.drop (cols * row + f)).take (cols - f) = (rowF c cols row).drop f := by
 unfold rowF
 rw [List.drop_take, List.drop_drop, Nat.mul_comm row cols]
theorem shF_lay (r : List Cl) (f : Nat) (k : Int) (s : St) (h : f ≤ r.length) : lay r f (puF (r.drop f) (clF k ((r.length - f : Nat) : Int)) s) = shF r f k s := by
 have hdl : (r.drop f).length = r.length - f := List.length_drop
 have hz1 : -((r.drop f).length : Int) ≤ clF k ((r.length - f : Nat) : Int) := by rw [hdl]; unfold clF; omega
 have hz2 : clF k ((r.length - f : Nat) : Int) ≤ ((r.drop f).length : Int) := by rw [hdl]; unfold clF; omega
 have hpl := puF_len (r.drop f) _ s hz1 hz2
 rw [hdl] at hpl
 refine cat_ext _ _ (by rw [lay_len _ _ _ (by omega), shF_len]) fun i hi => ?_
 rw [lay_len _ _ _ (by omega)] at hi
 have e : cat (shF r f k s) i = if i < f then cat r i else if (f : Int) ≤ (i : Int) - k ∧ (i : Int) - k < (r.length : Int) then cat r ((i : Int) - k).toNat else bl s := by
  unfold shF cat
  simp only [List.getD_eq_getElem?_getD, List.getElem?_map, List.getElem?_range hi, Option.map_some, Option.getD_some]
 rw [e, cat_lay _ _ _ (by omega), hpl]
 by_cases h1 : i < f
 ·rw [if_pos h1, if_pos h1]
 ·rw [if_neg h1, if_neg h1, if_pos (by omega), cat_pu _ _ _ hz1 hz2 _ (by omega), hdl]
  by_cases h2 : (f : Int) ≤ (i : Int) - k ∧ (i : Int) - k < (r.length : Int)
  ·have hk : clF k ((r.length - f : Nat) : Int) = k := by unfold clF; omega
   rw [hk, if_pos (by omega), if_pos h2, cat_drop]
   congr 1
   omega
  ·rw [if_neg h2, if_neg]
   intro hh
   apply h2
   have hk : clF k ((r.length - f : Nat) : Int) = k := by unfold clF at hh ⊢; omega
   rw [hk] at hh
   omega
theorem lay_put (c : List Cl) (cols row : Nat) (r : List Cl) (h : r.length = cols) : lay c (cols * row) r = putRow c cols row r := by
 unfold lay putRow
 rw [h, Nat.mul_comm cols row]
/-- Nothing is copied out of a slice without cells. -/
theorem run_copyN (w : World) (ty : TypeId) (g x dLen dCap sCap : Nat) (a : Option Addr) : (Builtin.copy_ #[22, 22] ty #[.slice (some ⟨g, x, none⟩) dLen dCap, .slice a 0 sCap]).run Tryz.prog w = .ok (goInt 0) w := by
 obtain ⟨i, z, h1, h2, h3, h4, h5⟩ := info26'
 cases a with
 | none => simp [Builtin.copy_, run_underlying Tryz.underlying22, Builtin.lenOf, Builtin.firstCells, sizeOf, typeInfo, h1, h3, storeCells]
 | some ad =>
  have hl := run_loadCells_list (P := Tryz.prog) w ad [] (fun j v h => by simp at h)
  simp only [List.length_nil] at hl
  simp [Builtin.copy_, run_underlying Tryz.underlying22, Builtin.lenOf, Builtin.firstCells, sizeOf, typeInfo, h1, h3, hl, storeCells]
theorem wpList_copyA {ops : Array Oper} {rest : List Oper} {op : Oper} {a : Act} {w : World} {Q : Exit → Act → World → Prop} (hgd : op.guard = none) (s x : Operand) (ho : op.op = .call { callee := .builtin .copy, args := #[s, x], argTypes := #[22, 22] }) (g y o dLen dCap : Nat) (vx : Value) (N : Nat) (l src m : List Cl) (sp : List Value)
  (hs : a.eval s = .slice (some ⟨g, y, none⟩) dLen dCap) (hxx : a.eval x = vx) (hc : Cls N w vx src) (hr : RC w g l sp) (hm : m = src.take dLen) (hx : m = [] ∨ y = o * 15) (hfit : o + m.length ≤ l.length)
  (h : ∀ u w', Box' (RC w' g (lay l o m) sp ∧ Tc g w w') → wpList Tryz.prog ops Q rest (a.put op.dst u) w') : wpList Tryz.prog ops Q (op :: rest) a w := by
 obtain ⟨ad, cp, rfl, hcp, h3⟩ := hc
 by_cases hsl : src.length = 0
 ·have hs0 : src = [] := List.eq_nil_of_length_eq_zero hsl
  subst hs0
  have hm0 : m = [] := by rw [hm]; simp
  subst hm0
  refine wpList_plain hgd fun K hK => ?_
  unfold Oper.wp execOp
  have hxx' : a.eval x = .slice ad 0 cp := hxx
  simp only [ho, resolve, invoke, builtin, Sem.run_bind, Sem.run_pure, Result.andThen_ok, List.map_toArray, List.map_cons, List.map_nil, hs, hxx', run_copyN]
  refine hK _ _ (h _ _ ⟨?_, Tc.refl _ _⟩)
  unfold lay
  simpa using hr
 ·rcases h3 with rfl | ⟨b, o', rfl, h6, h7⟩
  ·simp at hsl
  ·have hml : m.length = Nat.min src.length dLen := by rw [hm, List.length_take]; exact Nat.min_comm _ _
   refine wpList_copyW hgd s x ho g y o dLen dCap ⟨b, o', none⟩ src.length cp l m sp hs hxx hr hml hx ?_ hfit (fun w' hw => h _ w' hw)
   intro j u hu
   have hj : j < m.length * 15 := by have := (List.getElem?_eq_some_iff.1 hu).1; rwa [cLs_len] at this
   have hmle : m.length ≤ src.length := by rw [hml]; exact Nat.min_le_left _ _
   have hmd : m.length ≤ dLen := by rw [hml]; exact Nat.min_le_right _ _
   have e1 : j = j / 15 * 15 + j % 15 := by omega
   rw [Addr.add_mid]
   rw [e1] at hu ⊢
   rw [cLs_get m (j / 15) (j % 15) (by omega) (by omega)] at hu
   rw [← Nat.add_assoc, h7 (j / 15) (by omega) (j % 15) (by omega), ← hu, hm]
   congr 2
   have := cat_take src dLen (j / 15) (by omega)
   unfold cat at this
   exact this.symm
end Go.Proofs.YtlekleeckcdcgaaGreat
