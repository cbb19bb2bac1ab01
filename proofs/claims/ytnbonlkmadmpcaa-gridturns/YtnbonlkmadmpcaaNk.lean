/- Grids that are refused. -/
import Derived.Test.YtnbonlkmadmpcaaNj
namespace Go.Proofs.Ytnbonlkmadmpcaa
open Go.RowKit Go.BigFrame
set_option linter.unusedVariables false
set_option linter.unusedSimpArgs false
/-- What stands while a grid is turned: the grid, the style, room for the answer. -/
structure FrG (w : World) (g : Array Value) (s : St) (wr : World) : Prop where
 rg : Row wr w.heap.size 24 g
 rs : Row wr (w.heap.size + 1) 26 (sA s)
 rr : Room wr (w.heap.size + 2) 24 3
 be : Below w.heap.size w wr
 sz : w.heap.size + 3 ≤ wr.heap.size
theorem FrG.begin (w : World) (g : Array Value) (s : St) : FrG w g s (((w.alloc (.cells g 24)).alloc (.cells (sA s) 26)).alloc (.cells #[.int .i64 0, .int .i64 0, .slice none 0 0] 24)) :=
 ⟨((Row.new _ _ _).alloc _).alloc _, (Row.made _ _ _ _ _ rfl (by simp)).alloc _, Room.made _ _ _ _ _ rfl (by simp), (((Below.refl w.heap.size w).alloc (Nat.le_refl _) _).alloc (by simp) _).alloc (by simp; omega) _, by simp⟩
theorem FrG.below {w : World} {g : Array Value} {s : St} {wr w' : World} (h : FrG w g s wr) (hb : Below wr.heap.size wr w') : FrG w g s w' :=
 ⟨h.rg.below hb h.rg.lt, h.rs.below hb h.rs.lt, h.rr.below hb (by have := h.sz; omega), h.be.trans (hb.mono h.be.size), Nat.le_trans h.sz hb.size⟩
theorem FrG.drew {w : World} {g : Array Value} {s : St} {wr : World} (h : FrG w g s wr) : FrG w g s wr.drew := h.below (bR.drew)
theorem FrG.tc {w : World} {g : Array Value} {s : St} {wr w' : World} {b : Nat} (h : FrG w g s wr) (ht : Tc b wr w') (hb : w.heap.size + 3 ≤ b) : FrG w g s w' :=
 ⟨ht.row h.rg (by omega), ht.row h.rs (by omega), by obtain ⟨c, h1, h2⟩ := h.rr; exact ⟨c, ht.row h1 (by omega), h2⟩, h.be.trans (ht.below (by omega) h.be.size), Nat.le_trans h.sz ht.size⟩
/-- The answer of an error. -/
def gErr : Value := .tuple #[.agg (gA 0 0 (.slice none 0 0)), .int .i64 2]
/-- The answer of a grid. -/
def gOk (co ro : Int) (v : Value) : Value := .tuple #[.agg (gA co ro v), .int .i64 0]
set_option maxRecDepth 100000 in
set_option maxHeartbeats 8000000 in
theorem write_no0 (co ro : Int) (v : Value) (c : List Cl) (row col : Int) (s : St) (vl : Value) (l : List Cl) (w : World) (hv : Cls w.heap.size w v c) (hl : l.length ≤ 140737488355328) (hvl : Cls w.heap.size w vl l) (hG : mayG co ro c = false) :
  Calls Try.prog 10 #[.agg (gA co ro v), .int .i64 row, .int .i64 col, .agg (sA s), vl] w fun e w' => e = .returned gErr ∧ Below w.heap.size w w' := by
 have MG : Box' (∀ wx, Below w.heap.size w wx → Calls Try.prog 20 #[.agg (gA co ro v)] wx fun e w' => e = .returned (.bool (mayG co ro c)) ∧ Below wx.heap.size wx w') := ⟨fun wx hb => gmay_any co ro v c wx ((hv.below hb (Nat.le_refl _)).up hb.size)⟩
 rw [hG] at MG
 have F := Box'.mk (FrG.begin w (gA co ro v) s)
 have U24 := Box'.mk Try.underlying24
 have S24 := Box'.mk s24g
 have O := Box'.mk (gA_one 0 0 none 0 0)
 clear hG
 clear hv
 obtain ⟨al, cl, rfl, hcl, _⟩ := hvl
 go_enter Try.func10, Try.ntmps10
 go_upto_region 1 with (fail)
 generalize (((w.alloc (.cells (gA co ro v) 24)).alloc (.cells (sA s) 26)).alloc (.cells #[.int .i64 0, .int .i64 0, .slice none 0 0] 24)) = w1 at *
 go_wp2_with (first
  | (refine wpList_load_row rfl 24 (.tmp 5) rfl w.heap.size rfl 24 (gA co ro v) F.out.rg _ U24.out rfl 3 S24.out rfl ?_))
 refine (MG.out _ F.out.be).mono ?_
 rintro e w2 ⟨rfl, hb⟩
 replace F := Box'.mk (F.out.below hb)
 clear hb
 have cs0 : w2.cell? ⟨w.heap.size + 1, 0, none⟩ = some (.int .i64 s.fg) := F.out.rs.cell 0
 have cs1 : w2.cell? ⟨w.heap.size + 1, 1, none⟩ = some (.int .i64 s.bg) := F.out.rs.cell 1
 have cs2 : w2.cell? ⟨w.heap.size + 1, 2, none⟩ = some (.bool s.b1) := F.out.rs.cell 2
 have cs3 : w2.cell? ⟨w.heap.size + 1, 3, none⟩ = some (.bool s.b2) := F.out.rs.cell 3
 have cs4 : w2.cell? ⟨w.heap.size + 1, 4, none⟩ = some (.bool s.b3) := F.out.rs.cell 4
 have cs5 : w2.cell? ⟨w.heap.size + 1, 5, none⟩ = some (.bool s.b4) := F.out.rs.cell 5
 have cs6 : w2.cell? ⟨w.heap.size + 1, 6, none⟩ = some (.bool s.b5) := F.out.rs.cell 6
 have cs7 : w2.cell? ⟨w.heap.size + 1, 7, none⟩ = some (.bool s.b7) := F.out.rs.cell 7
 have cs8 : w2.cell? ⟨w.heap.size + 1, 8, none⟩ = some (.bool s.b8) := F.out.rs.cell 8
 have cs9 : w2.cell? ⟨w.heap.size + 1, 9, none⟩ = some (.bool s.b9) := F.out.rs.cell 9
 have c0 : w2.cell? ⟨w.heap.size, 0, none⟩ = some (.int .i64 co) := F.out.rg.cell 0
 have c1 : w2.cell? ⟨w.heap.size, 1, none⟩ = some (.int .i64 ro) := F.out.rg.cell 1
 go_wp2_with (first
  | (refine wpList_store_row rfl 24 (.tmp 10) (.tmp 41) rfl (w.heap.size + 2) rfl (gA 0 0 (.slice none 0 0)) rfl 24 3 F.out.rr S24.out rfl O.out ?_))
 exact bodyPost_ret (results_two rfl _ (w.heap.size + 2) rfl _ rfl _ _ (F.out.rr.setRow _) rfl) rfl ⟨rfl, below_setRow F.out.be (by omega) _⟩
set_option maxRecDepth 100000 in
set_option maxHeartbeats 8000000 in
theorem write_no1 (co ro : Int) (v : Value) (c : List Cl) (row col : Int) (s : St) (vl : Value) (l : List Cl) (w : World) (hv : Cls w.heap.size w v c) (hl : l.length ≤ 140737488355328) (hvl : Cls w.heap.size w vl l) (hG : mayG co ro c = true) (hS : mayS s = false) :
  Calls Try.prog 10 #[.agg (gA co ro v), .int .i64 row, .int .i64 col, .agg (sA s), vl] w fun e w' => e = .returned gErr ∧ Below w.heap.size w w' := by
 have MG : Box' (∀ wx, Below w.heap.size w wx → Calls Try.prog 20 #[.agg (gA co ro v)] wx fun e w' => e = .returned (.bool (mayG co ro c)) ∧ Below wx.heap.size wx w') := ⟨fun wx hb => gmay_any co ro v c wx ((hv.below hb (Nat.le_refl _)).up hb.size)⟩
 rw [hG] at MG
 have MS := Box'.mk (mayStyle15_any s)
 rw [hS] at MS
 have F := Box'.mk (FrG.begin w (gA co ro v) s)
 have U24 := Box'.mk Try.underlying24
 have S24 := Box'.mk s24g
 have O := Box'.mk (gA_one 0 0 none 0 0)
 clear hG hS
 clear hv
 obtain ⟨al, cl, rfl, hcl, _⟩ := hvl
 go_enter Try.func10, Try.ntmps10
 go_upto_region 1 with (fail)
 generalize (((w.alloc (.cells (gA co ro v) 24)).alloc (.cells (sA s) 26)).alloc (.cells #[.int .i64 0, .int .i64 0, .slice none 0 0] 24)) = w1 at *
 go_wp2_with (first
  | (refine wpList_load_row rfl 24 (.tmp 5) rfl w.heap.size rfl 24 (gA co ro v) F.out.rg _ U24.out rfl 3 S24.out rfl ?_))
 refine (MG.out _ F.out.be).mono ?_
 rintro e w2 ⟨rfl, hb⟩
 replace F := Box'.mk (F.out.below hb)
 clear hb
 have cs0 : w2.cell? ⟨w.heap.size + 1, 0, none⟩ = some (.int .i64 s.fg) := F.out.rs.cell 0
 have cs1 : w2.cell? ⟨w.heap.size + 1, 1, none⟩ = some (.int .i64 s.bg) := F.out.rs.cell 1
 have cs2 : w2.cell? ⟨w.heap.size + 1, 2, none⟩ = some (.bool s.b1) := F.out.rs.cell 2
 have cs3 : w2.cell? ⟨w.heap.size + 1, 3, none⟩ = some (.bool s.b2) := F.out.rs.cell 3
 have cs4 : w2.cell? ⟨w.heap.size + 1, 4, none⟩ = some (.bool s.b3) := F.out.rs.cell 4
 have cs5 : w2.cell? ⟨w.heap.size + 1, 5, none⟩ = some (.bool s.b4) := F.out.rs.cell 5
 have cs6 : w2.cell? ⟨w.heap.size + 1, 6, none⟩ = some (.bool s.b5) := F.out.rs.cell 6
 have cs7 : w2.cell? ⟨w.heap.size + 1, 7, none⟩ = some (.bool s.b7) := F.out.rs.cell 7
 have cs8 : w2.cell? ⟨w.heap.size + 1, 8, none⟩ = some (.bool s.b8) := F.out.rs.cell 8
 have cs9 : w2.cell? ⟨w.heap.size + 1, 9, none⟩ = some (.bool s.b9) := F.out.rs.cell 9
 have c0 : w2.cell? ⟨w.heap.size, 0, none⟩ = some (.int .i64 co) := F.out.rg.cell 0
 have c1 : w2.cell? ⟨w.heap.size, 1, none⟩ = some (.int .i64 ro) := F.out.rg.cell 1
 go_wp2_with fail
 refine (MS.out _).mono ?_
 rintro e w3 ⟨rfl, hb⟩
 replace F := Box'.mk (F.out.below hb)
 clear hb
 clear c0 c1 cs0 cs1 cs2 cs3 cs4 cs5 cs6 cs7 cs8 cs9
 have cs0 : w3.cell? ⟨w.heap.size + 1, 0, none⟩ = some (.int .i64 s.fg) := F.out.rs.cell 0
 have cs1 : w3.cell? ⟨w.heap.size + 1, 1, none⟩ = some (.int .i64 s.bg) := F.out.rs.cell 1
 have cs2 : w3.cell? ⟨w.heap.size + 1, 2, none⟩ = some (.bool s.b1) := F.out.rs.cell 2
 have cs3 : w3.cell? ⟨w.heap.size + 1, 3, none⟩ = some (.bool s.b2) := F.out.rs.cell 3
 have cs4 : w3.cell? ⟨w.heap.size + 1, 4, none⟩ = some (.bool s.b3) := F.out.rs.cell 4
 have cs5 : w3.cell? ⟨w.heap.size + 1, 5, none⟩ = some (.bool s.b4) := F.out.rs.cell 5
 have cs6 : w3.cell? ⟨w.heap.size + 1, 6, none⟩ = some (.bool s.b5) := F.out.rs.cell 6
 have cs7 : w3.cell? ⟨w.heap.size + 1, 7, none⟩ = some (.bool s.b7) := F.out.rs.cell 7
 have cs8 : w3.cell? ⟨w.heap.size + 1, 8, none⟩ = some (.bool s.b8) := F.out.rs.cell 8
 have cs9 : w3.cell? ⟨w.heap.size + 1, 9, none⟩ = some (.bool s.b9) := F.out.rs.cell 9
 have c0 : w3.cell? ⟨w.heap.size, 0, none⟩ = some (.int .i64 co) := F.out.rg.cell 0
 have c1 : w3.cell? ⟨w.heap.size, 1, none⟩ = some (.int .i64 ro) := F.out.rg.cell 1
 go_wp2_with (first
  | (refine wpList_store_row rfl 24 (.tmp 10) (.tmp 41) rfl (w.heap.size + 2) rfl (gA 0 0 (.slice none 0 0)) rfl 24 3 F.out.rr S24.out rfl O.out ?_))
 exact bodyPost_ret (results_two rfl _ (w.heap.size + 2) rfl _ rfl _ _ (F.out.rr.setRow _) rfl) rfl ⟨rfl, below_setRow F.out.be (by omega) _⟩
set_option maxRecDepth 100000 in
set_option maxHeartbeats 8000000 in
theorem write_no2 (co ro : Int) (v : Value) (c : List Cl) (row col : Int) (s : St) (vl : Value) (l : List Cl) (w : World) (hv : Cls w.heap.size w v c) (hl : l.length ≤ 140737488355328) (hvl : Cls w.heap.size w vl l) (hG : mayG co ro c = true) (hS : mayS s = true) (hL : l.all mayC = false) :
  Calls Try.prog 10 #[.agg (gA co ro v), .int .i64 row, .int .i64 col, .agg (sA s), vl] w fun e w' => e = .returned gErr ∧ Below w.heap.size w w' := by
 have MG : Box' (∀ wx, Below w.heap.size w wx → Calls Try.prog 20 #[.agg (gA co ro v)] wx fun e w' => e = .returned (.bool (mayG co ro c)) ∧ Below wx.heap.size wx w') := ⟨fun wx hb => gmay_any co ro v c wx ((hv.below hb (Nat.le_refl _)).up hb.size)⟩
 rw [hG] at MG
 have MS := Box'.mk (mayStyle15_any s)
 rw [hS] at MS
 have MC : Box' (∀ wx, Below w.heap.size w wx → Calls Try.prog 32 #[vl] wx fun e w' => e = .returned (.bool (l.all mayC)) ∧ Below wx.heap.size wx w') := ⟨fun wx hb => mayCells_any vl l hl wx ((hvl.below hb (Nat.le_refl _)).up hb.size)⟩
 rw [hL] at MC
 have F := Box'.mk (FrG.begin w (gA co ro v) s)
 have U24 := Box'.mk Try.underlying24
 have S24 := Box'.mk s24g
 have O := Box'.mk (gA_one 0 0 none 0 0)
 clear hG hS hL
 clear hv
 go_enter Try.func10, Try.ntmps10
 go_upto_region 1 with (fail)
 generalize (((w.alloc (.cells (gA co ro v) 24)).alloc (.cells (sA s) 26)).alloc (.cells #[.int .i64 0, .int .i64 0, .slice none 0 0] 24)) = w1 at *
 go_wp2_with (first
  | (refine wpList_load_row rfl 24 (.tmp 5) rfl w.heap.size rfl 24 (gA co ro v) F.out.rg _ U24.out rfl 3 S24.out rfl ?_))
 refine (MG.out _ F.out.be).mono ?_
 rintro e w2 ⟨rfl, hb⟩
 replace F := Box'.mk (F.out.below hb)
 clear hb
 have cs0 : w2.cell? ⟨w.heap.size + 1, 0, none⟩ = some (.int .i64 s.fg) := F.out.rs.cell 0
 have cs1 : w2.cell? ⟨w.heap.size + 1, 1, none⟩ = some (.int .i64 s.bg) := F.out.rs.cell 1
 have cs2 : w2.cell? ⟨w.heap.size + 1, 2, none⟩ = some (.bool s.b1) := F.out.rs.cell 2
 have cs3 : w2.cell? ⟨w.heap.size + 1, 3, none⟩ = some (.bool s.b2) := F.out.rs.cell 3
 have cs4 : w2.cell? ⟨w.heap.size + 1, 4, none⟩ = some (.bool s.b3) := F.out.rs.cell 4
 have cs5 : w2.cell? ⟨w.heap.size + 1, 5, none⟩ = some (.bool s.b4) := F.out.rs.cell 5
 have cs6 : w2.cell? ⟨w.heap.size + 1, 6, none⟩ = some (.bool s.b5) := F.out.rs.cell 6
 have cs7 : w2.cell? ⟨w.heap.size + 1, 7, none⟩ = some (.bool s.b7) := F.out.rs.cell 7
 have cs8 : w2.cell? ⟨w.heap.size + 1, 8, none⟩ = some (.bool s.b8) := F.out.rs.cell 8
 have cs9 : w2.cell? ⟨w.heap.size + 1, 9, none⟩ = some (.bool s.b9) := F.out.rs.cell 9
 have c0 : w2.cell? ⟨w.heap.size, 0, none⟩ = some (.int .i64 co) := F.out.rg.cell 0
 have c1 : w2.cell? ⟨w.heap.size, 1, none⟩ = some (.int .i64 ro) := F.out.rg.cell 1
 go_wp2_with fail
 refine (MS.out _).mono ?_
 rintro e w3 ⟨rfl, hb⟩
 replace F := Box'.mk (F.out.below hb)
 clear hb
 clear c0 c1 cs0 cs1 cs2 cs3 cs4 cs5 cs6 cs7 cs8 cs9
 have cs0 : w3.cell? ⟨w.heap.size + 1, 0, none⟩ = some (.int .i64 s.fg) := F.out.rs.cell 0
 have cs1 : w3.cell? ⟨w.heap.size + 1, 1, none⟩ = some (.int .i64 s.bg) := F.out.rs.cell 1
 have cs2 : w3.cell? ⟨w.heap.size + 1, 2, none⟩ = some (.bool s.b1) := F.out.rs.cell 2
 have cs3 : w3.cell? ⟨w.heap.size + 1, 3, none⟩ = some (.bool s.b2) := F.out.rs.cell 3
 have cs4 : w3.cell? ⟨w.heap.size + 1, 4, none⟩ = some (.bool s.b3) := F.out.rs.cell 4
 have cs5 : w3.cell? ⟨w.heap.size + 1, 5, none⟩ = some (.bool s.b4) := F.out.rs.cell 5
 have cs6 : w3.cell? ⟨w.heap.size + 1, 6, none⟩ = some (.bool s.b5) := F.out.rs.cell 6
 have cs7 : w3.cell? ⟨w.heap.size + 1, 7, none⟩ = some (.bool s.b7) := F.out.rs.cell 7
 have cs8 : w3.cell? ⟨w.heap.size + 1, 8, none⟩ = some (.bool s.b8) := F.out.rs.cell 8
 have cs9 : w3.cell? ⟨w.heap.size + 1, 9, none⟩ = some (.bool s.b9) := F.out.rs.cell 9
 have c0 : w3.cell? ⟨w.heap.size, 0, none⟩ = some (.int .i64 co) := F.out.rg.cell 0
 have c1 : w3.cell? ⟨w.heap.size, 1, none⟩ = some (.int .i64 ro) := F.out.rg.cell 1
 go_wp2_with fail
 refine (MC.out _ F.out.be).mono ?_
 rintro e w4 ⟨rfl, hb⟩
 replace F := Box'.mk (F.out.below hb)
 clear hb
 clear c0 c1 cs0 cs1 cs2 cs3 cs4 cs5 cs6 cs7 cs8 cs9
 have cs0 : w4.cell? ⟨w.heap.size + 1, 0, none⟩ = some (.int .i64 s.fg) := F.out.rs.cell 0
 have cs1 : w4.cell? ⟨w.heap.size + 1, 1, none⟩ = some (.int .i64 s.bg) := F.out.rs.cell 1
 have cs2 : w4.cell? ⟨w.heap.size + 1, 2, none⟩ = some (.bool s.b1) := F.out.rs.cell 2
 have cs3 : w4.cell? ⟨w.heap.size + 1, 3, none⟩ = some (.bool s.b2) := F.out.rs.cell 3
 have cs4 : w4.cell? ⟨w.heap.size + 1, 4, none⟩ = some (.bool s.b3) := F.out.rs.cell 4
 have cs5 : w4.cell? ⟨w.heap.size + 1, 5, none⟩ = some (.bool s.b4) := F.out.rs.cell 5
 have cs6 : w4.cell? ⟨w.heap.size + 1, 6, none⟩ = some (.bool s.b5) := F.out.rs.cell 6
 have cs7 : w4.cell? ⟨w.heap.size + 1, 7, none⟩ = some (.bool s.b7) := F.out.rs.cell 7
 have cs8 : w4.cell? ⟨w.heap.size + 1, 8, none⟩ = some (.bool s.b8) := F.out.rs.cell 8
 have cs9 : w4.cell? ⟨w.heap.size + 1, 9, none⟩ = some (.bool s.b9) := F.out.rs.cell 9
 have c0 : w4.cell? ⟨w.heap.size, 0, none⟩ = some (.int .i64 co) := F.out.rg.cell 0
 have c1 : w4.cell? ⟨w.heap.size, 1, none⟩ = some (.int .i64 ro) := F.out.rg.cell 1
 go_wp2_with (first
  | (refine wpList_store_row rfl 24 (.tmp 10) (.tmp 41) rfl (w.heap.size + 2) rfl (gA 0 0 (.slice none 0 0)) rfl 24 3 F.out.rr S24.out rfl O.out ?_))
 exact bodyPost_ret (results_two rfl _ (w.heap.size + 2) rfl _ rfl _ _ (F.out.rr.setRow _) rfl) rfl ⟨rfl, below_setRow F.out.be (by omega) _⟩
set_option maxRecDepth 100000 in
set_option maxHeartbeats 8000000 in
theorem write_no3 (co ro : Int) (v : Value) (c : List Cl) (row col : Int) (s : St) (vl : Value) (l : List Cl) (w : World) (hv : Cls w.heap.size w v c) (hl : l.length ≤ 140737488355328) (hvl : Cls w.heap.size w vl l) (hG : mayG co ro c = true) (hS : mayS s = true) (hL : l.all mayC = true) (h3 : inN row ro = false) :
  Calls Try.prog 10 #[.agg (gA co ro v), .int .i64 row, .int .i64 col, .agg (sA s), vl] w fun e w' => e = .returned gErr ∧ Below w.heap.size w w' := by
 have MG : Box' (∀ wx, Below w.heap.size w wx → Calls Try.prog 20 #[.agg (gA co ro v)] wx fun e w' => e = .returned (.bool (mayG co ro c)) ∧ Below wx.heap.size wx w') := ⟨fun wx hb => gmay_any co ro v c wx ((hv.below hb (Nat.le_refl _)).up hb.size)⟩
 rw [hG] at MG
 have MS := Box'.mk (mayStyle15_any s)
 rw [hS] at MS
 have MC : Box' (∀ wx, Below w.heap.size w wx → Calls Try.prog 32 #[vl] wx fun e w' => e = .returned (.bool (l.all mayC)) ∧ Below wx.heap.size wx w') := ⟨fun wx hb => mayCells_any vl l hl wx ((hvl.below hb (Nat.le_refl _)).up hb.size)⟩
 rw [hL] at MC
 have IN3 := Box'.mk (isIn_any row ro)
 rw [h3] at IN3
 have F := Box'.mk (FrG.begin w (gA co ro v) s)
 have U24 := Box'.mk Try.underlying24
 have S24 := Box'.mk s24g
 have O := Box'.mk (gA_one 0 0 none 0 0)
 clear hG hS hL h3
 clear hv
 go_enter Try.func10, Try.ntmps10
 go_upto_region 1 with (fail)
 generalize (((w.alloc (.cells (gA co ro v) 24)).alloc (.cells (sA s) 26)).alloc (.cells #[.int .i64 0, .int .i64 0, .slice none 0 0] 24)) = w1 at *
 go_wp2_with (first
  | (refine wpList_load_row rfl 24 (.tmp 5) rfl w.heap.size rfl 24 (gA co ro v) F.out.rg _ U24.out rfl 3 S24.out rfl ?_))
 refine (MG.out _ F.out.be).mono ?_
 rintro e w2 ⟨rfl, hb⟩
 replace F := Box'.mk (F.out.below hb)
 clear hb
 have cs0 : w2.cell? ⟨w.heap.size + 1, 0, none⟩ = some (.int .i64 s.fg) := F.out.rs.cell 0
 have cs1 : w2.cell? ⟨w.heap.size + 1, 1, none⟩ = some (.int .i64 s.bg) := F.out.rs.cell 1
 have cs2 : w2.cell? ⟨w.heap.size + 1, 2, none⟩ = some (.bool s.b1) := F.out.rs.cell 2
 have cs3 : w2.cell? ⟨w.heap.size + 1, 3, none⟩ = some (.bool s.b2) := F.out.rs.cell 3
 have cs4 : w2.cell? ⟨w.heap.size + 1, 4, none⟩ = some (.bool s.b3) := F.out.rs.cell 4
 have cs5 : w2.cell? ⟨w.heap.size + 1, 5, none⟩ = some (.bool s.b4) := F.out.rs.cell 5
 have cs6 : w2.cell? ⟨w.heap.size + 1, 6, none⟩ = some (.bool s.b5) := F.out.rs.cell 6
 have cs7 : w2.cell? ⟨w.heap.size + 1, 7, none⟩ = some (.bool s.b7) := F.out.rs.cell 7
 have cs8 : w2.cell? ⟨w.heap.size + 1, 8, none⟩ = some (.bool s.b8) := F.out.rs.cell 8
 have cs9 : w2.cell? ⟨w.heap.size + 1, 9, none⟩ = some (.bool s.b9) := F.out.rs.cell 9
 have c0 : w2.cell? ⟨w.heap.size, 0, none⟩ = some (.int .i64 co) := F.out.rg.cell 0
 have c1 : w2.cell? ⟨w.heap.size, 1, none⟩ = some (.int .i64 ro) := F.out.rg.cell 1
 go_wp2_with fail
 refine (MS.out _).mono ?_
 rintro e w3 ⟨rfl, hb⟩
 replace F := Box'.mk (F.out.below hb)
 clear hb
 clear c0 c1 cs0 cs1 cs2 cs3 cs4 cs5 cs6 cs7 cs8 cs9
 have cs0 : w3.cell? ⟨w.heap.size + 1, 0, none⟩ = some (.int .i64 s.fg) := F.out.rs.cell 0
 have cs1 : w3.cell? ⟨w.heap.size + 1, 1, none⟩ = some (.int .i64 s.bg) := F.out.rs.cell 1
 have cs2 : w3.cell? ⟨w.heap.size + 1, 2, none⟩ = some (.bool s.b1) := F.out.rs.cell 2
 have cs3 : w3.cell? ⟨w.heap.size + 1, 3, none⟩ = some (.bool s.b2) := F.out.rs.cell 3
 have cs4 : w3.cell? ⟨w.heap.size + 1, 4, none⟩ = some (.bool s.b3) := F.out.rs.cell 4
 have cs5 : w3.cell? ⟨w.heap.size + 1, 5, none⟩ = some (.bool s.b4) := F.out.rs.cell 5
 have cs6 : w3.cell? ⟨w.heap.size + 1, 6, none⟩ = some (.bool s.b5) := F.out.rs.cell 6
 have cs7 : w3.cell? ⟨w.heap.size + 1, 7, none⟩ = some (.bool s.b7) := F.out.rs.cell 7
 have cs8 : w3.cell? ⟨w.heap.size + 1, 8, none⟩ = some (.bool s.b8) := F.out.rs.cell 8
 have cs9 : w3.cell? ⟨w.heap.size + 1, 9, none⟩ = some (.bool s.b9) := F.out.rs.cell 9
 have c0 : w3.cell? ⟨w.heap.size, 0, none⟩ = some (.int .i64 co) := F.out.rg.cell 0
 have c1 : w3.cell? ⟨w.heap.size, 1, none⟩ = some (.int .i64 ro) := F.out.rg.cell 1
 go_wp2_with fail
 refine (MC.out _ F.out.be).mono ?_
 rintro e w4 ⟨rfl, hb⟩
 replace F := Box'.mk (F.out.below hb)
 clear hb
 clear c0 c1 cs0 cs1 cs2 cs3 cs4 cs5 cs6 cs7 cs8 cs9
 have cs0 : w4.cell? ⟨w.heap.size + 1, 0, none⟩ = some (.int .i64 s.fg) := F.out.rs.cell 0
 have cs1 : w4.cell? ⟨w.heap.size + 1, 1, none⟩ = some (.int .i64 s.bg) := F.out.rs.cell 1
 have cs2 : w4.cell? ⟨w.heap.size + 1, 2, none⟩ = some (.bool s.b1) := F.out.rs.cell 2
 have cs3 : w4.cell? ⟨w.heap.size + 1, 3, none⟩ = some (.bool s.b2) := F.out.rs.cell 3
 have cs4 : w4.cell? ⟨w.heap.size + 1, 4, none⟩ = some (.bool s.b3) := F.out.rs.cell 4
 have cs5 : w4.cell? ⟨w.heap.size + 1, 5, none⟩ = some (.bool s.b4) := F.out.rs.cell 5
 have cs6 : w4.cell? ⟨w.heap.size + 1, 6, none⟩ = some (.bool s.b5) := F.out.rs.cell 6
 have cs7 : w4.cell? ⟨w.heap.size + 1, 7, none⟩ = some (.bool s.b7) := F.out.rs.cell 7
 have cs8 : w4.cell? ⟨w.heap.size + 1, 8, none⟩ = some (.bool s.b8) := F.out.rs.cell 8
 have cs9 : w4.cell? ⟨w.heap.size + 1, 9, none⟩ = some (.bool s.b9) := F.out.rs.cell 9
 have c0 : w4.cell? ⟨w.heap.size, 0, none⟩ = some (.int .i64 co) := F.out.rg.cell 0
 have c1 : w4.cell? ⟨w.heap.size, 1, none⟩ = some (.int .i64 ro) := F.out.rg.cell 1
 go_wp2_with fail
 refine (IN3.out _).mono ?_
 rintro e w5 ⟨rfl, rfl⟩
 go_wp2_with (first
  | (refine wpList_store_row rfl 24 (.tmp 10) (.tmp 41) rfl (w.heap.size + 2) rfl (gA 0 0 (.slice none 0 0)) rfl 24 3 F.out.rr S24.out rfl O.out ?_))
 exact bodyPost_ret (results_two rfl _ (w.heap.size + 2) rfl _ rfl _ _ (F.out.rr.setRow _) rfl) rfl ⟨rfl, below_setRow F.out.be (by omega) _⟩
set_option maxRecDepth 100000 in
set_option maxHeartbeats 8000000 in
theorem write_no4 (co ro : Int) (v : Value) (c : List Cl) (row col : Int) (s : St) (vl : Value) (l : List Cl) (w : World) (hv : Cls w.heap.size w v c) (hl : l.length ≤ 140737488355328) (hvl : Cls w.heap.size w vl l) (hG : mayG co ro c = true) (hS : mayS s = true) (hL : l.all mayC = true) (h3 : inN row ro = true) (h4 : inN col co = false) :
  Calls Try.prog 10 #[.agg (gA co ro v), .int .i64 row, .int .i64 col, .agg (sA s), vl] w fun e w' => e = .returned gErr ∧ Below w.heap.size w w' := by
 have MG : Box' (∀ wx, Below w.heap.size w wx → Calls Try.prog 20 #[.agg (gA co ro v)] wx fun e w' => e = .returned (.bool (mayG co ro c)) ∧ Below wx.heap.size wx w') := ⟨fun wx hb => gmay_any co ro v c wx ((hv.below hb (Nat.le_refl _)).up hb.size)⟩
 rw [hG] at MG
 have MS := Box'.mk (mayStyle15_any s)
 rw [hS] at MS
 have MC : Box' (∀ wx, Below w.heap.size w wx → Calls Try.prog 32 #[vl] wx fun e w' => e = .returned (.bool (l.all mayC)) ∧ Below wx.heap.size wx w') := ⟨fun wx hb => mayCells_any vl l hl wx ((hvl.below hb (Nat.le_refl _)).up hb.size)⟩
 rw [hL] at MC
 have IN3 := Box'.mk (isIn_any row ro)
 rw [h3] at IN3
 have IN4 := Box'.mk (isIn_any col co)
 rw [h4] at IN4
 have F := Box'.mk (FrG.begin w (gA co ro v) s)
 have U24 := Box'.mk Try.underlying24
 have S24 := Box'.mk s24g
 have O := Box'.mk (gA_one 0 0 none 0 0)
 clear hG hS hL h3 h4
 clear hv
 go_enter Try.func10, Try.ntmps10
 go_upto_region 1 with (fail)
 generalize (((w.alloc (.cells (gA co ro v) 24)).alloc (.cells (sA s) 26)).alloc (.cells #[.int .i64 0, .int .i64 0, .slice none 0 0] 24)) = w1 at *
 go_wp2_with (first
  | (refine wpList_load_row rfl 24 (.tmp 5) rfl w.heap.size rfl 24 (gA co ro v) F.out.rg _ U24.out rfl 3 S24.out rfl ?_))
 refine (MG.out _ F.out.be).mono ?_
 rintro e w2 ⟨rfl, hb⟩
 replace F := Box'.mk (F.out.below hb)
 clear hb
 have cs0 : w2.cell? ⟨w.heap.size + 1, 0, none⟩ = some (.int .i64 s.fg) := F.out.rs.cell 0
 have cs1 : w2.cell? ⟨w.heap.size + 1, 1, none⟩ = some (.int .i64 s.bg) := F.out.rs.cell 1
 have cs2 : w2.cell? ⟨w.heap.size + 1, 2, none⟩ = some (.bool s.b1) := F.out.rs.cell 2
 have cs3 : w2.cell? ⟨w.heap.size + 1, 3, none⟩ = some (.bool s.b2) := F.out.rs.cell 3
 have cs4 : w2.cell? ⟨w.heap.size + 1, 4, none⟩ = some (.bool s.b3) := F.out.rs.cell 4
 have cs5 : w2.cell? ⟨w.heap.size + 1, 5, none⟩ = some (.bool s.b4) := F.out.rs.cell 5
 have cs6 : w2.cell? ⟨w.heap.size + 1, 6, none⟩ = some (.bool s.b5) := F.out.rs.cell 6
 have cs7 : w2.cell? ⟨w.heap.size + 1, 7, none⟩ = some (.bool s.b7) := F.out.rs.cell 7
 have cs8 : w2.cell? ⟨w.heap.size + 1, 8, none⟩ = some (.bool s.b8) := F.out.rs.cell 8
 have cs9 : w2.cell? ⟨w.heap.size + 1, 9, none⟩ = some (.bool s.b9) := F.out.rs.cell 9
 have c0 : w2.cell? ⟨w.heap.size, 0, none⟩ = some (.int .i64 co) := F.out.rg.cell 0
 have c1 : w2.cell? ⟨w.heap.size, 1, none⟩ = some (.int .i64 ro) := F.out.rg.cell 1
 go_wp2_with fail
 refine (MS.out _).mono ?_
 rintro e w3 ⟨rfl, hb⟩
 replace F := Box'.mk (F.out.below hb)
 clear hb
 clear c0 c1 cs0 cs1 cs2 cs3 cs4 cs5 cs6 cs7 cs8 cs9
 have cs0 : w3.cell? ⟨w.heap.size + 1, 0, none⟩ = some (.int .i64 s.fg) := F.out.rs.cell 0
 have cs1 : w3.cell? ⟨w.heap.size + 1, 1, none⟩ = some (.int .i64 s.bg) := F.out.rs.cell 1
 have cs2 : w3.cell? ⟨w.heap.size + 1, 2, none⟩ = some (.bool s.b1) := F.out.rs.cell 2
 have cs3 : w3.cell? ⟨w.heap.size + 1, 3, none⟩ = some (.bool s.b2) := F.out.rs.cell 3
 have cs4 : w3.cell? ⟨w.heap.size + 1, 4, none⟩ = some (.bool s.b3) := F.out.rs.cell 4
 have cs5 : w3.cell? ⟨w.heap.size + 1, 5, none⟩ = some (.bool s.b4) := F.out.rs.cell 5
 have cs6 : w3.cell? ⟨w.heap.size + 1, 6, none⟩ = some (.bool s.b5) := F.out.rs.cell 6
 have cs7 : w3.cell? ⟨w.heap.size + 1, 7, none⟩ = some (.bool s.b7) := F.out.rs.cell 7
 have cs8 : w3.cell? ⟨w.heap.size + 1, 8, none⟩ = some (.bool s.b8) := F.out.rs.cell 8
 have cs9 : w3.cell? ⟨w.heap.size + 1, 9, none⟩ = some (.bool s.b9) := F.out.rs.cell 9
 have c0 : w3.cell? ⟨w.heap.size, 0, none⟩ = some (.int .i64 co) := F.out.rg.cell 0
 have c1 : w3.cell? ⟨w.heap.size, 1, none⟩ = some (.int .i64 ro) := F.out.rg.cell 1
 go_wp2_with fail
 refine (MC.out _ F.out.be).mono ?_
 rintro e w4 ⟨rfl, hb⟩
 replace F := Box'.mk (F.out.below hb)
 clear hb
 clear c0 c1 cs0 cs1 cs2 cs3 cs4 cs5 cs6 cs7 cs8 cs9
 have cs0 : w4.cell? ⟨w.heap.size + 1, 0, none⟩ = some (.int .i64 s.fg) := F.out.rs.cell 0
 have cs1 : w4.cell? ⟨w.heap.size + 1, 1, none⟩ = some (.int .i64 s.bg) := F.out.rs.cell 1
 have cs2 : w4.cell? ⟨w.heap.size + 1, 2, none⟩ = some (.bool s.b1) := F.out.rs.cell 2
 have cs3 : w4.cell? ⟨w.heap.size + 1, 3, none⟩ = some (.bool s.b2) := F.out.rs.cell 3
 have cs4 : w4.cell? ⟨w.heap.size + 1, 4, none⟩ = some (.bool s.b3) := F.out.rs.cell 4
 have cs5 : w4.cell? ⟨w.heap.size + 1, 5, none⟩ = some (.bool s.b4) := F.out.rs.cell 5
 have cs6 : w4.cell? ⟨w.heap.size + 1, 6, none⟩ = some (.bool s.b5) := F.out.rs.cell 6
 have cs7 : w4.cell? ⟨w.heap.size + 1, 7, none⟩ = some (.bool s.b7) := F.out.rs.cell 7
 have cs8 : w4.cell? ⟨w.heap.size + 1, 8, none⟩ = some (.bool s.b8) := F.out.rs.cell 8
 have cs9 : w4.cell? ⟨w.heap.size + 1, 9, none⟩ = some (.bool s.b9) := F.out.rs.cell 9
 have c0 : w4.cell? ⟨w.heap.size, 0, none⟩ = some (.int .i64 co) := F.out.rg.cell 0
 have c1 : w4.cell? ⟨w.heap.size, 1, none⟩ = some (.int .i64 ro) := F.out.rg.cell 1
 go_wp2_with fail
 refine (IN3.out _).mono ?_
 rintro e w5 ⟨rfl, rfl⟩
 go_wp2_with fail
 refine (IN4.out _).mono ?_
 rintro e w5 ⟨rfl, rfl⟩
 go_wp2_with (first
  | (refine wpList_store_row rfl 24 (.tmp 10) (.tmp 41) rfl (w.heap.size + 2) rfl (gA 0 0 (.slice none 0 0)) rfl 24 3 F.out.rr S24.out rfl O.out ?_))
 exact bodyPost_ret (results_two rfl _ (w.heap.size + 2) rfl _ rfl _ _ (F.out.rr.setRow _) rfl) rfl ⟨rfl, below_setRow F.out.be (by omega) _⟩
set_option maxRecDepth 100000 in
set_option maxHeartbeats 8000000 in
theorem erase_no0 (co ro : Int) (v : Value) (c : List Cl) (row fr to : Int) (s : St) (w : World) (hv : Cls w.heap.size w v c)  (hG : mayG co ro c = false) :
  Calls Try.prog 12 #[.agg (gA co ro v), .int .i64 row, .int .i64 fr, .int .i64 to, .agg (sA s)] w fun e w' => e = .returned gErr ∧ Below w.heap.size w w' := by
 have MG : Box' (∀ wx, Below w.heap.size w wx → Calls Try.prog 20 #[.agg (gA co ro v)] wx fun e w' => e = .returned (.bool (mayG co ro c)) ∧ Below wx.heap.size wx w') := ⟨fun wx hb => gmay_any co ro v c wx ((hv.below hb (Nat.le_refl _)).up hb.size)⟩
 rw [hG] at MG
 have F := Box'.mk (FrG.begin w (gA co ro v) s)
 have U24 := Box'.mk Try.underlying24
 have S24 := Box'.mk s24g
 have O := Box'.mk (gA_one 0 0 none 0 0)
 clear hG
 clear hv
 go_enter Try.func12, Try.ntmps12
 go_upto_region 1 with (fail)
 generalize (((w.alloc (.cells (gA co ro v) 24)).alloc (.cells (sA s) 26)).alloc (.cells #[.int .i64 0, .int .i64 0, .slice none 0 0] 24)) = w1 at *
 go_wp2_with (first
  | (refine wpList_load_row rfl 24 (.tmp 5) rfl w.heap.size rfl 24 (gA co ro v) F.out.rg _ U24.out rfl 3 S24.out rfl ?_))
 refine (MG.out _ F.out.be).mono ?_
 rintro e w2 ⟨rfl, hb⟩
 replace F := Box'.mk (F.out.below hb)
 clear hb
 have cs0 : w2.cell? ⟨w.heap.size + 1, 0, none⟩ = some (.int .i64 s.fg) := F.out.rs.cell 0
 have cs1 : w2.cell? ⟨w.heap.size + 1, 1, none⟩ = some (.int .i64 s.bg) := F.out.rs.cell 1
 have cs2 : w2.cell? ⟨w.heap.size + 1, 2, none⟩ = some (.bool s.b1) := F.out.rs.cell 2
 have cs3 : w2.cell? ⟨w.heap.size + 1, 3, none⟩ = some (.bool s.b2) := F.out.rs.cell 3
 have cs4 : w2.cell? ⟨w.heap.size + 1, 4, none⟩ = some (.bool s.b3) := F.out.rs.cell 4
 have cs5 : w2.cell? ⟨w.heap.size + 1, 5, none⟩ = some (.bool s.b4) := F.out.rs.cell 5
 have cs6 : w2.cell? ⟨w.heap.size + 1, 6, none⟩ = some (.bool s.b5) := F.out.rs.cell 6
 have cs7 : w2.cell? ⟨w.heap.size + 1, 7, none⟩ = some (.bool s.b7) := F.out.rs.cell 7
 have cs8 : w2.cell? ⟨w.heap.size + 1, 8, none⟩ = some (.bool s.b8) := F.out.rs.cell 8
 have cs9 : w2.cell? ⟨w.heap.size + 1, 9, none⟩ = some (.bool s.b9) := F.out.rs.cell 9
 have c0 : w2.cell? ⟨w.heap.size, 0, none⟩ = some (.int .i64 co) := F.out.rg.cell 0
 have c1 : w2.cell? ⟨w.heap.size, 1, none⟩ = some (.int .i64 ro) := F.out.rg.cell 1
 go_wp2_with (first
  | (refine wpList_store_row rfl 24 (.tmp 10) (.tmp 44) rfl (w.heap.size + 2) rfl (gA 0 0 (.slice none 0 0)) rfl 24 3 F.out.rr S24.out rfl O.out ?_))
 exact bodyPost_ret (results_two rfl _ (w.heap.size + 2) rfl _ rfl _ _ (F.out.rr.setRow _) rfl) rfl ⟨rfl, below_setRow F.out.be (by omega) _⟩
set_option maxRecDepth 100000 in
set_option maxHeartbeats 8000000 in
theorem erase_no1 (co ro : Int) (v : Value) (c : List Cl) (row fr to : Int) (s : St) (w : World) (hv : Cls w.heap.size w v c)  (hG : mayG co ro c = true) (hS : mayS s = false) :
  Calls Try.prog 12 #[.agg (gA co ro v), .int .i64 row, .int .i64 fr, .int .i64 to, .agg (sA s)] w fun e w' => e = .returned gErr ∧ Below w.heap.size w w' := by
 have MG : Box' (∀ wx, Below w.heap.size w wx → Calls Try.prog 20 #[.agg (gA co ro v)] wx fun e w' => e = .returned (.bool (mayG co ro c)) ∧ Below wx.heap.size wx w') := ⟨fun wx hb => gmay_any co ro v c wx ((hv.below hb (Nat.le_refl _)).up hb.size)⟩
 rw [hG] at MG
 have MS := Box'.mk (mayStyle15_any s)
 rw [hS] at MS
 have F := Box'.mk (FrG.begin w (gA co ro v) s)
 have U24 := Box'.mk Try.underlying24
 have S24 := Box'.mk s24g
 have O := Box'.mk (gA_one 0 0 none 0 0)
 clear hG hS
 clear hv
 go_enter Try.func12, Try.ntmps12
 go_upto_region 1 with (fail)
 generalize (((w.alloc (.cells (gA co ro v) 24)).alloc (.cells (sA s) 26)).alloc (.cells #[.int .i64 0, .int .i64 0, .slice none 0 0] 24)) = w1 at *
 go_wp2_with (first
  | (refine wpList_load_row rfl 24 (.tmp 5) rfl w.heap.size rfl 24 (gA co ro v) F.out.rg _ U24.out rfl 3 S24.out rfl ?_))
 refine (MG.out _ F.out.be).mono ?_
 rintro e w2 ⟨rfl, hb⟩
 replace F := Box'.mk (F.out.below hb)
 clear hb
 have cs0 : w2.cell? ⟨w.heap.size + 1, 0, none⟩ = some (.int .i64 s.fg) := F.out.rs.cell 0
 have cs1 : w2.cell? ⟨w.heap.size + 1, 1, none⟩ = some (.int .i64 s.bg) := F.out.rs.cell 1
 have cs2 : w2.cell? ⟨w.heap.size + 1, 2, none⟩ = some (.bool s.b1) := F.out.rs.cell 2
 have cs3 : w2.cell? ⟨w.heap.size + 1, 3, none⟩ = some (.bool s.b2) := F.out.rs.cell 3
 have cs4 : w2.cell? ⟨w.heap.size + 1, 4, none⟩ = some (.bool s.b3) := F.out.rs.cell 4
 have cs5 : w2.cell? ⟨w.heap.size + 1, 5, none⟩ = some (.bool s.b4) := F.out.rs.cell 5
 have cs6 : w2.cell? ⟨w.heap.size + 1, 6, none⟩ = some (.bool s.b5) := F.out.rs.cell 6
 have cs7 : w2.cell? ⟨w.heap.size + 1, 7, none⟩ = some (.bool s.b7) := F.out.rs.cell 7
 have cs8 : w2.cell? ⟨w.heap.size + 1, 8, none⟩ = some (.bool s.b8) := F.out.rs.cell 8
 have cs9 : w2.cell? ⟨w.heap.size + 1, 9, none⟩ = some (.bool s.b9) := F.out.rs.cell 9
 have c0 : w2.cell? ⟨w.heap.size, 0, none⟩ = some (.int .i64 co) := F.out.rg.cell 0
 have c1 : w2.cell? ⟨w.heap.size, 1, none⟩ = some (.int .i64 ro) := F.out.rg.cell 1
 go_wp2_with fail
 refine (MS.out _).mono ?_
 rintro e w3 ⟨rfl, hb⟩
 replace F := Box'.mk (F.out.below hb)
 clear hb
 clear c0 c1 cs0 cs1 cs2 cs3 cs4 cs5 cs6 cs7 cs8 cs9
 have cs0 : w3.cell? ⟨w.heap.size + 1, 0, none⟩ = some (.int .i64 s.fg) := F.out.rs.cell 0
 have cs1 : w3.cell? ⟨w.heap.size + 1, 1, none⟩ = some (.int .i64 s.bg) := F.out.rs.cell 1
 have cs2 : w3.cell? ⟨w.heap.size + 1, 2, none⟩ = some (.bool s.b1) := F.out.rs.cell 2
 have cs3 : w3.cell? ⟨w.heap.size + 1, 3, none⟩ = some (.bool s.b2) := F.out.rs.cell 3
 have cs4 : w3.cell? ⟨w.heap.size + 1, 4, none⟩ = some (.bool s.b3) := F.out.rs.cell 4
 have cs5 : w3.cell? ⟨w.heap.size + 1, 5, none⟩ = some (.bool s.b4) := F.out.rs.cell 5
 have cs6 : w3.cell? ⟨w.heap.size + 1, 6, none⟩ = some (.bool s.b5) := F.out.rs.cell 6
 have cs7 : w3.cell? ⟨w.heap.size + 1, 7, none⟩ = some (.bool s.b7) := F.out.rs.cell 7
 have cs8 : w3.cell? ⟨w.heap.size + 1, 8, none⟩ = some (.bool s.b8) := F.out.rs.cell 8
 have cs9 : w3.cell? ⟨w.heap.size + 1, 9, none⟩ = some (.bool s.b9) := F.out.rs.cell 9
 have c0 : w3.cell? ⟨w.heap.size, 0, none⟩ = some (.int .i64 co) := F.out.rg.cell 0
 have c1 : w3.cell? ⟨w.heap.size, 1, none⟩ = some (.int .i64 ro) := F.out.rg.cell 1
 go_wp2_with (first
  | (refine wpList_store_row rfl 24 (.tmp 10) (.tmp 44) rfl (w.heap.size + 2) rfl (gA 0 0 (.slice none 0 0)) rfl 24 3 F.out.rr S24.out rfl O.out ?_))
 exact bodyPost_ret (results_two rfl _ (w.heap.size + 2) rfl _ rfl _ _ (F.out.rr.setRow _) rfl) rfl ⟨rfl, below_setRow F.out.be (by omega) _⟩
set_option maxRecDepth 100000 in
set_option maxHeartbeats 8000000 in
theorem erase_no2 (co ro : Int) (v : Value) (c : List Cl) (row fr to : Int) (s : St) (w : World) (hv : Cls w.heap.size w v c)  (hG : mayG co ro c = true) (hS : mayS s = true) (h2 : inN row ro = false) :
  Calls Try.prog 12 #[.agg (gA co ro v), .int .i64 row, .int .i64 fr, .int .i64 to, .agg (sA s)] w fun e w' => e = .returned gErr ∧ Below w.heap.size w w' := by
 have MG : Box' (∀ wx, Below w.heap.size w wx → Calls Try.prog 20 #[.agg (gA co ro v)] wx fun e w' => e = .returned (.bool (mayG co ro c)) ∧ Below wx.heap.size wx w') := ⟨fun wx hb => gmay_any co ro v c wx ((hv.below hb (Nat.le_refl _)).up hb.size)⟩
 rw [hG] at MG
 have MS := Box'.mk (mayStyle15_any s)
 rw [hS] at MS
 have IN2 := Box'.mk (isIn_any row ro)
 rw [h2] at IN2
 have F := Box'.mk (FrG.begin w (gA co ro v) s)
 have U24 := Box'.mk Try.underlying24
 have S24 := Box'.mk s24g
 have O := Box'.mk (gA_one 0 0 none 0 0)
 clear hG hS h2
 clear hv
 go_enter Try.func12, Try.ntmps12
 go_upto_region 1 with (fail)
 generalize (((w.alloc (.cells (gA co ro v) 24)).alloc (.cells (sA s) 26)).alloc (.cells #[.int .i64 0, .int .i64 0, .slice none 0 0] 24)) = w1 at *
 go_wp2_with (first
  | (refine wpList_load_row rfl 24 (.tmp 5) rfl w.heap.size rfl 24 (gA co ro v) F.out.rg _ U24.out rfl 3 S24.out rfl ?_))
 refine (MG.out _ F.out.be).mono ?_
 rintro e w2 ⟨rfl, hb⟩
 replace F := Box'.mk (F.out.below hb)
 clear hb
 have cs0 : w2.cell? ⟨w.heap.size + 1, 0, none⟩ = some (.int .i64 s.fg) := F.out.rs.cell 0
 have cs1 : w2.cell? ⟨w.heap.size + 1, 1, none⟩ = some (.int .i64 s.bg) := F.out.rs.cell 1
 have cs2 : w2.cell? ⟨w.heap.size + 1, 2, none⟩ = some (.bool s.b1) := F.out.rs.cell 2
 have cs3 : w2.cell? ⟨w.heap.size + 1, 3, none⟩ = some (.bool s.b2) := F.out.rs.cell 3
 have cs4 : w2.cell? ⟨w.heap.size + 1, 4, none⟩ = some (.bool s.b3) := F.out.rs.cell 4
 have cs5 : w2.cell? ⟨w.heap.size + 1, 5, none⟩ = some (.bool s.b4) := F.out.rs.cell 5
 have cs6 : w2.cell? ⟨w.heap.size + 1, 6, none⟩ = some (.bool s.b5) := F.out.rs.cell 6
 have cs7 : w2.cell? ⟨w.heap.size + 1, 7, none⟩ = some (.bool s.b7) := F.out.rs.cell 7
 have cs8 : w2.cell? ⟨w.heap.size + 1, 8, none⟩ = some (.bool s.b8) := F.out.rs.cell 8
 have cs9 : w2.cell? ⟨w.heap.size + 1, 9, none⟩ = some (.bool s.b9) := F.out.rs.cell 9
 have c0 : w2.cell? ⟨w.heap.size, 0, none⟩ = some (.int .i64 co) := F.out.rg.cell 0
 have c1 : w2.cell? ⟨w.heap.size, 1, none⟩ = some (.int .i64 ro) := F.out.rg.cell 1
 go_wp2_with fail
 refine (MS.out _).mono ?_
 rintro e w3 ⟨rfl, hb⟩
 replace F := Box'.mk (F.out.below hb)
 clear hb
 clear c0 c1 cs0 cs1 cs2 cs3 cs4 cs5 cs6 cs7 cs8 cs9
 have cs0 : w3.cell? ⟨w.heap.size + 1, 0, none⟩ = some (.int .i64 s.fg) := F.out.rs.cell 0
 have cs1 : w3.cell? ⟨w.heap.size + 1, 1, none⟩ = some (.int .i64 s.bg) := F.out.rs.cell 1
 have cs2 : w3.cell? ⟨w.heap.size + 1, 2, none⟩ = some (.bool s.b1) := F.out.rs.cell 2
 have cs3 : w3.cell? ⟨w.heap.size + 1, 3, none⟩ = some (.bool s.b2) := F.out.rs.cell 3
 have cs4 : w3.cell? ⟨w.heap.size + 1, 4, none⟩ = some (.bool s.b3) := F.out.rs.cell 4
 have cs5 : w3.cell? ⟨w.heap.size + 1, 5, none⟩ = some (.bool s.b4) := F.out.rs.cell 5
 have cs6 : w3.cell? ⟨w.heap.size + 1, 6, none⟩ = some (.bool s.b5) := F.out.rs.cell 6
 have cs7 : w3.cell? ⟨w.heap.size + 1, 7, none⟩ = some (.bool s.b7) := F.out.rs.cell 7
 have cs8 : w3.cell? ⟨w.heap.size + 1, 8, none⟩ = some (.bool s.b8) := F.out.rs.cell 8
 have cs9 : w3.cell? ⟨w.heap.size + 1, 9, none⟩ = some (.bool s.b9) := F.out.rs.cell 9
 have c0 : w3.cell? ⟨w.heap.size, 0, none⟩ = some (.int .i64 co) := F.out.rg.cell 0
 have c1 : w3.cell? ⟨w.heap.size, 1, none⟩ = some (.int .i64 ro) := F.out.rg.cell 1
 go_wp2_with fail
 refine (IN2.out _).mono ?_
 rintro e w4 ⟨rfl, rfl⟩
 go_wp2_with (first
  | (refine wpList_store_row rfl 24 (.tmp 10) (.tmp 44) rfl (w.heap.size + 2) rfl (gA 0 0 (.slice none 0 0)) rfl 24 3 F.out.rr S24.out rfl O.out ?_))
 exact bodyPost_ret (results_two rfl _ (w.heap.size + 2) rfl _ rfl _ _ (F.out.rr.setRow _) rfl) rfl ⟨rfl, below_setRow F.out.be (by omega) _⟩
set_option maxRecDepth 100000 in
set_option maxHeartbeats 8000000 in
theorem erase_no3 (co ro : Int) (v : Value) (c : List Cl) (row fr to : Int) (s : St) (w : World) (hv : Cls w.heap.size w v c)  (hG : mayG co ro c = true) (hS : mayS s = true) (h2 : inN row ro = true) (h3 : fr < 0) :
  Calls Try.prog 12 #[.agg (gA co ro v), .int .i64 row, .int .i64 fr, .int .i64 to, .agg (sA s)] w fun e w' => e = .returned gErr ∧ Below w.heap.size w w' := by
 have MG : Box' (∀ wx, Below w.heap.size w wx → Calls Try.prog 20 #[.agg (gA co ro v)] wx fun e w' => e = .returned (.bool (mayG co ro c)) ∧ Below wx.heap.size wx w') := ⟨fun wx hb => gmay_any co ro v c wx ((hv.below hb (Nat.le_refl _)).up hb.size)⟩
 rw [hG] at MG
 have MS := Box'.mk (mayStyle15_any s)
 rw [hS] at MS
 have IN2 := Box'.mk (isIn_any row ro)
 rw [h2] at IN2
 have F := Box'.mk (FrG.begin w (gA co ro v) s)
 have U24 := Box'.mk Try.underlying24
 have S24 := Box'.mk s24g
 have O := Box'.mk (gA_one 0 0 none 0 0)
 clear hG hS h2
 clear hv
 go_enter Try.func12, Try.ntmps12
 go_upto_region 1 with (fail)
 generalize (((w.alloc (.cells (gA co ro v) 24)).alloc (.cells (sA s) 26)).alloc (.cells #[.int .i64 0, .int .i64 0, .slice none 0 0] 24)) = w1 at *
 go_wp2_with (first
  | (refine wpList_load_row rfl 24 (.tmp 5) rfl w.heap.size rfl 24 (gA co ro v) F.out.rg _ U24.out rfl 3 S24.out rfl ?_))
 refine (MG.out _ F.out.be).mono ?_
 rintro e w2 ⟨rfl, hb⟩
 replace F := Box'.mk (F.out.below hb)
 clear hb
 have cs0 : w2.cell? ⟨w.heap.size + 1, 0, none⟩ = some (.int .i64 s.fg) := F.out.rs.cell 0
 have cs1 : w2.cell? ⟨w.heap.size + 1, 1, none⟩ = some (.int .i64 s.bg) := F.out.rs.cell 1
 have cs2 : w2.cell? ⟨w.heap.size + 1, 2, none⟩ = some (.bool s.b1) := F.out.rs.cell 2
 have cs3 : w2.cell? ⟨w.heap.size + 1, 3, none⟩ = some (.bool s.b2) := F.out.rs.cell 3
 have cs4 : w2.cell? ⟨w.heap.size + 1, 4, none⟩ = some (.bool s.b3) := F.out.rs.cell 4
 have cs5 : w2.cell? ⟨w.heap.size + 1, 5, none⟩ = some (.bool s.b4) := F.out.rs.cell 5
 have cs6 : w2.cell? ⟨w.heap.size + 1, 6, none⟩ = some (.bool s.b5) := F.out.rs.cell 6
 have cs7 : w2.cell? ⟨w.heap.size + 1, 7, none⟩ = some (.bool s.b7) := F.out.rs.cell 7
 have cs8 : w2.cell? ⟨w.heap.size + 1, 8, none⟩ = some (.bool s.b8) := F.out.rs.cell 8
 have cs9 : w2.cell? ⟨w.heap.size + 1, 9, none⟩ = some (.bool s.b9) := F.out.rs.cell 9
 have c0 : w2.cell? ⟨w.heap.size, 0, none⟩ = some (.int .i64 co) := F.out.rg.cell 0
 have c1 : w2.cell? ⟨w.heap.size, 1, none⟩ = some (.int .i64 ro) := F.out.rg.cell 1
 go_wp2_with fail
 refine (MS.out _).mono ?_
 rintro e w3 ⟨rfl, hb⟩
 replace F := Box'.mk (F.out.below hb)
 clear hb
 clear c0 c1 cs0 cs1 cs2 cs3 cs4 cs5 cs6 cs7 cs8 cs9
 have cs0 : w3.cell? ⟨w.heap.size + 1, 0, none⟩ = some (.int .i64 s.fg) := F.out.rs.cell 0
 have cs1 : w3.cell? ⟨w.heap.size + 1, 1, none⟩ = some (.int .i64 s.bg) := F.out.rs.cell 1
 have cs2 : w3.cell? ⟨w.heap.size + 1, 2, none⟩ = some (.bool s.b1) := F.out.rs.cell 2
 have cs3 : w3.cell? ⟨w.heap.size + 1, 3, none⟩ = some (.bool s.b2) := F.out.rs.cell 3
 have cs4 : w3.cell? ⟨w.heap.size + 1, 4, none⟩ = some (.bool s.b3) := F.out.rs.cell 4
 have cs5 : w3.cell? ⟨w.heap.size + 1, 5, none⟩ = some (.bool s.b4) := F.out.rs.cell 5
 have cs6 : w3.cell? ⟨w.heap.size + 1, 6, none⟩ = some (.bool s.b5) := F.out.rs.cell 6
 have cs7 : w3.cell? ⟨w.heap.size + 1, 7, none⟩ = some (.bool s.b7) := F.out.rs.cell 7
 have cs8 : w3.cell? ⟨w.heap.size + 1, 8, none⟩ = some (.bool s.b8) := F.out.rs.cell 8
 have cs9 : w3.cell? ⟨w.heap.size + 1, 9, none⟩ = some (.bool s.b9) := F.out.rs.cell 9
 have c0 : w3.cell? ⟨w.heap.size, 0, none⟩ = some (.int .i64 co) := F.out.rg.cell 0
 have c1 : w3.cell? ⟨w.heap.size, 1, none⟩ = some (.int .i64 ro) := F.out.rg.cell 1
 go_wp2_with fail
 refine (IN2.out _).mono ?_
 rintro e w4 ⟨rfl, rfl⟩
 go_wp2_with (first
  | (refine wpList_store_row rfl 24 (.tmp 10) (.tmp 44) rfl (w.heap.size + 2) rfl (gA 0 0 (.slice none 0 0)) rfl 24 3 F.out.rr S24.out rfl O.out ?_))
 exact bodyPost_ret (results_two rfl _ (w.heap.size + 2) rfl _ rfl _ _ (F.out.rr.setRow _) rfl) rfl ⟨rfl, below_setRow F.out.be (by omega) _⟩
set_option maxRecDepth 100000 in
set_option maxHeartbeats 8000000 in
theorem erase_no4 (co ro : Int) (v : Value) (c : List Cl) (row fr to : Int) (s : St) (w : World) (hv : Cls w.heap.size w v c)  (hG : mayG co ro c = true) (hS : mayS s = true) (h2 : inN row ro = true) (h3 : 0 ≤ fr) (h4 : to < fr) :
  Calls Try.prog 12 #[.agg (gA co ro v), .int .i64 row, .int .i64 fr, .int .i64 to, .agg (sA s)] w fun e w' => e = .returned gErr ∧ Below w.heap.size w w' := by
 have MG : Box' (∀ wx, Below w.heap.size w wx → Calls Try.prog 20 #[.agg (gA co ro v)] wx fun e w' => e = .returned (.bool (mayG co ro c)) ∧ Below wx.heap.size wx w') := ⟨fun wx hb => gmay_any co ro v c wx ((hv.below hb (Nat.le_refl _)).up hb.size)⟩
 rw [hG] at MG
 have MS := Box'.mk (mayStyle15_any s)
 rw [hS] at MS
 have IN2 := Box'.mk (isIn_any row ro)
 rw [h2] at IN2
 have F := Box'.mk (FrG.begin w (gA co ro v) s)
 have U24 := Box'.mk Try.underlying24
 have S24 := Box'.mk s24g
 have O := Box'.mk (gA_one 0 0 none 0 0)
 clear hG hS h2
 clear hv
 go_enter Try.func12, Try.ntmps12
 go_upto_region 1 with (fail)
 generalize (((w.alloc (.cells (gA co ro v) 24)).alloc (.cells (sA s) 26)).alloc (.cells #[.int .i64 0, .int .i64 0, .slice none 0 0] 24)) = w1 at *
 go_wp2_with (first
  | (refine wpList_load_row rfl 24 (.tmp 5) rfl w.heap.size rfl 24 (gA co ro v) F.out.rg _ U24.out rfl 3 S24.out rfl ?_))
 refine (MG.out _ F.out.be).mono ?_
 rintro e w2 ⟨rfl, hb⟩
 replace F := Box'.mk (F.out.below hb)
 clear hb
 have cs0 : w2.cell? ⟨w.heap.size + 1, 0, none⟩ = some (.int .i64 s.fg) := F.out.rs.cell 0
 have cs1 : w2.cell? ⟨w.heap.size + 1, 1, none⟩ = some (.int .i64 s.bg) := F.out.rs.cell 1
 have cs2 : w2.cell? ⟨w.heap.size + 1, 2, none⟩ = some (.bool s.b1) := F.out.rs.cell 2
 have cs3 : w2.cell? ⟨w.heap.size + 1, 3, none⟩ = some (.bool s.b2) := F.out.rs.cell 3
 have cs4 : w2.cell? ⟨w.heap.size + 1, 4, none⟩ = some (.bool s.b3) := F.out.rs.cell 4
 have cs5 : w2.cell? ⟨w.heap.size + 1, 5, none⟩ = some (.bool s.b4) := F.out.rs.cell 5
 have cs6 : w2.cell? ⟨w.heap.size + 1, 6, none⟩ = some (.bool s.b5) := F.out.rs.cell 6
 have cs7 : w2.cell? ⟨w.heap.size + 1, 7, none⟩ = some (.bool s.b7) := F.out.rs.cell 7
 have cs8 : w2.cell? ⟨w.heap.size + 1, 8, none⟩ = some (.bool s.b8) := F.out.rs.cell 8
 have cs9 : w2.cell? ⟨w.heap.size + 1, 9, none⟩ = some (.bool s.b9) := F.out.rs.cell 9
 have c0 : w2.cell? ⟨w.heap.size, 0, none⟩ = some (.int .i64 co) := F.out.rg.cell 0
 have c1 : w2.cell? ⟨w.heap.size, 1, none⟩ = some (.int .i64 ro) := F.out.rg.cell 1
 go_wp2_with fail
 refine (MS.out _).mono ?_
 rintro e w3 ⟨rfl, hb⟩
 replace F := Box'.mk (F.out.below hb)
 clear hb
 clear c0 c1 cs0 cs1 cs2 cs3 cs4 cs5 cs6 cs7 cs8 cs9
 have cs0 : w3.cell? ⟨w.heap.size + 1, 0, none⟩ = some (.int .i64 s.fg) := F.out.rs.cell 0
 have cs1 : w3.cell? ⟨w.heap.size + 1, 1, none⟩ = some (.int .i64 s.bg) := F.out.rs.cell 1
 have cs2 : w3.cell? ⟨w.heap.size + 1, 2, none⟩ = some (.bool s.b1) := F.out.rs.cell 2
 have cs3 : w3.cell? ⟨w.heap.size + 1, 3, none⟩ = some (.bool s.b2) := F.out.rs.cell 3
 have cs4 : w3.cell? ⟨w.heap.size + 1, 4, none⟩ = some (.bool s.b3) := F.out.rs.cell 4
 have cs5 : w3.cell? ⟨w.heap.size + 1, 5, none⟩ = some (.bool s.b4) := F.out.rs.cell 5
 have cs6 : w3.cell? ⟨w.heap.size + 1, 6, none⟩ = some (.bool s.b5) := F.out.rs.cell 6
 have cs7 : w3.cell? ⟨w.heap.size + 1, 7, none⟩ = some (.bool s.b7) := F.out.rs.cell 7
 have cs8 : w3.cell? ⟨w.heap.size + 1, 8, none⟩ = some (.bool s.b8) := F.out.rs.cell 8
 have cs9 : w3.cell? ⟨w.heap.size + 1, 9, none⟩ = some (.bool s.b9) := F.out.rs.cell 9
 have c0 : w3.cell? ⟨w.heap.size, 0, none⟩ = some (.int .i64 co) := F.out.rg.cell 0
 have c1 : w3.cell? ⟨w.heap.size, 1, none⟩ = some (.int .i64 ro) := F.out.rg.cell 1
 go_wp2_with fail
 refine (IN2.out _).mono ?_
 rintro e w4 ⟨rfl, rfl⟩
 go_wp2_with (first
  | (refine wpList_store_row rfl 24 (.tmp 10) (.tmp 44) rfl (w.heap.size + 2) rfl (gA 0 0 (.slice none 0 0)) rfl 24 3 F.out.rr S24.out rfl O.out ?_))
 exact bodyPost_ret (results_two rfl _ (w.heap.size + 2) rfl _ rfl _ _ (F.out.rr.setRow _) rfl) rfl ⟨rfl, below_setRow F.out.be (by omega) _⟩
set_option maxRecDepth 100000 in
set_option maxHeartbeats 8000000 in
theorem erase_no5 (co ro : Int) (v : Value) (c : List Cl) (row fr to : Int) (s : St) (w : World) (hv : Cls w.heap.size w v c)  (hG : mayG co ro c = true) (hS : mayS s = true) (h2 : inN row ro = true) (h3 : 0 ≤ fr) (h4 : fr ≤ to) (h5 : co < to) :
  Calls Try.prog 12 #[.agg (gA co ro v), .int .i64 row, .int .i64 fr, .int .i64 to, .agg (sA s)] w fun e w' => e = .returned gErr ∧ Below w.heap.size w w' := by
 have MG : Box' (∀ wx, Below w.heap.size w wx → Calls Try.prog 20 #[.agg (gA co ro v)] wx fun e w' => e = .returned (.bool (mayG co ro c)) ∧ Below wx.heap.size wx w') := ⟨fun wx hb => gmay_any co ro v c wx ((hv.below hb (Nat.le_refl _)).up hb.size)⟩
 rw [hG] at MG
 have MS := Box'.mk (mayStyle15_any s)
 rw [hS] at MS
 have IN2 := Box'.mk (isIn_any row ro)
 rw [h2] at IN2
 have F := Box'.mk (FrG.begin w (gA co ro v) s)
 have U24 := Box'.mk Try.underlying24
 have S24 := Box'.mk s24g
 have O := Box'.mk (gA_one 0 0 none 0 0)
 clear hG hS h2
 clear hv
 go_enter Try.func12, Try.ntmps12
 go_upto_region 1 with (fail)
 generalize (((w.alloc (.cells (gA co ro v) 24)).alloc (.cells (sA s) 26)).alloc (.cells #[.int .i64 0, .int .i64 0, .slice none 0 0] 24)) = w1 at *
 go_wp2_with (first
  | (refine wpList_load_row rfl 24 (.tmp 5) rfl w.heap.size rfl 24 (gA co ro v) F.out.rg _ U24.out rfl 3 S24.out rfl ?_))
 refine (MG.out _ F.out.be).mono ?_
 rintro e w2 ⟨rfl, hb⟩
 replace F := Box'.mk (F.out.below hb)
 clear hb
 have cs0 : w2.cell? ⟨w.heap.size + 1, 0, none⟩ = some (.int .i64 s.fg) := F.out.rs.cell 0
 have cs1 : w2.cell? ⟨w.heap.size + 1, 1, none⟩ = some (.int .i64 s.bg) := F.out.rs.cell 1
 have cs2 : w2.cell? ⟨w.heap.size + 1, 2, none⟩ = some (.bool s.b1) := F.out.rs.cell 2
 have cs3 : w2.cell? ⟨w.heap.size + 1, 3, none⟩ = some (.bool s.b2) := F.out.rs.cell 3
 have cs4 : w2.cell? ⟨w.heap.size + 1, 4, none⟩ = some (.bool s.b3) := F.out.rs.cell 4
 have cs5 : w2.cell? ⟨w.heap.size + 1, 5, none⟩ = some (.bool s.b4) := F.out.rs.cell 5
 have cs6 : w2.cell? ⟨w.heap.size + 1, 6, none⟩ = some (.bool s.b5) := F.out.rs.cell 6
 have cs7 : w2.cell? ⟨w.heap.size + 1, 7, none⟩ = some (.bool s.b7) := F.out.rs.cell 7
 have cs8 : w2.cell? ⟨w.heap.size + 1, 8, none⟩ = some (.bool s.b8) := F.out.rs.cell 8
 have cs9 : w2.cell? ⟨w.heap.size + 1, 9, none⟩ = some (.bool s.b9) := F.out.rs.cell 9
 have c0 : w2.cell? ⟨w.heap.size, 0, none⟩ = some (.int .i64 co) := F.out.rg.cell 0
 have c1 : w2.cell? ⟨w.heap.size, 1, none⟩ = some (.int .i64 ro) := F.out.rg.cell 1
 go_wp2_with fail
 refine (MS.out _).mono ?_
 rintro e w3 ⟨rfl, hb⟩
 replace F := Box'.mk (F.out.below hb)
 clear hb
 clear c0 c1 cs0 cs1 cs2 cs3 cs4 cs5 cs6 cs7 cs8 cs9
 have cs0 : w3.cell? ⟨w.heap.size + 1, 0, none⟩ = some (.int .i64 s.fg) := F.out.rs.cell 0
 have cs1 : w3.cell? ⟨w.heap.size + 1, 1, none⟩ = some (.int .i64 s.bg) := F.out.rs.cell 1
 have cs2 : w3.cell? ⟨w.heap.size + 1, 2, none⟩ = some (.bool s.b1) := F.out.rs.cell 2
 have cs3 : w3.cell? ⟨w.heap.size + 1, 3, none⟩ = some (.bool s.b2) := F.out.rs.cell 3
 have cs4 : w3.cell? ⟨w.heap.size + 1, 4, none⟩ = some (.bool s.b3) := F.out.rs.cell 4
 have cs5 : w3.cell? ⟨w.heap.size + 1, 5, none⟩ = some (.bool s.b4) := F.out.rs.cell 5
 have cs6 : w3.cell? ⟨w.heap.size + 1, 6, none⟩ = some (.bool s.b5) := F.out.rs.cell 6
 have cs7 : w3.cell? ⟨w.heap.size + 1, 7, none⟩ = some (.bool s.b7) := F.out.rs.cell 7
 have cs8 : w3.cell? ⟨w.heap.size + 1, 8, none⟩ = some (.bool s.b8) := F.out.rs.cell 8
 have cs9 : w3.cell? ⟨w.heap.size + 1, 9, none⟩ = some (.bool s.b9) := F.out.rs.cell 9
 have c0 : w3.cell? ⟨w.heap.size, 0, none⟩ = some (.int .i64 co) := F.out.rg.cell 0
 have c1 : w3.cell? ⟨w.heap.size, 1, none⟩ = some (.int .i64 ro) := F.out.rg.cell 1
 go_wp2_with fail
 refine (IN2.out _).mono ?_
 rintro e w4 ⟨rfl, rfl⟩
 go_wp2_with (first
  | (refine wpList_store_row rfl 24 (.tmp 10) (.tmp 44) rfl (w.heap.size + 2) rfl (gA 0 0 (.slice none 0 0)) rfl 24 3 F.out.rr S24.out rfl O.out ?_))
 exact bodyPost_ret (results_two rfl _ (w.heap.size + 2) rfl _ rfl _ _ (F.out.rr.setRow _) rfl) rfl ⟨rfl, below_setRow F.out.be (by omega) _⟩
set_option maxRecDepth 100000 in
set_option maxHeartbeats 8000000 in
theorem shift_no0 (co ro : Int) (v : Value) (c : List Cl) (row fr k : Int) (s : St) (w : World) (hv : Cls w.heap.size w v c)  (hG : mayG co ro c = false) :
  Calls Try.prog 14 #[.agg (gA co ro v), .int .i64 row, .int .i64 fr, .int .i64 k, .agg (sA s)] w fun e w' => e = .returned gErr ∧ Below w.heap.size w w' := by
 have MG : Box' (∀ wx, Below w.heap.size w wx → Calls Try.prog 20 #[.agg (gA co ro v)] wx fun e w' => e = .returned (.bool (mayG co ro c)) ∧ Below wx.heap.size wx w') := ⟨fun wx hb => gmay_any co ro v c wx ((hv.below hb (Nat.le_refl _)).up hb.size)⟩
 rw [hG] at MG
 have F := Box'.mk (FrG.begin w (gA co ro v) s)
 have U24 := Box'.mk Try.underlying24
 have S24 := Box'.mk s24g
 have O := Box'.mk (gA_one 0 0 none 0 0)
 clear hG
 clear hv
 go_enter Try.func14, Try.ntmps14
 go_upto_region 1 with (fail)
 generalize (((w.alloc (.cells (gA co ro v) 24)).alloc (.cells (sA s) 26)).alloc (.cells #[.int .i64 0, .int .i64 0, .slice none 0 0] 24)) = w1 at *
 go_wp2_with (first
  | (refine wpList_load_row rfl 24 (.tmp 5) rfl w.heap.size rfl 24 (gA co ro v) F.out.rg _ U24.out rfl 3 S24.out rfl ?_))
 refine (MG.out _ F.out.be).mono ?_
 rintro e w2 ⟨rfl, hb⟩
 replace F := Box'.mk (F.out.below hb)
 clear hb
 have cs0 : w2.cell? ⟨w.heap.size + 1, 0, none⟩ = some (.int .i64 s.fg) := F.out.rs.cell 0
 have cs1 : w2.cell? ⟨w.heap.size + 1, 1, none⟩ = some (.int .i64 s.bg) := F.out.rs.cell 1
 have cs2 : w2.cell? ⟨w.heap.size + 1, 2, none⟩ = some (.bool s.b1) := F.out.rs.cell 2
 have cs3 : w2.cell? ⟨w.heap.size + 1, 3, none⟩ = some (.bool s.b2) := F.out.rs.cell 3
 have cs4 : w2.cell? ⟨w.heap.size + 1, 4, none⟩ = some (.bool s.b3) := F.out.rs.cell 4
 have cs5 : w2.cell? ⟨w.heap.size + 1, 5, none⟩ = some (.bool s.b4) := F.out.rs.cell 5
 have cs6 : w2.cell? ⟨w.heap.size + 1, 6, none⟩ = some (.bool s.b5) := F.out.rs.cell 6
 have cs7 : w2.cell? ⟨w.heap.size + 1, 7, none⟩ = some (.bool s.b7) := F.out.rs.cell 7
 have cs8 : w2.cell? ⟨w.heap.size + 1, 8, none⟩ = some (.bool s.b8) := F.out.rs.cell 8
 have cs9 : w2.cell? ⟨w.heap.size + 1, 9, none⟩ = some (.bool s.b9) := F.out.rs.cell 9
 have c0 : w2.cell? ⟨w.heap.size, 0, none⟩ = some (.int .i64 co) := F.out.rg.cell 0
 have c1 : w2.cell? ⟨w.heap.size, 1, none⟩ = some (.int .i64 ro) := F.out.rg.cell 1
 go_wp2_with (first
  | (refine wpList_store_row rfl 24 (.tmp 10) (.tmp 36) rfl (w.heap.size + 2) rfl (gA 0 0 (.slice none 0 0)) rfl 24 3 F.out.rr S24.out rfl O.out ?_))
 exact bodyPost_ret (results_two rfl _ (w.heap.size + 2) rfl _ rfl _ _ (F.out.rr.setRow _) rfl) rfl ⟨rfl, below_setRow F.out.be (by omega) _⟩
set_option maxRecDepth 100000 in
set_option maxHeartbeats 8000000 in
theorem shift_no1 (co ro : Int) (v : Value) (c : List Cl) (row fr k : Int) (s : St) (w : World) (hv : Cls w.heap.size w v c)  (hG : mayG co ro c = true) (hS : mayS s = false) :
  Calls Try.prog 14 #[.agg (gA co ro v), .int .i64 row, .int .i64 fr, .int .i64 k, .agg (sA s)] w fun e w' => e = .returned gErr ∧ Below w.heap.size w w' := by
 have MG : Box' (∀ wx, Below w.heap.size w wx → Calls Try.prog 20 #[.agg (gA co ro v)] wx fun e w' => e = .returned (.bool (mayG co ro c)) ∧ Below wx.heap.size wx w') := ⟨fun wx hb => gmay_any co ro v c wx ((hv.below hb (Nat.le_refl _)).up hb.size)⟩
 rw [hG] at MG
 have MS := Box'.mk (mayStyle15_any s)
 rw [hS] at MS
 have F := Box'.mk (FrG.begin w (gA co ro v) s)
 have U24 := Box'.mk Try.underlying24
 have S24 := Box'.mk s24g
 have O := Box'.mk (gA_one 0 0 none 0 0)
 clear hG hS
 clear hv
 go_enter Try.func14, Try.ntmps14
 go_upto_region 1 with (fail)
 generalize (((w.alloc (.cells (gA co ro v) 24)).alloc (.cells (sA s) 26)).alloc (.cells #[.int .i64 0, .int .i64 0, .slice none 0 0] 24)) = w1 at *
 go_wp2_with (first
  | (refine wpList_load_row rfl 24 (.tmp 5) rfl w.heap.size rfl 24 (gA co ro v) F.out.rg _ U24.out rfl 3 S24.out rfl ?_))
 refine (MG.out _ F.out.be).mono ?_
 rintro e w2 ⟨rfl, hb⟩
 replace F := Box'.mk (F.out.below hb)
 clear hb
 have cs0 : w2.cell? ⟨w.heap.size + 1, 0, none⟩ = some (.int .i64 s.fg) := F.out.rs.cell 0
 have cs1 : w2.cell? ⟨w.heap.size + 1, 1, none⟩ = some (.int .i64 s.bg) := F.out.rs.cell 1
 have cs2 : w2.cell? ⟨w.heap.size + 1, 2, none⟩ = some (.bool s.b1) := F.out.rs.cell 2
 have cs3 : w2.cell? ⟨w.heap.size + 1, 3, none⟩ = some (.bool s.b2) := F.out.rs.cell 3
 have cs4 : w2.cell? ⟨w.heap.size + 1, 4, none⟩ = some (.bool s.b3) := F.out.rs.cell 4
 have cs5 : w2.cell? ⟨w.heap.size + 1, 5, none⟩ = some (.bool s.b4) := F.out.rs.cell 5
 have cs6 : w2.cell? ⟨w.heap.size + 1, 6, none⟩ = some (.bool s.b5) := F.out.rs.cell 6
 have cs7 : w2.cell? ⟨w.heap.size + 1, 7, none⟩ = some (.bool s.b7) := F.out.rs.cell 7
 have cs8 : w2.cell? ⟨w.heap.size + 1, 8, none⟩ = some (.bool s.b8) := F.out.rs.cell 8
 have cs9 : w2.cell? ⟨w.heap.size + 1, 9, none⟩ = some (.bool s.b9) := F.out.rs.cell 9
 have c0 : w2.cell? ⟨w.heap.size, 0, none⟩ = some (.int .i64 co) := F.out.rg.cell 0
 have c1 : w2.cell? ⟨w.heap.size, 1, none⟩ = some (.int .i64 ro) := F.out.rg.cell 1
 go_wp2_with fail
 refine (MS.out _).mono ?_
 rintro e w3 ⟨rfl, hb⟩
 replace F := Box'.mk (F.out.below hb)
 clear hb
 clear c0 c1 cs0 cs1 cs2 cs3 cs4 cs5 cs6 cs7 cs8 cs9
 have cs0 : w3.cell? ⟨w.heap.size + 1, 0, none⟩ = some (.int .i64 s.fg) := F.out.rs.cell 0
 have cs1 : w3.cell? ⟨w.heap.size + 1, 1, none⟩ = some (.int .i64 s.bg) := F.out.rs.cell 1
 have cs2 : w3.cell? ⟨w.heap.size + 1, 2, none⟩ = some (.bool s.b1) := F.out.rs.cell 2
 have cs3 : w3.cell? ⟨w.heap.size + 1, 3, none⟩ = some (.bool s.b2) := F.out.rs.cell 3
 have cs4 : w3.cell? ⟨w.heap.size + 1, 4, none⟩ = some (.bool s.b3) := F.out.rs.cell 4
 have cs5 : w3.cell? ⟨w.heap.size + 1, 5, none⟩ = some (.bool s.b4) := F.out.rs.cell 5
 have cs6 : w3.cell? ⟨w.heap.size + 1, 6, none⟩ = some (.bool s.b5) := F.out.rs.cell 6
 have cs7 : w3.cell? ⟨w.heap.size + 1, 7, none⟩ = some (.bool s.b7) := F.out.rs.cell 7
 have cs8 : w3.cell? ⟨w.heap.size + 1, 8, none⟩ = some (.bool s.b8) := F.out.rs.cell 8
 have cs9 : w3.cell? ⟨w.heap.size + 1, 9, none⟩ = some (.bool s.b9) := F.out.rs.cell 9
 have c0 : w3.cell? ⟨w.heap.size, 0, none⟩ = some (.int .i64 co) := F.out.rg.cell 0
 have c1 : w3.cell? ⟨w.heap.size, 1, none⟩ = some (.int .i64 ro) := F.out.rg.cell 1
 go_wp2_with (first
  | (refine wpList_store_row rfl 24 (.tmp 10) (.tmp 36) rfl (w.heap.size + 2) rfl (gA 0 0 (.slice none 0 0)) rfl 24 3 F.out.rr S24.out rfl O.out ?_))
 exact bodyPost_ret (results_two rfl _ (w.heap.size + 2) rfl _ rfl _ _ (F.out.rr.setRow _) rfl) rfl ⟨rfl, below_setRow F.out.be (by omega) _⟩
set_option maxRecDepth 100000 in
set_option maxHeartbeats 8000000 in
theorem shift_no2 (co ro : Int) (v : Value) (c : List Cl) (row fr k : Int) (s : St) (w : World) (hv : Cls w.heap.size w v c)  (hG : mayG co ro c = true) (hS : mayS s = true) (h2 : inN row ro = false) :
  Calls Try.prog 14 #[.agg (gA co ro v), .int .i64 row, .int .i64 fr, .int .i64 k, .agg (sA s)] w fun e w' => e = .returned gErr ∧ Below w.heap.size w w' := by
 have MG : Box' (∀ wx, Below w.heap.size w wx → Calls Try.prog 20 #[.agg (gA co ro v)] wx fun e w' => e = .returned (.bool (mayG co ro c)) ∧ Below wx.heap.size wx w') := ⟨fun wx hb => gmay_any co ro v c wx ((hv.below hb (Nat.le_refl _)).up hb.size)⟩
 rw [hG] at MG
 have MS := Box'.mk (mayStyle15_any s)
 rw [hS] at MS
 have IN2 := Box'.mk (isIn_any row ro)
 rw [h2] at IN2
 have F := Box'.mk (FrG.begin w (gA co ro v) s)
 have U24 := Box'.mk Try.underlying24
 have S24 := Box'.mk s24g
 have O := Box'.mk (gA_one 0 0 none 0 0)
 clear hG hS h2
 clear hv
 go_enter Try.func14, Try.ntmps14
 go_upto_region 1 with (fail)
 generalize (((w.alloc (.cells (gA co ro v) 24)).alloc (.cells (sA s) 26)).alloc (.cells #[.int .i64 0, .int .i64 0, .slice none 0 0] 24)) = w1 at *
 go_wp2_with (first
  | (refine wpList_load_row rfl 24 (.tmp 5) rfl w.heap.size rfl 24 (gA co ro v) F.out.rg _ U24.out rfl 3 S24.out rfl ?_))
 refine (MG.out _ F.out.be).mono ?_
 rintro e w2 ⟨rfl, hb⟩
 replace F := Box'.mk (F.out.below hb)
 clear hb
 have cs0 : w2.cell? ⟨w.heap.size + 1, 0, none⟩ = some (.int .i64 s.fg) := F.out.rs.cell 0
 have cs1 : w2.cell? ⟨w.heap.size + 1, 1, none⟩ = some (.int .i64 s.bg) := F.out.rs.cell 1
 have cs2 : w2.cell? ⟨w.heap.size + 1, 2, none⟩ = some (.bool s.b1) := F.out.rs.cell 2
 have cs3 : w2.cell? ⟨w.heap.size + 1, 3, none⟩ = some (.bool s.b2) := F.out.rs.cell 3
 have cs4 : w2.cell? ⟨w.heap.size + 1, 4, none⟩ = some (.bool s.b3) := F.out.rs.cell 4
 have cs5 : w2.cell? ⟨w.heap.size + 1, 5, none⟩ = some (.bool s.b4) := F.out.rs.cell 5
 have cs6 : w2.cell? ⟨w.heap.size + 1, 6, none⟩ = some (.bool s.b5) := F.out.rs.cell 6
 have cs7 : w2.cell? ⟨w.heap.size + 1, 7, none⟩ = some (.bool s.b7) := F.out.rs.cell 7
 have cs8 : w2.cell? ⟨w.heap.size + 1, 8, none⟩ = some (.bool s.b8) := F.out.rs.cell 8
 have cs9 : w2.cell? ⟨w.heap.size + 1, 9, none⟩ = some (.bool s.b9) := F.out.rs.cell 9
 have c0 : w2.cell? ⟨w.heap.size, 0, none⟩ = some (.int .i64 co) := F.out.rg.cell 0
 have c1 : w2.cell? ⟨w.heap.size, 1, none⟩ = some (.int .i64 ro) := F.out.rg.cell 1
 go_wp2_with fail
 refine (MS.out _).mono ?_
 rintro e w3 ⟨rfl, hb⟩
 replace F := Box'.mk (F.out.below hb)
 clear hb
 clear c0 c1 cs0 cs1 cs2 cs3 cs4 cs5 cs6 cs7 cs8 cs9
 have cs0 : w3.cell? ⟨w.heap.size + 1, 0, none⟩ = some (.int .i64 s.fg) := F.out.rs.cell 0
 have cs1 : w3.cell? ⟨w.heap.size + 1, 1, none⟩ = some (.int .i64 s.bg) := F.out.rs.cell 1
 have cs2 : w3.cell? ⟨w.heap.size + 1, 2, none⟩ = some (.bool s.b1) := F.out.rs.cell 2
 have cs3 : w3.cell? ⟨w.heap.size + 1, 3, none⟩ = some (.bool s.b2) := F.out.rs.cell 3
 have cs4 : w3.cell? ⟨w.heap.size + 1, 4, none⟩ = some (.bool s.b3) := F.out.rs.cell 4
 have cs5 : w3.cell? ⟨w.heap.size + 1, 5, none⟩ = some (.bool s.b4) := F.out.rs.cell 5
 have cs6 : w3.cell? ⟨w.heap.size + 1, 6, none⟩ = some (.bool s.b5) := F.out.rs.cell 6
 have cs7 : w3.cell? ⟨w.heap.size + 1, 7, none⟩ = some (.bool s.b7) := F.out.rs.cell 7
 have cs8 : w3.cell? ⟨w.heap.size + 1, 8, none⟩ = some (.bool s.b8) := F.out.rs.cell 8
 have cs9 : w3.cell? ⟨w.heap.size + 1, 9, none⟩ = some (.bool s.b9) := F.out.rs.cell 9
 have c0 : w3.cell? ⟨w.heap.size, 0, none⟩ = some (.int .i64 co) := F.out.rg.cell 0
 have c1 : w3.cell? ⟨w.heap.size, 1, none⟩ = some (.int .i64 ro) := F.out.rg.cell 1
 go_wp2_with fail
 refine (IN2.out _).mono ?_
 rintro e w4 ⟨rfl, rfl⟩
 go_wp2_with (first
  | (refine wpList_store_row rfl 24 (.tmp 10) (.tmp 36) rfl (w.heap.size + 2) rfl (gA 0 0 (.slice none 0 0)) rfl 24 3 F.out.rr S24.out rfl O.out ?_))
 exact bodyPost_ret (results_two rfl _ (w.heap.size + 2) rfl _ rfl _ _ (F.out.rr.setRow _) rfl) rfl ⟨rfl, below_setRow F.out.be (by omega) _⟩
set_option maxRecDepth 100000 in
set_option maxHeartbeats 8000000 in
theorem shift_no3 (co ro : Int) (v : Value) (c : List Cl) (row fr k : Int) (s : St) (w : World) (hv : Cls w.heap.size w v c)  (hG : mayG co ro c = true) (hS : mayS s = true) (h2 : inN row ro = true) (h3 : inN fr co = false) :
  Calls Try.prog 14 #[.agg (gA co ro v), .int .i64 row, .int .i64 fr, .int .i64 k, .agg (sA s)] w fun e w' => e = .returned gErr ∧ Below w.heap.size w w' := by
 have MG : Box' (∀ wx, Below w.heap.size w wx → Calls Try.prog 20 #[.agg (gA co ro v)] wx fun e w' => e = .returned (.bool (mayG co ro c)) ∧ Below wx.heap.size wx w') := ⟨fun wx hb => gmay_any co ro v c wx ((hv.below hb (Nat.le_refl _)).up hb.size)⟩
 rw [hG] at MG
 have MS := Box'.mk (mayStyle15_any s)
 rw [hS] at MS
 have IN2 := Box'.mk (isIn_any row ro)
 rw [h2] at IN2
 have IN3 := Box'.mk (isIn_any fr co)
 rw [h3] at IN3
 have F := Box'.mk (FrG.begin w (gA co ro v) s)
 have U24 := Box'.mk Try.underlying24
 have S24 := Box'.mk s24g
 have O := Box'.mk (gA_one 0 0 none 0 0)
 clear hG hS h2 h3
 clear hv
 go_enter Try.func14, Try.ntmps14
 go_upto_region 1 with (fail)
 generalize (((w.alloc (.cells (gA co ro v) 24)).alloc (.cells (sA s) 26)).alloc (.cells #[.int .i64 0, .int .i64 0, .slice none 0 0] 24)) = w1 at *
 go_wp2_with (first
  | (refine wpList_load_row rfl 24 (.tmp 5) rfl w.heap.size rfl 24 (gA co ro v) F.out.rg _ U24.out rfl 3 S24.out rfl ?_))
 refine (MG.out _ F.out.be).mono ?_
 rintro e w2 ⟨rfl, hb⟩
 replace F := Box'.mk (F.out.below hb)
 clear hb
 have cs0 : w2.cell? ⟨w.heap.size + 1, 0, none⟩ = some (.int .i64 s.fg) := F.out.rs.cell 0
 have cs1 : w2.cell? ⟨w.heap.size + 1, 1, none⟩ = some (.int .i64 s.bg) := F.out.rs.cell 1
 have cs2 : w2.cell? ⟨w.heap.size + 1, 2, none⟩ = some (.bool s.b1) := F.out.rs.cell 2
 have cs3 : w2.cell? ⟨w.heap.size + 1, 3, none⟩ = some (.bool s.b2) := F.out.rs.cell 3
 have cs4 : w2.cell? ⟨w.heap.size + 1, 4, none⟩ = some (.bool s.b3) := F.out.rs.cell 4
 have cs5 : w2.cell? ⟨w.heap.size + 1, 5, none⟩ = some (.bool s.b4) := F.out.rs.cell 5
 have cs6 : w2.cell? ⟨w.heap.size + 1, 6, none⟩ = some (.bool s.b5) := F.out.rs.cell 6
 have cs7 : w2.cell? ⟨w.heap.size + 1, 7, none⟩ = some (.bool s.b7) := F.out.rs.cell 7
 have cs8 : w2.cell? ⟨w.heap.size + 1, 8, none⟩ = some (.bool s.b8) := F.out.rs.cell 8
 have cs9 : w2.cell? ⟨w.heap.size + 1, 9, none⟩ = some (.bool s.b9) := F.out.rs.cell 9
 have c0 : w2.cell? ⟨w.heap.size, 0, none⟩ = some (.int .i64 co) := F.out.rg.cell 0
 have c1 : w2.cell? ⟨w.heap.size, 1, none⟩ = some (.int .i64 ro) := F.out.rg.cell 1
 go_wp2_with fail
 refine (MS.out _).mono ?_
 rintro e w3 ⟨rfl, hb⟩
 replace F := Box'.mk (F.out.below hb)
 clear hb
 clear c0 c1 cs0 cs1 cs2 cs3 cs4 cs5 cs6 cs7 cs8 cs9
 have cs0 : w3.cell? ⟨w.heap.size + 1, 0, none⟩ = some (.int .i64 s.fg) := F.out.rs.cell 0
 have cs1 : w3.cell? ⟨w.heap.size + 1, 1, none⟩ = some (.int .i64 s.bg) := F.out.rs.cell 1
 have cs2 : w3.cell? ⟨w.heap.size + 1, 2, none⟩ = some (.bool s.b1) := F.out.rs.cell 2
 have cs3 : w3.cell? ⟨w.heap.size + 1, 3, none⟩ = some (.bool s.b2) := F.out.rs.cell 3
 have cs4 : w3.cell? ⟨w.heap.size + 1, 4, none⟩ = some (.bool s.b3) := F.out.rs.cell 4
 have cs5 : w3.cell? ⟨w.heap.size + 1, 5, none⟩ = some (.bool s.b4) := F.out.rs.cell 5
 have cs6 : w3.cell? ⟨w.heap.size + 1, 6, none⟩ = some (.bool s.b5) := F.out.rs.cell 6
 have cs7 : w3.cell? ⟨w.heap.size + 1, 7, none⟩ = some (.bool s.b7) := F.out.rs.cell 7
 have cs8 : w3.cell? ⟨w.heap.size + 1, 8, none⟩ = some (.bool s.b8) := F.out.rs.cell 8
 have cs9 : w3.cell? ⟨w.heap.size + 1, 9, none⟩ = some (.bool s.b9) := F.out.rs.cell 9
 have c0 : w3.cell? ⟨w.heap.size, 0, none⟩ = some (.int .i64 co) := F.out.rg.cell 0
 have c1 : w3.cell? ⟨w.heap.size, 1, none⟩ = some (.int .i64 ro) := F.out.rg.cell 1
 go_wp2_with fail
 refine (IN2.out _).mono ?_
 rintro e w4 ⟨rfl, rfl⟩
 go_wp2_with fail
 refine (IN3.out _).mono ?_
 rintro e w4 ⟨rfl, rfl⟩
 go_wp2_with (first
  | (refine wpList_store_row rfl 24 (.tmp 10) (.tmp 36) rfl (w.heap.size + 2) rfl (gA 0 0 (.slice none 0 0)) rfl 24 3 F.out.rr S24.out rfl O.out ?_))
 exact bodyPost_ret (results_two rfl _ (w.heap.size + 2) rfl _ rfl _ _ (F.out.rr.setRow _) rfl) rfl ⟨rfl, below_setRow F.out.be (by omega) _⟩
set_option maxRecDepth 100000 in
set_option maxHeartbeats 8000000 in
theorem scroll_no0 (co ro : Int) (v : Value) (c : List Cl) (top bot k : Int) (s : St) (w : World) (hv : Cls w.heap.size w v c)  (hG : mayG co ro c = false) :
  Calls Try.prog 16 #[.agg (gA co ro v), .int .i64 top, .int .i64 bot, .int .i64 k, .agg (sA s)] w fun e w' => e = .returned gErr ∧ Below w.heap.size w w' := by
 have MG : Box' (∀ wx, Below w.heap.size w wx → Calls Try.prog 20 #[.agg (gA co ro v)] wx fun e w' => e = .returned (.bool (mayG co ro c)) ∧ Below wx.heap.size wx w') := ⟨fun wx hb => gmay_any co ro v c wx ((hv.below hb (Nat.le_refl _)).up hb.size)⟩
 rw [hG] at MG
 have F := Box'.mk (FrG.begin w (gA co ro v) s)
 have U24 := Box'.mk Try.underlying24
 have S24 := Box'.mk s24g
 have O := Box'.mk (gA_one 0 0 none 0 0)
 clear hG
 clear hv
 go_enter Try.func16, Try.ntmps16
 go_upto_region 1 with (fail)
 generalize (((w.alloc (.cells (gA co ro v) 24)).alloc (.cells (sA s) 26)).alloc (.cells #[.int .i64 0, .int .i64 0, .slice none 0 0] 24)) = w1 at *
 go_wp2_with (first
  | (refine wpList_load_row rfl 24 (.tmp 5) rfl w.heap.size rfl 24 (gA co ro v) F.out.rg _ U24.out rfl 3 S24.out rfl ?_))
 refine (MG.out _ F.out.be).mono ?_
 rintro e w2 ⟨rfl, hb⟩
 replace F := Box'.mk (F.out.below hb)
 clear hb
 have cs0 : w2.cell? ⟨w.heap.size + 1, 0, none⟩ = some (.int .i64 s.fg) := F.out.rs.cell 0
 have cs1 : w2.cell? ⟨w.heap.size + 1, 1, none⟩ = some (.int .i64 s.bg) := F.out.rs.cell 1
 have cs2 : w2.cell? ⟨w.heap.size + 1, 2, none⟩ = some (.bool s.b1) := F.out.rs.cell 2
 have cs3 : w2.cell? ⟨w.heap.size + 1, 3, none⟩ = some (.bool s.b2) := F.out.rs.cell 3
 have cs4 : w2.cell? ⟨w.heap.size + 1, 4, none⟩ = some (.bool s.b3) := F.out.rs.cell 4
 have cs5 : w2.cell? ⟨w.heap.size + 1, 5, none⟩ = some (.bool s.b4) := F.out.rs.cell 5
 have cs6 : w2.cell? ⟨w.heap.size + 1, 6, none⟩ = some (.bool s.b5) := F.out.rs.cell 6
 have cs7 : w2.cell? ⟨w.heap.size + 1, 7, none⟩ = some (.bool s.b7) := F.out.rs.cell 7
 have cs8 : w2.cell? ⟨w.heap.size + 1, 8, none⟩ = some (.bool s.b8) := F.out.rs.cell 8
 have cs9 : w2.cell? ⟨w.heap.size + 1, 9, none⟩ = some (.bool s.b9) := F.out.rs.cell 9
 have c0 : w2.cell? ⟨w.heap.size, 0, none⟩ = some (.int .i64 co) := F.out.rg.cell 0
 have c1 : w2.cell? ⟨w.heap.size, 1, none⟩ = some (.int .i64 ro) := F.out.rg.cell 1
 go_wp2_with (first
  | (refine wpList_store_row rfl 24 (.tmp 10) (.tmp 37) rfl (w.heap.size + 2) rfl (gA 0 0 (.slice none 0 0)) rfl 24 3 F.out.rr S24.out rfl O.out ?_))
 exact bodyPost_ret (results_two rfl _ (w.heap.size + 2) rfl _ rfl _ _ (F.out.rr.setRow _) rfl) rfl ⟨rfl, below_setRow F.out.be (by omega) _⟩
set_option maxRecDepth 100000 in
set_option maxHeartbeats 8000000 in
theorem scroll_no1 (co ro : Int) (v : Value) (c : List Cl) (top bot k : Int) (s : St) (w : World) (hv : Cls w.heap.size w v c)  (hG : mayG co ro c = true) (hS : mayS s = false) :
  Calls Try.prog 16 #[.agg (gA co ro v), .int .i64 top, .int .i64 bot, .int .i64 k, .agg (sA s)] w fun e w' => e = .returned gErr ∧ Below w.heap.size w w' := by
 have MG : Box' (∀ wx, Below w.heap.size w wx → Calls Try.prog 20 #[.agg (gA co ro v)] wx fun e w' => e = .returned (.bool (mayG co ro c)) ∧ Below wx.heap.size wx w') := ⟨fun wx hb => gmay_any co ro v c wx ((hv.below hb (Nat.le_refl _)).up hb.size)⟩
 rw [hG] at MG
 have MS := Box'.mk (mayStyle15_any s)
 rw [hS] at MS
 have F := Box'.mk (FrG.begin w (gA co ro v) s)
 have U24 := Box'.mk Try.underlying24
 have S24 := Box'.mk s24g
 have O := Box'.mk (gA_one 0 0 none 0 0)
 clear hG hS
 clear hv
 go_enter Try.func16, Try.ntmps16
 go_upto_region 1 with (fail)
 generalize (((w.alloc (.cells (gA co ro v) 24)).alloc (.cells (sA s) 26)).alloc (.cells #[.int .i64 0, .int .i64 0, .slice none 0 0] 24)) = w1 at *
 go_wp2_with (first
  | (refine wpList_load_row rfl 24 (.tmp 5) rfl w.heap.size rfl 24 (gA co ro v) F.out.rg _ U24.out rfl 3 S24.out rfl ?_))
 refine (MG.out _ F.out.be).mono ?_
 rintro e w2 ⟨rfl, hb⟩
 replace F := Box'.mk (F.out.below hb)
 clear hb
 have cs0 : w2.cell? ⟨w.heap.size + 1, 0, none⟩ = some (.int .i64 s.fg) := F.out.rs.cell 0
 have cs1 : w2.cell? ⟨w.heap.size + 1, 1, none⟩ = some (.int .i64 s.bg) := F.out.rs.cell 1
 have cs2 : w2.cell? ⟨w.heap.size + 1, 2, none⟩ = some (.bool s.b1) := F.out.rs.cell 2
 have cs3 : w2.cell? ⟨w.heap.size + 1, 3, none⟩ = some (.bool s.b2) := F.out.rs.cell 3
 have cs4 : w2.cell? ⟨w.heap.size + 1, 4, none⟩ = some (.bool s.b3) := F.out.rs.cell 4
 have cs5 : w2.cell? ⟨w.heap.size + 1, 5, none⟩ = some (.bool s.b4) := F.out.rs.cell 5
 have cs6 : w2.cell? ⟨w.heap.size + 1, 6, none⟩ = some (.bool s.b5) := F.out.rs.cell 6
 have cs7 : w2.cell? ⟨w.heap.size + 1, 7, none⟩ = some (.bool s.b7) := F.out.rs.cell 7
 have cs8 : w2.cell? ⟨w.heap.size + 1, 8, none⟩ = some (.bool s.b8) := F.out.rs.cell 8
 have cs9 : w2.cell? ⟨w.heap.size + 1, 9, none⟩ = some (.bool s.b9) := F.out.rs.cell 9
 have c0 : w2.cell? ⟨w.heap.size, 0, none⟩ = some (.int .i64 co) := F.out.rg.cell 0
 have c1 : w2.cell? ⟨w.heap.size, 1, none⟩ = some (.int .i64 ro) := F.out.rg.cell 1
 go_wp2_with fail
 refine (MS.out _).mono ?_
 rintro e w3 ⟨rfl, hb⟩
 replace F := Box'.mk (F.out.below hb)
 clear hb
 clear c0 c1 cs0 cs1 cs2 cs3 cs4 cs5 cs6 cs7 cs8 cs9
 have cs0 : w3.cell? ⟨w.heap.size + 1, 0, none⟩ = some (.int .i64 s.fg) := F.out.rs.cell 0
 have cs1 : w3.cell? ⟨w.heap.size + 1, 1, none⟩ = some (.int .i64 s.bg) := F.out.rs.cell 1
 have cs2 : w3.cell? ⟨w.heap.size + 1, 2, none⟩ = some (.bool s.b1) := F.out.rs.cell 2
 have cs3 : w3.cell? ⟨w.heap.size + 1, 3, none⟩ = some (.bool s.b2) := F.out.rs.cell 3
 have cs4 : w3.cell? ⟨w.heap.size + 1, 4, none⟩ = some (.bool s.b3) := F.out.rs.cell 4
 have cs5 : w3.cell? ⟨w.heap.size + 1, 5, none⟩ = some (.bool s.b4) := F.out.rs.cell 5
 have cs6 : w3.cell? ⟨w.heap.size + 1, 6, none⟩ = some (.bool s.b5) := F.out.rs.cell 6
 have cs7 : w3.cell? ⟨w.heap.size + 1, 7, none⟩ = some (.bool s.b7) := F.out.rs.cell 7
 have cs8 : w3.cell? ⟨w.heap.size + 1, 8, none⟩ = some (.bool s.b8) := F.out.rs.cell 8
 have cs9 : w3.cell? ⟨w.heap.size + 1, 9, none⟩ = some (.bool s.b9) := F.out.rs.cell 9
 have c0 : w3.cell? ⟨w.heap.size, 0, none⟩ = some (.int .i64 co) := F.out.rg.cell 0
 have c1 : w3.cell? ⟨w.heap.size, 1, none⟩ = some (.int .i64 ro) := F.out.rg.cell 1
 go_wp2_with (first
  | (refine wpList_store_row rfl 24 (.tmp 10) (.tmp 37) rfl (w.heap.size + 2) rfl (gA 0 0 (.slice none 0 0)) rfl 24 3 F.out.rr S24.out rfl O.out ?_))
 exact bodyPost_ret (results_two rfl _ (w.heap.size + 2) rfl _ rfl _ _ (F.out.rr.setRow _) rfl) rfl ⟨rfl, below_setRow F.out.be (by omega) _⟩
set_option maxRecDepth 100000 in
set_option maxHeartbeats 8000000 in
theorem scroll_no2 (co ro : Int) (v : Value) (c : List Cl) (top bot k : Int) (s : St) (w : World) (hv : Cls w.heap.size w v c)  (hG : mayG co ro c = true) (hS : mayS s = true) (h2 : top < 0) :
  Calls Try.prog 16 #[.agg (gA co ro v), .int .i64 top, .int .i64 bot, .int .i64 k, .agg (sA s)] w fun e w' => e = .returned gErr ∧ Below w.heap.size w w' := by
 have MG : Box' (∀ wx, Below w.heap.size w wx → Calls Try.prog 20 #[.agg (gA co ro v)] wx fun e w' => e = .returned (.bool (mayG co ro c)) ∧ Below wx.heap.size wx w') := ⟨fun wx hb => gmay_any co ro v c wx ((hv.below hb (Nat.le_refl _)).up hb.size)⟩
 rw [hG] at MG
 have MS := Box'.mk (mayStyle15_any s)
 rw [hS] at MS
 have F := Box'.mk (FrG.begin w (gA co ro v) s)
 have U24 := Box'.mk Try.underlying24
 have S24 := Box'.mk s24g
 have O := Box'.mk (gA_one 0 0 none 0 0)
 clear hG hS
 clear hv
 go_enter Try.func16, Try.ntmps16
 go_upto_region 1 with (fail)
 generalize (((w.alloc (.cells (gA co ro v) 24)).alloc (.cells (sA s) 26)).alloc (.cells #[.int .i64 0, .int .i64 0, .slice none 0 0] 24)) = w1 at *
 go_wp2_with (first
  | (refine wpList_load_row rfl 24 (.tmp 5) rfl w.heap.size rfl 24 (gA co ro v) F.out.rg _ U24.out rfl 3 S24.out rfl ?_))
 refine (MG.out _ F.out.be).mono ?_
 rintro e w2 ⟨rfl, hb⟩
 replace F := Box'.mk (F.out.below hb)
 clear hb
 have cs0 : w2.cell? ⟨w.heap.size + 1, 0, none⟩ = some (.int .i64 s.fg) := F.out.rs.cell 0
 have cs1 : w2.cell? ⟨w.heap.size + 1, 1, none⟩ = some (.int .i64 s.bg) := F.out.rs.cell 1
 have cs2 : w2.cell? ⟨w.heap.size + 1, 2, none⟩ = some (.bool s.b1) := F.out.rs.cell 2
 have cs3 : w2.cell? ⟨w.heap.size + 1, 3, none⟩ = some (.bool s.b2) := F.out.rs.cell 3
 have cs4 : w2.cell? ⟨w.heap.size + 1, 4, none⟩ = some (.bool s.b3) := F.out.rs.cell 4
 have cs5 : w2.cell? ⟨w.heap.size + 1, 5, none⟩ = some (.bool s.b4) := F.out.rs.cell 5
 have cs6 : w2.cell? ⟨w.heap.size + 1, 6, none⟩ = some (.bool s.b5) := F.out.rs.cell 6
 have cs7 : w2.cell? ⟨w.heap.size + 1, 7, none⟩ = some (.bool s.b7) := F.out.rs.cell 7
 have cs8 : w2.cell? ⟨w.heap.size + 1, 8, none⟩ = some (.bool s.b8) := F.out.rs.cell 8
 have cs9 : w2.cell? ⟨w.heap.size + 1, 9, none⟩ = some (.bool s.b9) := F.out.rs.cell 9
 have c0 : w2.cell? ⟨w.heap.size, 0, none⟩ = some (.int .i64 co) := F.out.rg.cell 0
 have c1 : w2.cell? ⟨w.heap.size, 1, none⟩ = some (.int .i64 ro) := F.out.rg.cell 1
 go_wp2_with fail
 refine (MS.out _).mono ?_
 rintro e w3 ⟨rfl, hb⟩
 replace F := Box'.mk (F.out.below hb)
 clear hb
 clear c0 c1 cs0 cs1 cs2 cs3 cs4 cs5 cs6 cs7 cs8 cs9
 have cs0 : w3.cell? ⟨w.heap.size + 1, 0, none⟩ = some (.int .i64 s.fg) := F.out.rs.cell 0
 have cs1 : w3.cell? ⟨w.heap.size + 1, 1, none⟩ = some (.int .i64 s.bg) := F.out.rs.cell 1
 have cs2 : w3.cell? ⟨w.heap.size + 1, 2, none⟩ = some (.bool s.b1) := F.out.rs.cell 2
 have cs3 : w3.cell? ⟨w.heap.size + 1, 3, none⟩ = some (.bool s.b2) := F.out.rs.cell 3
 have cs4 : w3.cell? ⟨w.heap.size + 1, 4, none⟩ = some (.bool s.b3) := F.out.rs.cell 4
 have cs5 : w3.cell? ⟨w.heap.size + 1, 5, none⟩ = some (.bool s.b4) := F.out.rs.cell 5
 have cs6 : w3.cell? ⟨w.heap.size + 1, 6, none⟩ = some (.bool s.b5) := F.out.rs.cell 6
 have cs7 : w3.cell? ⟨w.heap.size + 1, 7, none⟩ = some (.bool s.b7) := F.out.rs.cell 7
 have cs8 : w3.cell? ⟨w.heap.size + 1, 8, none⟩ = some (.bool s.b8) := F.out.rs.cell 8
 have cs9 : w3.cell? ⟨w.heap.size + 1, 9, none⟩ = some (.bool s.b9) := F.out.rs.cell 9
 have c0 : w3.cell? ⟨w.heap.size, 0, none⟩ = some (.int .i64 co) := F.out.rg.cell 0
 have c1 : w3.cell? ⟨w.heap.size, 1, none⟩ = some (.int .i64 ro) := F.out.rg.cell 1
 go_wp2_with (first
  | (refine wpList_store_row rfl 24 (.tmp 10) (.tmp 37) rfl (w.heap.size + 2) rfl (gA 0 0 (.slice none 0 0)) rfl 24 3 F.out.rr S24.out rfl O.out ?_))
 exact bodyPost_ret (results_two rfl _ (w.heap.size + 2) rfl _ rfl _ _ (F.out.rr.setRow _) rfl) rfl ⟨rfl, below_setRow F.out.be (by omega) _⟩
set_option maxRecDepth 100000 in
set_option maxHeartbeats 8000000 in
theorem scroll_no3 (co ro : Int) (v : Value) (c : List Cl) (top bot k : Int) (s : St) (w : World) (hv : Cls w.heap.size w v c)  (hG : mayG co ro c = true) (hS : mayS s = true) (h2 : 0 ≤ top) (h3 : bot < top) :
  Calls Try.prog 16 #[.agg (gA co ro v), .int .i64 top, .int .i64 bot, .int .i64 k, .agg (sA s)] w fun e w' => e = .returned gErr ∧ Below w.heap.size w w' := by
 have MG : Box' (∀ wx, Below w.heap.size w wx → Calls Try.prog 20 #[.agg (gA co ro v)] wx fun e w' => e = .returned (.bool (mayG co ro c)) ∧ Below wx.heap.size wx w') := ⟨fun wx hb => gmay_any co ro v c wx ((hv.below hb (Nat.le_refl _)).up hb.size)⟩
 rw [hG] at MG
 have MS := Box'.mk (mayStyle15_any s)
 rw [hS] at MS
 have F := Box'.mk (FrG.begin w (gA co ro v) s)
 have U24 := Box'.mk Try.underlying24
 have S24 := Box'.mk s24g
 have O := Box'.mk (gA_one 0 0 none 0 0)
 clear hG hS
 clear hv
 go_enter Try.func16, Try.ntmps16
 go_upto_region 1 with (fail)
 generalize (((w.alloc (.cells (gA co ro v) 24)).alloc (.cells (sA s) 26)).alloc (.cells #[.int .i64 0, .int .i64 0, .slice none 0 0] 24)) = w1 at *
 go_wp2_with (first
  | (refine wpList_load_row rfl 24 (.tmp 5) rfl w.heap.size rfl 24 (gA co ro v) F.out.rg _ U24.out rfl 3 S24.out rfl ?_))
 refine (MG.out _ F.out.be).mono ?_
 rintro e w2 ⟨rfl, hb⟩
 replace F := Box'.mk (F.out.below hb)
 clear hb
 have cs0 : w2.cell? ⟨w.heap.size + 1, 0, none⟩ = some (.int .i64 s.fg) := F.out.rs.cell 0
 have cs1 : w2.cell? ⟨w.heap.size + 1, 1, none⟩ = some (.int .i64 s.bg) := F.out.rs.cell 1
 have cs2 : w2.cell? ⟨w.heap.size + 1, 2, none⟩ = some (.bool s.b1) := F.out.rs.cell 2
 have cs3 : w2.cell? ⟨w.heap.size + 1, 3, none⟩ = some (.bool s.b2) := F.out.rs.cell 3
 have cs4 : w2.cell? ⟨w.heap.size + 1, 4, none⟩ = some (.bool s.b3) := F.out.rs.cell 4
 have cs5 : w2.cell? ⟨w.heap.size + 1, 5, none⟩ = some (.bool s.b4) := F.out.rs.cell 5
 have cs6 : w2.cell? ⟨w.heap.size + 1, 6, none⟩ = some (.bool s.b5) := F.out.rs.cell 6
 have cs7 : w2.cell? ⟨w.heap.size + 1, 7, none⟩ = some (.bool s.b7) := F.out.rs.cell 7
 have cs8 : w2.cell? ⟨w.heap.size + 1, 8, none⟩ = some (.bool s.b8) := F.out.rs.cell 8
 have cs9 : w2.cell? ⟨w.heap.size + 1, 9, none⟩ = some (.bool s.b9) := F.out.rs.cell 9
 have c0 : w2.cell? ⟨w.heap.size, 0, none⟩ = some (.int .i64 co) := F.out.rg.cell 0
 have c1 : w2.cell? ⟨w.heap.size, 1, none⟩ = some (.int .i64 ro) := F.out.rg.cell 1
 go_wp2_with fail
 refine (MS.out _).mono ?_
 rintro e w3 ⟨rfl, hb⟩
 replace F := Box'.mk (F.out.below hb)
 clear hb
 clear c0 c1 cs0 cs1 cs2 cs3 cs4 cs5 cs6 cs7 cs8 cs9
 have cs0 : w3.cell? ⟨w.heap.size + 1, 0, none⟩ = some (.int .i64 s.fg) := F.out.rs.cell 0
 have cs1 : w3.cell? ⟨w.heap.size + 1, 1, none⟩ = some (.int .i64 s.bg) := F.out.rs.cell 1
 have cs2 : w3.cell? ⟨w.heap.size + 1, 2, none⟩ = some (.bool s.b1) := F.out.rs.cell 2
 have cs3 : w3.cell? ⟨w.heap.size + 1, 3, none⟩ = some (.bool s.b2) := F.out.rs.cell 3
 have cs4 : w3.cell? ⟨w.heap.size + 1, 4, none⟩ = some (.bool s.b3) := F.out.rs.cell 4
 have cs5 : w3.cell? ⟨w.heap.size + 1, 5, none⟩ = some (.bool s.b4) := F.out.rs.cell 5
 have cs6 : w3.cell? ⟨w.heap.size + 1, 6, none⟩ = some (.bool s.b5) := F.out.rs.cell 6
 have cs7 : w3.cell? ⟨w.heap.size + 1, 7, none⟩ = some (.bool s.b7) := F.out.rs.cell 7
 have cs8 : w3.cell? ⟨w.heap.size + 1, 8, none⟩ = some (.bool s.b8) := F.out.rs.cell 8
 have cs9 : w3.cell? ⟨w.heap.size + 1, 9, none⟩ = some (.bool s.b9) := F.out.rs.cell 9
 have c0 : w3.cell? ⟨w.heap.size, 0, none⟩ = some (.int .i64 co) := F.out.rg.cell 0
 have c1 : w3.cell? ⟨w.heap.size, 1, none⟩ = some (.int .i64 ro) := F.out.rg.cell 1
 go_wp2_with (first
  | (refine wpList_store_row rfl 24 (.tmp 10) (.tmp 37) rfl (w.heap.size + 2) rfl (gA 0 0 (.slice none 0 0)) rfl 24 3 F.out.rr S24.out rfl O.out ?_))
 exact bodyPost_ret (results_two rfl _ (w.heap.size + 2) rfl _ rfl _ _ (F.out.rr.setRow _) rfl) rfl ⟨rfl, below_setRow F.out.be (by omega) _⟩
set_option maxRecDepth 100000 in
set_option maxHeartbeats 8000000 in
theorem scroll_no4 (co ro : Int) (v : Value) (c : List Cl) (top bot k : Int) (s : St) (w : World) (hv : Cls w.heap.size w v c)  (hG : mayG co ro c = true) (hS : mayS s = true) (h2 : 0 ≤ top) (h3 : top ≤ bot) (h4 : ro ≤ bot) :
  Calls Try.prog 16 #[.agg (gA co ro v), .int .i64 top, .int .i64 bot, .int .i64 k, .agg (sA s)] w fun e w' => e = .returned gErr ∧ Below w.heap.size w w' := by
 have MG : Box' (∀ wx, Below w.heap.size w wx → Calls Try.prog 20 #[.agg (gA co ro v)] wx fun e w' => e = .returned (.bool (mayG co ro c)) ∧ Below wx.heap.size wx w') := ⟨fun wx hb => gmay_any co ro v c wx ((hv.below hb (Nat.le_refl _)).up hb.size)⟩
 rw [hG] at MG
 have MS := Box'.mk (mayStyle15_any s)
 rw [hS] at MS
 have F := Box'.mk (FrG.begin w (gA co ro v) s)
 have U24 := Box'.mk Try.underlying24
 have S24 := Box'.mk s24g
 have O := Box'.mk (gA_one 0 0 none 0 0)
 clear hG hS
 clear hv
 go_enter Try.func16, Try.ntmps16
 go_upto_region 1 with (fail)
 generalize (((w.alloc (.cells (gA co ro v) 24)).alloc (.cells (sA s) 26)).alloc (.cells #[.int .i64 0, .int .i64 0, .slice none 0 0] 24)) = w1 at *
 go_wp2_with (first
  | (refine wpList_load_row rfl 24 (.tmp 5) rfl w.heap.size rfl 24 (gA co ro v) F.out.rg _ U24.out rfl 3 S24.out rfl ?_))
 refine (MG.out _ F.out.be).mono ?_
 rintro e w2 ⟨rfl, hb⟩
 replace F := Box'.mk (F.out.below hb)
 clear hb
 have cs0 : w2.cell? ⟨w.heap.size + 1, 0, none⟩ = some (.int .i64 s.fg) := F.out.rs.cell 0
 have cs1 : w2.cell? ⟨w.heap.size + 1, 1, none⟩ = some (.int .i64 s.bg) := F.out.rs.cell 1
 have cs2 : w2.cell? ⟨w.heap.size + 1, 2, none⟩ = some (.bool s.b1) := F.out.rs.cell 2
 have cs3 : w2.cell? ⟨w.heap.size + 1, 3, none⟩ = some (.bool s.b2) := F.out.rs.cell 3
 have cs4 : w2.cell? ⟨w.heap.size + 1, 4, none⟩ = some (.bool s.b3) := F.out.rs.cell 4
 have cs5 : w2.cell? ⟨w.heap.size + 1, 5, none⟩ = some (.bool s.b4) := F.out.rs.cell 5
 have cs6 : w2.cell? ⟨w.heap.size + 1, 6, none⟩ = some (.bool s.b5) := F.out.rs.cell 6
 have cs7 : w2.cell? ⟨w.heap.size + 1, 7, none⟩ = some (.bool s.b7) := F.out.rs.cell 7
 have cs8 : w2.cell? ⟨w.heap.size + 1, 8, none⟩ = some (.bool s.b8) := F.out.rs.cell 8
 have cs9 : w2.cell? ⟨w.heap.size + 1, 9, none⟩ = some (.bool s.b9) := F.out.rs.cell 9
 have c0 : w2.cell? ⟨w.heap.size, 0, none⟩ = some (.int .i64 co) := F.out.rg.cell 0
 have c1 : w2.cell? ⟨w.heap.size, 1, none⟩ = some (.int .i64 ro) := F.out.rg.cell 1
 go_wp2_with fail
 refine (MS.out _).mono ?_
 rintro e w3 ⟨rfl, hb⟩
 replace F := Box'.mk (F.out.below hb)
 clear hb
 clear c0 c1 cs0 cs1 cs2 cs3 cs4 cs5 cs6 cs7 cs8 cs9
 have cs0 : w3.cell? ⟨w.heap.size + 1, 0, none⟩ = some (.int .i64 s.fg) := F.out.rs.cell 0
 have cs1 : w3.cell? ⟨w.heap.size + 1, 1, none⟩ = some (.int .i64 s.bg) := F.out.rs.cell 1
 have cs2 : w3.cell? ⟨w.heap.size + 1, 2, none⟩ = some (.bool s.b1) := F.out.rs.cell 2
 have cs3 : w3.cell? ⟨w.heap.size + 1, 3, none⟩ = some (.bool s.b2) := F.out.rs.cell 3
 have cs4 : w3.cell? ⟨w.heap.size + 1, 4, none⟩ = some (.bool s.b3) := F.out.rs.cell 4
 have cs5 : w3.cell? ⟨w.heap.size + 1, 5, none⟩ = some (.bool s.b4) := F.out.rs.cell 5
 have cs6 : w3.cell? ⟨w.heap.size + 1, 6, none⟩ = some (.bool s.b5) := F.out.rs.cell 6
 have cs7 : w3.cell? ⟨w.heap.size + 1, 7, none⟩ = some (.bool s.b7) := F.out.rs.cell 7
 have cs8 : w3.cell? ⟨w.heap.size + 1, 8, none⟩ = some (.bool s.b8) := F.out.rs.cell 8
 have cs9 : w3.cell? ⟨w.heap.size + 1, 9, none⟩ = some (.bool s.b9) := F.out.rs.cell 9
 have c0 : w3.cell? ⟨w.heap.size, 0, none⟩ = some (.int .i64 co) := F.out.rg.cell 0
 have c1 : w3.cell? ⟨w.heap.size, 1, none⟩ = some (.int .i64 ro) := F.out.rg.cell 1
 go_wp2_with (first
  | (refine wpList_store_row rfl 24 (.tmp 10) (.tmp 37) rfl (w.heap.size + 2) rfl (gA 0 0 (.slice none 0 0)) rfl 24 3 F.out.rr S24.out rfl O.out ?_))
 exact bodyPost_ret (results_two rfl _ (w.heap.size + 2) rfl _ rfl _ _ (F.out.rr.setRow _) rfl) rfl ⟨rfl, below_setRow F.out.be (by omega) _⟩
set_option maxRecDepth 100000 in
set_option maxHeartbeats 8000000 in
theorem resize_no0 (co ro : Int) (v : Value) (c : List Cl) (cols rows : Int) (s : St) (w : World) (hv : Cls w.heap.size w v c)  (hG : mayG co ro c = false) :
  Calls Try.prog 18 #[.agg (gA co ro v), .int .i64 cols, .int .i64 rows, .agg (sA s)] w fun e w' => e = .returned gErr ∧ Below w.heap.size w w' := by
 have MG : Box' (∀ wx, Below w.heap.size w wx → Calls Try.prog 20 #[.agg (gA co ro v)] wx fun e w' => e = .returned (.bool (mayG co ro c)) ∧ Below wx.heap.size wx w') := ⟨fun wx hb => gmay_any co ro v c wx ((hv.below hb (Nat.le_refl _)).up hb.size)⟩
 rw [hG] at MG
 have F := Box'.mk (FrG.begin w (gA co ro v) s)
 have U24 := Box'.mk Try.underlying24
 have S24 := Box'.mk s24g
 have O := Box'.mk (gA_one 0 0 none 0 0)
 clear hG
 clear hv
 go_enter Try.func18, Try.ntmps18
 go_upto_region 1 with (fail)
 generalize (((w.alloc (.cells (gA co ro v) 24)).alloc (.cells (sA s) 26)).alloc (.cells #[.int .i64 0, .int .i64 0, .slice none 0 0] 24)) = w1 at *
 go_wp2_with (first
  | (refine wpList_load_row rfl 24 (.tmp 4) rfl w.heap.size rfl 24 (gA co ro v) F.out.rg _ U24.out rfl 3 S24.out rfl ?_))
 refine (MG.out _ F.out.be).mono ?_
 rintro e w2 ⟨rfl, hb⟩
 replace F := Box'.mk (F.out.below hb)
 clear hb
 have cs0 : w2.cell? ⟨w.heap.size + 1, 0, none⟩ = some (.int .i64 s.fg) := F.out.rs.cell 0
 have cs1 : w2.cell? ⟨w.heap.size + 1, 1, none⟩ = some (.int .i64 s.bg) := F.out.rs.cell 1
 have cs2 : w2.cell? ⟨w.heap.size + 1, 2, none⟩ = some (.bool s.b1) := F.out.rs.cell 2
 have cs3 : w2.cell? ⟨w.heap.size + 1, 3, none⟩ = some (.bool s.b2) := F.out.rs.cell 3
 have cs4 : w2.cell? ⟨w.heap.size + 1, 4, none⟩ = some (.bool s.b3) := F.out.rs.cell 4
 have cs5 : w2.cell? ⟨w.heap.size + 1, 5, none⟩ = some (.bool s.b4) := F.out.rs.cell 5
 have cs6 : w2.cell? ⟨w.heap.size + 1, 6, none⟩ = some (.bool s.b5) := F.out.rs.cell 6
 have cs7 : w2.cell? ⟨w.heap.size + 1, 7, none⟩ = some (.bool s.b7) := F.out.rs.cell 7
 have cs8 : w2.cell? ⟨w.heap.size + 1, 8, none⟩ = some (.bool s.b8) := F.out.rs.cell 8
 have cs9 : w2.cell? ⟨w.heap.size + 1, 9, none⟩ = some (.bool s.b9) := F.out.rs.cell 9
 have c0 : w2.cell? ⟨w.heap.size, 0, none⟩ = some (.int .i64 co) := F.out.rg.cell 0
 have c1 : w2.cell? ⟨w.heap.size, 1, none⟩ = some (.int .i64 ro) := F.out.rg.cell 1
 go_wp2_with (first
  | (refine wpList_store_row rfl 24 (.tmp 8) (.tmp 27) rfl (w.heap.size + 2) rfl (gA 0 0 (.slice none 0 0)) rfl 24 3 F.out.rr S24.out rfl O.out ?_))
 exact bodyPost_ret (results_two rfl _ (w.heap.size + 2) rfl _ rfl _ _ (F.out.rr.setRow _) rfl) rfl ⟨rfl, below_setRow F.out.be (by omega) _⟩
set_option maxRecDepth 100000 in
set_option maxHeartbeats 8000000 in
theorem resize_no1 (co ro : Int) (v : Value) (c : List Cl) (cols rows : Int) (s : St) (w : World) (hv : Cls w.heap.size w v c)  (hG : mayG co ro c = true) (hS : mayS s = false) :
  Calls Try.prog 18 #[.agg (gA co ro v), .int .i64 cols, .int .i64 rows, .agg (sA s)] w fun e w' => e = .returned gErr ∧ Below w.heap.size w w' := by
 have MG : Box' (∀ wx, Below w.heap.size w wx → Calls Try.prog 20 #[.agg (gA co ro v)] wx fun e w' => e = .returned (.bool (mayG co ro c)) ∧ Below wx.heap.size wx w') := ⟨fun wx hb => gmay_any co ro v c wx ((hv.below hb (Nat.le_refl _)).up hb.size)⟩
 rw [hG] at MG
 have MS := Box'.mk (mayStyle15_any s)
 rw [hS] at MS
 have F := Box'.mk (FrG.begin w (gA co ro v) s)
 have U24 := Box'.mk Try.underlying24
 have S24 := Box'.mk s24g
 have O := Box'.mk (gA_one 0 0 none 0 0)
 clear hG hS
 clear hv
 go_enter Try.func18, Try.ntmps18
 go_upto_region 1 with (fail)
 generalize (((w.alloc (.cells (gA co ro v) 24)).alloc (.cells (sA s) 26)).alloc (.cells #[.int .i64 0, .int .i64 0, .slice none 0 0] 24)) = w1 at *
 go_wp2_with (first
  | (refine wpList_load_row rfl 24 (.tmp 4) rfl w.heap.size rfl 24 (gA co ro v) F.out.rg _ U24.out rfl 3 S24.out rfl ?_))
 refine (MG.out _ F.out.be).mono ?_
 rintro e w2 ⟨rfl, hb⟩
 replace F := Box'.mk (F.out.below hb)
 clear hb
 have cs0 : w2.cell? ⟨w.heap.size + 1, 0, none⟩ = some (.int .i64 s.fg) := F.out.rs.cell 0
 have cs1 : w2.cell? ⟨w.heap.size + 1, 1, none⟩ = some (.int .i64 s.bg) := F.out.rs.cell 1
 have cs2 : w2.cell? ⟨w.heap.size + 1, 2, none⟩ = some (.bool s.b1) := F.out.rs.cell 2
 have cs3 : w2.cell? ⟨w.heap.size + 1, 3, none⟩ = some (.bool s.b2) := F.out.rs.cell 3
 have cs4 : w2.cell? ⟨w.heap.size + 1, 4, none⟩ = some (.bool s.b3) := F.out.rs.cell 4
 have cs5 : w2.cell? ⟨w.heap.size + 1, 5, none⟩ = some (.bool s.b4) := F.out.rs.cell 5
 have cs6 : w2.cell? ⟨w.heap.size + 1, 6, none⟩ = some (.bool s.b5) := F.out.rs.cell 6
 have cs7 : w2.cell? ⟨w.heap.size + 1, 7, none⟩ = some (.bool s.b7) := F.out.rs.cell 7
 have cs8 : w2.cell? ⟨w.heap.size + 1, 8, none⟩ = some (.bool s.b8) := F.out.rs.cell 8
 have cs9 : w2.cell? ⟨w.heap.size + 1, 9, none⟩ = some (.bool s.b9) := F.out.rs.cell 9
 have c0 : w2.cell? ⟨w.heap.size, 0, none⟩ = some (.int .i64 co) := F.out.rg.cell 0
 have c1 : w2.cell? ⟨w.heap.size, 1, none⟩ = some (.int .i64 ro) := F.out.rg.cell 1
 go_wp2_with fail
 refine (MS.out _).mono ?_
 rintro e w3 ⟨rfl, hb⟩
 replace F := Box'.mk (F.out.below hb)
 clear hb
 clear c0 c1 cs0 cs1 cs2 cs3 cs4 cs5 cs6 cs7 cs8 cs9
 have cs0 : w3.cell? ⟨w.heap.size + 1, 0, none⟩ = some (.int .i64 s.fg) := F.out.rs.cell 0
 have cs1 : w3.cell? ⟨w.heap.size + 1, 1, none⟩ = some (.int .i64 s.bg) := F.out.rs.cell 1
 have cs2 : w3.cell? ⟨w.heap.size + 1, 2, none⟩ = some (.bool s.b1) := F.out.rs.cell 2
 have cs3 : w3.cell? ⟨w.heap.size + 1, 3, none⟩ = some (.bool s.b2) := F.out.rs.cell 3
 have cs4 : w3.cell? ⟨w.heap.size + 1, 4, none⟩ = some (.bool s.b3) := F.out.rs.cell 4
 have cs5 : w3.cell? ⟨w.heap.size + 1, 5, none⟩ = some (.bool s.b4) := F.out.rs.cell 5
 have cs6 : w3.cell? ⟨w.heap.size + 1, 6, none⟩ = some (.bool s.b5) := F.out.rs.cell 6
 have cs7 : w3.cell? ⟨w.heap.size + 1, 7, none⟩ = some (.bool s.b7) := F.out.rs.cell 7
 have cs8 : w3.cell? ⟨w.heap.size + 1, 8, none⟩ = some (.bool s.b8) := F.out.rs.cell 8
 have cs9 : w3.cell? ⟨w.heap.size + 1, 9, none⟩ = some (.bool s.b9) := F.out.rs.cell 9
 have c0 : w3.cell? ⟨w.heap.size, 0, none⟩ = some (.int .i64 co) := F.out.rg.cell 0
 have c1 : w3.cell? ⟨w.heap.size, 1, none⟩ = some (.int .i64 ro) := F.out.rg.cell 1
 go_wp2_with (first
  | (refine wpList_store_row rfl 24 (.tmp 8) (.tmp 27) rfl (w.heap.size + 2) rfl (gA 0 0 (.slice none 0 0)) rfl 24 3 F.out.rr S24.out rfl O.out ?_))
 exact bodyPost_ret (results_two rfl _ (w.heap.size + 2) rfl _ rfl _ _ (F.out.rr.setRow _) rfl) rfl ⟨rfl, below_setRow F.out.be (by omega) _⟩
set_option maxRecDepth 100000 in
set_option maxHeartbeats 8000000 in
theorem resize_no2 (co ro : Int) (v : Value) (c : List Cl) (cols rows : Int) (s : St) (w : World) (hv : Cls w.heap.size w v c)  (hG : mayG co ro c = true) (hS : mayS s = true) (h2 : (sideF cols && sideF rows) = false) :
  Calls Try.prog 18 #[.agg (gA co ro v), .int .i64 cols, .int .i64 rows, .agg (sA s)] w fun e w' => e = .returned gErr ∧ Below w.heap.size w w' := by
 have MG : Box' (∀ wx, Below w.heap.size w wx → Calls Try.prog 20 #[.agg (gA co ro v)] wx fun e w' => e = .returned (.bool (mayG co ro c)) ∧ Below wx.heap.size wx w') := ⟨fun wx hb => gmay_any co ro v c wx ((hv.below hb (Nat.le_refl _)).up hb.size)⟩
 rw [hG] at MG
 have MS := Box'.mk (mayStyle15_any s)
 rw [hS] at MS
 have IN2 := Box'.mk (maySize_any cols rows)
 rw [h2] at IN2
 have F := Box'.mk (FrG.begin w (gA co ro v) s)
 have U24 := Box'.mk Try.underlying24
 have S24 := Box'.mk s24g
 have O := Box'.mk (gA_one 0 0 none 0 0)
 clear hG hS h2
 clear hv
 go_enter Try.func18, Try.ntmps18
 go_upto_region 1 with (fail)
 generalize (((w.alloc (.cells (gA co ro v) 24)).alloc (.cells (sA s) 26)).alloc (.cells #[.int .i64 0, .int .i64 0, .slice none 0 0] 24)) = w1 at *
 go_wp2_with (first
  | (refine wpList_load_row rfl 24 (.tmp 4) rfl w.heap.size rfl 24 (gA co ro v) F.out.rg _ U24.out rfl 3 S24.out rfl ?_))
 refine (MG.out _ F.out.be).mono ?_
 rintro e w2 ⟨rfl, hb⟩
 replace F := Box'.mk (F.out.below hb)
 clear hb
 have cs0 : w2.cell? ⟨w.heap.size + 1, 0, none⟩ = some (.int .i64 s.fg) := F.out.rs.cell 0
 have cs1 : w2.cell? ⟨w.heap.size + 1, 1, none⟩ = some (.int .i64 s.bg) := F.out.rs.cell 1
 have cs2 : w2.cell? ⟨w.heap.size + 1, 2, none⟩ = some (.bool s.b1) := F.out.rs.cell 2
 have cs3 : w2.cell? ⟨w.heap.size + 1, 3, none⟩ = some (.bool s.b2) := F.out.rs.cell 3
 have cs4 : w2.cell? ⟨w.heap.size + 1, 4, none⟩ = some (.bool s.b3) := F.out.rs.cell 4
 have cs5 : w2.cell? ⟨w.heap.size + 1, 5, none⟩ = some (.bool s.b4) := F.out.rs.cell 5
 have cs6 : w2.cell? ⟨w.heap.size + 1, 6, none⟩ = some (.bool s.b5) := F.out.rs.cell 6
 have cs7 : w2.cell? ⟨w.heap.size + 1, 7, none⟩ = some (.bool s.b7) := F.out.rs.cell 7
 have cs8 : w2.cell? ⟨w.heap.size + 1, 8, none⟩ = some (.bool s.b8) := F.out.rs.cell 8
 have cs9 : w2.cell? ⟨w.heap.size + 1, 9, none⟩ = some (.bool s.b9) := F.out.rs.cell 9
 have c0 : w2.cell? ⟨w.heap.size, 0, none⟩ = some (.int .i64 co) := F.out.rg.cell 0
 have c1 : w2.cell? ⟨w.heap.size, 1, none⟩ = some (.int .i64 ro) := F.out.rg.cell 1
 go_wp2_with fail
 refine (MS.out _).mono ?_
 rintro e w3 ⟨rfl, hb⟩
 replace F := Box'.mk (F.out.below hb)
 clear hb
 clear c0 c1 cs0 cs1 cs2 cs3 cs4 cs5 cs6 cs7 cs8 cs9
 have cs0 : w3.cell? ⟨w.heap.size + 1, 0, none⟩ = some (.int .i64 s.fg) := F.out.rs.cell 0
 have cs1 : w3.cell? ⟨w.heap.size + 1, 1, none⟩ = some (.int .i64 s.bg) := F.out.rs.cell 1
 have cs2 : w3.cell? ⟨w.heap.size + 1, 2, none⟩ = some (.bool s.b1) := F.out.rs.cell 2
 have cs3 : w3.cell? ⟨w.heap.size + 1, 3, none⟩ = some (.bool s.b2) := F.out.rs.cell 3
 have cs4 : w3.cell? ⟨w.heap.size + 1, 4, none⟩ = some (.bool s.b3) := F.out.rs.cell 4
 have cs5 : w3.cell? ⟨w.heap.size + 1, 5, none⟩ = some (.bool s.b4) := F.out.rs.cell 5
 have cs6 : w3.cell? ⟨w.heap.size + 1, 6, none⟩ = some (.bool s.b5) := F.out.rs.cell 6
 have cs7 : w3.cell? ⟨w.heap.size + 1, 7, none⟩ = some (.bool s.b7) := F.out.rs.cell 7
 have cs8 : w3.cell? ⟨w.heap.size + 1, 8, none⟩ = some (.bool s.b8) := F.out.rs.cell 8
 have cs9 : w3.cell? ⟨w.heap.size + 1, 9, none⟩ = some (.bool s.b9) := F.out.rs.cell 9
 have c0 : w3.cell? ⟨w.heap.size, 0, none⟩ = some (.int .i64 co) := F.out.rg.cell 0
 have c1 : w3.cell? ⟨w.heap.size, 1, none⟩ = some (.int .i64 ro) := F.out.rg.cell 1
 go_wp2_with fail
 refine (IN2.out _).mono ?_
 rintro e w4 ⟨rfl, rfl⟩
 go_wp2_with (first
  | (refine wpList_store_row rfl 24 (.tmp 8) (.tmp 27) rfl (w.heap.size + 2) rfl (gA 0 0 (.slice none 0 0)) rfl 24 3 F.out.rr S24.out rfl O.out ?_))
 exact bodyPost_ret (results_two rfl _ (w.heap.size + 2) rfl _ rfl _ _ (F.out.rr.setRow _) rfl) rfl ⟨rfl, below_setRow F.out.be (by omega) _⟩
end Go.Proofs.Ytnbonlkmadmpcaa
