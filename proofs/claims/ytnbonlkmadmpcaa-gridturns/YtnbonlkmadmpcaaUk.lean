/- The reference's look at what a change is given. The reference's Copy. The reference's Same, where both grids hold the same. What the reference's Scroll refuses. Two lists, the one up to a place, the other from there: how the reference's Scroll goes on. The reference's Scroll, its good way. -/
import Derived.Test.YtnbonlkmadmpcaaQd
import Derived.Test.YtnbonlkmadmpcaaSk
import Derived.Test.YtnbonlkmadmpcaaNj
import Derived.Test.YtnbonlkmadmpcaaRb
import Derived.Test.YtnbonlkmadmpcaaGy
import Derived.Test.YtnbonlkmadmpcaaQk
import Derived.Test.YtnbonlkmadmpcaaNk
import Derived.Test.YtnbonlkmadmpcaaMz
namespace Go.Proofs.Ytnbonlkmadmpcaa
open Go.RowKit Go.BigFrame
set_option linter.unusedVariables false
set_option linter.unusedSimpArgs false
/-- What stands while the reference looks: the grid, the style. -/
structure FrB (w : World) (g : Array Value) (s : St) (wr : World) : Prop where
 rg : Row wr w.heap.size 24 g
 rs : Row wr (w.heap.size + 1) 26 (sA s)
 be : Below w.heap.size w wr
theorem FrB.begin (w : World) (g : Array Value) (s : St) : FrB w g s ((w.alloc (.cells g 24)).alloc (.cells (sA s) 26)) :=
 ⟨(Row.new _ _ _).alloc _, Row.made _ _ _ _ _ rfl (by simp), ((Below.refl w.heap.size w).alloc (Nat.le_refl _) _).alloc (by simp) _⟩
theorem FrB.below {w : World} {g : Array Value} {s : St} {wr w' : World} (h : FrB w g s wr) (hb : Below wr.heap.size wr w') : FrB w g s w' :=
 ⟨h.rg.below hb h.rg.lt, h.rs.below hb h.rs.lt, h.be.trans (hb.mono h.be.size)⟩
/-- What a change may not be given. -/
def badF (co ro : Int) (c : List Cl) (s : St) (n : Int) : Bool := !mayG co ro c || !mayS s || decide (n < 0) || decide (ro ≤ n)
set_option maxRecDepth 100000 in
set_option maxHeartbeats 8000000 in
theorem rbad_0 (co ro : Int) (v : Value) (c : List Cl) (s : St) (n : Int) (w : World) (hv : Cls w.heap.size w v c) (hG : mayG co ro c = false) :
  Calls Try.prog 37 #[.agg (gA co ro v), .agg (sA s), .int .i64 n] w fun e w' => e = .returned (.bool true) ∧ Below w.heap.size w w' := by
 have MG : Box' (∀ wx, Below w.heap.size w wx → Calls Try.prog 21 #[.agg (gA co ro v)] wx fun e w' => e = .returned (.bool (mayG co ro c)) ∧ Below wx.heap.size wx w') := ⟨fun wx hb => rmayg_any co ro v c wx ((hv.below hb (Nat.le_refl _)).up hb.size)⟩
 have MS := Box'.mk (refMayStyle_any s)
 rw [hG] at MG
 clear hG
 have F := Box'.mk (FrB.begin w (gA co ro v) s)
 have U24 := Box'.mk Try.underlying24
 have S24 := Box'.mk s24g
 clear hv
 go_enter Try.func37, Try.ntmps37
 go_upto_region 1 with (fail)
 generalize ((w.alloc (.cells (gA co ro v) 24)).alloc (.cells (sA s) 26)) = w1 at *
 go_wp2_with (first
  | (refine wpList_load_row rfl 24 (.tmp 3) rfl w.heap.size rfl 24 (gA co ro v) F.out.rg _ U24.out rfl 3 S24.out rfl ?_))
 refine (MG.out _ F.out.be).mono ?_
 rintro e w2 ⟨rfl, hb⟩
 replace F := Box'.mk (F.out.below hb)
 clear hb
 go_wp2_with fail
 go_ret
 exact ⟨rfl, F.out.be⟩
set_option maxRecDepth 100000 in
set_option maxHeartbeats 8000000 in
theorem rbad_1 (co ro : Int) (v : Value) (c : List Cl) (s : St) (n : Int) (w : World) (hv : Cls w.heap.size w v c) (hG : mayG co ro c = true) (hS : mayS s = false) :
  Calls Try.prog 37 #[.agg (gA co ro v), .agg (sA s), .int .i64 n] w fun e w' => e = .returned (.bool true) ∧ Below w.heap.size w w' := by
 have MG : Box' (∀ wx, Below w.heap.size w wx → Calls Try.prog 21 #[.agg (gA co ro v)] wx fun e w' => e = .returned (.bool (mayG co ro c)) ∧ Below wx.heap.size wx w') := ⟨fun wx hb => rmayg_any co ro v c wx ((hv.below hb (Nat.le_refl _)).up hb.size)⟩
 have MS := Box'.mk (refMayStyle_any s)
 rw [hG] at MG
 rw [hS] at MS
 clear hG hS
 have F := Box'.mk (FrB.begin w (gA co ro v) s)
 have U24 := Box'.mk Try.underlying24
 have S24 := Box'.mk s24g
 clear hv
 go_enter Try.func37, Try.ntmps37
 go_upto_region 1 with (fail)
 generalize ((w.alloc (.cells (gA co ro v) 24)).alloc (.cells (sA s) 26)) = w1 at *
 go_wp2_with (first
  | (refine wpList_load_row rfl 24 (.tmp 3) rfl w.heap.size rfl 24 (gA co ro v) F.out.rg _ U24.out rfl 3 S24.out rfl ?_))
 refine (MG.out _ F.out.be).mono ?_
 rintro e w2 ⟨rfl, hb⟩
 replace F := Box'.mk (F.out.below hb)
 clear hb
 have cs0 : w2.cell? ⟨w.heap.size + 1, 0, none⟩ = some (.int .i64 s.fg) := F.out.rs.cell 0
 have cs1 : w2.cell? ⟨w.heap.size + 1, 1, none⟩ = some (.int .i64 s.bg) := F.out.rs.cell 1
 have cs2 : w2.cell? ⟨w.heap.size + 1, 2, none⟩ = some (.bool s.b1) := F.out.rs.cell 2
 have cs3 : w2.cell? ⟨w.heap.size + 1, 3, none⟩ = some (.bool s.b2) := F.out.rs.cell 3
 have cs4 : w2.cell? ⟨w.heap.size + 1, 4, none⟩ = some (.bool s.b3) := F.out.rs.cell 4
 have cs5 : w2.cell? ⟨w.heap.size + 1, 5, none⟩ = some (.bool s.b4) := F.out.rs.cell 5
 have cs6 : w2.cell? ⟨w.heap.size + 1, 6, none⟩ = some (.bool s.b5) := F.out.rs.cell 6
 have cs7 : w2.cell? ⟨w.heap.size + 1, 7, none⟩ = some (.bool s.b7) := F.out.rs.cell 7
 have cs8 : w2.cell? ⟨w.heap.size + 1, 8, none⟩ = some (.bool s.b8) := F.out.rs.cell 8
 have cs9 : w2.cell? ⟨w.heap.size + 1, 9, none⟩ = some (.bool s.b9) := F.out.rs.cell 9
 have c0 : w2.cell? ⟨w.heap.size, 0, none⟩ = some (.int .i64 co) := F.out.rg.cell 0
 have c1 : w2.cell? ⟨w.heap.size, 1, none⟩ = some (.int .i64 ro) := F.out.rg.cell 1
 go_wp2_with fail
 refine (MS.out _).mono ?_
 rintro e w3 ⟨rfl, hb⟩
 replace F := Box'.mk (F.out.below hb)
 clear hb
 clear c0 c1 cs0 cs1 cs2 cs3 cs4 cs5 cs6 cs7 cs8 cs9
 have cs0 : w3.cell? ⟨w.heap.size + 1, 0, none⟩ = some (.int .i64 s.fg) := F.out.rs.cell 0
 have cs1 : w3.cell? ⟨w.heap.size + 1, 1, none⟩ = some (.int .i64 s.bg) := F.out.rs.cell 1
 have cs2 : w3.cell? ⟨w.heap.size + 1, 2, none⟩ = some (.bool s.b1) := F.out.rs.cell 2
 have cs3 : w3.cell? ⟨w.heap.size + 1, 3, none⟩ = some (.bool s.b2) := F.out.rs.cell 3
 have cs4 : w3.cell? ⟨w.heap.size + 1, 4, none⟩ = some (.bool s.b3) := F.out.rs.cell 4
 have cs5 : w3.cell? ⟨w.heap.size + 1, 5, none⟩ = some (.bool s.b4) := F.out.rs.cell 5
 have cs6 : w3.cell? ⟨w.heap.size + 1, 6, none⟩ = some (.bool s.b5) := F.out.rs.cell 6
 have cs7 : w3.cell? ⟨w.heap.size + 1, 7, none⟩ = some (.bool s.b7) := F.out.rs.cell 7
 have cs8 : w3.cell? ⟨w.heap.size + 1, 8, none⟩ = some (.bool s.b8) := F.out.rs.cell 8
 have cs9 : w3.cell? ⟨w.heap.size + 1, 9, none⟩ = some (.bool s.b9) := F.out.rs.cell 9
 have c0 : w3.cell? ⟨w.heap.size, 0, none⟩ = some (.int .i64 co) := F.out.rg.cell 0
 have c1 : w3.cell? ⟨w.heap.size, 1, none⟩ = some (.int .i64 ro) := F.out.rg.cell 1
 go_wp2_with fail
 go_ret
 exact ⟨rfl, F.out.be⟩
set_option maxRecDepth 100000 in
set_option maxHeartbeats 8000000 in
theorem rbad_2 (co ro : Int) (v : Value) (c : List Cl) (s : St) (n : Int) (w : World) (hv : Cls w.heap.size w v c) (hG : mayG co ro c = true) (hS : mayS s = true) (hn : n < 0) :
  Calls Try.prog 37 #[.agg (gA co ro v), .agg (sA s), .int .i64 n] w fun e w' => e = .returned (.bool true) ∧ Below w.heap.size w w' := by
 have MG : Box' (∀ wx, Below w.heap.size w wx → Calls Try.prog 21 #[.agg (gA co ro v)] wx fun e w' => e = .returned (.bool (mayG co ro c)) ∧ Below wx.heap.size wx w') := ⟨fun wx hb => rmayg_any co ro v c wx ((hv.below hb (Nat.le_refl _)).up hb.size)⟩
 have MS := Box'.mk (refMayStyle_any s)
 rw [hG] at MG
 rw [hS] at MS
 clear hG hS
 have F := Box'.mk (FrB.begin w (gA co ro v) s)
 have U24 := Box'.mk Try.underlying24
 have S24 := Box'.mk s24g
 clear hv
 go_enter Try.func37, Try.ntmps37
 go_upto_region 1 with (fail)
 generalize ((w.alloc (.cells (gA co ro v) 24)).alloc (.cells (sA s) 26)) = w1 at *
 go_wp2_with (first
  | (refine wpList_load_row rfl 24 (.tmp 3) rfl w.heap.size rfl 24 (gA co ro v) F.out.rg _ U24.out rfl 3 S24.out rfl ?_))
 refine (MG.out _ F.out.be).mono ?_
 rintro e w2 ⟨rfl, hb⟩
 replace F := Box'.mk (F.out.below hb)
 clear hb
 have cs0 : w2.cell? ⟨w.heap.size + 1, 0, none⟩ = some (.int .i64 s.fg) := F.out.rs.cell 0
 have cs1 : w2.cell? ⟨w.heap.size + 1, 1, none⟩ = some (.int .i64 s.bg) := F.out.rs.cell 1
 have cs2 : w2.cell? ⟨w.heap.size + 1, 2, none⟩ = some (.bool s.b1) := F.out.rs.cell 2
 have cs3 : w2.cell? ⟨w.heap.size + 1, 3, none⟩ = some (.bool s.b2) := F.out.rs.cell 3
 have cs4 : w2.cell? ⟨w.heap.size + 1, 4, none⟩ = some (.bool s.b3) := F.out.rs.cell 4
 have cs5 : w2.cell? ⟨w.heap.size + 1, 5, none⟩ = some (.bool s.b4) := F.out.rs.cell 5
 have cs6 : w2.cell? ⟨w.heap.size + 1, 6, none⟩ = some (.bool s.b5) := F.out.rs.cell 6
 have cs7 : w2.cell? ⟨w.heap.size + 1, 7, none⟩ = some (.bool s.b7) := F.out.rs.cell 7
 have cs8 : w2.cell? ⟨w.heap.size + 1, 8, none⟩ = some (.bool s.b8) := F.out.rs.cell 8
 have cs9 : w2.cell? ⟨w.heap.size + 1, 9, none⟩ = some (.bool s.b9) := F.out.rs.cell 9
 have c0 : w2.cell? ⟨w.heap.size, 0, none⟩ = some (.int .i64 co) := F.out.rg.cell 0
 have c1 : w2.cell? ⟨w.heap.size, 1, none⟩ = some (.int .i64 ro) := F.out.rg.cell 1
 go_wp2_with fail
 refine (MS.out _).mono ?_
 rintro e w3 ⟨rfl, hb⟩
 replace F := Box'.mk (F.out.below hb)
 clear hb
 clear c0 c1 cs0 cs1 cs2 cs3 cs4 cs5 cs6 cs7 cs8 cs9
 have cs0 : w3.cell? ⟨w.heap.size + 1, 0, none⟩ = some (.int .i64 s.fg) := F.out.rs.cell 0
 have cs1 : w3.cell? ⟨w.heap.size + 1, 1, none⟩ = some (.int .i64 s.bg) := F.out.rs.cell 1
 have cs2 : w3.cell? ⟨w.heap.size + 1, 2, none⟩ = some (.bool s.b1) := F.out.rs.cell 2
 have cs3 : w3.cell? ⟨w.heap.size + 1, 3, none⟩ = some (.bool s.b2) := F.out.rs.cell 3
 have cs4 : w3.cell? ⟨w.heap.size + 1, 4, none⟩ = some (.bool s.b3) := F.out.rs.cell 4
 have cs5 : w3.cell? ⟨w.heap.size + 1, 5, none⟩ = some (.bool s.b4) := F.out.rs.cell 5
 have cs6 : w3.cell? ⟨w.heap.size + 1, 6, none⟩ = some (.bool s.b5) := F.out.rs.cell 6
 have cs7 : w3.cell? ⟨w.heap.size + 1, 7, none⟩ = some (.bool s.b7) := F.out.rs.cell 7
 have cs8 : w3.cell? ⟨w.heap.size + 1, 8, none⟩ = some (.bool s.b8) := F.out.rs.cell 8
 have cs9 : w3.cell? ⟨w.heap.size + 1, 9, none⟩ = some (.bool s.b9) := F.out.rs.cell 9
 have c0 : w3.cell? ⟨w.heap.size, 0, none⟩ = some (.int .i64 co) := F.out.rg.cell 0
 have c1 : w3.cell? ⟨w.heap.size, 1, none⟩ = some (.int .i64 ro) := F.out.rg.cell 1
 go_wp2_with fail
 go_ret
 exact ⟨rfl, F.out.be⟩
set_option maxRecDepth 100000 in
set_option maxHeartbeats 8000000 in
theorem rbad_3 (co ro : Int) (v : Value) (c : List Cl) (s : St) (n : Int) (w : World) (hv : Cls w.heap.size w v c) (hG : mayG co ro c = true) (hS : mayS s = true) (hn : 0 ≤ n) :
  Calls Try.prog 37 #[.agg (gA co ro v), .agg (sA s), .int .i64 n] w fun e w' => e = .returned (.bool (decide (n < 0) || decide (ro ≤ n))) ∧ Below w.heap.size w w' := by
 have MG : Box' (∀ wx, Below w.heap.size w wx → Calls Try.prog 21 #[.agg (gA co ro v)] wx fun e w' => e = .returned (.bool (mayG co ro c)) ∧ Below wx.heap.size wx w') := ⟨fun wx hb => rmayg_any co ro v c wx ((hv.below hb (Nat.le_refl _)).up hb.size)⟩
 have MS := Box'.mk (refMayStyle_any s)
 rw [hG] at MG
 rw [hS] at MS
 clear hG hS
 have F := Box'.mk (FrB.begin w (gA co ro v) s)
 have U24 := Box'.mk Try.underlying24
 have S24 := Box'.mk s24g
 clear hv
 go_enter Try.func37, Try.ntmps37
 go_upto_region 1 with (fail)
 generalize ((w.alloc (.cells (gA co ro v) 24)).alloc (.cells (sA s) 26)) = w1 at *
 go_wp2_with (first
  | (refine wpList_load_row rfl 24 (.tmp 3) rfl w.heap.size rfl 24 (gA co ro v) F.out.rg _ U24.out rfl 3 S24.out rfl ?_))
 refine (MG.out _ F.out.be).mono ?_
 rintro e w2 ⟨rfl, hb⟩
 replace F := Box'.mk (F.out.below hb)
 clear hb
 have cs0 : w2.cell? ⟨w.heap.size + 1, 0, none⟩ = some (.int .i64 s.fg) := F.out.rs.cell 0
 have cs1 : w2.cell? ⟨w.heap.size + 1, 1, none⟩ = some (.int .i64 s.bg) := F.out.rs.cell 1
 have cs2 : w2.cell? ⟨w.heap.size + 1, 2, none⟩ = some (.bool s.b1) := F.out.rs.cell 2
 have cs3 : w2.cell? ⟨w.heap.size + 1, 3, none⟩ = some (.bool s.b2) := F.out.rs.cell 3
 have cs4 : w2.cell? ⟨w.heap.size + 1, 4, none⟩ = some (.bool s.b3) := F.out.rs.cell 4
 have cs5 : w2.cell? ⟨w.heap.size + 1, 5, none⟩ = some (.bool s.b4) := F.out.rs.cell 5
 have cs6 : w2.cell? ⟨w.heap.size + 1, 6, none⟩ = some (.bool s.b5) := F.out.rs.cell 6
 have cs7 : w2.cell? ⟨w.heap.size + 1, 7, none⟩ = some (.bool s.b7) := F.out.rs.cell 7
 have cs8 : w2.cell? ⟨w.heap.size + 1, 8, none⟩ = some (.bool s.b8) := F.out.rs.cell 8
 have cs9 : w2.cell? ⟨w.heap.size + 1, 9, none⟩ = some (.bool s.b9) := F.out.rs.cell 9
 have c0 : w2.cell? ⟨w.heap.size, 0, none⟩ = some (.int .i64 co) := F.out.rg.cell 0
 have c1 : w2.cell? ⟨w.heap.size, 1, none⟩ = some (.int .i64 ro) := F.out.rg.cell 1
 go_wp2_with fail
 refine (MS.out _).mono ?_
 rintro e w3 ⟨rfl, hb⟩
 replace F := Box'.mk (F.out.below hb)
 clear hb
 clear c0 c1 cs0 cs1 cs2 cs3 cs4 cs5 cs6 cs7 cs8 cs9
 have cs0 : w3.cell? ⟨w.heap.size + 1, 0, none⟩ = some (.int .i64 s.fg) := F.out.rs.cell 0
 have cs1 : w3.cell? ⟨w.heap.size + 1, 1, none⟩ = some (.int .i64 s.bg) := F.out.rs.cell 1
 have cs2 : w3.cell? ⟨w.heap.size + 1, 2, none⟩ = some (.bool s.b1) := F.out.rs.cell 2
 have cs3 : w3.cell? ⟨w.heap.size + 1, 3, none⟩ = some (.bool s.b2) := F.out.rs.cell 3
 have cs4 : w3.cell? ⟨w.heap.size + 1, 4, none⟩ = some (.bool s.b3) := F.out.rs.cell 4
 have cs5 : w3.cell? ⟨w.heap.size + 1, 5, none⟩ = some (.bool s.b4) := F.out.rs.cell 5
 have cs6 : w3.cell? ⟨w.heap.size + 1, 6, none⟩ = some (.bool s.b5) := F.out.rs.cell 6
 have cs7 : w3.cell? ⟨w.heap.size + 1, 7, none⟩ = some (.bool s.b7) := F.out.rs.cell 7
 have cs8 : w3.cell? ⟨w.heap.size + 1, 8, none⟩ = some (.bool s.b8) := F.out.rs.cell 8
 have cs9 : w3.cell? ⟨w.heap.size + 1, 9, none⟩ = some (.bool s.b9) := F.out.rs.cell 9
 have c0 : w3.cell? ⟨w.heap.size, 0, none⟩ = some (.int .i64 co) := F.out.rg.cell 0
 have c1 : w3.cell? ⟨w.heap.size, 1, none⟩ = some (.int .i64 ro) := F.out.rg.cell 1
 go_wp2_with fail
 go_ret
 exact ⟨rfl, F.out.be⟩
theorem rbad_any (co ro : Int) (v : Value) (c : List Cl) (s : St) (n : Int) (w : World) (hv : Cls w.heap.size w v c) :
  Calls Try.prog 37 #[.agg (gA co ro v), .agg (sA s), .int .i64 n] w fun e w' => e = .returned (.bool (badF co ro c s n)) ∧ Below w.heap.size w w' := by
 unfold badF
 cases hG : mayG co ro c with
 | false => exact rbad_0 co ro v c s n w hv hG
 | true =>
  cases hS : mayS s with
  | false => exact rbad_1 co ro v c s n w hv hG hS
  | true =>
   by_cases hn : n < 0
   ·have := rbad_2 co ro v c s n w hv hG hS hn
    simpa [hn] using this
   ·have := rbad_3 co ro v c s n w hv hG hS (by omega)
    simpa [hn] using this
end Go.Proofs.Ytnbonlkmadmpcaa
namespace Go.Proofs.Ytnbonlkmadmpcaa
open Go.RowKit Go.BigFrame
set_option linter.unusedVariables false
set_option linter.unusedSimpArgs false
theorem OwnC.setBelow {N : Nat} {w : World} {v : Value} {l : List Cl} (h : OwnC N w v l) (a : Addr) (u : Value) (ha : a.block < N) : OwnC N (w.setCell a u) v l := ownsRow_setCell_below h ha u
theorem OwnC.setRowBelow {N : Nat} {w : World} {v : Value} {l : List Cl} (h : OwnC N w v l) (g : Nat) (c' : Array Value) (hg : g < N) : OwnC N (w.setRow g c') v l := by
 refine ⟨h.1, ?_⟩
 rcases h.2 with h2 | ⟨k, cap, cur, e1, e2, e3, e4⟩
 ·exact .inl h2
 ·exact .inr ⟨k, cap, cur, e1, e2, by rw [setRow_other _ _ _ _ (by omega)]; exact e3, e4⟩
set_option maxRecDepth 100000 in
set_option maxHeartbeats 8000000 in
theorem rcopy_any (co ro : Int) (v : Value) (c : List Cl) (w : World) (hv : Cls w.heap.size w v c) (hnil : c = [] → v = .slice none 0 0 ∨ ∃ ad k, v = .slice (some ad) 0 k) (hm : c.length * 48 ≤ 140737488355328) :
  Calls Try.prog 25 #[.agg (gA co ro v)] w fun e w' => ∃ v', e = .returned (.agg (gA co ro v')) ∧ OwnC w.heap.size w' v' c ∧ Below w.heap.size w w' := by
 have R1 := Box'.mk ((Row.new w 24 (gA co ro v)).alloc (.cells #[.int .i64 0, .int .i64 0, .slice none 0 0] 24))
 have RM : Box' (Room ((w.alloc (.cells (gA co ro v) 24)).alloc (.cells #[.int .i64 0, .int .i64 0, .slice none 0 0] 24)) (w.heap.size + 1) 24 3) := ⟨Room.made _ _ _ _ _ rfl (by simp)⟩
 have B1 : Box' (Below w.heap.size w ((w.alloc (.cells (gA co ro v) 24)).alloc (.cells #[.int .i64 0, .int .i64 0, .slice none 0 0] 24))) := ⟨((Below.refl w.heap.size w).alloc (Nat.le_refl _) _).alloc (by simp) _⟩
 have Z1 : Box' (((w.alloc (.cells (gA co ro v) 24)).alloc (.cells #[.int .i64 0, .int .i64 0, .slice none 0 0] 24)).heap.size = w.heap.size + 2) := ⟨by simp⟩
 have HV := Box'.mk hv
 have HN := Box'.mk hnil
 have U24 := Box'.mk Try.underlying24
 have S24 := Box'.mk s24g
 clear hv hnil
 go_enter Try.func25, Try.ntmps25
 go_upto_region 1 with (fail)
 generalize ((w.alloc (.cells (gA co ro v) 24)).alloc (.cells #[.int .i64 0, .int .i64 0, .slice none 0 0] 24)) = w1 at *
 have CA : (w1.alloc (.cells #[] 49)).cell? ⟨w.heap.size, 2, none⟩ = some v := (R1.out.alloc _).cell 2
 have RA := Box'.mk (R1.out.alloc (.cells #[] 49))
 have MA := Box'.mk (RM.out.alloc (.cells #[] 49))
 have BA : Box' (Below w.heap.size w (w1.alloc (.cells #[] 49))) := ⟨B1.out.alloc (by have := Z1.out; omega) _⟩
 have HVa : Box' (Cls w.heap.size (w1.alloc (.cells #[] 49)) v c) := ⟨HV.out.below BA.out (Nat.le_refl _)⟩
 have OM := Box'.mk (OwnC.made w1)
 have HM : Box' ((([] : List Cl).length + c.length) * 48 ≤ 140737488355328) := ⟨by rw [List.length_nil, Nat.zero_add]; exact hm⟩
 have HS : Box' (w1.heap.size ≤ (w1.alloc (.cells #[] 49)).heap.size) := ⟨by simp⟩
 clear hm
 go_upto_region 2 with (first
  | (refine wpList_appC rfl (.tmp 3) (.tmp 5) rfl w1.heap.size w.heap.size HS.out (.slice (some ⟨w1.heap.size, 0, none⟩) 0 0) [] rfl OM.out v c rfl HVa.out HN.out HM.out ?_
     intro v2 w2 O2 G2 B2
     have R2 := Box'.mk (RA.out.below B2 (by have := Z1.out; omega))
     have M2 := Box'.mk (MA.out.below B2 (by have := Z1.out; omega))
     have BB : Box' (Below w.heap.size w w2) := ⟨BA.out.trans (B2.mono (by have := Z1.out; omega))⟩
     have c3 : w2.cell? ⟨w.heap.size, 2, none⟩ = some v := R2.out.cell 2
     have f3 := R2.out.frozen 2
     rw [List.nil_append] at O2
     obtain ⟨a2, k2, rfl, hk2⟩ := O2.slice
     replace O2 := Box'.mk (O2.down (show w.heap.size + 2 ≤ w1.heap.size by rw [Z1.out]; omega))
     clear G2 B2 CA RA MA BA HVa OM HS R1 RM B1 HV HN))
 have R4 : Box' (Row (w2.setCell ⟨w.heap.size, 2, none⟩ (.slice a2 c.length k2)) w.heap.size 24 (gA co ro (.slice a2 c.length k2))) := ⟨R2.out.setCell 2 _⟩
 have M4 : Box' (Room (w2.setCell ⟨w.heap.size, 2, none⟩ (.slice a2 c.length k2)) (w.heap.size + 1) 24 3) := ⟨M2.out.setOther _ _ (by simp)⟩
 have B4 : Box' (Below w.heap.size w (w2.setCell ⟨w.heap.size, 2, none⟩ (.slice a2 c.length k2))) := ⟨BB.out.setCell (p := ⟨w.heap.size, 2, none⟩) (Nat.le_refl _) _⟩
 have O : Box' ((gA co ro (.slice a2 c.length k2)).all (·.oneCell') = true) := ⟨gA_one _ _ _ _ _⟩
 have O4 : Box' (OwnC (w.heap.size + 2) (w2.setCell ⟨w.heap.size, 2, none⟩ (.slice a2 c.length k2)) (.slice a2 c.length k2) c) := ⟨O2.out.setBelow _ _ (by show w.heap.size < w.heap.size + 2; omega)⟩
 clear R2 M2 BB O2 c3 f3
 generalize (w2.setCell ⟨w.heap.size, 2, none⟩ (.slice a2 c.length k2)) = w4 at *
 go_wp2_with (first
  | (refine wpList_load_row rfl 24 (.tmp 1) rfl w.heap.size rfl 24 (gA co ro (.slice a2 c.length k2)) R4.out _ U24.out rfl 3 S24.out rfl ?_)
  | (refine wpList_store_row rfl 24 (.tmp 2) (.tmp 8) rfl (w.heap.size + 1) rfl (gA co ro (.slice a2 c.length k2)) rfl 24 3 M4.out S24.out rfl O.out ?_))
 exact bodyPost_ret (results_row (p := 2) (ty := 24) (fn := Try.f25) rfl _ (w.heap.size + 1) rfl 24 _ (M4.out.setRow _) _ Try.underlying24 rfl 3 s24g rfl) rfl ⟨_, rfl, (O4.out.setRowBelow _ _ (by omega)).down (by omega), below_setRow B4.out (by omega) _⟩
end Go.Proofs.Ytnbonlkmadmpcaa
namespace Go.Proofs.Ytnbonlkmadmpcaa
open Go.RowKit Go.BigFrame
set_option linter.unusedVariables false
set_option linter.unusedSimpArgs false
/-- Both grids stand. -/
structure SaM (w : World) (g h : Array Value) (wr : World) : Prop where
 rg : Row wr w.heap.size 24 g
 rh : Row wr (w.heap.size + 1) 24 h
 be : Below w.heap.size w wr
theorem SaM.begin (w : World) (g h : Array Value) : SaM w g h ((w.alloc (.cells g 24)).alloc (.cells h 24)) :=
 ⟨(Row.new _ _ _).alloc _, Row.made _ _ _ _ _ rfl (by simp), ((Below.refl w.heap.size w).alloc (Nat.le_refl _) _).alloc (by simp) _⟩
theorem SaM.below {w : World} {g h : Array Value} {wr w' : World} (q : SaM w g h wr) (hb : Below wr.heap.size wr w') : SaM w g h w' :=
 ⟨q.rg.below hb q.rg.lt, q.rh.below hb q.rh.lt, q.be.trans (hb.mono q.be.size)⟩
theorem cls_range {w wx : World} {v : Value} {c : List Cl} (hv : Cls w.heap.size w v c) (hl : 0 < c.length) : ∃ b o k, v = .slice (some ⟨b, o, none⟩) c.length k ∧ ∀ i wx, i < c.length → Below w.heap.size w wx → wx.rangeAt b (o + i * 15) (cA (cat c i)).toList := by
 obtain ⟨a, k, e, hk, hc⟩ := hv
 rcases hc with hc | ⟨b, o, rfl, hb, hc⟩
 ·rw [hc] at hl; simp at hl
 ·exact ⟨b, o, k, e, fun i wx hi hbe => rangeAt_cls (N := 0) (v := .bool true) (fun j hj => by rw [hbe.cell (p := ⟨b, o + i * 15 + j, none⟩) hb]; exact hc i hi j hj)⟩
set_option maxRecDepth 100000 in
set_option maxHeartbeats 8000000 in
theorem rsame_0 (co ro : Int) (a1 a2 : Option Addr) (k1 k2 : Nat) (w : World) :
  Calls Try.prog 9 #[.agg (gA co ro (.slice a1 0 k1)), .agg (gA co ro (.slice a2 0 k2))] w fun e w' => e = .returned (.bool true) ∧ Below w.heap.size w w' := by
 have F := Box'.mk (SaM.begin w (gA co ro (.slice a1 0 k1)) (gA co ro (.slice a2 0 k2)))
 have ne1 : (co != co) = false := by simp
 have ne2 : (ro != ro) = false := by simp
 go_enter Try.func9, Try.ntmps9
 go_upto_region 1 with (fail)
 generalize ((w.alloc (.cells (gA co ro (.slice a1 0 k1)) 24)).alloc (.cells (gA co ro (.slice a2 0 k2)) 24)) = w1 at *
 have c0 : w1.cell? ⟨w.heap.size, 0, none⟩ = some (.int .i64 co) := F.out.rg.cell 0
 have c1 : w1.cell? ⟨w.heap.size, 1, none⟩ = some (.int .i64 ro) := F.out.rg.cell 1
 have c2 : w1.cell? ⟨w.heap.size, 2, none⟩ = some (.slice a1 0 k1) := F.out.rg.cell 2
 have d0 : w1.cell? ⟨w.heap.size + 1, 0, none⟩ = some (.int .i64 co) := F.out.rh.cell 0
 have d1 : w1.cell? ⟨w.heap.size + 1, 1, none⟩ = some (.int .i64 ro) := F.out.rh.cell 1
 have d2 : w1.cell? ⟨w.heap.size + 1, 2, none⟩ = some (.slice a2 0 k2) := F.out.rh.cell 2
 go_wp2_with fail
 clear c0 c1 d0 d1 d2 c2
 go_loopw [5] (fun i wr => ∃ k : Nat, k ≤ 0 ∧ i = .int .i64 (k : Int) ∧ Box' (SaM w (gA co ro (.slice a1 0 k1)) (gA co ro (.slice a2 0 k2)) wr)) (fun i _ => 0 - (intOf i).toNat)
 case atStart => exact ⟨0, by omega, rfl, F⟩
 case round =>
  obtain ⟨k, hk, rfl, FF⟩ := hrel
  clear F
  have c2 : wr.cell? ⟨w.heap.size, 2, none⟩ = some (.slice a1 0 k1) := FF.out.rg.cell 2
  by_cases hlt' : k < 0
  case neg =>
   go_wp2_with fail
   go_ret
   exact ⟨rfl, FF.out.be⟩
  case pos =>
   omega
set_option maxRecDepth 100000 in
set_option maxHeartbeats 8000000 in
theorem rsame_1 (co ro : Int) (b1 o1 k1 b2 o2 k2 n : Nat) (c : List Cl) (hn : n < 140737488355328) (w : World) (H1 : Box' (∀ i wx, i < n → Below w.heap.size w wx → wx.rangeAt b1 (o1 + i * 15) (cA (cat c i)).toList)) (H2 : Box' (∀ i wx, i < n → Below w.heap.size w wx → wx.rangeAt b2 (o2 + i * 15) (cA (cat c i)).toList)) :
  Calls Try.prog 9 #[.agg (gA co ro (.slice (some ⟨b1, o1, none⟩) n k1)), .agg (gA co ro (.slice (some ⟨b2, o2, none⟩) n k2))] w fun e w' => e = .returned (.bool true) ∧ Below w.heap.size w w' := by
 have F := Box'.mk (SaM.begin w (gA co ro (.slice (some ⟨b1, o1, none⟩) n k1)) (gA co ro (.slice (some ⟨b2, o2, none⟩) n k2)))
 have ne1 : (co != co) = false := by simp
 have ne2 : (ro != ro) = false := by simp
 go_enter Try.func9, Try.ntmps9
 go_upto_region 1 with (fail)
 generalize ((w.alloc (.cells (gA co ro (.slice (some ⟨b1, o1, none⟩) n k1)) 24)).alloc (.cells (gA co ro (.slice (some ⟨b2, o2, none⟩) n k2)) 24)) = w1 at *
 have c0 : w1.cell? ⟨w.heap.size, 0, none⟩ = some (.int .i64 co) := F.out.rg.cell 0
 have c1 : w1.cell? ⟨w.heap.size, 1, none⟩ = some (.int .i64 ro) := F.out.rg.cell 1
 have c2 : w1.cell? ⟨w.heap.size, 2, none⟩ = some (.slice (some ⟨b1, o1, none⟩) n k1) := F.out.rg.cell 2
 have d0 : w1.cell? ⟨w.heap.size + 1, 0, none⟩ = some (.int .i64 co) := F.out.rh.cell 0
 have d1 : w1.cell? ⟨w.heap.size + 1, 1, none⟩ = some (.int .i64 ro) := F.out.rh.cell 1
 have d2 : w1.cell? ⟨w.heap.size + 1, 2, none⟩ = some (.slice (some ⟨b2, o2, none⟩) n k2) := F.out.rh.cell 2
 go_wp2_with fail
 clear c0 c1 d0 d1 d2 c2
 go_loopw [5] (fun i wr => ∃ k : Nat, k ≤ n ∧ i = .int .i64 (k : Int) ∧ Box' (SaM w (gA co ro (.slice (some ⟨b1, o1, none⟩) n k1)) (gA co ro (.slice (some ⟨b2, o2, none⟩) n k2)) wr)) (fun i _ => n - (intOf i).toNat)
 case atStart => exact ⟨0, by omega, rfl, F⟩
 case round =>
  obtain ⟨k, hk, rfl, FF⟩ := hrel
  clear F
  have c2 : wr.cell? ⟨w.heap.size, 2, none⟩ = some (.slice (some ⟨b1, o1, none⟩) n k1) := FF.out.rg.cell 2
  by_cases hlt' : k < n
  case neg =>
   go_wp2_with fail
   go_ret
   exact ⟨rfl, FF.out.be⟩
  case pos =>
   have EQ : Box' ((!clB (cat c k) (cat c k)) = false) := ⟨by rw [clB_yes rfl]; rfl⟩
   have RX := Box'.mk (fun wx hb => H1.out k wx hlt' hb)
   have RY := Box'.mk (fun wx hb => H2.out k wx hlt' hb)
   clear H1 H2
   go_wp2_with fail
   refine wp_region_growg 11 (by kernel_rfl) 45 rfl (by kernel_rfl) (fun wa wb => Below wa.heap.size wa wb) (fun wa => SaM w (gA co ro (.slice (some ⟨b1, o1, none⟩) n k1)) (gA co ro (.slice (some ⟨b2, o2, none⟩) n k2)) wa) (fun kc wa v => match kc with
    | 0 => v = .pointer (some ⟨w.heap.size, 2, none⟩)
    | 1 => v = .slice (some ⟨b1, o1, none⟩) n k1
    | 2 => v = .int .i64 (k : Int)
    | 3 => v = .pointer (some ⟨b1, o1 + k * 15, none⟩)
    | 4 => v = .agg (cA (cat c k))
    | 5 => v = .pointer (some ⟨w.heap.size + 1, 2, none⟩)
    | 6 => v = .slice (some ⟨b2, o2, none⟩) n k2
    | 7 => v = .int .i64 (k : Int)
    | 8 => v = .pointer (some ⟨b2, o2 + k * 15, none⟩)
    | 9 => v = .agg (cA (cat c k))
    | 10 => v = .bool false
    | _ => True) ?_ ?_ ?_ ?_ ?_ ?_
   ·intro i o' j b' hi hg wa v hC hV
    have hlt : i < 11 := by rcases Nat.lt_or_ge i 11 with q | q; exact q; rw [List.getElem?_eq_none (by simpa using q)] at hi; cases hi
    revert hi hg hV
    rcases (show i = 0 ∨ i = 1 ∨ i = 2 ∨ i = 3 ∨ i = 4 ∨ i = 5 ∨ i = 6 ∨ i = 7 ∨ i = 8 ∨ i = 9 ∨ i = 10 by omega) with rfl | rfl | rfl | rfl | rfl | rfl | rfl | rfl | rfl | rfl | rfl <;>
     (intro hi hg hV; simp only [tkS, List.getElem?_cons_zero, List.getElem?_cons_succ, Option.some.injEq] at hi; subst hi; first | (cases hg; exact hV) | (cases hg))
   ·rintro wa wb hb q1; exact q1.below hb
   ·intro kc v wa wb hC1 hb h
    match kc, h with
    | 0, h => exact h
    | 1, h => exact h
    | 2, h => exact h
    | 3, h => exact h
    | 4, h => exact h
    | 5, h => exact h
    | 6, h => exact h
    | 7, h => exact h
    | 8, h => exact h
    | 9, h => exact h
    | 10, h => exact h
    | kc + 11, h => trivial
   ·exact FF.out.below (bR.drew)
   ·refine ⟨?_, ?_, ?_, ?_, ?_, ?_, ?_, ?_, ?_, ?_, ?_, trivial⟩
    ·intro f wq hC hd KK hK
     clear hd
     simp only [tkS, tkZ, setAll, siB, stS, stZ, Nat.zero_add, Nat.reduceAdd] at hK ⊢
     refine wp_of_quiet rfl ?_
     go_big_quiet_step (fail)
     exact wpQuiet_nil (hK _ _ (rfl) bR)
    ·intro f wq hC hd KK hK
     have g0 : f 0 = .pointer (some ⟨w.heap.size, 2, none⟩) := hd 0 (by kernel_rfl)
     clear hd
     have d2 : wq.cell? ⟨w.heap.size, 2, none⟩ = some (.slice (some ⟨b1, o1, none⟩) n k1) := hC.rg.cell 2
     clear hC
     simp only [tkS, tkZ, setAll, siB, stS, stZ, Nat.zero_add, Nat.reduceAdd, g0] at hK ⊢
     refine wp_of_quiet rfl ?_
     go_big_quiet_step (fail)
     exact wpQuiet_nil (hK _ _ (rfl) bR)
    ·intro f wq hC hd KK hK
     clear hd
     simp only [tkS, tkZ, setAll, siB, stS, stZ, Nat.zero_add, Nat.reduceAdd] at hK ⊢
     refine wp_of_quiet rfl ?_
     go_big_quiet_step (fail)
     exact wpQuiet_nil (hK _ _ (rfl) bR)
    ·intro f wq hC hd KK hK
     have g1 : f 1 = .slice (some ⟨b1, o1, none⟩) n k1 := hd 1 (by kernel_rfl)
     have g2 : f 2 = .int .i64 (k : Int) := hd 2 (by kernel_rfl)
     clear hd
     simp only [tkS, tkZ, setAll, siB, stS, stZ, Nat.zero_add, Nat.reduceAdd, g1, g2] at hK ⊢
     refine wp_of_quiet rfl ?_
     go_big_quiet_step (fail)
     exact wpQuiet_nil (hK _ _ (rfl) bR)
    ·intro f wq hC hd KK hK
     have g3 : f 3 = .pointer (some ⟨b1, o1 + k * 15, none⟩) := hd 3 (by kernel_rfl)
     clear hd
     simp only [tkS, tkZ, setAll, siB, stS, stZ, Nat.zero_add, Nat.reduceAdd, g3] at hK ⊢
     exact wp_load_cell (.tmp 37) rfl b1 (o1 + k * 15) (cat c k) rfl (RX.out wq hC.be) (hK _ _ rfl bR)
    ·intro f wq hC hd KK hK
     clear hd
     simp only [tkS, tkZ, setAll, siB, stS, stZ, Nat.zero_add, Nat.reduceAdd] at hK ⊢
     refine wp_of_quiet rfl ?_
     go_big_quiet_step (fail)
     exact wpQuiet_nil (hK _ _ (rfl) bR)
    ·intro f wq hC hd KK hK
     have g5 : f 5 = .pointer (some ⟨w.heap.size + 1, 2, none⟩) := hd 5 (by kernel_rfl)
     clear hd
     have d2 : wq.cell? ⟨w.heap.size + 1, 2, none⟩ = some (.slice (some ⟨b2, o2, none⟩) n k2) := hC.rh.cell 2
     clear hC
     simp only [tkS, tkZ, setAll, siB, stS, stZ, Nat.zero_add, Nat.reduceAdd, g5] at hK ⊢
     refine wp_of_quiet rfl ?_
     go_big_quiet_step (fail)
     exact wpQuiet_nil (hK _ _ (rfl) bR)
    ·intro f wq hC hd KK hK
     clear hd
     simp only [tkS, tkZ, setAll, siB, stS, stZ, Nat.zero_add, Nat.reduceAdd] at hK ⊢
     refine wp_of_quiet rfl ?_
     go_big_quiet_step (fail)
     exact wpQuiet_nil (hK _ _ (rfl) bR)
    ·intro f wq hC hd KK hK
     have g6 : f 6 = .slice (some ⟨b2, o2, none⟩) n k2 := hd 6 (by kernel_rfl)
     have g7 : f 7 = .int .i64 (k : Int) := hd 7 (by kernel_rfl)
     clear hd
     simp only [tkS, tkZ, setAll, siB, stS, stZ, Nat.zero_add, Nat.reduceAdd, g6, g7] at hK ⊢
     refine wp_of_quiet rfl ?_
     go_big_quiet_step (fail)
     exact wpQuiet_nil (hK _ _ (rfl) bR)
    ·intro f wq hC hd KK hK
     have g8 : f 8 = .pointer (some ⟨b2, o2 + k * 15, none⟩) := hd 8 (by kernel_rfl)
     clear hd
     simp only [tkS, tkZ, setAll, siB, stS, stZ, Nat.zero_add, Nat.reduceAdd, g8] at hK ⊢
     exact wp_load_cell (.tmp 42) rfl b2 (o2 + k * 15) (cat c k) rfl (RY.out wq hC.be) (hK _ _ rfl bR)
    ·intro f wq hC hd KK hK
     have g4 : f 4 = .agg (cA (cat c k)) := hd 4 (by kernel_rfl)
     have g9 : f 9 = .agg (cA (cat c k)) := hd 9 (by kernel_rfl)
     clear hd
     simp only [tkS, tkZ, setAll, siB, stS, stZ, Nat.zero_add, Nat.reduceAdd, g4, g9] at hK ⊢
     exact wp_val _ (run_neq_cell_op 49 (.tmp 38) (.tmp 43) rfl (cat c k) (cat c k) rfl rfl _ EQ.out _) (hK _ _ rfl bR)
   ·intro f wz hC hv
    have p0 : f 0 = .pointer (some ⟨w.heap.size, 2, none⟩) := hv 0 (by decide)
    have p1 : f 1 = .slice (some ⟨b1, o1, none⟩) n k1 := hv 1 (by decide)
    have p2 : f 2 = .int .i64 (k : Int) := hv 2 (by decide)
    have p3 : f 3 = .pointer (some ⟨b1, o1 + k * 15, none⟩) := hv 3 (by decide)
    have p4 : f 4 = .agg (cA (cat c k)) := hv 4 (by decide)
    have p5 : f 5 = .pointer (some ⟨w.heap.size + 1, 2, none⟩) := hv 5 (by decide)
    have p6 : f 6 = .slice (some ⟨b2, o2, none⟩) n k2 := hv 6 (by decide)
    have p7 : f 7 = .int .i64 (k : Int) := hv 7 (by decide)
    have p8 : f 8 = .pointer (some ⟨b2, o2 + k * 15, none⟩) := hv 8 (by decide)
    have p9 : f 9 = .agg (cA (cat c k)) := hv 9 (by decide)
    have p10 : f 10 = .bool false := hv 10 (by decide)
    simp only [tkS, tkZ, List.drop_succ_cons, List.drop_zero, setAll, siB, stS, stZ, Nat.zero_add, Nat.reduceAdd, p0, p1, p2, p3, p4, p5, p6, p7, p8, p9, p10]
    clear hv p0 p1 p2 p3 p4 p5 p6 p7 p8 p9 p10
    have F9 := Box'.mk hC
    clear hC
    go_wp2_with fail
    exact ⟨⟨k + 1, by omega, by go_num, F9⟩, by simp [intOf]; omega⟩
theorem rsame_yes (co ro : Int) (v v' : Value) (c : List Cl) (hn : c.length < 140737488355328) (w : World) (hv : Cls w.heap.size w v c) (hv' : Cls w.heap.size w v' c) :
  Calls Try.prog 9 #[.agg (gA co ro v), .agg (gA co ro v')] w fun e w' => e = .returned (.bool true) ∧ Below w.heap.size w w' := by
 by_cases hl : 0 < c.length
 ·obtain ⟨b1, o1, k1, rfl, h1⟩ := cls_range (wx := w) hv hl
  obtain ⟨b2, o2, k2, rfl, h2⟩ := cls_range (wx := w) hv' hl
  exact rsame_1 co ro b1 o1 k1 b2 o2 k2 c.length c hn w ⟨h1⟩ ⟨h2⟩
 ·obtain ⟨a1, k1, rfl, _, _⟩ := hv
  obtain ⟨a2, k2, rfl, _, _⟩ := hv'
  have e : c.length = 0 := by omega
  rw [e]
  exact rsame_0 co ro a1 a2 k1 k2 w
end Go.Proofs.Ytnbonlkmadmpcaa
namespace Go.Proofs.Ytnbonlkmadmpcaa
open Go.RowKit Go.BigFrame
set_option linter.unusedVariables false
set_option linter.unusedSimpArgs false
set_option maxRecDepth 100000 in
set_option maxHeartbeats 8000000 in
theorem rscroll_no0 (co ro : Int) (v : Value) (c : List Cl) (top bot k : Int) (s : St) (w : World) (hv : Cls w.heap.size w v c) (hB : badF co ro c s top = true)  :
  Calls Try.prog 17 #[.agg (gA co ro v), .int .i64 top, .int .i64 bot, .int .i64 k, .agg (sA s)] w fun e w' => e = .returned gErr ∧ Below w.heap.size w w' := by
 have MB : Box' (∀ wx, Below w.heap.size w wx → Calls Try.prog 37 #[.agg (gA co ro v), .agg (sA s), .int .i64 top] wx fun e w' => e = .returned (.bool (badF co ro c s top)) ∧ Below wx.heap.size wx w') := ⟨fun wx hb => rbad_any co ro v c s top wx ((hv.below hb (Nat.le_refl _)).up hb.size)⟩
 rw [hB] at MB
 have F := Box'.mk (FrG.begin w (gA co ro v) s)
 have U24 := Box'.mk Try.underlying24
 have S24 := Box'.mk s24g
 have O := Box'.mk (gA_one 0 0 none 0 0)
 clear hB hv
 go_enter Try.func17, Try.ntmps17
 go_upto_region 1 with (fail)
 generalize (((w.alloc (.cells (gA co ro v) 24)).alloc (.cells (sA s) 26)).alloc (.cells #[.int .i64 0, .int .i64 0, .slice none 0 0] 24)) = w1 at *
 have cs0 : w1.cell? ⟨w.heap.size + 1, 0, none⟩ = some (.int .i64 s.fg) := F.out.rs.cell 0
 have cs1 : w1.cell? ⟨w.heap.size + 1, 1, none⟩ = some (.int .i64 s.bg) := F.out.rs.cell 1
 have cs2 : w1.cell? ⟨w.heap.size + 1, 2, none⟩ = some (.bool s.b1) := F.out.rs.cell 2
 have cs3 : w1.cell? ⟨w.heap.size + 1, 3, none⟩ = some (.bool s.b2) := F.out.rs.cell 3
 have cs4 : w1.cell? ⟨w.heap.size + 1, 4, none⟩ = some (.bool s.b3) := F.out.rs.cell 4
 have cs5 : w1.cell? ⟨w.heap.size + 1, 5, none⟩ = some (.bool s.b4) := F.out.rs.cell 5
 have cs6 : w1.cell? ⟨w.heap.size + 1, 6, none⟩ = some (.bool s.b5) := F.out.rs.cell 6
 have cs7 : w1.cell? ⟨w.heap.size + 1, 7, none⟩ = some (.bool s.b7) := F.out.rs.cell 7
 have cs8 : w1.cell? ⟨w.heap.size + 1, 8, none⟩ = some (.bool s.b8) := F.out.rs.cell 8
 have cs9 : w1.cell? ⟨w.heap.size + 1, 9, none⟩ = some (.bool s.b9) := F.out.rs.cell 9
 have c0 : w1.cell? ⟨w.heap.size, 0, none⟩ = some (.int .i64 co) := F.out.rg.cell 0
 have c1 : w1.cell? ⟨w.heap.size, 1, none⟩ = some (.int .i64 ro) := F.out.rg.cell 1
 clear c0 c1
 go_wp2_with (first
  | (refine wpList_load_row rfl 24 (.tmp 5) rfl w.heap.size rfl 24 (gA co ro v) F.out.rg _ U24.out rfl 3 S24.out rfl ?_))
 refine (MB.out _ F.out.be).mono ?_
 rintro e w2 ⟨rfl, hb⟩
 replace F := Box'.mk (F.out.below hb)
 clear hb cs0 cs1 cs2 cs3 cs4 cs5 cs6 cs7 cs8 cs9
 have c1 : w2.cell? ⟨w.heap.size, 1, none⟩ = some (.int .i64 ro) := F.out.rg.cell 1
 go_wp2_with (first
  | (refine wpList_store_row rfl 24 (.tmp 10) (.tmp 31) rfl (w.heap.size + 2) rfl (gA 0 0 (.slice none 0 0)) rfl 24 3 F.out.rr S24.out rfl O.out ?_))
 exact bodyPost_ret (results_two rfl _ (w.heap.size + 2) rfl _ rfl _ _ (F.out.rr.setRow _) rfl) rfl ⟨rfl, below_setRow F.out.be (by omega) _⟩
set_option maxRecDepth 100000 in
set_option maxHeartbeats 8000000 in
theorem rscroll_no1 (co ro : Int) (v : Value) (c : List Cl) (top bot k : Int) (s : St) (w : World) (hv : Cls w.heap.size w v c) (hB : badF co ro c s top = false) (h1 : bot < top) :
  Calls Try.prog 17 #[.agg (gA co ro v), .int .i64 top, .int .i64 bot, .int .i64 k, .agg (sA s)] w fun e w' => e = .returned gErr ∧ Below w.heap.size w w' := by
 have MB : Box' (∀ wx, Below w.heap.size w wx → Calls Try.prog 37 #[.agg (gA co ro v), .agg (sA s), .int .i64 top] wx fun e w' => e = .returned (.bool (badF co ro c s top)) ∧ Below wx.heap.size wx w') := ⟨fun wx hb => rbad_any co ro v c s top wx ((hv.below hb (Nat.le_refl _)).up hb.size)⟩
 rw [hB] at MB
 have F := Box'.mk (FrG.begin w (gA co ro v) s)
 have U24 := Box'.mk Try.underlying24
 have S24 := Box'.mk s24g
 have O := Box'.mk (gA_one 0 0 none 0 0)
 clear hB hv
 go_enter Try.func17, Try.ntmps17
 go_upto_region 1 with (fail)
 generalize (((w.alloc (.cells (gA co ro v) 24)).alloc (.cells (sA s) 26)).alloc (.cells #[.int .i64 0, .int .i64 0, .slice none 0 0] 24)) = w1 at *
 have cs0 : w1.cell? ⟨w.heap.size + 1, 0, none⟩ = some (.int .i64 s.fg) := F.out.rs.cell 0
 have cs1 : w1.cell? ⟨w.heap.size + 1, 1, none⟩ = some (.int .i64 s.bg) := F.out.rs.cell 1
 have cs2 : w1.cell? ⟨w.heap.size + 1, 2, none⟩ = some (.bool s.b1) := F.out.rs.cell 2
 have cs3 : w1.cell? ⟨w.heap.size + 1, 3, none⟩ = some (.bool s.b2) := F.out.rs.cell 3
 have cs4 : w1.cell? ⟨w.heap.size + 1, 4, none⟩ = some (.bool s.b3) := F.out.rs.cell 4
 have cs5 : w1.cell? ⟨w.heap.size + 1, 5, none⟩ = some (.bool s.b4) := F.out.rs.cell 5
 have cs6 : w1.cell? ⟨w.heap.size + 1, 6, none⟩ = some (.bool s.b5) := F.out.rs.cell 6
 have cs7 : w1.cell? ⟨w.heap.size + 1, 7, none⟩ = some (.bool s.b7) := F.out.rs.cell 7
 have cs8 : w1.cell? ⟨w.heap.size + 1, 8, none⟩ = some (.bool s.b8) := F.out.rs.cell 8
 have cs9 : w1.cell? ⟨w.heap.size + 1, 9, none⟩ = some (.bool s.b9) := F.out.rs.cell 9
 have c0 : w1.cell? ⟨w.heap.size, 0, none⟩ = some (.int .i64 co) := F.out.rg.cell 0
 have c1 : w1.cell? ⟨w.heap.size, 1, none⟩ = some (.int .i64 ro) := F.out.rg.cell 1
 clear c0 c1
 go_wp2_with (first
  | (refine wpList_load_row rfl 24 (.tmp 5) rfl w.heap.size rfl 24 (gA co ro v) F.out.rg _ U24.out rfl 3 S24.out rfl ?_))
 refine (MB.out _ F.out.be).mono ?_
 rintro e w2 ⟨rfl, hb⟩
 replace F := Box'.mk (F.out.below hb)
 clear hb cs0 cs1 cs2 cs3 cs4 cs5 cs6 cs7 cs8 cs9
 have c1 : w2.cell? ⟨w.heap.size, 1, none⟩ = some (.int .i64 ro) := F.out.rg.cell 1
 go_wp2_with (first
  | (refine wpList_store_row rfl 24 (.tmp 10) (.tmp 31) rfl (w.heap.size + 2) rfl (gA 0 0 (.slice none 0 0)) rfl 24 3 F.out.rr S24.out rfl O.out ?_))
 exact bodyPost_ret (results_two rfl _ (w.heap.size + 2) rfl _ rfl _ _ (F.out.rr.setRow _) rfl) rfl ⟨rfl, below_setRow F.out.be (by omega) _⟩
set_option maxRecDepth 100000 in
set_option maxHeartbeats 8000000 in
theorem rscroll_no2 (co ro : Int) (v : Value) (c : List Cl) (top bot k : Int) (s : St) (w : World) (hv : Cls w.heap.size w v c) (hB : badF co ro c s top = false) (h1 : top ≤ bot) (h2 : ro ≤ bot) :
  Calls Try.prog 17 #[.agg (gA co ro v), .int .i64 top, .int .i64 bot, .int .i64 k, .agg (sA s)] w fun e w' => e = .returned gErr ∧ Below w.heap.size w w' := by
 have MB : Box' (∀ wx, Below w.heap.size w wx → Calls Try.prog 37 #[.agg (gA co ro v), .agg (sA s), .int .i64 top] wx fun e w' => e = .returned (.bool (badF co ro c s top)) ∧ Below wx.heap.size wx w') := ⟨fun wx hb => rbad_any co ro v c s top wx ((hv.below hb (Nat.le_refl _)).up hb.size)⟩
 rw [hB] at MB
 have F := Box'.mk (FrG.begin w (gA co ro v) s)
 have U24 := Box'.mk Try.underlying24
 have S24 := Box'.mk s24g
 have O := Box'.mk (gA_one 0 0 none 0 0)
 clear hB hv
 go_enter Try.func17, Try.ntmps17
 go_upto_region 1 with (fail)
 generalize (((w.alloc (.cells (gA co ro v) 24)).alloc (.cells (sA s) 26)).alloc (.cells #[.int .i64 0, .int .i64 0, .slice none 0 0] 24)) = w1 at *
 have cs0 : w1.cell? ⟨w.heap.size + 1, 0, none⟩ = some (.int .i64 s.fg) := F.out.rs.cell 0
 have cs1 : w1.cell? ⟨w.heap.size + 1, 1, none⟩ = some (.int .i64 s.bg) := F.out.rs.cell 1
 have cs2 : w1.cell? ⟨w.heap.size + 1, 2, none⟩ = some (.bool s.b1) := F.out.rs.cell 2
 have cs3 : w1.cell? ⟨w.heap.size + 1, 3, none⟩ = some (.bool s.b2) := F.out.rs.cell 3
 have cs4 : w1.cell? ⟨w.heap.size + 1, 4, none⟩ = some (.bool s.b3) := F.out.rs.cell 4
 have cs5 : w1.cell? ⟨w.heap.size + 1, 5, none⟩ = some (.bool s.b4) := F.out.rs.cell 5
 have cs6 : w1.cell? ⟨w.heap.size + 1, 6, none⟩ = some (.bool s.b5) := F.out.rs.cell 6
 have cs7 : w1.cell? ⟨w.heap.size + 1, 7, none⟩ = some (.bool s.b7) := F.out.rs.cell 7
 have cs8 : w1.cell? ⟨w.heap.size + 1, 8, none⟩ = some (.bool s.b8) := F.out.rs.cell 8
 have cs9 : w1.cell? ⟨w.heap.size + 1, 9, none⟩ = some (.bool s.b9) := F.out.rs.cell 9
 have c0 : w1.cell? ⟨w.heap.size, 0, none⟩ = some (.int .i64 co) := F.out.rg.cell 0
 have c1 : w1.cell? ⟨w.heap.size, 1, none⟩ = some (.int .i64 ro) := F.out.rg.cell 1
 clear c0 c1
 go_wp2_with (first
  | (refine wpList_load_row rfl 24 (.tmp 5) rfl w.heap.size rfl 24 (gA co ro v) F.out.rg _ U24.out rfl 3 S24.out rfl ?_))
 refine (MB.out _ F.out.be).mono ?_
 rintro e w2 ⟨rfl, hb⟩
 replace F := Box'.mk (F.out.below hb)
 clear hb cs0 cs1 cs2 cs3 cs4 cs5 cs6 cs7 cs8 cs9
 have c1 : w2.cell? ⟨w.heap.size, 1, none⟩ = some (.int .i64 ro) := F.out.rg.cell 1
 go_wp2_with (first
  | (refine wpList_store_row rfl 24 (.tmp 10) (.tmp 31) rfl (w.heap.size + 2) rfl (gA 0 0 (.slice none 0 0)) rfl 24 3 F.out.rr S24.out rfl O.out ?_))
 exact bodyPost_ret (results_two rfl _ (w.heap.size + 2) rfl _ rfl _ _ (F.out.rr.setRow _) rfl) rfl ⟨rfl, below_setRow F.out.be (by omega) _⟩
end Go.Proofs.Ytnbonlkmadmpcaa
namespace Go.Proofs.Ytnbonlkmadmpcaa
open Go.RowKit Go.BigFrame
def mix (x c : List Cl) (t : Nat) : List Cl := x.take t ++ c.drop t
theorem mix_len (x c : List Cl) (t : Nat) (h : x.length = c.length) : (mix x c t).length = c.length := by
 unfold mix
 rw [List.length_append, List.length_take, List.length_drop]
 omega
theorem mix_set (x c : List Cl) (t : Nat) (h : x.length = c.length) (ht : t < c.length) : (mix x c t).set t (cat x t) = mix x c (t + 1) := by
 have hl : (x.take t).length = t := by rw [List.length_take]; omega
 have hm : x.take (t + 1) = x.take t ++ [cat x t] := by
  rw [List.take_succ_eq_append_getElem (by omega)]
  congr 2
  unfold cat
  rw [List.getD_eq_getElem?_getD, List.getElem?_eq_getElem (by omega)]
  rfl
 unfold mix
 rw [hm, List.set_append_right _ _ (by omega), hl, Nat.sub_self, List.drop_eq_getElem_cons ht, stZ, List.append_assoc]
 rfl
theorem mix_cat (x c : List Cl) (t i : Nat) (h : x.length = c.length) (ht : t ≤ c.length) : cat (mix x c t) i = if i < t then cat x i else cat c i := by
 have hl : (x.take t).length = t := by rw [List.length_take]; omega
 unfold mix cat
 simp only [List.getD_eq_getElem?_getD]
 split
 ·rename_i hi
  rw [List.getElem?_append_left (by omega), List.getElem?_take_of_lt hi]
 ·rename_i hi
  rw [List.getElem?_append_right (by omega), hl, List.getElem?_drop, show t + (i - t) = i by omega]
theorem sc_end (c : List Cl) (cols rows top bot : Nat) (b : Int) (s : St) (hc : 1 ≤ cols) (hl : c.length = cols * rows) (hb : bot < rows) (t : Nat) (ht : t = (bot + 1) * cols) : mix (scF c cols rows top bot b s) c t = scF c cols rows top bot b s := by
 have hs := scF_len c cols rows top bot b s hl hb
 have hle : (bot + 1) * cols ≤ cols * rows := by rw [Nat.mul_comm cols]; exact Nat.mul_le_mul_right _ (by omega)
 refine grid_ext _ _ cols rows hc (by rw [mix_len _ _ _ (by omega)]; exact hl) hs fun n hn j hj => ?_
 rw [mix_cat _ _ _ _ (by omega) (by omega)]
 split
 ·rfl
 ·rename_i h
  have : bot < n := by
   apply Nat.lt_of_not_le
   intro h1
   have : (n + 1) * cols ≤ (bot + 1) * cols := Nat.mul_le_mul_right _ (by omega)
   rw [Nat.add_mul] at this
   omega
  rw [scF_cat c cols rows top bot b s hl hb n hn j hj, if_neg (by omega)]
theorem sc_begin (c : List Cl) (cols rows top bot : Nat) (b : Int) (s : St) (hc : 1 ≤ cols) (hl : c.length = cols * rows) (h1 : top ≤ bot) (hb : bot < rows) (t : Nat) (ht : t = top * cols) : mix (scF c cols rows top bot b s) c t = c := by
 have hs := scF_len c cols rows top bot b s hl hb
 have hle : top * cols ≤ cols * rows := by rw [Nat.mul_comm cols]; exact Nat.mul_le_mul_right _ (by omega)
 refine grid_ext _ _ cols rows hc (by rw [mix_len _ _ _ (by omega)]; exact hl) hl fun n hn j hj => ?_
 rw [mix_cat _ _ _ _ (by omega) (by omega)]
 split
 ·rename_i h
  have : n < top := by
   apply Nat.lt_of_not_le
   intro h2
   have : top * cols ≤ n * cols := Nat.mul_le_mul_right _ h2
   omega
  rw [scF_cat c cols rows top bot b s hl hb n hn j hj, if_neg (by omega)]
 ·rfl
end Go.Proofs.Ytnbonlkmadmpcaa
namespace Go.Proofs.Ytnbonlkmadmpcaa
open Go.RowKit Go.BigFrame
set_option linter.unusedVariables false
set_option linter.unusedSimpArgs false
theorem cls_range2 {w : World} {v : Value} {c : List Cl} (hv : Cls w.heap.size w v c) (hl : 0 < c.length) : ∃ b o k, v = .slice (some ⟨b, o, none⟩) c.length k ∧ c.length ≤ k ∧ ∀ i wx, i < c.length → Below w.heap.size w wx → wx.rangeAt b (o + i * 15) (cA (cat c i)).toList := by
 obtain ⟨b, o, k, e, h⟩ := cls_range (wx := w) hv hl
 obtain ⟨a, k', e', hk, _⟩ := hv
 rw [e] at e'
 cases e'
 exact ⟨b, o, _, e, hk, h⟩
set_option maxRecDepth 100000 in
set_option maxHeartbeats 8000000 in
theorem rscroll_ok (cols rows : Nat) (v : Value) (c : List Cl) (top bot : Nat) (by0 : Int) (s : St) (w : World) (hv : Cls w.heap.size w v c) (hG : mayG (cols : Int) (rows : Int) c = true) (hS : mayS s = true) (h1 : top ≤ bot) (h2 : bot < rows) :
  Calls Try.prog 17 #[.agg (gA (cols : Int) (rows : Int) v), .int .i64 (top : Int), .int .i64 (bot : Int), .int .i64 by0, .agg (sA s)] w fun e w' => ∃ b cap sp, e = .returned (gOk (cols : Int) (rows : Int) (.slice (some ⟨b, 0, none⟩) c.length cap)) ∧ w.heap.size ≤ b ∧ c.length ≤ cap ∧ RC w' b (scF c cols rows top bot by0 s) sp ∧ Below w.heap.size w w' := by
 obtain ⟨cols', rows', ec, er, p1, p2, p3, p4, hl⟩ := mayG_dest hG
 obtain rfl : cols = cols' := by omega
 obtain rfl : rows = rows' := by omega
 have hle : cols * rows ≤ 512 * 512 := Nat.mul_le_mul p2 p4
 have hpos : 0 < c.length := by rw [hl]; exact Nat.mul_pos (by omega) (by omega)
 have hB : badF (cols : Int) (rows : Int) c s (top : Int) = false := by unfold badF; rw [hG, hS]; simp; omega
 have MB : Box' (∀ wx, Below w.heap.size w wx → Calls Try.prog 37 #[.agg (gA (cols : Int) (rows : Int) v), .agg (sA s), .int .i64 (top : Int)] wx fun e w' => e = .returned (.bool false) ∧ Below wx.heap.size wx w') := ⟨fun wx hb => by
  have := rbad_any (cols : Int) (rows : Int) v c s (top : Int) wx ((hv.below hb (Nat.le_refl _)).up hb.size)
  rw [hB] at this
  exact this⟩
 have CP : Box' (∀ wx, Below w.heap.size w wx → Calls Try.prog 25 #[.agg (gA (cols : Int) (rows : Int) v)] wx fun e w' => ∃ b cap sp, e = .returned (.agg (gA (cols : Int) (rows : Int) (.slice (some ⟨b, 0, none⟩) c.length cap))) ∧ wx.heap.size ≤ b ∧ c.length ≤ cap ∧ RC w' b c sp ∧ Below wx.heap.size wx w') := ⟨fun wx hb => (rcopy_any (cols : Int) (rows : Int) v c wx ((hv.below hb (Nat.le_refl _)).up hb.size) (fun e => by rw [e] at hpos; cases hpos) (by omega)).mono (by
   rintro e w' ⟨v', rfl, ho, hb'⟩
   obtain ⟨g, cap, sp, rfl, hg, hcap, hr⟩ := ho.row hpos
   exact ⟨g, cap, sp, rfl, hg, hcap, hr, hb'⟩)⟩
 obtain ⟨gb, go', gc, ev, hgc, HR0⟩ := cls_range2 hv hpos
 have HR := Box'.mk HR0
 have EV := Box'.mk ev
 clear HR0 hv ev
 have F := Box'.mk (FrG.begin w (gA (cols : Int) (rows : Int) v) s)
 have U24 := Box'.mk Try.underlying24
 have S24 := Box'.mk s24g
 have i1 : (top : Int) ≤ (bot : Int) := by omega
 have i2 : (bot : Int) < (rows : Int) := by omega
 have SB := Box'.mk (refBlank_any s)
 have XL : Box' ((scF c cols rows top bot by0 s).length = c.length) := ⟨by rw [scF_len c cols rows top bot by0 s hl h2]; exact hl.symm⟩
 have XC : Box' (∀ n, n < rows → ∀ j, j < cols → cat (scF c cols rows top bot by0 s) (n * cols + j) = if top ≤ n ∧ n ≤ bot then (if (top : Int) ≤ (n : Int) + by0 ∧ (n : Int) + by0 ≤ (bot : Int) then cat c (((n : Int) + by0).toNat * cols + j) else bl s) else cat c (n * cols + j)) := ⟨fun n hn j hj => scF_cat c cols rows top bot by0 s hl h2 n hn j hj⟩
 have XB : Box' (mix (scF c cols rows top bot by0 s) c (top * cols) = c) := ⟨sc_begin c cols rows top bot by0 s p1 hl h1 h2 _ rfl⟩
 have XE : Box' (mix (scF c cols rows top bot by0 s) c ((bot + 1) * cols) = scF c cols rows top bot by0 s) := ⟨sc_end c cols rows top bot by0 s p1 hl h2 _ rfl⟩
 generalize scF c cols rows top bot by0 s = X at *
 have HL := Box'.mk hl
 have HNN : c.length ≤ 262144 := by omega
 clear hB hG hS ec er hl hle
 go_enter Try.func17, Try.ntmps17
 go_upto_region 1 with (fail)
 generalize (((w.alloc (.cells (gA (cols : Int) (rows : Int) v) 24)).alloc (.cells (sA s) 26)).alloc (.cells #[.int .i64 0, .int .i64 0, .slice none 0 0] 24)) = w1 at *
 have cs0 : w1.cell? ⟨w.heap.size + 1, 0, none⟩ = some (.int .i64 s.fg) := F.out.rs.cell 0
 have cs1 : w1.cell? ⟨w.heap.size + 1, 1, none⟩ = some (.int .i64 s.bg) := F.out.rs.cell 1
 have cs2 : w1.cell? ⟨w.heap.size + 1, 2, none⟩ = some (.bool s.b1) := F.out.rs.cell 2
 have cs3 : w1.cell? ⟨w.heap.size + 1, 3, none⟩ = some (.bool s.b2) := F.out.rs.cell 3
 have cs4 : w1.cell? ⟨w.heap.size + 1, 4, none⟩ = some (.bool s.b3) := F.out.rs.cell 4
 have cs5 : w1.cell? ⟨w.heap.size + 1, 5, none⟩ = some (.bool s.b4) := F.out.rs.cell 5
 have cs6 : w1.cell? ⟨w.heap.size + 1, 6, none⟩ = some (.bool s.b5) := F.out.rs.cell 6
 have cs7 : w1.cell? ⟨w.heap.size + 1, 7, none⟩ = some (.bool s.b7) := F.out.rs.cell 7
 have cs8 : w1.cell? ⟨w.heap.size + 1, 8, none⟩ = some (.bool s.b8) := F.out.rs.cell 8
 have cs9 : w1.cell? ⟨w.heap.size + 1, 9, none⟩ = some (.bool s.b9) := F.out.rs.cell 9
 have c0 : w1.cell? ⟨w.heap.size, 0, none⟩ = some (.int .i64 (cols : Int)) := F.out.rg.cell 0
 have c1 : w1.cell? ⟨w.heap.size, 1, none⟩ = some (.int .i64 (rows : Int)) := F.out.rg.cell 1
 clear c0 c1
 go_wp2_with (first
  | (refine wpList_load_row rfl 24 (.tmp 5) rfl w.heap.size rfl 24 (gA (cols : Int) (rows : Int) v) F.out.rg _ U24.out rfl 3 S24.out rfl ?_))
 refine (MB.out _ F.out.be).mono ?_
 rintro e w2 ⟨rfl, hb⟩
 replace F := Box'.mk (F.out.below hb)
 clear hb cs0 cs1 cs2 cs3 cs4 cs5 cs6 cs7 cs8 cs9 MB
 have c1 : w2.cell? ⟨w.heap.size, 1, none⟩ = some (.int .i64 (rows : Int)) := F.out.rg.cell 1
 go_wp2_with (first
  | (refine wpList_load_row rfl 24 (.tmp 5) rfl w.heap.size rfl 24 (gA (cols : Int) (rows : Int) v) F.out.rg _ U24.out rfl 3 S24.out rfl ?_))
 refine (CP.out _ F.out.be).mono ?_
 rintro e w3 ⟨b, cap, sp, rfl, hb0, hcap, hr, hb⟩
 have hsz := F.out.sz
 replace F := Box'.mk (F.out.below hb)
 have RM : Box' (Room (w3.alloc (.cells #[.int .i64 0, .int .i64 0, .slice none 0 0] 24)) w3.heap.size 24 3) := ⟨Room.new _ _ _ _ rfl⟩
 have F4 : Box' (FrG w (gA (cols : Int) (rows : Int) v) s ((w3.alloc (.cells #[.int .i64 0, .int .i64 0, .slice none 0 0] 24)).setRow w3.heap.size (gA (cols : Int) (rows : Int) (.slice (some ⟨b, 0, none⟩) c.length cap)))) := ⟨F.out.below (below_setRow (bR.alloc (Nat.le_refl _) _) (Nat.le_refl _) _)⟩
 have G4 : Box' (Row ((w3.alloc (.cells #[.int .i64 0, .int .i64 0, .slice none 0 0] 24)).setRow w3.heap.size (gA (cols : Int) (rows : Int) (.slice (some ⟨b, 0, none⟩) c.length cap))) w3.heap.size 24 (gA (cols : Int) (rows : Int) (.slice (some ⟨b, 0, none⟩) c.length cap))) := ⟨RM.out.setRow _⟩
 have C4 : Box' (RC ((w3.alloc (.cells #[.int .i64 0, .int .i64 0, .slice none 0 0] 24)).setRow w3.heap.size (gA (cols : Int) (rows : Int) (.slice (some ⟨b, 0, none⟩) c.length cap))) b c sp) := ⟨Row.setRowOther (Row.alloc hr _) _ _ (by have := hr.lt; omega)⟩
 have O := Box'.mk (gA_one (cols : Int) (rows : Int) (some ⟨b, 0, none⟩) c.length cap)
 have hqb : w3.heap.size ≠ b := by have := hr.lt; omega
 have hq3 : w.heap.size + 3 ≤ w3.heap.size := F.out.sz
 have hb3 : w.heap.size + 3 ≤ b := by omega
 clear hb hr hb0 CP c1 hsz
 go_upto_region 4 with (first
  | (refine wpList_store_row rfl 24 (.tmp 12) (.tmp 33) rfl w3.heap.size rfl (gA (cols : Int) (rows : Int) (.slice (some ⟨b, 0, none⟩) c.length cap)) rfl 24 3 RM.out S24.out rfl O.out ?_))
 generalize ((w3.alloc (.cells #[.int .i64 0, .int .i64 0, .slice none 0 0] 24)).setRow w3.heap.size (gA (cols : Int) (rows : Int) (.slice (some ⟨b, 0, none⟩) c.length cap))) = w4 at *
 clear RM F
 generalize w3.heap.size = q at *
 go_upto_region 5 with (fail)
 go_loopw [13] (fun u wr => ∃ i : Nat, u = .int .i64 (i : Int) ∧ top ≤ i ∧ i ≤ bot + 1 ∧ Box' (FrG w (gA (cols : Int) (rows : Int) v) s wr) ∧ Box' (Row wr q 24 (gA (cols : Int) (rows : Int) (.slice (some ⟨b, 0, none⟩) c.length cap))) ∧ Box' (RC wr b (mix X c (i * cols)) sp)) (fun u _ => bot + 1 - (intOf u).toNat)
 case atStart => exact ⟨top, rfl, Nat.le_refl _, by omega, F4, G4, ⟨by rw [XB.out]; exact C4.out⟩⟩
 case round =>
  obtain ⟨i, rfl, hi1, hi2, FF, GW, CC⟩ := hrel
  clear F4 G4 C4 XB
  by_cases hlt' : i ≤ bot
  case neg =>
   have hib : i = bot + 1 := by omega
   have C9 : Box' (RC wr b X sp) := ⟨by have := CC.out; rw [hib, XE.out] at this; exact this⟩
   clear CC hib
   go_wp2_with (first
    | (refine wpList_load_row rfl 24 (.tmp 12) rfl q rfl 24 (gA (cols : Int) (rows : Int) (.slice (some ⟨b, 0, none⟩) c.length cap)) GW.out _ U24.out rfl 3 S24.out rfl ?_)
    | (refine wpList_store_row rfl 24 (.tmp 10) (.tmp 87) rfl (w.heap.size + 2) rfl (gA (cols : Int) (rows : Int) (.slice (some ⟨b, 0, none⟩) c.length cap)) rfl 24 3 FF.out.rr S24.out rfl O.out ?_))
   exact bodyPost_ret (results_two rfl _ (w.heap.size + 2) rfl _ rfl _ _ (FF.out.rr.setRow _) rfl) rfl ⟨b, cap, sp, rfl, by omega, hcap, Row.setRowOther C9.out _ _ (by omega), below_setRow FF.out.be (by omega) _⟩
  case pos =>
   go_wp2_with fail
   have D0 : Box' (RC wr b (mix X c (i * cols + 0)) sp) := CC
   clear CC
   go_loopw [14] (fun u wr => ∃ j : Nat, u = .int .i64 (j : Int) ∧ j ≤ cols ∧ Box' (FrG w (gA (cols : Int) (rows : Int) v) s wr) ∧ Box' (Row wr q 24 (gA (cols : Int) (rows : Int) (.slice (some ⟨b, 0, none⟩) c.length cap))) ∧ Box' (RC wr b (mix X c (i * cols + j)) sp)) (fun u _ => cols - (intOf u).toNat)
   case atStart => exact ⟨0, rfl, by omega, FF, GW, D0⟩
   case round =>
    obtain ⟨j, rfl, hj, FI, GI, CI⟩ := hrel
    clear FF GW D0
    have c0 : wr.cell? ⟨w.heap.size, 0, none⟩ = some (.int .i64 (cols : Int)) := FI.out.rg.cell 0
    by_cases hjl : j < cols
    case neg =>
     have hjc : j = cols := by omega
     have C9 : Box' (RC wr b (mix X c ((i + 1) * cols)) sp) := ⟨by rw [Nat.add_mul, Nat.one_mul, ← hjc]; rw [hjc] at CI ⊢; exact CI.out⟩
     clear hjc CI
     go_wp2_with fail
     exact ⟨⟨i + 1, by go_num, by omega, by omega, FI, GI, C9⟩, by simp [intOf]; omega⟩
    case pos =>
     have cs0 : wr.cell? ⟨w.heap.size + 1, 0, none⟩ = some (.int .i64 s.fg) := FI.out.rs.cell 0
     have cs1 : wr.cell? ⟨w.heap.size + 1, 1, none⟩ = some (.int .i64 s.bg) := FI.out.rs.cell 1
     have cs2 : wr.cell? ⟨w.heap.size + 1, 2, none⟩ = some (.bool s.b1) := FI.out.rs.cell 2
     have cs3 : wr.cell? ⟨w.heap.size + 1, 3, none⟩ = some (.bool s.b2) := FI.out.rs.cell 3
     have cs4 : wr.cell? ⟨w.heap.size + 1, 4, none⟩ = some (.bool s.b3) := FI.out.rs.cell 4
     have cs5 : wr.cell? ⟨w.heap.size + 1, 5, none⟩ = some (.bool s.b4) := FI.out.rs.cell 5
     have cs6 : wr.cell? ⟨w.heap.size + 1, 6, none⟩ = some (.bool s.b5) := FI.out.rs.cell 6
     have cs7 : wr.cell? ⟨w.heap.size + 1, 7, none⟩ = some (.bool s.b7) := FI.out.rs.cell 7
     have cs8 : wr.cell? ⟨w.heap.size + 1, 8, none⟩ = some (.bool s.b8) := FI.out.rs.cell 8
     have cs9 : wr.cell? ⟨w.heap.size + 1, 9, none⟩ = some (.bool s.b9) := FI.out.rs.cell 9
     go_wp2_with fail
     refine (SB.out _).mono ?_
     rintro e w5 ⟨rfl, hb⟩
     have F5 := Box'.mk (FI.out.below hb)
     have G5 := Box'.mk (GI.out.below hb GI.out.lt)
     have C5 := Box'.mk (Row.below CI.out hb (Row.lt CI.out))
     clear hb FI GI CI cs0 cs1 cs2 cs3 cs4 cs5 cs6 cs7 cs8 cs9 c0
     have RZ : Box' (RC (w5.alloc (.cells #[.int .i32 0, .int .i32 0, .int .i32 0, .int .i32 0, .int .u8 0, .int .i64 0, .int .i64 0, .bool false, .bool false, .bool false, .bool false, .bool false, .bool false, .bool false, .bool false] 49)) w5.heap.size [zC] []) := ⟨rc_one (Row.new w5 49 (cA zC))⟩
     have SS : Box' (cLs ([zC].set 0 (bl s)) ++ [] = cLs [bl s] ++ []) := ⟨rfl⟩
     have BW : Box' (Below w5.heap.size w5 ((w5.alloc (.cells #[.int .i32 0, .int .i32 0, .int .i32 0, .int .i32 0, .int .u8 0, .int .i64 0, .int .i64 0, .bool false, .bool false, .bool false, .bool false, .bool false, .bool false, .bool false, .bool false] 49)).setRow w5.heap.size (cLs ([zC].set 0 (bl s)) ++ []).toArray)) := ⟨below_setRow (bR.alloc (Nat.le_refl _) _) (Nat.le_refl _) _⟩
     have F6 := Box'.mk (F5.out.below BW.out)
     have G6 := Box'.mk (G5.out.below BW.out G5.out.lt)
     have C6 := Box'.mk (Row.below C5.out BW.out (Row.lt C5.out))
     have R6 : Box' (RC ((w5.alloc (.cells #[.int .i32 0, .int .i32 0, .int .i32 0, .int .i32 0, .int .u8 0, .int .i64 0, .int .i64 0, .bool false, .bool false, .bool false, .bool false, .bool false, .bool false, .bool false, .bool false] 49)).setRow w5.heap.size (cLs ([zC].set 0 (bl s)) ++ []).toArray) w5.heap.size [bl s] []) := ⟨RZ.out.setRow _ _⟩
     have hp1 : w5.heap.size ≠ b := by have := Row.lt C5.out; omega
     have hp2 : w5.heap.size ≠ q := by have := G5.out.lt; omega
     have hp3 : w.heap.size + 3 ≤ w5.heap.size := F5.out.sz
     clear BW
     go_upto_region 11 with (first
      | (refine wpList_store_cell rfl (.tmp 15) (.tmp 47) rfl w5.heap.size [zC] [] 0 (bl s) rfl rfl RZ.out (by simp) ?_))
     generalize ((w5.alloc (.cells #[.int .i32 0, .int .i32 0, .int .i32 0, .int .i32 0, .int .u8 0, .int .i64 0, .int .i64 0, .bool false, .bool false, .bool false, .bool false, .bool false, .bool false, .bool false, .bool false] 49)).setRow w5.heap.size (cLs ([zC].set 0 (bl s)) ++ []).toArray) = w6 at *
     clear RZ SS F5 G5 C5
     generalize w5.heap.size = p at *
     have c1 : w6.cell? ⟨w.heap.size, 1, none⟩ = some (.int .i64 (rows : Int)) := F6.out.rg.cell 1
     have XV := XC.out i (by omega) j hjl
     rw [if_pos ⟨hi1, hlt'⟩] at XV
     replace XV := Box'.mk XV
     have PO : Box' (cols * i * 15 + j * 15 = (i * cols + j) * 15) := ⟨by rw [Nat.mul_comm cols i, Nat.add_mul]⟩
     have hle2 : (i + 1) * cols ≤ cols * rows := by rw [Nat.mul_comm cols]; exact Nat.mul_le_mul_right _ (by omega)
     have HT : Box' (i * cols + j < c.length) := ⟨by rw [HL.out]; rw [Nat.add_mul] at hle2; omega⟩
     have RO : Box' (∀ wx, Calls Try.prog 39 #[.agg (gA (cols : Int) (rows : Int) (.slice (some ⟨b, 0, none⟩) c.length cap)), .int .i64 (i : Int)] wx fun e w' => e = .returned (.slice (some ⟨b, cols * i * 15, none⟩) cols (cap - cols * i)) ∧ Below wx.heap.size wx w') := ⟨fun wx => by
      have := refRow_any cols i b 0 c.length cap (rows : Int) p1 p2 (by omega) (by rw [Nat.mul_comm]; have := HL.out; omega) wx
      rw [Nat.zero_add] at this
      exact this⟩
     clear hle2
     by_cases q1 : by0 < -(rows : Int)
     case pos =>
      have YV : Box' (cat X (i * cols + j) = bl s) := ⟨by rw [XV.out, if_neg (by omega)]⟩
      clear XV
      go_wp2_with fail
      refine wp_region_growg 6 (by kernel_rfl) 88 rfl (by kernel_rfl) (fun wa wb => Below wa.heap.size wa wb) (fun wa => FrG w (gA (cols : Int) (rows : Int) v) s wa ∧ Row wa q 24 (gA (cols : Int) (rows : Int) (.slice (some ⟨b, 0, none⟩) c.length cap)) ∧ RC wa b (mix X c (i * cols + j)) sp ∧ RC wa p [bl s] []) (fun kc wa v => match kc with
       | 0 => v = .agg (gA (cols : Int) (rows : Int) (.slice (some ⟨b, 0, none⟩) c.length cap))
       | 1 => v = .int .i64 (i : Int)
       | 2 => v = .slice (some ⟨b, cols * i * 15, none⟩) cols (cap - cols * i)
       | 3 => v = .int .i64 (j : Int)
       | 4 => v = .agg (cA (bl s))
       | 5 => v = .pointer (some ⟨b, cols * i * 15 + j * 15, none⟩)
       | _ => True) ?_ ?_ ?_ ?_ ?_ ?_
      ·intro i o' j b' hi hg wa v hC hV
       have hlt : i < 6 := by rcases Nat.lt_or_ge i 6 with q | q; exact q; rw [List.getElem?_eq_none (by simpa using q)] at hi; cases hi
       revert hi hg hV
       rcases (show i = 0 ∨ i = 1 ∨ i = 2 ∨ i = 3 ∨ i = 4 ∨ i = 5 by omega) with rfl | rfl | rfl | rfl | rfl | rfl <;>
        (intro hi hg hV; simp only [tkS, List.getElem?_cons_zero, List.getElem?_cons_succ, Option.some.injEq] at hi; subst hi; first | (cases hg; exact hV) | (cases hg))
      ·rintro wa wb hb ⟨a1, a2, a3, a4⟩; exact ⟨a1.below hb, a2.below hb a2.lt, Row.below a3 hb (Row.lt a3), Row.below a4 hb (Row.lt a4)⟩
      ·intro kc v wa wb hC1 hb h
       match kc, h with
       | 0, h => exact h
       | 1, h => exact h
       | 2, h => exact h
       | 3, h => exact h
       | 4, h => exact h
       | 5, h => exact h
       | kc + 6, h => trivial
      ·exact ⟨F6.out.drew, G6.out.below (bR.drew) G6.out.lt, Row.below C6.out (bR.drew) (Row.lt C6.out), Row.below R6.out (bR.drew) (Row.lt R6.out)⟩
      ·refine ⟨?_, ?_, ?_, ?_, ?_, ?_, trivial⟩
       ·intro f wq hC hd KK hK
        clear hd
        simp only [tkS, tkZ, setAll, siB, stS, stZ, Nat.zero_add, Nat.reduceAdd] at hK ⊢
        exact wp_load_row 24 (.tmp 12) rfl q rfl 24 (gA (cols : Int) (rows : Int) (.slice (some ⟨b, 0, none⟩) c.length cap)) hC.2.1 _ U24.out rfl 3 S24.out rfl (hK _ _ rfl bR)
       ·intro f wq hC hd KK hK
        clear hd
        simp only [tkS, tkZ, setAll, siB, stS, stZ, Nat.zero_add, Nat.reduceAdd] at hK ⊢
        refine wp_of_quiet rfl ?_
        go_big_quiet_step (fail)
        exact wpQuiet_nil (hK _ _ (rfl) bR)
       ·intro f wq hC hd KK hK
        have g0 : f 0 = .agg (gA (cols : Int) (rows : Int) (.slice (some ⟨b, 0, none⟩) c.length cap)) := hd 0 (by kernel_rfl)
        have g1 : f 1 = .int .i64 (i : Int) := hd 1 (by kernel_rfl)
        clear hd
        simp only [tkS, tkZ, setAll, siB, stS, stZ, Nat.zero_add, Nat.reduceAdd, g0, g1] at hK ⊢
        exact wp_call 39 #[.agg (gA (cols : Int) (rows : Int) (.slice (some ⟨b, 0, none⟩) c.length cap)), .int .i64 (i : Int)] (by simp [go_sem]) _ _ (RO.out wq) (fun w' hb => hK _ _ rfl hb)
       ·intro f wq hC hd KK hK
        clear hd
        simp only [tkS, tkZ, setAll, siB, stS, stZ, Nat.zero_add, Nat.reduceAdd] at hK ⊢
        refine wp_of_quiet rfl ?_
        go_big_quiet_step (fail)
        exact wpQuiet_nil (hK _ _ (rfl) bR)
       ·intro f wq hC hd KK hK
        clear hd
        simp only [tkS, tkZ, setAll, siB, stS, stZ, Nat.zero_add, Nat.reduceAdd] at hK ⊢
        exact wp_load_cell (.tmp 15) rfl p 0 (bl s) rfl (by have := rangeAt_cell (k := 0) hC.2.2.2 (by simp); simpa using this) (hK _ _ rfl bR)
       ·intro f wq hC hd KK hK
        have g2 : f 2 = .slice (some ⟨b, cols * i * 15, none⟩) cols (cap - cols * i) := hd 2 (by kernel_rfl)
        have g3 : f 3 = .int .i64 (j : Int) := hd 3 (by kernel_rfl)
        clear hd
        simp only [tkS, tkZ, setAll, siB, stS, stZ, Nat.zero_add, Nat.reduceAdd, g2, g3] at hK ⊢
        refine wp_of_quiet rfl ?_
        go_big_quiet_step (fail)
        exact wpQuiet_nil (hK _ _ (rfl) bR)
      ·intro f wz hC hv
       have p0 : f 0 = .agg (gA (cols : Int) (rows : Int) (.slice (some ⟨b, 0, none⟩) c.length cap)) := hv 0 (by decide)
       have p1 : f 1 = .int .i64 (i : Int) := hv 1 (by decide)
       have p2 : f 2 = .slice (some ⟨b, cols * i * 15, none⟩) cols (cap - cols * i) := hv 2 (by decide)
       have p3 : f 3 = .int .i64 (j : Int) := hv 3 (by decide)
       have p4 : f 4 = .agg (cA (bl s)) := hv 4 (by decide)
       have p5 : f 5 = .pointer (some ⟨b, cols * i * 15 + j * 15, none⟩) := hv 5 (by decide)
       simp only [tkS, tkZ, List.drop_succ_cons, List.drop_zero, setAll, siB, stS, stZ, Nat.zero_add, Nat.reduceAdd, p0, p1, p2, p3, p4, p5]
       clear hv p0 p1 p2 p3 p4 p5
       have C7 := Box'.mk hC.2.2.1
       have TT := Box'.mk ((Tc.refl b wz).setRow (cLs ((mix X c (i * cols + j)).set (i * cols + j) (bl s)) ++ sp).toArray)
       have F8 := Box'.mk (hC.1.tc TT.out hb3)
       have G8 := Box'.mk (TT.out.row hC.2.1 hqb)
       have C8 : Box' (RC (wz.setRow b (cLs ((mix X c (i * cols + j)).set (i * cols + j) (bl s)) ++ sp).toArray) b (mix X c (i * cols + (j + 1))) sp) := ⟨by
        have e := mix_set X c (i * cols + j) XL.out HT.out
        rw [YV.out] at e
        rw [show i * cols + (j + 1) = i * cols + j + 1 from rfl, ← e]
        exact hC.2.2.1.setRow _ _⟩
       have LT : Box' (i * cols + j < (mix X c (i * cols + j)).length) := ⟨by rw [mix_len _ _ _ XL.out]; exact HT.out⟩
       clear hC TT F6 G6 C6 R6 RO
       go_wp2_with (first
        | (refine wpList_store_cell rfl (.tmp 86) (.tmp 85) rfl b (mix X c (i * cols + j)) sp (i * cols + j) (bl s) (congrArg (fun z => Value.pointer (some ⟨b, z, none⟩)) PO.out) rfl C7.out LT.out ?_))
       exact ⟨⟨j + 1, by go_num, by omega, F8, G8, C8⟩, by simp [intOf]; omega⟩
     case neg =>
      by_cases q2 : (rows : Int) < by0
      case pos =>
       have YV : Box' (cat X (i * cols + j) = bl s) := ⟨by rw [XV.out, if_neg (by omega)]⟩
       clear XV
       go_wp2_with fail
       refine wp_region_growg 6 (by kernel_rfl) 88 rfl (by kernel_rfl) (fun wa wb => Below wa.heap.size wa wb) (fun wa => FrG w (gA (cols : Int) (rows : Int) v) s wa ∧ Row wa q 24 (gA (cols : Int) (rows : Int) (.slice (some ⟨b, 0, none⟩) c.length cap)) ∧ RC wa b (mix X c (i * cols + j)) sp ∧ RC wa p [bl s] []) (fun kc wa v => match kc with
        | 0 => v = .agg (gA (cols : Int) (rows : Int) (.slice (some ⟨b, 0, none⟩) c.length cap))
        | 1 => v = .int .i64 (i : Int)
        | 2 => v = .slice (some ⟨b, cols * i * 15, none⟩) cols (cap - cols * i)
        | 3 => v = .int .i64 (j : Int)
        | 4 => v = .agg (cA (bl s))
        | 5 => v = .pointer (some ⟨b, cols * i * 15 + j * 15, none⟩)
        | _ => True) ?_ ?_ ?_ ?_ ?_ ?_
       ·intro i o' j b' hi hg wa v hC hV
        have hlt : i < 6 := by rcases Nat.lt_or_ge i 6 with q | q; exact q; rw [List.getElem?_eq_none (by simpa using q)] at hi; cases hi
        revert hi hg hV
        rcases (show i = 0 ∨ i = 1 ∨ i = 2 ∨ i = 3 ∨ i = 4 ∨ i = 5 by omega) with rfl | rfl | rfl | rfl | rfl | rfl <;>
         (intro hi hg hV; simp only [tkS, List.getElem?_cons_zero, List.getElem?_cons_succ, Option.some.injEq] at hi; subst hi; first | (cases hg; exact hV) | (cases hg))
       ·rintro wa wb hb ⟨a1, a2, a3, a4⟩; exact ⟨a1.below hb, a2.below hb a2.lt, Row.below a3 hb (Row.lt a3), Row.below a4 hb (Row.lt a4)⟩
       ·intro kc v wa wb hC1 hb h
        match kc, h with
        | 0, h => exact h
        | 1, h => exact h
        | 2, h => exact h
        | 3, h => exact h
        | 4, h => exact h
        | 5, h => exact h
        | kc + 6, h => trivial
       ·exact ⟨F6.out.drew, G6.out.below (bR.drew) G6.out.lt, Row.below C6.out (bR.drew) (Row.lt C6.out), Row.below R6.out (bR.drew) (Row.lt R6.out)⟩
       ·refine ⟨?_, ?_, ?_, ?_, ?_, ?_, trivial⟩
        ·intro f wq hC hd KK hK
         clear hd
         simp only [tkS, tkZ, setAll, siB, stS, stZ, Nat.zero_add, Nat.reduceAdd] at hK ⊢
         exact wp_load_row 24 (.tmp 12) rfl q rfl 24 (gA (cols : Int) (rows : Int) (.slice (some ⟨b, 0, none⟩) c.length cap)) hC.2.1 _ U24.out rfl 3 S24.out rfl (hK _ _ rfl bR)
        ·intro f wq hC hd KK hK
         clear hd
         simp only [tkS, tkZ, setAll, siB, stS, stZ, Nat.zero_add, Nat.reduceAdd] at hK ⊢
         refine wp_of_quiet rfl ?_
         go_big_quiet_step (fail)
         exact wpQuiet_nil (hK _ _ (rfl) bR)
        ·intro f wq hC hd KK hK
         have g0 : f 0 = .agg (gA (cols : Int) (rows : Int) (.slice (some ⟨b, 0, none⟩) c.length cap)) := hd 0 (by kernel_rfl)
         have g1 : f 1 = .int .i64 (i : Int) := hd 1 (by kernel_rfl)
         clear hd
         simp only [tkS, tkZ, setAll, siB, stS, stZ, Nat.zero_add, Nat.reduceAdd, g0, g1] at hK ⊢
         exact wp_call 39 #[.agg (gA (cols : Int) (rows : Int) (.slice (some ⟨b, 0, none⟩) c.length cap)), .int .i64 (i : Int)] (by simp [go_sem]) _ _ (RO.out wq) (fun w' hb => hK _ _ rfl hb)
        ·intro f wq hC hd KK hK
         clear hd
         simp only [tkS, tkZ, setAll, siB, stS, stZ, Nat.zero_add, Nat.reduceAdd] at hK ⊢
         refine wp_of_quiet rfl ?_
         go_big_quiet_step (fail)
         exact wpQuiet_nil (hK _ _ (rfl) bR)
        ·intro f wq hC hd KK hK
         clear hd
         simp only [tkS, tkZ, setAll, siB, stS, stZ, Nat.zero_add, Nat.reduceAdd] at hK ⊢
         exact wp_load_cell (.tmp 15) rfl p 0 (bl s) rfl (by have := rangeAt_cell (k := 0) hC.2.2.2 (by simp); simpa using this) (hK _ _ rfl bR)
        ·intro f wq hC hd KK hK
         have g2 : f 2 = .slice (some ⟨b, cols * i * 15, none⟩) cols (cap - cols * i) := hd 2 (by kernel_rfl)
         have g3 : f 3 = .int .i64 (j : Int) := hd 3 (by kernel_rfl)
         clear hd
         simp only [tkS, tkZ, setAll, siB, stS, stZ, Nat.zero_add, Nat.reduceAdd, g2, g3] at hK ⊢
         refine wp_of_quiet rfl ?_
         go_big_quiet_step (fail)
         exact wpQuiet_nil (hK _ _ (rfl) bR)
       ·intro f wz hC hv
        have p0 : f 0 = .agg (gA (cols : Int) (rows : Int) (.slice (some ⟨b, 0, none⟩) c.length cap)) := hv 0 (by decide)
        have p1 : f 1 = .int .i64 (i : Int) := hv 1 (by decide)
        have p2 : f 2 = .slice (some ⟨b, cols * i * 15, none⟩) cols (cap - cols * i) := hv 2 (by decide)
        have p3 : f 3 = .int .i64 (j : Int) := hv 3 (by decide)
        have p4 : f 4 = .agg (cA (bl s)) := hv 4 (by decide)
        have p5 : f 5 = .pointer (some ⟨b, cols * i * 15 + j * 15, none⟩) := hv 5 (by decide)
        simp only [tkS, tkZ, List.drop_succ_cons, List.drop_zero, setAll, siB, stS, stZ, Nat.zero_add, Nat.reduceAdd, p0, p1, p2, p3, p4, p5]
        clear hv p0 p1 p2 p3 p4 p5
        have C7 := Box'.mk hC.2.2.1
        have TT := Box'.mk ((Tc.refl b wz).setRow (cLs ((mix X c (i * cols + j)).set (i * cols + j) (bl s)) ++ sp).toArray)
        have F8 := Box'.mk (hC.1.tc TT.out hb3)
        have G8 := Box'.mk (TT.out.row hC.2.1 hqb)
        have C8 : Box' (RC (wz.setRow b (cLs ((mix X c (i * cols + j)).set (i * cols + j) (bl s)) ++ sp).toArray) b (mix X c (i * cols + (j + 1))) sp) := ⟨by
         have e := mix_set X c (i * cols + j) XL.out HT.out
         rw [YV.out] at e
         rw [show i * cols + (j + 1) = i * cols + j + 1 from rfl, ← e]
         exact hC.2.2.1.setRow _ _⟩
        have LT : Box' (i * cols + j < (mix X c (i * cols + j)).length) := ⟨by rw [mix_len _ _ _ XL.out]; exact HT.out⟩
        clear hC TT F6 G6 C6 R6 RO
        go_wp2_with (first
         | (refine wpList_store_cell rfl (.tmp 86) (.tmp 85) rfl b (mix X c (i * cols + j)) sp (i * cols + j) (bl s) (congrArg (fun z => Value.pointer (some ⟨b, z, none⟩)) PO.out) rfl C7.out LT.out ?_))
        exact ⟨⟨j + 1, by go_num, by omega, F8, G8, C8⟩, by simp [intOf]; omega⟩
      case neg =>
       by_cases q3 : (i : Int) + by0 < (top : Int)
       case pos =>
        have YV : Box' (cat X (i * cols + j) = bl s) := ⟨by rw [XV.out, if_neg (by omega)]⟩
        clear XV
        go_wp2_with fail
        refine wp_region_growg 6 (by kernel_rfl) 88 rfl (by kernel_rfl) (fun wa wb => Below wa.heap.size wa wb) (fun wa => FrG w (gA (cols : Int) (rows : Int) v) s wa ∧ Row wa q 24 (gA (cols : Int) (rows : Int) (.slice (some ⟨b, 0, none⟩) c.length cap)) ∧ RC wa b (mix X c (i * cols + j)) sp ∧ RC wa p [bl s] []) (fun kc wa v => match kc with
         | 0 => v = .agg (gA (cols : Int) (rows : Int) (.slice (some ⟨b, 0, none⟩) c.length cap))
         | 1 => v = .int .i64 (i : Int)
         | 2 => v = .slice (some ⟨b, cols * i * 15, none⟩) cols (cap - cols * i)
         | 3 => v = .int .i64 (j : Int)
         | 4 => v = .agg (cA (bl s))
         | 5 => v = .pointer (some ⟨b, cols * i * 15 + j * 15, none⟩)
         | _ => True) ?_ ?_ ?_ ?_ ?_ ?_
        ·intro i o' j b' hi hg wa v hC hV
         have hlt : i < 6 := by rcases Nat.lt_or_ge i 6 with q | q; exact q; rw [List.getElem?_eq_none (by simpa using q)] at hi; cases hi
         revert hi hg hV
         rcases (show i = 0 ∨ i = 1 ∨ i = 2 ∨ i = 3 ∨ i = 4 ∨ i = 5 by omega) with rfl | rfl | rfl | rfl | rfl | rfl <;>
          (intro hi hg hV; simp only [tkS, List.getElem?_cons_zero, List.getElem?_cons_succ, Option.some.injEq] at hi; subst hi; first | (cases hg; exact hV) | (cases hg))
        ·rintro wa wb hb ⟨a1, a2, a3, a4⟩; exact ⟨a1.below hb, a2.below hb a2.lt, Row.below a3 hb (Row.lt a3), Row.below a4 hb (Row.lt a4)⟩
        ·intro kc v wa wb hC1 hb h
         match kc, h with
         | 0, h => exact h
         | 1, h => exact h
         | 2, h => exact h
         | 3, h => exact h
         | 4, h => exact h
         | 5, h => exact h
         | kc + 6, h => trivial
        ·exact ⟨F6.out.drew, G6.out.below (bR.drew) G6.out.lt, Row.below C6.out (bR.drew) (Row.lt C6.out), Row.below R6.out (bR.drew) (Row.lt R6.out)⟩
        ·refine ⟨?_, ?_, ?_, ?_, ?_, ?_, trivial⟩
         ·intro f wq hC hd KK hK
          clear hd
          simp only [tkS, tkZ, setAll, siB, stS, stZ, Nat.zero_add, Nat.reduceAdd] at hK ⊢
          exact wp_load_row 24 (.tmp 12) rfl q rfl 24 (gA (cols : Int) (rows : Int) (.slice (some ⟨b, 0, none⟩) c.length cap)) hC.2.1 _ U24.out rfl 3 S24.out rfl (hK _ _ rfl bR)
         ·intro f wq hC hd KK hK
          clear hd
          simp only [tkS, tkZ, setAll, siB, stS, stZ, Nat.zero_add, Nat.reduceAdd] at hK ⊢
          refine wp_of_quiet rfl ?_
          go_big_quiet_step (fail)
          exact wpQuiet_nil (hK _ _ (rfl) bR)
         ·intro f wq hC hd KK hK
          have g0 : f 0 = .agg (gA (cols : Int) (rows : Int) (.slice (some ⟨b, 0, none⟩) c.length cap)) := hd 0 (by kernel_rfl)
          have g1 : f 1 = .int .i64 (i : Int) := hd 1 (by kernel_rfl)
          clear hd
          simp only [tkS, tkZ, setAll, siB, stS, stZ, Nat.zero_add, Nat.reduceAdd, g0, g1] at hK ⊢
          exact wp_call 39 #[.agg (gA (cols : Int) (rows : Int) (.slice (some ⟨b, 0, none⟩) c.length cap)), .int .i64 (i : Int)] (by simp [go_sem]) _ _ (RO.out wq) (fun w' hb => hK _ _ rfl hb)
         ·intro f wq hC hd KK hK
          clear hd
          simp only [tkS, tkZ, setAll, siB, stS, stZ, Nat.zero_add, Nat.reduceAdd] at hK ⊢
          refine wp_of_quiet rfl ?_
          go_big_quiet_step (fail)
          exact wpQuiet_nil (hK _ _ (rfl) bR)
         ·intro f wq hC hd KK hK
          clear hd
          simp only [tkS, tkZ, setAll, siB, stS, stZ, Nat.zero_add, Nat.reduceAdd] at hK ⊢
          exact wp_load_cell (.tmp 15) rfl p 0 (bl s) rfl (by have := rangeAt_cell (k := 0) hC.2.2.2 (by simp); simpa using this) (hK _ _ rfl bR)
         ·intro f wq hC hd KK hK
          have g2 : f 2 = .slice (some ⟨b, cols * i * 15, none⟩) cols (cap - cols * i) := hd 2 (by kernel_rfl)
          have g3 : f 3 = .int .i64 (j : Int) := hd 3 (by kernel_rfl)
          clear hd
          simp only [tkS, tkZ, setAll, siB, stS, stZ, Nat.zero_add, Nat.reduceAdd, g2, g3] at hK ⊢
          refine wp_of_quiet rfl ?_
          go_big_quiet_step (fail)
          exact wpQuiet_nil (hK _ _ (rfl) bR)
        ·intro f wz hC hv
         have p0 : f 0 = .agg (gA (cols : Int) (rows : Int) (.slice (some ⟨b, 0, none⟩) c.length cap)) := hv 0 (by decide)
         have p1 : f 1 = .int .i64 (i : Int) := hv 1 (by decide)
         have p2 : f 2 = .slice (some ⟨b, cols * i * 15, none⟩) cols (cap - cols * i) := hv 2 (by decide)
         have p3 : f 3 = .int .i64 (j : Int) := hv 3 (by decide)
         have p4 : f 4 = .agg (cA (bl s)) := hv 4 (by decide)
         have p5 : f 5 = .pointer (some ⟨b, cols * i * 15 + j * 15, none⟩) := hv 5 (by decide)
         simp only [tkS, tkZ, List.drop_succ_cons, List.drop_zero, setAll, siB, stS, stZ, Nat.zero_add, Nat.reduceAdd, p0, p1, p2, p3, p4, p5]
         clear hv p0 p1 p2 p3 p4 p5
         have C7 := Box'.mk hC.2.2.1
         have TT := Box'.mk ((Tc.refl b wz).setRow (cLs ((mix X c (i * cols + j)).set (i * cols + j) (bl s)) ++ sp).toArray)
         have F8 := Box'.mk (hC.1.tc TT.out hb3)
         have G8 := Box'.mk (TT.out.row hC.2.1 hqb)
         have C8 : Box' (RC (wz.setRow b (cLs ((mix X c (i * cols + j)).set (i * cols + j) (bl s)) ++ sp).toArray) b (mix X c (i * cols + (j + 1))) sp) := ⟨by
          have e := mix_set X c (i * cols + j) XL.out HT.out
          rw [YV.out] at e
          rw [show i * cols + (j + 1) = i * cols + j + 1 from rfl, ← e]
          exact hC.2.2.1.setRow _ _⟩
         have LT : Box' (i * cols + j < (mix X c (i * cols + j)).length) := ⟨by rw [mix_len _ _ _ XL.out]; exact HT.out⟩
         clear hC TT F6 G6 C6 R6 RO
         go_wp2_with (first
          | (refine wpList_store_cell rfl (.tmp 86) (.tmp 85) rfl b (mix X c (i * cols + j)) sp (i * cols + j) (bl s) (congrArg (fun z => Value.pointer (some ⟨b, z, none⟩)) PO.out) rfl C7.out LT.out ?_))
         exact ⟨⟨j + 1, by go_num, by omega, F8, G8, C8⟩, by simp [intOf]; omega⟩
       case neg =>
        by_cases q4 : (bot : Int) < (i : Int) + by0
        case pos =>
         have YV : Box' (cat X (i * cols + j) = bl s) := ⟨by rw [XV.out, if_neg (by omega)]⟩
         clear XV
         go_wp2_with fail
         refine wp_region_growg 6 (by kernel_rfl) 88 rfl (by kernel_rfl) (fun wa wb => Below wa.heap.size wa wb) (fun wa => FrG w (gA (cols : Int) (rows : Int) v) s wa ∧ Row wa q 24 (gA (cols : Int) (rows : Int) (.slice (some ⟨b, 0, none⟩) c.length cap)) ∧ RC wa b (mix X c (i * cols + j)) sp ∧ RC wa p [bl s] []) (fun kc wa v => match kc with
          | 0 => v = .agg (gA (cols : Int) (rows : Int) (.slice (some ⟨b, 0, none⟩) c.length cap))
          | 1 => v = .int .i64 (i : Int)
          | 2 => v = .slice (some ⟨b, cols * i * 15, none⟩) cols (cap - cols * i)
          | 3 => v = .int .i64 (j : Int)
          | 4 => v = .agg (cA (bl s))
          | 5 => v = .pointer (some ⟨b, cols * i * 15 + j * 15, none⟩)
          | _ => True) ?_ ?_ ?_ ?_ ?_ ?_
         ·intro i o' j b' hi hg wa v hC hV
          have hlt : i < 6 := by rcases Nat.lt_or_ge i 6 with q | q; exact q; rw [List.getElem?_eq_none (by simpa using q)] at hi; cases hi
          revert hi hg hV
          rcases (show i = 0 ∨ i = 1 ∨ i = 2 ∨ i = 3 ∨ i = 4 ∨ i = 5 by omega) with rfl | rfl | rfl | rfl | rfl | rfl <;>
           (intro hi hg hV; simp only [tkS, List.getElem?_cons_zero, List.getElem?_cons_succ, Option.some.injEq] at hi; subst hi; first | (cases hg; exact hV) | (cases hg))
         ·rintro wa wb hb ⟨a1, a2, a3, a4⟩; exact ⟨a1.below hb, a2.below hb a2.lt, Row.below a3 hb (Row.lt a3), Row.below a4 hb (Row.lt a4)⟩
         ·intro kc v wa wb hC1 hb h
          match kc, h with
          | 0, h => exact h
          | 1, h => exact h
          | 2, h => exact h
          | 3, h => exact h
          | 4, h => exact h
          | 5, h => exact h
          | kc + 6, h => trivial
         ·exact ⟨F6.out.drew, G6.out.below (bR.drew) G6.out.lt, Row.below C6.out (bR.drew) (Row.lt C6.out), Row.below R6.out (bR.drew) (Row.lt R6.out)⟩
         ·refine ⟨?_, ?_, ?_, ?_, ?_, ?_, trivial⟩
          ·intro f wq hC hd KK hK
           clear hd
           simp only [tkS, tkZ, setAll, siB, stS, stZ, Nat.zero_add, Nat.reduceAdd] at hK ⊢
           exact wp_load_row 24 (.tmp 12) rfl q rfl 24 (gA (cols : Int) (rows : Int) (.slice (some ⟨b, 0, none⟩) c.length cap)) hC.2.1 _ U24.out rfl 3 S24.out rfl (hK _ _ rfl bR)
          ·intro f wq hC hd KK hK
           clear hd
           simp only [tkS, tkZ, setAll, siB, stS, stZ, Nat.zero_add, Nat.reduceAdd] at hK ⊢
           refine wp_of_quiet rfl ?_
           go_big_quiet_step (fail)
           exact wpQuiet_nil (hK _ _ (rfl) bR)
          ·intro f wq hC hd KK hK
           have g0 : f 0 = .agg (gA (cols : Int) (rows : Int) (.slice (some ⟨b, 0, none⟩) c.length cap)) := hd 0 (by kernel_rfl)
           have g1 : f 1 = .int .i64 (i : Int) := hd 1 (by kernel_rfl)
           clear hd
           simp only [tkS, tkZ, setAll, siB, stS, stZ, Nat.zero_add, Nat.reduceAdd, g0, g1] at hK ⊢
           exact wp_call 39 #[.agg (gA (cols : Int) (rows : Int) (.slice (some ⟨b, 0, none⟩) c.length cap)), .int .i64 (i : Int)] (by simp [go_sem]) _ _ (RO.out wq) (fun w' hb => hK _ _ rfl hb)
          ·intro f wq hC hd KK hK
           clear hd
           simp only [tkS, tkZ, setAll, siB, stS, stZ, Nat.zero_add, Nat.reduceAdd] at hK ⊢
           refine wp_of_quiet rfl ?_
           go_big_quiet_step (fail)
           exact wpQuiet_nil (hK _ _ (rfl) bR)
          ·intro f wq hC hd KK hK
           clear hd
           simp only [tkS, tkZ, setAll, siB, stS, stZ, Nat.zero_add, Nat.reduceAdd] at hK ⊢
           exact wp_load_cell (.tmp 15) rfl p 0 (bl s) rfl (by have := rangeAt_cell (k := 0) hC.2.2.2 (by simp); simpa using this) (hK _ _ rfl bR)
          ·intro f wq hC hd KK hK
           have g2 : f 2 = .slice (some ⟨b, cols * i * 15, none⟩) cols (cap - cols * i) := hd 2 (by kernel_rfl)
           have g3 : f 3 = .int .i64 (j : Int) := hd 3 (by kernel_rfl)
           clear hd
           simp only [tkS, tkZ, setAll, siB, stS, stZ, Nat.zero_add, Nat.reduceAdd, g2, g3] at hK ⊢
           refine wp_of_quiet rfl ?_
           go_big_quiet_step (fail)
           exact wpQuiet_nil (hK _ _ (rfl) bR)
         ·intro f wz hC hv
          have p0 : f 0 = .agg (gA (cols : Int) (rows : Int) (.slice (some ⟨b, 0, none⟩) c.length cap)) := hv 0 (by decide)
          have p1 : f 1 = .int .i64 (i : Int) := hv 1 (by decide)
          have p2 : f 2 = .slice (some ⟨b, cols * i * 15, none⟩) cols (cap - cols * i) := hv 2 (by decide)
          have p3 : f 3 = .int .i64 (j : Int) := hv 3 (by decide)
          have p4 : f 4 = .agg (cA (bl s)) := hv 4 (by decide)
          have p5 : f 5 = .pointer (some ⟨b, cols * i * 15 + j * 15, none⟩) := hv 5 (by decide)
          simp only [tkS, tkZ, List.drop_succ_cons, List.drop_zero, setAll, siB, stS, stZ, Nat.zero_add, Nat.reduceAdd, p0, p1, p2, p3, p4, p5]
          clear hv p0 p1 p2 p3 p4 p5
          have C7 := Box'.mk hC.2.2.1
          have TT := Box'.mk ((Tc.refl b wz).setRow (cLs ((mix X c (i * cols + j)).set (i * cols + j) (bl s)) ++ sp).toArray)
          have F8 := Box'.mk (hC.1.tc TT.out hb3)
          have G8 := Box'.mk (TT.out.row hC.2.1 hqb)
          have C8 : Box' (RC (wz.setRow b (cLs ((mix X c (i * cols + j)).set (i * cols + j) (bl s)) ++ sp).toArray) b (mix X c (i * cols + (j + 1))) sp) := ⟨by
           have e := mix_set X c (i * cols + j) XL.out HT.out
           rw [YV.out] at e
           rw [show i * cols + (j + 1) = i * cols + j + 1 from rfl, ← e]
           exact hC.2.2.1.setRow _ _⟩
          have LT : Box' (i * cols + j < (mix X c (i * cols + j)).length) := ⟨by rw [mix_len _ _ _ XL.out]; exact HT.out⟩
          clear hC TT F6 G6 C6 R6 RO
          go_wp2_with (first
           | (refine wpList_store_cell rfl (.tmp 86) (.tmp 85) rfl b (mix X c (i * cols + j)) sp (i * cols + j) (bl s) (congrArg (fun z => Value.pointer (some ⟨b, z, none⟩)) PO.out) rfl C7.out LT.out ?_))
          exact ⟨⟨j + 1, by go_num, by omega, F8, G8, C8⟩, by simp [intOf]; omega⟩
        case neg =>
         obtain ⟨u, hu⟩ : ∃ u : Nat, (i : Int) + by0 = (u : Int) := ⟨((i : Int) + by0).toNat, by omega⟩
         have hu1 : top ≤ u := by omega
         have hu2 : u ≤ bot := by omega
         have YV : Box' (cat X (i * cols + j) = cat c (u * cols + j)) := ⟨by rw [XV.out, if_pos (by omega), hu]; rfl⟩
         have hle3 : (u + 1) * cols ≤ cols * rows := by rw [Nat.mul_comm cols]; exact Nat.mul_le_mul_right _ (by omega)
         have HU : u * cols + j < c.length := by rw [HL.out]; rw [Nat.add_mul] at hle3; omega
         have RO2 : Box' (∀ wx, Calls Try.prog 39 #[.agg (gA (cols : Int) (rows : Int) v), .int .i64 ((i : Int) + by0)] wx fun e w' => e = .returned (.slice (some ⟨gb, go' + cols * u * 15, none⟩) cols (gc - cols * u)) ∧ Below wx.heap.size wx w') := ⟨fun wx => by
          rw [hu, EV.out]
          exact refRow_any cols u gb go' c.length gc (rows : Int) p1 p2 (by omega) (by rw [Nat.mul_comm]; have := HL.out; omega) wx⟩
         have RG : Box' (∀ wx, Below w.heap.size w wx → wx.rangeAt gb (go' + cols * u * 15 + j * 15) (cA (cat c (u * cols + j))).toList) := ⟨fun wx hb => by
          have := HR.out (u * cols + j) wx HU hb
          rw [show go' + cols * u * 15 + j * 15 = go' + (u * cols + j) * 15 by rw [Nat.mul_comm cols u, Nat.add_mul]; omega]
          exact this⟩
         have HU2 := Box'.mk hu
         clear XV hu hle3 HU HR
         go_wp2_with (first
          | (refine wpList_load_row rfl 24 (.tmp 5) rfl w.heap.size rfl 24 (gA (cols : Int) (rows : Int) v) F6.out.rg _ U24.out rfl 3 S24.out rfl ?_))
         refine (RO2.out _).mono ?_
         rintro e w7 ⟨rfl, hb⟩
         have F7 := Box'.mk (F6.out.below hb)
         have G7 := Box'.mk (G6.out.below hb G6.out.lt)
         have C7 := Box'.mk (Row.below C6.out hb (Row.lt C6.out))
         have R7 : Box' (RC w7 p [bl s] []) := ⟨Row.below R6.out hb (Row.lt R6.out)⟩
         have TP := Box'.mk ((Tc.refl p w7).setRow (cLs ([bl s].set 0 (cat c (u * cols + j))) ++ []).toArray)
         clear hb F6 G6 C6 R6 RO2 c1
         have F6 := Box'.mk (F7.out.tc TP.out hp3)
         have G6 := Box'.mk (TP.out.row G7.out (Ne.symm hp2))
         have C6 := Box'.mk (TP.out.rc C7.out (Ne.symm hp1))
         have R6 : Box' (RC (w7.setRow p (cLs ([bl s].set 0 (cat c (u * cols + j))) ++ []).toArray) p [cat c (u * cols + j)] []) := ⟨R7.out.setRow _ _⟩
         go_upto_region 13 with (first
          | (refine wpList_load_cell rfl (.tmp 79) rfl gb (go' + cols * u * 15 + j * 15) (cat c (u * cols + j)) rfl (RG.out _ F7.out.be) ?_)
          | (refine wpList_store_cell rfl (.tmp 15) (.tmp 80) rfl p [bl s] [] 0 (cat c (u * cols + j)) rfl rfl R7.out (by simp) ?_))
         generalize (w7.setRow p (cLs ([bl s].set 0 (cat c (u * cols + j))) ++ []).toArray) = w8 at *
         clear TP F7 G7 C7 R7
         refine wp_region_growg 6 (by kernel_rfl) 88 rfl (by kernel_rfl) (fun wa wb => Below wa.heap.size wa wb) (fun wa => FrG w (gA (cols : Int) (rows : Int) v) s wa ∧ Row wa q 24 (gA (cols : Int) (rows : Int) (.slice (some ⟨b, 0, none⟩) c.length cap)) ∧ RC wa b (mix X c (i * cols + j)) sp ∧ RC wa p [cat c (u * cols + j)] []) (fun kc wa v => match kc with
          | 0 => v = .agg (gA (cols : Int) (rows : Int) (.slice (some ⟨b, 0, none⟩) c.length cap))
          | 1 => v = .int .i64 (i : Int)
          | 2 => v = .slice (some ⟨b, cols * i * 15, none⟩) cols (cap - cols * i)
          | 3 => v = .int .i64 (j : Int)
          | 4 => v = .agg (cA (cat c (u * cols + j)))
          | 5 => v = .pointer (some ⟨b, cols * i * 15 + j * 15, none⟩)
          | _ => True) ?_ ?_ ?_ ?_ ?_ ?_
         ·intro i o' j b' hi hg wa v hC hV
          have hlt : i < 6 := by rcases Nat.lt_or_ge i 6 with q | q; exact q; rw [List.getElem?_eq_none (by simpa using q)] at hi; cases hi
          revert hi hg hV
          rcases (show i = 0 ∨ i = 1 ∨ i = 2 ∨ i = 3 ∨ i = 4 ∨ i = 5 by omega) with rfl | rfl | rfl | rfl | rfl | rfl <;>
           (intro hi hg hV; simp only [tkS, List.getElem?_cons_zero, List.getElem?_cons_succ, Option.some.injEq] at hi; subst hi; first | (cases hg; exact hV) | (cases hg))
         ·rintro wa wb hb ⟨a1, a2, a3, a4⟩; exact ⟨a1.below hb, a2.below hb a2.lt, Row.below a3 hb (Row.lt a3), Row.below a4 hb (Row.lt a4)⟩
         ·intro kc v wa wb hC1 hb h
          match kc, h with
          | 0, h => exact h
          | 1, h => exact h
          | 2, h => exact h
          | 3, h => exact h
          | 4, h => exact h
          | 5, h => exact h
          | kc + 6, h => trivial
         ·exact ⟨F6.out.drew, G6.out.below (bR.drew) G6.out.lt, Row.below C6.out (bR.drew) (Row.lt C6.out), Row.below R6.out (bR.drew) (Row.lt R6.out)⟩
         ·refine ⟨?_, ?_, ?_, ?_, ?_, ?_, trivial⟩
          ·intro f wq hC hd KK hK
           clear hd
           simp only [tkS, tkZ, setAll, siB, stS, stZ, Nat.zero_add, Nat.reduceAdd] at hK ⊢
           exact wp_load_row 24 (.tmp 12) rfl q rfl 24 (gA (cols : Int) (rows : Int) (.slice (some ⟨b, 0, none⟩) c.length cap)) hC.2.1 _ U24.out rfl 3 S24.out rfl (hK _ _ rfl bR)
          ·intro f wq hC hd KK hK
           clear hd
           simp only [tkS, tkZ, setAll, siB, stS, stZ, Nat.zero_add, Nat.reduceAdd] at hK ⊢
           refine wp_of_quiet rfl ?_
           go_big_quiet_step (fail)
           exact wpQuiet_nil (hK _ _ (rfl) bR)
          ·intro f wq hC hd KK hK
           have g0 : f 0 = .agg (gA (cols : Int) (rows : Int) (.slice (some ⟨b, 0, none⟩) c.length cap)) := hd 0 (by kernel_rfl)
           have g1 : f 1 = .int .i64 (i : Int) := hd 1 (by kernel_rfl)
           clear hd
           simp only [tkS, tkZ, setAll, siB, stS, stZ, Nat.zero_add, Nat.reduceAdd, g0, g1] at hK ⊢
           exact wp_call 39 #[.agg (gA (cols : Int) (rows : Int) (.slice (some ⟨b, 0, none⟩) c.length cap)), .int .i64 (i : Int)] (by simp [go_sem]) _ _ (RO.out wq) (fun w' hb => hK _ _ rfl hb)
          ·intro f wq hC hd KK hK
           clear hd
           simp only [tkS, tkZ, setAll, siB, stS, stZ, Nat.zero_add, Nat.reduceAdd] at hK ⊢
           refine wp_of_quiet rfl ?_
           go_big_quiet_step (fail)
           exact wpQuiet_nil (hK _ _ (rfl) bR)
          ·intro f wq hC hd KK hK
           clear hd
           simp only [tkS, tkZ, setAll, siB, stS, stZ, Nat.zero_add, Nat.reduceAdd] at hK ⊢
           exact wp_load_cell (.tmp 15) rfl p 0 (cat c (u * cols + j)) rfl (by have := rangeAt_cell (k := 0) hC.2.2.2 (by simp); simpa using this) (hK _ _ rfl bR)
          ·intro f wq hC hd KK hK
           have g2 : f 2 = .slice (some ⟨b, cols * i * 15, none⟩) cols (cap - cols * i) := hd 2 (by kernel_rfl)
           have g3 : f 3 = .int .i64 (j : Int) := hd 3 (by kernel_rfl)
           clear hd
           simp only [tkS, tkZ, setAll, siB, stS, stZ, Nat.zero_add, Nat.reduceAdd, g2, g3] at hK ⊢
           refine wp_of_quiet rfl ?_
           go_big_quiet_step (fail)
           exact wpQuiet_nil (hK _ _ (rfl) bR)
         ·intro f wz hC hv
          have p0 : f 0 = .agg (gA (cols : Int) (rows : Int) (.slice (some ⟨b, 0, none⟩) c.length cap)) := hv 0 (by decide)
          have p1 : f 1 = .int .i64 (i : Int) := hv 1 (by decide)
          have p2 : f 2 = .slice (some ⟨b, cols * i * 15, none⟩) cols (cap - cols * i) := hv 2 (by decide)
          have p3 : f 3 = .int .i64 (j : Int) := hv 3 (by decide)
          have p4 : f 4 = .agg (cA (cat c (u * cols + j))) := hv 4 (by decide)
          have p5 : f 5 = .pointer (some ⟨b, cols * i * 15 + j * 15, none⟩) := hv 5 (by decide)
          simp only [tkS, tkZ, List.drop_succ_cons, List.drop_zero, setAll, siB, stS, stZ, Nat.zero_add, Nat.reduceAdd, p0, p1, p2, p3, p4, p5]
          clear hv p0 p1 p2 p3 p4 p5
          have C7 := Box'.mk hC.2.2.1
          have TT := Box'.mk ((Tc.refl b wz).setRow (cLs ((mix X c (i * cols + j)).set (i * cols + j) (cat c (u * cols + j))) ++ sp).toArray)
          have F8 := Box'.mk (hC.1.tc TT.out hb3)
          have G8 := Box'.mk (TT.out.row hC.2.1 hqb)
          have C8 : Box' (RC (wz.setRow b (cLs ((mix X c (i * cols + j)).set (i * cols + j) (cat c (u * cols + j))) ++ sp).toArray) b (mix X c (i * cols + (j + 1))) sp) := ⟨by
           have e := mix_set X c (i * cols + j) XL.out HT.out
           rw [YV.out] at e
           rw [show i * cols + (j + 1) = i * cols + j + 1 from rfl, ← e]
           exact hC.2.2.1.setRow _ _⟩
          have LT : Box' (i * cols + j < (mix X c (i * cols + j)).length) := ⟨by rw [mix_len _ _ _ XL.out]; exact HT.out⟩
          clear hC TT F6 G6 C6 R6 RO
          go_wp2_with (first
           | (refine wpList_store_cell rfl (.tmp 86) (.tmp 85) rfl b (mix X c (i * cols + j)) sp (i * cols + j) (cat c (u * cols + j)) (congrArg (fun z => Value.pointer (some ⟨b, z, none⟩)) PO.out) rfl C7.out LT.out ?_))
          exact ⟨⟨j + 1, by go_num, by omega, F8, G8, C8⟩, by simp [intOf]; omega⟩
end Go.Proofs.Ytnbonlkmadmpcaa
