/- What came in: styles, cells, grids, what grids are asked. -/
import Derived.Test.YtnbonlkmadmpcaaV
import Derived.ProofKit
import Derived.OpenShut
import Derived.HandedShaped
import Derived.ChangeSlices
import Derived.ChangeArms
import Derived.ChangeOld
import Derived.Deep.SlicePairs
import Derived.Carry
import Derived.Test.YtnbonlkmadmpcaaMk
import Derived.Test.YtnbonlkmadmpcaaNb
namespace Go.Proofs.Ytnbonlkmadmpcaa
open Go.ChangeShapes Go.WideShapes Go.ChangeAt Go.RowKit Go.BigFrame
set_option linter.unusedVariables false
set_option linter.unusedSimpArgs false
theorem own : ownKnob Try.prog.godebug = none := by kernel_rfl
theorem laidOut : laidOutB Try.prog = true := by kernel_rfl
theorem Try.cells3 : Try.prog.cellsOf 3 = 1 := by kernel_rfl
theorem Try.cells4 : Try.prog.cellsOf 4 = 1 := by kernel_rfl
theorem Try.cells21 : Try.prog.cellsOf 21 = 1 := by kernel_rfl
theorem Try.cells26 : Try.prog.cellsOf 26 = 10 := by kernel_rfl
end Go.Proofs.Ytnbonlkmadmpcaa
namespace Go.Proofs.Ytnbonlkmadmpcaa
open Go.ChangeShapes Go.WideShapes Go.ChangeAt Go.RowKit Go.BigFrame
set_option linter.unusedVariables false
set_option linter.unusedSimpArgs false
theorem Try.cells5 : Try.prog.cellsOf 5 = 1 := by kernel_rfl
theorem Try.cells47 : Try.prog.cellsOf 47 = 3 := by kernel_rfl
theorem Try.cells49 : Try.prog.cellsOf 49 = 15 := by kernel_rfl
theorem Try.bytes49 : Try.prog.bytesOf 49 = 48 := by kernel_rfl
set_option maxRecDepth 100000 in
theorem read_style {H : Type} {enc : TypeId × Value → H} {W : World} {fuel : Nat} {cs : List Value} {x : DataW H × List MemPlace} (h : DataW.trod enc Try.prog W 0 (fun _ => true) true fuel 26 cs = some x) : ∃ s : St, cs = (sA s).toList := by
 obtain ⟨xs, k, hk, hxy, hcl, hxl, hf⟩ := DataW.trod_struct Try.underlying26 h
 rw [Try.cells26] at hcl
 have hl2 : xs.length = 10 := hxl
 match cs, hcl with
 | [v0, v1, v2, v3, v4, v5, v6, v7, v8, v9], _ =>
  have g0 : DataW.trod enc Try.prog W 0 (fun _ => true) true k 3 (([v0, v1, v2, v3, v4, v5, v6, v7, v8, v9].drop 0).take (Try.prog.cellsOf 3)) = xs[0]? := hf 0 _ rfl
  have g1 : DataW.trod enc Try.prog W 0 (fun _ => true) true k 3 (([v0, v1, v2, v3, v4, v5, v6, v7, v8, v9].drop 1).take (Try.prog.cellsOf 3)) = xs[1]? := hf 1 _ rfl
  have g2 : DataW.trod enc Try.prog W 0 (fun _ => true) true k 4 (([v0, v1, v2, v3, v4, v5, v6, v7, v8, v9].drop 2).take (Try.prog.cellsOf 4)) = xs[2]? := hf 2 _ rfl
  have g3 : DataW.trod enc Try.prog W 0 (fun _ => true) true k 4 (([v0, v1, v2, v3, v4, v5, v6, v7, v8, v9].drop 3).take (Try.prog.cellsOf 4)) = xs[3]? := hf 3 _ rfl
  have g4 : DataW.trod enc Try.prog W 0 (fun _ => true) true k 4 (([v0, v1, v2, v3, v4, v5, v6, v7, v8, v9].drop 4).take (Try.prog.cellsOf 4)) = xs[4]? := hf 4 _ rfl
  have g5 : DataW.trod enc Try.prog W 0 (fun _ => true) true k 4 (([v0, v1, v2, v3, v4, v5, v6, v7, v8, v9].drop 5).take (Try.prog.cellsOf 4)) = xs[5]? := hf 5 _ rfl
  have g6 : DataW.trod enc Try.prog W 0 (fun _ => true) true k 4 (([v0, v1, v2, v3, v4, v5, v6, v7, v8, v9].drop 6).take (Try.prog.cellsOf 4)) = xs[6]? := hf 6 _ rfl
  have g7 : DataW.trod enc Try.prog W 0 (fun _ => true) true k 4 (([v0, v1, v2, v3, v4, v5, v6, v7, v8, v9].drop 7).take (Try.prog.cellsOf 4)) = xs[7]? := hf 7 _ rfl
  have g8 : DataW.trod enc Try.prog W 0 (fun _ => true) true k 4 (([v0, v1, v2, v3, v4, v5, v6, v7, v8, v9].drop 8).take (Try.prog.cellsOf 4)) = xs[8]? := hf 8 _ rfl
  have g9 : DataW.trod enc Try.prog W 0 (fun _ => true) true k 4 (([v0, v1, v2, v3, v4, v5, v6, v7, v8, v9].drop 9).take (Try.prog.cellsOf 4)) = xs[9]? := hf 9 _ rfl
  rw [Try.cells3, List.getElem?_eq_getElem (by omega)] at g0 g1
  rw [Try.cells4, List.getElem?_eq_getElem (by omega)] at g2 g3 g4 g5 g6 g7 g8 g9
  obtain ⟨n0, e0, _, _⟩ := DataW.trod_int Try.underlying3 g0
  obtain ⟨n1, e1, _, _⟩ := DataW.trod_int Try.underlying3 g1
  obtain ⟨n2, e2, _⟩ := DataW.trod_bool Try.underlying4 g2
  obtain ⟨n3, e3, _⟩ := DataW.trod_bool Try.underlying4 g3
  obtain ⟨n4, e4, _⟩ := DataW.trod_bool Try.underlying4 g4
  obtain ⟨n5, e5, _⟩ := DataW.trod_bool Try.underlying4 g5
  obtain ⟨n6, e6, _⟩ := DataW.trod_bool Try.underlying4 g6
  obtain ⟨n7, e7, _⟩ := DataW.trod_bool Try.underlying4 g7
  obtain ⟨n8, e8, _⟩ := DataW.trod_bool Try.underlying4 g8
  obtain ⟨n9, e9, _⟩ := DataW.trod_bool Try.underlying4 g9
  simp only [List.drop_zero, List.drop_succ_cons, tkS, tkZ, List.cons.injEq, and_true] at e0 e1 e2 e3 e4 e5 e6 e7 e8 e9
  subst e0 e1 e2 e3 e4 e5 e6 e7 e8 e9
  exact ⟨⟨n0, n1, n2, n3, n4, n5, n6, n7, n8, n9⟩, rfl⟩
theorem read_marks {H : Type} {enc : TypeId × Value → H} {W : World} {fuel : Nat} {cs : List Value} {x : DataW H × List MemPlace} (h : DataW.trod enc Try.prog W 0 (fun _ => true) true fuel 47 cs = some x) : ∃ a b c : Int, cs = [.int .i32 a, .int .i32 b, .int .i32 c] := by
 obtain ⟨xs, k, hk, hxy, hcl, hxl, hf⟩ := DataW.trod_array Try.underlying47 h
 rw [Try.cells47] at hcl
 match cs, hcl with
 | [v0, v1, v2], _ =>
  have g0 := hf 0 (by decide)
  have g1 := hf 1 (by decide)
  have g2 := hf 2 (by decide)
  rw [Try.cells21, List.getElem?_eq_getElem (by omega)] at g0 g1 g2
  obtain ⟨n0, e0, _, _⟩ := DataW.trod_int Try.underlying21 g0
  obtain ⟨n1, e1, _, _⟩ := DataW.trod_int Try.underlying21 g1
  obtain ⟨n2, e2, _, _⟩ := DataW.trod_int Try.underlying21 g2
  simp at e0 e1 e2
  subst e0 e1 e2
  exact ⟨n0, n1, n2, rfl⟩
set_option maxRecDepth 100000 in
theorem read_cell {H : Type} {enc : TypeId × Value → H} {W : World} {fuel : Nat} {cs : List Value} {x : DataW H × List MemPlace} (h : DataW.trod enc Try.prog W 0 (fun _ => true) true fuel 49 cs = some x) : ∃ y : Cl, cs = (cA y).toList ∧ y.wd < 256 := by
 obtain ⟨xs, k, hk, hxy, hcl, hxl, hf⟩ := DataW.trod_struct Try.underlying49 h
 rw [Try.cells49] at hcl
 have hl2 : xs.length = 4 := hxl
 match cs, hcl with
 | [v0, v1, v2, v3, v4, v5, v6, v7, v8, v9, v10, v11, v12, v13, v14], _ =>
  have g0 : DataW.trod enc Try.prog W 0 (fun _ => true) true k 21 (([v0, v1, v2, v3, v4, v5, v6, v7, v8, v9, v10, v11, v12, v13, v14].drop 0).take (Try.prog.cellsOf 21)) = xs[0]? := hf 0 _ rfl
  have g1 : DataW.trod enc Try.prog W 0 (fun _ => true) true k 47 (([v0, v1, v2, v3, v4, v5, v6, v7, v8, v9, v10, v11, v12, v13, v14].drop 1).take (Try.prog.cellsOf 47)) = xs[1]? := hf 1 _ rfl
  have g2 : DataW.trod enc Try.prog W 0 (fun _ => true) true k 5 (([v0, v1, v2, v3, v4, v5, v6, v7, v8, v9, v10, v11, v12, v13, v14].drop 4).take (Try.prog.cellsOf 5)) = xs[2]? := hf 2 _ rfl
  have g3 : DataW.trod enc Try.prog W 0 (fun _ => true) true k 26 (([v0, v1, v2, v3, v4, v5, v6, v7, v8, v9, v10, v11, v12, v13, v14].drop 5).take (Try.prog.cellsOf 26)) = xs[3]? := hf 3 _ rfl
  rw [Try.cells21, List.getElem?_eq_getElem (by omega)] at g0
  rw [Try.cells47, List.getElem?_eq_getElem (by omega)] at g1
  rw [Try.cells5, List.getElem?_eq_getElem (by omega)] at g2
  rw [Try.cells26, List.getElem?_eq_getElem (by omega)] at g3
  obtain ⟨ch, e0, _, _⟩ := DataW.trod_int Try.underlying21 g0
  obtain ⟨a, b, c, e1⟩ := read_marks g1
  obtain ⟨wd, e2, _, w2⟩ := DataW.trod_int Try.underlying5 g2
  obtain ⟨s, e3⟩ := read_style g3
  simp only [Lit.wf, Bool.and_eq_true, decide_eq_true_eq] at w2
  have hw0 : 0 ≤ wd := w2.1
  have hw1 : wd ≤ 255 := w2.2
  simp only [List.drop_zero, List.drop_succ_cons, tkS, tkZ, List.cons.injEq, and_true] at e0 e1 e2
  simp only [List.drop_zero, List.drop_succ_cons, tkS, tkZ, sA, List.cons.injEq, and_true] at e3
  obtain ⟨f1, f2, f3⟩ := e1
  obtain ⟨h5, h6, h7, h8, h9, h10, h11, h12, h13, h14⟩ := e3
  refine ⟨⟨ch, a, b, c, wd.toNat, s⟩, ?_, by show wd.toNat < 256; omega⟩
  rw [e0, f1, f2, f3, e2, h5, h6, h7, h8, h9, h10, h11, h12, h13, h14]
  simp only [cA]
  rw [show ((wd.toNat : Nat) : Int) = wd by omega]
set_option maxRecDepth 100000 in
theorem open_cells {H : Type} {enc : TypeId × Value → H} {W : World} {base R : Nat} {v : Value} {fuel : Nat} {x : DataW H × List MemPlace} (hok : Cell.okWide Try.prog W .any base 22 v) (h : DataW.trod enc Try.prog W 0 (fun _ => true) true fuel 22 [v] = some x)
  (hw : ∀ y ∈ DataW.weights Try.prog 22 x.1, y ≤ R) : ∃ l, Cls W.heap.size W v l ∧ 48 * l.length ≤ R ∧ ∀ y ∈ l, y.wd < 256 := by
 rcases Deep.open_slice Try.underlying22 h with ⟨e, _⟩ | ⟨a, len, cap, m, n, D, Pl, e, hb, hl, hm, hmm, hx, hc⟩
 ·simp only [List.cons.injEq, and_true] at e
  subst e
  exact ⟨[], ⟨none, 0, rfl, Nat.le_refl _, .inl rfl⟩, Nat.zero_le _, by simp⟩
 ·simp only [List.cons.injEq, and_true] at e
  subst e
  simp only [if_true] at hmm
  subst hmm
  have hsp : a.spot = none := by
   unfold Cell.okWide at hok
   rw [Try.underlying22] at hok
   simp only [Cell.ok, Try.underlying22] at hok
   exact hok.2.2.2.1
  obtain ⟨b, o, sp⟩ := a
  simp only at hsp
  subst hsp
  have each : ∀ i, i < len → ∃ q : Cl, (∀ j, j < 15 → W.cell? ⟨b, o + i * 15 + j, none⟩ = (cA q)[j]?) ∧ q.wd < 256 := by
   intro i hi
   obtain ⟨cs', h1, h2⟩ := hc i (by omega)
   rw [Try.cells49] at h1
   obtain ⟨_, hlen, hcell⟩ := World.cells?_some h1
   obtain ⟨q, hq, hq2⟩ := read_cell h2
   refine ⟨q, fun j hj => ?_, hq2⟩
   have f0 := hcell j hj
   rw [Deep.add_add, Addr.add_mid] at f0
   rw [← Nat.add_assoc] at f0
   rw [f0, hq]
   simp
  obtain ⟨q, hq⟩ : ∃ q : Nat → Cl, ∀ i, i < len → (∀ j, j < 15 → W.cell? ⟨b, o + i * 15 + j, none⟩ = (cA (q i))[j]?) ∧ (q i).wd < 256 := by
   classical
   exact ⟨fun i => if hi : i < len then Classical.choose (each i hi) else hf pl, fun i hi => by simp only [hi, dif_pos]; exact Classical.choose_spec (each i hi)⟩
  have hlen : ((List.range len).map q).length = len := by simp
  refine ⟨(List.range len).map q, ⟨_, _, by rw [hlen], by rw [hlen]; exact hl, ?_⟩, ?_, ?_⟩
  ·by_cases h0 : len = 0
   ·left; apply List.eq_nil_of_length_eq_zero; rw [hlen]; exact h0
   ·right
    have c0 := (hq 0 (by omega)).1 0 (by decide)
    refine ⟨b, o, rfl, World.block_lt_of_cell? W _ c0, fun k hk j hj => ?_⟩
    rw [hlen] at hk
    have e : ((List.range len).map q).getD k (hf pl) = q k := by simp [hk]
    rw [e]
    exact (hq k hk).1 j hj
  ·subst hx
   rw [hlen]
   have := hw _ (by simp only [DataW.weights, Try.underlying22]; exact List.mem_cons_self)
   rw [Try.bytes49] at this
   simp at this
   omega
  ·intro y hy
   obtain ⟨i, hi, rfl⟩ := List.mem_map.1 hy
   exact (hq i (List.mem_range.1 hi)).2
end Go.Proofs.Ytnbonlkmadmpcaa
namespace Go.Proofs.Ytnbonlkmadmpcaa
open Go.RowKit Go.BigFrame
set_option linter.unusedVariables false
set_option linter.unusedSimpArgs false
theorem Try.cells24 : Try.prog.cellsOf 24 = 3 := by kernel_rfl
theorem Try.cells22' : Try.prog.cellsOf 22 = 1 := by kernel_rfl
theorem Try.types24 : Try.prog.cellTypes Try.prog.depth 24 = some [3, 3, 22] := by kernel_rfl
theorem Try.cells28 : Try.prog.cellsOf 28 = 15 := by kernel_rfl
theorem Try.types28 : Try.prog.cellTypes Try.prog.depth 28 = some [3, 3, 3, 3, 3, 3, 4, 4, 4, 4, 4, 4, 4, 4, 22] := by kernel_rfl
theorem wf_i64 {n : Int} (h : (Lit.int .i64 n).wf = true) : -9223372036854775808 ≤ n ∧ n ≤ 9223372036854775807 := by
 simp only [Lit.wf, Bool.and_eq_true, decide_eq_true_eq] at h
 exact ⟨h.1, h.2⟩
theorem each2 {H : Type} (t0 t1 t2 : TypeId) (xs : List (DataW H × List MemPlace)) (h : xs.length = 3) (y : Nat) (hy : y ∈ DataW.weights Try.prog t2 (xs[2]'(by omega)).1) : y ∈ DataW.weightsEach Try.prog [t0, t1, t2] (xs.map (·.1)) := by
 match xs, h with
 | [a0, a1, a2], _ =>
  simp only [List.map_cons, List.map_nil, DataW.weightsEach, List.mem_append]
  exact .inr (.inr (.inl hy))
theorem each5 {H : Type} (t0 t1 t2 t3 t4 t5 : TypeId) (xs : List (DataW H × List MemPlace)) (h : xs.length = 6) (y : Nat) (hy : y ∈ DataW.weights Try.prog t5 (xs[5]'(by omega)).1) : y ∈ DataW.weightsEach Try.prog [t0, t1, t2, t3, t4, t5] (xs.map (·.1)) := by
 match xs, h with
 | [a0, a1, a2, a3, a4, a5], _ =>
  simp only [List.map_cons, List.map_nil, DataW.weightsEach, List.mem_append]
  exact .inr (.inr (.inr (.inr (.inr (.inl hy)))))
set_option maxRecDepth 100000 in
/-- A grid that came in. -/
theorem open_grid {H : Type} {enc : TypeId × Value → H} {W : World} {base R : Nat} {v : Value} {fuel : Nat} {x : DataW H × List MemPlace} (hok : Value.okWide Try.prog W .any base 24 v) (h : DataW.trod enc Try.prog W 0 (fun _ => true) true fuel 24 v.cells.toList = some x)
  (hw : ∀ y ∈ DataW.weights Try.prog 24 x.1, y ≤ R) : ∃ (co ro : Int) (vc : Value) (l : List Cl), v = .agg (gA co ro vc) ∧ (-9223372036854775808 ≤ co ∧ co ≤ 9223372036854775807) ∧ (-9223372036854775808 ≤ ro ∧ ro ≤ 9223372036854775807) ∧ Cls W.heap.size W vc l ∧ 48 * l.length ≤ R ∧ ∀ y ∈ l, y.wd < 256 := by
 unfold Value.okWide at hok
 rw [Try.underlying24] at hok
 simp only at hok
 obtain ⟨cs, rfl, hsz, ts, hts, _, hcell⟩ := hok
 rw [Try.cells24] at hsz
 rw [Try.types24] at hts
 injection hts with hts
 subst hts
 obtain ⟨l⟩ := cs
 match l, hsz with
 | [v0, v1, v2], _ =>
  have h' : DataW.trod enc Try.prog W 0 (fun _ => true) true fuel 24 [v0, v1, v2] = some x := h
  obtain ⟨xs, k, hk, hxy, _, hxl, hf⟩ := DataW.trod_struct Try.underlying24 h'
  have hl4 : xs.length = 3 := hxl
  have g0 : DataW.trod enc Try.prog W 0 (fun _ => true) true k 3 (([v0, v1, v2].drop 0).take (Try.prog.cellsOf 3)) = xs[0]? := hf 0 _ rfl
  have g1 : DataW.trod enc Try.prog W 0 (fun _ => true) true k 3 (([v0, v1, v2].drop 1).take (Try.prog.cellsOf 3)) = xs[1]? := hf 1 _ rfl
  have g2 : DataW.trod enc Try.prog W 0 (fun _ => true) true k 22 (([v0, v1, v2].drop 2).take (Try.prog.cellsOf 22)) = xs[2]? := hf 2 _ rfl
  rw [Try.cells3, List.getElem?_eq_getElem (by omega)] at g0 g1
  rw [Try.cells22', List.getElem?_eq_getElem (by omega)] at g2
  obtain ⟨n0, e0, _, w0⟩ := DataW.trod_int Try.underlying3 g0
  obtain ⟨n1, e1, _, w1⟩ := DataW.trod_int Try.underlying3 g1
  simp only [List.drop_zero, List.drop_succ_cons, tkS, tkZ, List.cons.injEq, and_true] at e0 e1
  simp only [List.drop_succ_cons, List.drop_zero, tkS, tkZ] at g2
  obtain ⟨u, hu, hc3⟩ := hcell 2 v2 rfl
  have hu' : u = 22 := by simpa using hu.symm
  subst hu'
  obtain ⟨d, hd, hn, h256⟩ := open_cells (R := R) hc3 g2 (fun y hy => hw y (by rw [hxy]; simp only [DataW.weights, Try.underlying24]; exact each2 _ _ _ xs hl4 y hy))
  subst e0 e1
  exact ⟨n0, n1, v2, d, rfl, wf_i64 w0, wf_i64 w1, hd, hn, h256⟩
/-- The cells of what a grid is asked. -/
def kA (row col to k : Int) (s : St) (vl : Value) : Array Value := #[.int .i64 row, .int .i64 col, .int .i64 to, .int .i64 k, .int .i64 s.fg, .int .i64 s.bg, .bool s.b1, .bool s.b2, .bool s.b3, .bool s.b4, .bool s.b5, .bool s.b7, .bool s.b8, .bool s.b9, vl]
structure IB (n : Int) : Prop where
 lo : -9223372036854775808 ≤ n
 hi : n ≤ 9223372036854775807
set_option maxRecDepth 100000 in
theorem read_ask {H : Type} {enc : TypeId × Value → H} {W : World} {base R : Nat} {fuel : Nat} {cs : List Value} {x : DataW H × List MemPlace} (h : DataW.trod enc Try.prog W 0 (fun _ => true) true fuel 28 cs = some x) (hok : ∀ v, cs[14]? = some v → Cell.okWide Try.prog W .any base 22 v)
  (hw : ∀ y ∈ DataW.weights Try.prog 28 x.1, y ≤ R) : ∃ (row col to k : Int) (s : St) (vl : Value) (l : List Cl), cs = (kA row col to k s vl).toList ∧ (IB row ∧ IB col ∧ IB to ∧ IB k) ∧ Cls W.heap.size W vl l ∧ 48 * l.length ≤ R ∧ ∀ y ∈ l, y.wd < 256 := by
 obtain ⟨xs, k, hk, hxy, hcl, hxl, hf⟩ := DataW.trod_struct Try.underlying28 h
 rw [Try.cells28] at hcl
 have hl2 : xs.length = 6 := hxl
 match cs, hcl with
 | [v0, v1, v2, v3, v4, v5, v6, v7, v8, v9, v10, v11, v12, v13, v14], _ =>
  have g0 : DataW.trod enc Try.prog W 0 (fun _ => true) true k 3 (([v0, v1, v2, v3, v4, v5, v6, v7, v8, v9, v10, v11, v12, v13, v14].drop 0).take (Try.prog.cellsOf 3)) = xs[0]? := hf 0 _ rfl
  have g1 : DataW.trod enc Try.prog W 0 (fun _ => true) true k 3 (([v0, v1, v2, v3, v4, v5, v6, v7, v8, v9, v10, v11, v12, v13, v14].drop 1).take (Try.prog.cellsOf 3)) = xs[1]? := hf 1 _ rfl
  have g2 : DataW.trod enc Try.prog W 0 (fun _ => true) true k 3 (([v0, v1, v2, v3, v4, v5, v6, v7, v8, v9, v10, v11, v12, v13, v14].drop 2).take (Try.prog.cellsOf 3)) = xs[2]? := hf 2 _ rfl
  have g3 : DataW.trod enc Try.prog W 0 (fun _ => true) true k 3 (([v0, v1, v2, v3, v4, v5, v6, v7, v8, v9, v10, v11, v12, v13, v14].drop 3).take (Try.prog.cellsOf 3)) = xs[3]? := hf 3 _ rfl
  have g4 : DataW.trod enc Try.prog W 0 (fun _ => true) true k 26 (([v0, v1, v2, v3, v4, v5, v6, v7, v8, v9, v10, v11, v12, v13, v14].drop 4).take (Try.prog.cellsOf 26)) = xs[4]? := hf 4 _ rfl
  have g5 : DataW.trod enc Try.prog W 0 (fun _ => true) true k 22 (([v0, v1, v2, v3, v4, v5, v6, v7, v8, v9, v10, v11, v12, v13, v14].drop 14).take (Try.prog.cellsOf 22)) = xs[5]? := hf 5 _ rfl
  rw [Try.cells3, List.getElem?_eq_getElem (by omega)] at g0 g1 g2 g3
  rw [Try.cells26, List.getElem?_eq_getElem (by omega)] at g4
  rw [Try.cells22', List.getElem?_eq_getElem (by omega)] at g5
  obtain ⟨n0, e0, _, w0⟩ := DataW.trod_int Try.underlying3 g0
  obtain ⟨n1, e1, _, w1⟩ := DataW.trod_int Try.underlying3 g1
  obtain ⟨n2, e2, _, w2⟩ := DataW.trod_int Try.underlying3 g2
  obtain ⟨n3, e3, _, w3⟩ := DataW.trod_int Try.underlying3 g3
  obtain ⟨s, e4⟩ := read_style g4
  simp only [List.drop_zero, List.drop_succ_cons, tkS, tkZ, List.cons.injEq, and_true] at e0 e1 e2 e3
  simp only [List.drop_zero, List.drop_succ_cons, tkS, tkZ, sA, List.cons.injEq, and_true] at e4
  simp only [List.drop_succ_cons, List.drop_zero, tkS, tkZ] at g5
  obtain ⟨h4, h5, h6, h7, h8, h9, h10, h11, h12, h13⟩ := e4
  obtain ⟨d, hd, hn, h256⟩ := open_cells (R := R) (hok v14 rfl) g5 (fun y hy => hw y (by rw [hxy]; simp only [DataW.weights, Try.underlying28]; exact each5 _ _ _ _ _ _ xs hl2 y hy))
  have b0 := wf_i64 w0
  have b1 := wf_i64 w1
  have b2 := wf_i64 w2
  have b3 := wf_i64 w3
  refine ⟨n0, n1, n2, n3, s, v14, d, ?_, ⟨⟨b0.1, b0.2⟩, ⟨b1.1, b1.2⟩, ⟨b2.1, b2.2⟩, ⟨b3.1, b3.2⟩⟩, hd, hn, h256⟩
  rw [e0, e1, e2, e3, h4, h5, h6, h7, h8, h9, h10, h11, h12, h13]
  rfl
set_option maxRecDepth 100000 in
/-- What a grid is asked, that came in. -/
theorem open_ask {H : Type} {enc : TypeId × Value → H} {W : World} {base R : Nat} {v : Value} {fuel : Nat} {x : DataW H × List MemPlace} (hok : Value.okWide Try.prog W .any base 28 v) (h : DataW.trod enc Try.prog W 0 (fun _ => true) true fuel 28 v.cells.toList = some x)
  (hw : ∀ y ∈ DataW.weights Try.prog 28 x.1, y ≤ R) : ∃ (row col to k : Int) (s : St) (vl : Value) (l : List Cl), v = .agg (kA row col to k s vl) ∧ (IB row ∧ IB col ∧ IB to ∧ IB k) ∧ Cls W.heap.size W vl l ∧ 48 * l.length ≤ R ∧ ∀ y ∈ l, y.wd < 256 := by
 unfold Value.okWide at hok
 rw [Try.underlying28] at hok
 simp only at hok
 obtain ⟨cs, rfl, hsz, ts, hts, _, hcell⟩ := hok
 rw [Try.types28] at hts
 injection hts with hts
 subst hts
 obtain ⟨row, col, to, k, s, vl, l, e, h1, h2, h3, h4⟩ := read_ask (base := base) (R := R) h (fun v hv => by
  obtain ⟨u, hu, hc3⟩ := hcell 14 v (by have h5 : cs.toList[14]? = some v := hv; simpa using h5)
  have hu' : u = 22 := by simpa using hu.symm
  subst hu'
  exact hc3) hw
 refine ⟨row, col, to, k, s, vl, l, ?_, h1, h2, h3, h4⟩
 have e2 : cs.toList = (kA row col to k s vl).toList := e
 rw [Array.toList_inj.1 e2]
end Go.Proofs.Ytnbonlkmadmpcaa
