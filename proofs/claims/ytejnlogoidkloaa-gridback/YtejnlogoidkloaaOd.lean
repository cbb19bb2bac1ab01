/- Grids and what they are asked, that came in. -/
import Derived.Test.YtejnlogoidkloaaOc
import Derived.Test.YtejnlogoidkloaaNb
namespace Go.Proofs.Ytejnlogoidkloaa
open Go.RowKit Go.BigFrame
set_option linter.unusedVariables false
set_option linter.unusedSimpArgs false

theorem Try.cells24 : Try.prog.cellsOf 24 = 3 := by kernel_rfl
theorem Try.cells22' : Try.prog.cellsOf 22 = 1 := by kernel_rfl
theorem Try.types24 : Try.prog.cellTypes Try.prog.depth 24 = some [3, 3, 22] := by kernel_rfl
theorem Try.cells28 : Try.prog.cellsOf 28 = 15 := by kernel_rfl
theorem Try.types28 : Try.prog.cellTypes Try.prog.depth 28 = some [3, 3, 3, 3, 3, 3, 4, 4, 4, 4, 4, 4, 4, 4, 22] := by kernel_rfl
theorem wf_i64 {n : Int} (h : (Lit.int .i64 n).wf = true) : -9223372036854775808 ≤ n ∧ n ≤ 9223372036854775807 := by
  simp only [Lit.wf, Bool.and_eq_true, decide_eq_true_eq] at h
  exact ⟨h.1, h.2⟩
theorem each2 {H : Type} (t0 t1 t2 : TypeId) (xs : List (DataW H × List MemPlace)) (h : xs.length = 3) (y : Nat) (hy : y ∈ DataW.weights Try.prog t2 (xs[2]'(by omega)).1) : y ∈ DataW.weightsEach Try.prog [t0, t1, t2] (xs.map (·.1)) := by
  match xs, h with
  | [a0, a1, a2], _ =>
    simp only [List.map_cons, List.map_nil, DataW.weightsEach, List.mem_append]
    exact .inr (.inr (.inl hy))
theorem each5 {H : Type} (t0 t1 t2 t3 t4 t5 : TypeId) (xs : List (DataW H × List MemPlace)) (h : xs.length = 6) (y : Nat) (hy : y ∈ DataW.weights Try.prog t5 (xs[5]'(by omega)).1) : y ∈ DataW.weightsEach Try.prog [t0, t1, t2, t3, t4, t5] (xs.map (·.1)) := by
  match xs, h with
  | [a0, a1, a2, a3, a4, a5], _ =>
    simp only [List.map_cons, List.map_nil, DataW.weightsEach, List.mem_append]
    exact .inr (.inr (.inr (.inr (.inr (.inl hy)))))
set_option maxRecDepth 100000 in
/-- A grid that came in. -/
theorem open_grid {H : Type} {enc : TypeId × Value → H} {W : World} {base R : Nat} {v : Value} {fuel : Nat} {x : DataW H × List MemPlace} (hok : Value.okWide Try.prog W .any base 24 v) (h : DataW.trod enc Try.prog W 0 (fun _ => true) true fuel 24 v.cells.toList = some x)
    (hw : ∀ y ∈ DataW.weights Try.prog 24 x.1, y ≤ R) : ∃ (co ro : Int) (vc : Value) (l : List Cl), v = .agg (gA co ro vc) ∧ (-9223372036854775808 ≤ co ∧ co ≤ 9223372036854775807) ∧ (-9223372036854775808 ≤ ro ∧ ro ≤ 9223372036854775807) ∧ Cls W.heap.size W vc l ∧ 48 * l.length ≤ R ∧ ∀ y ∈ l, y.wd < 256 := by
  unfold Value.okWide at hok
  rw [Try.underlying24] at hok
  simp only at hok
  obtain ⟨cs, rfl, hsz, ts, hts, _, hcell⟩ := hok
  rw [Try.cells24] at hsz
  rw [Try.types24] at hts
  injection hts with hts
  subst hts
  obtain ⟨l⟩ := cs
  match l, hsz with
  | [v0, v1, v2], _ =>
    have h' : DataW.trod enc Try.prog W 0 (fun _ => true) true fuel 24 [v0, v1, v2] = some x := h
    obtain ⟨xs, k, hk, hxy, _, hxl, hf⟩ := DataW.trod_struct Try.underlying24 h'
    have hl4 : xs.length = 3 := hxl
    have g0 : DataW.trod enc Try.prog W 0 (fun _ => true) true k 3 (([v0, v1, v2].drop 0).take (Try.prog.cellsOf 3)) = xs[0]? := hf 0 _ rfl
    have g1 : DataW.trod enc Try.prog W 0 (fun _ => true) true k 3 (([v0, v1, v2].drop 1).take (Try.prog.cellsOf 3)) = xs[1]? := hf 1 _ rfl
    have g2 : DataW.trod enc Try.prog W 0 (fun _ => true) true k 22 (([v0, v1, v2].drop 2).take (Try.prog.cellsOf 22)) = xs[2]? := hf 2 _ rfl
    rw [Try.cells3, List.getElem?_eq_getElem (by omega)] at g0 g1
    rw [Try.cells22', List.getElem?_eq_getElem (by omega)] at g2
    obtain ⟨n0, e0, _, w0⟩ := DataW.trod_int Try.underlying3 g0
    obtain ⟨n1, e1, _, w1⟩ := DataW.trod_int Try.underlying3 g1
    simp only [List.drop_zero, List.drop_succ_cons, List.take_succ_cons, List.take_zero, List.cons.injEq, and_true] at e0 e1
    simp only [List.drop_succ_cons, List.drop_zero, List.take_succ_cons, List.take_zero] at g2
    obtain ⟨u, hu, hc3⟩ := hcell 2 v2 rfl
    have hu' : u = 22 := by simpa using hu.symm
    subst hu'
    obtain ⟨d, hd, hn, h256⟩ := open_cells (R := R) hc3 g2 (fun y hy => hw y (by rw [hxy]; simp only [DataW.weights, Try.underlying24]; exact each2 _ _ _ xs hl4 y hy))
    subst e0 e1
    exact ⟨n0, n1, v2, d, rfl, wf_i64 w0, wf_i64 w1, hd, hn, h256⟩
/-- The cells of what a grid is asked. -/
def kA (row col to k : Int) (s : St) (vl : Value) : Array Value := #[.int .i64 row, .int .i64 col, .int .i64 to, .int .i64 k, .int .i64 s.fg, .int .i64 s.bg, .bool s.b1, .bool s.b2, .bool s.b3, .bool s.b4, .bool s.b5, .bool s.b7, .bool s.b8, .bool s.b9, vl]
structure IB (n : Int) : Prop where
  lo : -9223372036854775808 ≤ n
  hi : n ≤ 9223372036854775807
set_option maxRecDepth 100000 in
theorem read_ask {H : Type} {enc : TypeId × Value → H} {W : World} {base R : Nat} {fuel : Nat} {cs : List Value} {x : DataW H × List MemPlace} (h : DataW.trod enc Try.prog W 0 (fun _ => true) true fuel 28 cs = some x) (hok : ∀ v, cs[14]? = some v → Cell.okWide Try.prog W .any base 22 v)
    (hw : ∀ y ∈ DataW.weights Try.prog 28 x.1, y ≤ R) : ∃ (row col to k : Int) (s : St) (vl : Value) (l : List Cl), cs = (kA row col to k s vl).toList ∧ (IB row ∧ IB col ∧ IB to ∧ IB k) ∧ Cls W.heap.size W vl l ∧ 48 * l.length ≤ R ∧ ∀ y ∈ l, y.wd < 256 := by
  obtain ⟨xs, k, hk, hxy, hcl, hxl, hf⟩ := DataW.trod_struct Try.underlying28 h
  rw [Try.cells28] at hcl
  have hl2 : xs.length = 6 := hxl
  match cs, hcl with
  | [v0, v1, v2, v3, v4, v5, v6, v7, v8, v9, v10, v11, v12, v13, v14], _ =>
    have g0 : DataW.trod enc Try.prog W 0 (fun _ => true) true k 3 (([v0, v1, v2, v3, v4, v5, v6, v7, v8, v9, v10, v11, v12, v13, v14].drop 0).take (Try.prog.cellsOf 3)) = xs[0]? := hf 0 _ rfl
    have g1 : DataW.trod enc Try.prog W 0 (fun _ => true) true k 3 (([v0, v1, v2, v3, v4, v5, v6, v7, v8, v9, v10, v11, v12, v13, v14].drop 1).take (Try.prog.cellsOf 3)) = xs[1]? := hf 1 _ rfl
    have g2 : DataW.trod enc Try.prog W 0 (fun _ => true) true k 3 (([v0, v1, v2, v3, v4, v5, v6, v7, v8, v9, v10, v11, v12, v13, v14].drop 2).take (Try.prog.cellsOf 3)) = xs[2]? := hf 2 _ rfl
    have g3 : DataW.trod enc Try.prog W 0 (fun _ => true) true k 3 (([v0, v1, v2, v3, v4, v5, v6, v7, v8, v9, v10, v11, v12, v13, v14].drop 3).take (Try.prog.cellsOf 3)) = xs[3]? := hf 3 _ rfl
    have g4 : DataW.trod enc Try.prog W 0 (fun _ => true) true k 26 (([v0, v1, v2, v3, v4, v5, v6, v7, v8, v9, v10, v11, v12, v13, v14].drop 4).take (Try.prog.cellsOf 26)) = xs[4]? := hf 4 _ rfl
    have g5 : DataW.trod enc Try.prog W 0 (fun _ => true) true k 22 (([v0, v1, v2, v3, v4, v5, v6, v7, v8, v9, v10, v11, v12, v13, v14].drop 14).take (Try.prog.cellsOf 22)) = xs[5]? := hf 5 _ rfl
    rw [Try.cells3, List.getElem?_eq_getElem (by omega)] at g0 g1 g2 g3
    rw [Try.cells26, List.getElem?_eq_getElem (by omega)] at g4
    rw [Try.cells22', List.getElem?_eq_getElem (by omega)] at g5
    obtain ⟨n0, e0, _, w0⟩ := DataW.trod_int Try.underlying3 g0
    obtain ⟨n1, e1, _, w1⟩ := DataW.trod_int Try.underlying3 g1
    obtain ⟨n2, e2, _, w2⟩ := DataW.trod_int Try.underlying3 g2
    obtain ⟨n3, e3, _, w3⟩ := DataW.trod_int Try.underlying3 g3
    obtain ⟨s, e4⟩ := read_style g4
    simp only [List.drop_zero, List.drop_succ_cons, List.take_succ_cons, List.take_zero, List.cons.injEq, and_true] at e0 e1 e2 e3
    simp only [List.drop_zero, List.drop_succ_cons, List.take_succ_cons, List.take_zero, sA, List.cons.injEq, and_true] at e4
    simp only [List.drop_succ_cons, List.drop_zero, List.take_succ_cons, List.take_zero] at g5
    obtain ⟨h4, h5, h6, h7, h8, h9, h10, h11, h12, h13⟩ := e4
    obtain ⟨d, hd, hn, h256⟩ := open_cells (R := R) (hok v14 rfl) g5 (fun y hy => hw y (by rw [hxy]; simp only [DataW.weights, Try.underlying28]; exact each5 _ _ _ _ _ _ xs hl2 y hy))
    have b0 := wf_i64 w0
    have b1 := wf_i64 w1
    have b2 := wf_i64 w2
    have b3 := wf_i64 w3
    refine ⟨n0, n1, n2, n3, s, v14, d, ?_, ⟨⟨b0.1, b0.2⟩, ⟨b1.1, b1.2⟩, ⟨b2.1, b2.2⟩, ⟨b3.1, b3.2⟩⟩, hd, hn, h256⟩
    rw [e0, e1, e2, e3, h4, h5, h6, h7, h8, h9, h10, h11, h12, h13]
    rfl
set_option maxRecDepth 100000 in
/-- What a grid is asked, that came in. -/
theorem open_ask {H : Type} {enc : TypeId × Value → H} {W : World} {base R : Nat} {v : Value} {fuel : Nat} {x : DataW H × List MemPlace} (hok : Value.okWide Try.prog W .any base 28 v) (h : DataW.trod enc Try.prog W 0 (fun _ => true) true fuel 28 v.cells.toList = some x)
    (hw : ∀ y ∈ DataW.weights Try.prog 28 x.1, y ≤ R) : ∃ (row col to k : Int) (s : St) (vl : Value) (l : List Cl), v = .agg (kA row col to k s vl) ∧ (IB row ∧ IB col ∧ IB to ∧ IB k) ∧ Cls W.heap.size W vl l ∧ 48 * l.length ≤ R ∧ ∀ y ∈ l, y.wd < 256 := by
  unfold Value.okWide at hok
  rw [Try.underlying28] at hok
  simp only at hok
  obtain ⟨cs, rfl, hsz, ts, hts, _, hcell⟩ := hok
  rw [Try.types28] at hts
  injection hts with hts
  subst hts
  obtain ⟨row, col, to, k, s, vl, l, e, h1, h2, h3, h4⟩ := read_ask (base := base) (R := R) h (fun v hv => by
    obtain ⟨u, hu, hc3⟩ := hcell 14 v (by have h5 : cs.toList[14]? = some v := hv; simpa using h5)
    have hu' : u = 22 := by simpa using hu.symm
    subst hu'
    exact hc3) hw
  refine ⟨row, col, to, k, s, vl, l, ?_, h1, h2, h3, h4⟩
  have e2 : cs.toList = (kA row col to k s vl).toList := e
  rw [Array.toList_inj.1 e2]
set_option maxRecDepth 100000 in
theorem open_u8 {H : Type} {enc : TypeId × Value → H} {W : World} {base : Nat} {v : Value} {fuel : Nat} {x : DataW H × List MemPlace} (hok : Value.okWide Try.prog W .any base 5 v) (h : DataW.trod enc Try.prog W 0 (fun _ => true) true fuel 5 v.cells.toList = some x) : ∃ n : Nat, v = .int .u8 (n : Int) ∧ n < 256 := by
  unfold Value.okWide at hok
  rw [Try.underlying5] at hok
  have hc1 : v.cells.toList = [v] := by
    unfold Cell.okWide at hok
    rw [Try.underlying5] at hok
    cases v <;> first | rfl | (simp only [Cell.ok, Try.underlying5] at hok)
  rw [hc1] at h
  obtain ⟨n, e, _, w0⟩ := DataW.trod_int Try.underlying5 h
  simp only [List.cons.injEq, and_true] at e
  simp only [Lit.wf, Bool.and_eq_true, decide_eq_true_eq] at w0
  have h0 : 0 ≤ n := w0.1
  have h1 : n ≤ 255 := w0.2
  exact ⟨n.toNat, by rw [e, show ((n.toNat : Nat) : Int) = n by omega], by omega⟩
end Go.Proofs.Ytejnlogoidkloaa
