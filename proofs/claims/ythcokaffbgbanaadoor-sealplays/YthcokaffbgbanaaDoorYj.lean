/- What came in: a datagram. -/
import Derived.Test.YthcokaffbgbanaaDoorXo
namespace Go.Proofs.YthcokaffbgbanaaDoor
open Go.ChangeShapes Go.WideShapes Go.ChangeAt Go.RowKit Go.BigFrame
set_option linter.unusedVariables false

theorem Tryd.cells28 : Tryd.prog.cellsOf 28 = 4 := by kernel_rfl
theorem Tryd.cells24 : Tryd.prog.cellsOf 24 = 1 := by kernel_rfl
theorem Tryd.cells25 : Tryd.prog.cellsOf 25 = 1 := by kernel_rfl
theorem Tryd.types28 : Tryd.prog.cellTypes Tryd.prog.depth 28 = some [24, 25, 25, 26] := by kernel_rfl
theorem wf_u64' {n : Int} (h : (Lit.int .u64 n).wf = true) : ∃ x : Nat, n = (x : Int) := by
  simp only [Lit.wf, Bool.and_eq_true, decide_eq_true_eq] at h
  have h0 : 0 ≤ n := h.1
  exact ⟨n.toNat, by omega⟩
theorem wf_u16' {n : Int} (h : (Lit.int .u16 n).wf = true) : ∃ x : Nat, n = (x : Int) ∧ x < 65536 := by
  simp only [Lit.wf, Bool.and_eq_true, decide_eq_true_eq] at h
  have h0 : 0 ≤ n := h.1
  have h1 : n ≤ 65535 := h.2
  exact ⟨n.toNat, by omega, by omega⟩
set_option maxRecDepth 100000 in
/-- A datagram that came in. -/
theorem open_dg {H : Type} {enc : TypeId × Value → H} {W : World} {base : Nat} {v : Value} {fuel : Nat} {x : DataW H × List MemPlace} (hok : Value.okWide Tryd.prog W .any base 28 v) (h : DataW.trod enc Tryd.prog W 0 (fun _ => true) true fuel 28 v.cells.toList = some x) :
    ∃ (q s e : Nat) (vb : Value) (l : List UInt8), v = .agg #[.int .u64 (q : Int), .int .u16 (s : Int), .int .u16 (e : Int), vb] ∧ s < 65536 ∧ e < 65536 ∧ InB W.heap.size W vb l ∧ l.length ≤ maxLen := by
  unfold Value.okWide at hok
  rw [Tryd.underlying28] at hok
  simp only at hok
  obtain ⟨cs, rfl, hsz, ts, hts, _, hcell⟩ := hok
  rw [Tryd.cells28] at hsz
  rw [Tryd.types28] at hts
  injection hts with hts
  subst hts
  obtain ⟨l⟩ := cs
  match l, hsz with
  | [v0, v1, v2, v3], _ =>
    have h' : DataW.trod enc Tryd.prog W 0 (fun _ => true) true fuel 28 [v0, v1, v2, v3] = some x := h
    obtain ⟨xs, k, hk, hxy, _, hxl, hf⟩ := DataW.trod_struct Tryd.underlying28 h'
    have hl4 : xs.length = 4 := hxl
    have g0 : DataW.trod enc Tryd.prog W 0 (fun _ => true) true k 24 (([v0, v1, v2, v3].drop 0).take (Tryd.prog.cellsOf 24)) = xs[0]? := hf 0 _ rfl
    have g1 : DataW.trod enc Tryd.prog W 0 (fun _ => true) true k 25 (([v0, v1, v2, v3].drop 1).take (Tryd.prog.cellsOf 25)) = xs[1]? := hf 1 _ rfl
    have g2 : DataW.trod enc Tryd.prog W 0 (fun _ => true) true k 25 (([v0, v1, v2, v3].drop 2).take (Tryd.prog.cellsOf 25)) = xs[2]? := hf 2 _ rfl
    have g3 : DataW.trod enc Tryd.prog W 0 (fun _ => true) true k 26 (([v0, v1, v2, v3].drop 3).take (Tryd.prog.cellsOf 26)) = xs[3]? := hf 3 _ rfl
    rw [Tryd.cells24, List.getElem?_eq_getElem (by omega)] at g0
    rw [Tryd.cells25, List.getElem?_eq_getElem (by omega)] at g1 g2
    rw [Tryd.cells26', List.getElem?_eq_getElem (by omega)] at g3
    obtain ⟨n0, e0, _, w0⟩ := DataW.trod_int Tryd.underlying24 g0
    obtain ⟨n1, e1, _, w1⟩ := DataW.trod_int Tryd.underlying25 g1
    obtain ⟨n2, e2, _, w2⟩ := DataW.trod_int Tryd.underlying25 g2
    simp only [List.drop_zero, List.take_succ_cons, List.take_zero, List.cons.injEq, and_true] at e0
    simp only [List.drop_succ_cons, List.drop_zero, List.take_succ_cons, List.take_zero, List.cons.injEq, and_true] at e1 e2
    obtain ⟨m0, rfl⟩ := wf_u64' w0
    obtain ⟨m1, rfl, q1⟩ := wf_u16' w1
    obtain ⟨m2, rfl, q2⟩ := wf_u16' w2
    simp only [List.drop_succ_cons, List.drop_zero, List.take_succ_cons, List.take_zero] at g3
    obtain ⟨u, hu, hc3⟩ := hcell 3 v3 rfl
    have hu' : u = 26 := by simpa using hu.symm
    subst hu'
    obtain ⟨d, hd, hm⟩ := open_bytes hc3 g3
    subst e0 e1 e2
    exact ⟨m0, m1, m2, v3, d, rfl, q1, q2, hd, hm⟩
end Go.Proofs.YthcokaffbgbanaaDoor
