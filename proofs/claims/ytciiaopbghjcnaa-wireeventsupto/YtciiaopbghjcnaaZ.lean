/- What came in: an instruction. -/
import Derived.Test.YtciiaopbghjcnaaQ
import Derived.Test.YtciiaopbghjcnaaY
namespace Go.Proofs.Ytciiaopbghjcnaa
open Go.ChangeShapes Go.WideShapes Go.ChangeAt Go.RowKit Go.BigFrame

theorem Try.cells34 : Try.prog.cellsOf 34 = 5 := by kernel_rfl
theorem Try.cells23 : Try.prog.cellsOf 23 = 1 := by kernel_rfl
theorem Try.types34 : Try.prog.cellTypes Try.prog.depth 34 = some [22, 22, 22, 22, 23] := by kernel_rfl
theorem each4 {H : Type} (t0 t1 t2 t3 t4 : TypeId) (xs : List (DataW H × List MemPlace)) (h : xs.length = 5) (y : Nat) (hy : y ∈ DataW.weights Try.prog t4 (xs[4]'(by omega)).1) : y ∈ DataW.weightsEach Try.prog [t0, t1, t2, t3, t4] (xs.map (·.1)) := by
  match xs, h with
  | [a0, a1, a2, a3, a4], _ =>
    simp only [List.map_cons, List.map_nil, DataW.weightsEach, List.mem_append]
    exact .inr (.inr (.inr (.inr (.inl hy))))
set_option maxRecDepth 100000 in
/-- An instruction that came in. -/
theorem open_ins {H : Type} {enc : TypeId × Value → H} {W : World} {base R : Nat} {v : Value} {fuel : Nat} {x : DataW H × List MemPlace} (hok : Value.okWide Try.prog W .any base 34 v) (h : DataW.trod enc Try.prog W 0 (fun _ => true) true fuel 34 v.cells.toList = some x)
    (hw : ∀ y ∈ DataW.weights Try.prog 34 x.1, y ≤ R) : ∃ (i : Ins) (vd : Value), v = .agg #[.int .u64 (i.old : Int), .int .u64 (i.new : Int), .int .u64 (i.ack : Int), .int .u64 (i.thr : Int), vd] ∧ i.ok ∧ InB W.heap.size W vd i.dif ∧ i.dif.length ≤ R := by
  unfold Value.okWide at hok
  rw [Try.underlying34] at hok
  simp only at hok
  obtain ⟨cs, rfl, hsz, ts, hts, _, hcell⟩ := hok
  rw [Try.cells34] at hsz
  rw [Try.types34] at hts
  injection hts with hts
  subst hts
  obtain ⟨l⟩ := cs
  match l, hsz with
  | [v0, v1, v2, v3, v4], _ =>
    have h' : DataW.trod enc Try.prog W 0 (fun _ => true) true fuel 34 [v0, v1, v2, v3, v4] = some x := h
    obtain ⟨xs, k, hk, hxy, _, hxl, hf⟩ := DataW.trod_struct Try.underlying34 h'
    have hl5 : xs.length = 5 := hxl
    have g0 : DataW.trod enc Try.prog W 0 (fun _ => true) true k 22 (([v0, v1, v2, v3, v4].drop 0).take (Try.prog.cellsOf 22)) = xs[0]? := hf 0 _ rfl
    have g1 : DataW.trod enc Try.prog W 0 (fun _ => true) true k 22 (([v0, v1, v2, v3, v4].drop 1).take (Try.prog.cellsOf 22)) = xs[1]? := hf 1 _ rfl
    have g2 : DataW.trod enc Try.prog W 0 (fun _ => true) true k 22 (([v0, v1, v2, v3, v4].drop 2).take (Try.prog.cellsOf 22)) = xs[2]? := hf 2 _ rfl
    have g3 : DataW.trod enc Try.prog W 0 (fun _ => true) true k 22 (([v0, v1, v2, v3, v4].drop 3).take (Try.prog.cellsOf 22)) = xs[3]? := hf 3 _ rfl
    have g4 : DataW.trod enc Try.prog W 0 (fun _ => true) true k 23 (([v0, v1, v2, v3, v4].drop 4).take (Try.prog.cellsOf 23)) = xs[4]? := hf 4 _ rfl
    rw [Try.cells22, List.getElem?_eq_getElem (by omega)] at g0 g1 g2 g3
    rw [Try.cells23, List.getElem?_eq_getElem (by omega)] at g4
    obtain ⟨n0, e0, _, w0⟩ := DataW.trod_int Try.underlying22 g0
    obtain ⟨n1, e1, _, w1⟩ := DataW.trod_int Try.underlying22 g1
    obtain ⟨n2, e2, _, w2⟩ := DataW.trod_int Try.underlying22 g2
    obtain ⟨n3, e3, _, w3⟩ := DataW.trod_int Try.underlying22 g3
    simp only [List.drop_zero, List.take_succ_cons, List.take_zero, List.cons.injEq, and_true] at e0
    simp only [List.drop_succ_cons, List.drop_zero, List.take_succ_cons, List.take_zero, List.cons.injEq, and_true] at e1 e2 e3
    obtain ⟨m0, rfl, q0⟩ := wf_u64 w0
    obtain ⟨m1, rfl, q1⟩ := wf_u64 w1
    obtain ⟨m2, rfl, q2⟩ := wf_u64 w2
    obtain ⟨m3, rfl, q3⟩ := wf_u64 w3
    simp only [List.drop_succ_cons, List.drop_zero, List.take_succ_cons, List.take_zero] at g4
    obtain ⟨u, hu, hc4⟩ := hcell 4 v4 rfl
    have hu' : u = 23 := by simpa using hu.symm
    subst hu'
    obtain ⟨d, hd, _⟩ := open_bytes hc4 g4
    obtain ⟨a, c, e, _⟩ := hd.slice
    subst e0 e1 e2 e3
    refine ⟨⟨m0, m1, m2, m3, d⟩, v4, rfl, ⟨q0, q1, q2, q3⟩, hd, ?_⟩
    rw [e] at g4
    refine weight_bytes g4 fun y hy => hw y ?_
    rw [hxy]
    simp only [DataW.weights, Try.underlying34]
    exact each4 _ _ _ _ _ xs hl5 y hy
end Go.Proofs.Ytciiaopbghjcnaa
