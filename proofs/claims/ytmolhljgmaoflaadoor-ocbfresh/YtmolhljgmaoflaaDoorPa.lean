/- What came in is no longer than what a machine holds. -/
import Derived.Test.YtmolhljgmaoflaaDoorOz
namespace Go.Proofs.YtmolhljgmaoflaaDoor
open Go.ChangeShapes Go.WideShapes Go.ChangeAt Go.RowKit

theorem Tryd.bytes5 : Tryd.prog.bytesOf 5 = 1 := by kernel_rfl
theorem weight_bytes {H : Type} {enc : TypeId × Value → H} {W : World} {fuel : Nat} {a : Option Addr} {n c R : Nat} {x : DataW H × List MemPlace} (h : DataW.trod enc Tryd.prog W 0 (fun _ => true) true fuel 24 [.slice a n c] = some x)
    (hw : ∀ y ∈ DataW.weights Tryd.prog 24 x.1, y ≤ R) : n ≤ R := by
  rcases open_ints Tryd.underlying24 Tryd.underlying5 Tryd.cells5 h with ⟨e, _⟩ | ⟨a', len, cap, zs, e, _, hlc, hcm, hzl, hx, _⟩
  · simp only [List.cons.injEq, and_true, Value.slice.injEq] at e
    omega
  · simp only [List.cons.injEq, and_true, Value.slice.injEq] at e
    simp only [if_true] at hzl
    subst hx
    have := hw _ (by simp only [DataW.weights, Tryd.underlying24]; exact List.mem_cons_self)
    rw [Tryd.bytes5] at this
    simp [lits] at this
    omega
theorem weight_case {H : Type} {enc : TypeId × Value → H} {W : World} {fuel R : Nat} {key : List UInt8} (hk : key.length = 16) {an ab : Option Addr} {nn cn nb cb : Nat} {x : DataW H × List MemPlace}
    (h : DataW.trod enc Tryd.prog W 0 (fun _ => true) true fuel 26 (Value.agg (cas key (.slice an nn cn) (.slice ab nb cb))).cells.toList = some x)
    (hw : ∀ y ∈ DataW.weights Tryd.prog 26 x.1, y ≤ R) : nn ≤ R ∧ nb ≤ R := by
  obtain ⟨xs, n, q1, q2, hl, hxl, hf⟩ := DataW.trod_struct Tryd.underlying26 h
  have hl3 : xs.length = 3 := hxl
  have hag : (ag key).size = 16 := by rw [ag_size]; exact hk
  have h1 : DataW.trod enc Tryd.prog W 0 (fun _ => true) true n 24 (((cas key (.slice an nn cn) (.slice ab nb cb)).toList.drop 16).take (Tryd.prog.cellsOf 24)) = xs[1]? := hf 1 _ rfl
  have h2 : DataW.trod enc Tryd.prog W 0 (fun _ => true) true n 24 (((cas key (.slice an nn cn) (.slice ab nb cb)).toList.drop 17).take (Tryd.prog.cellsOf 24)) = xs[2]? := hf 2 _ rfl
  have e16 : ((cas key (.slice an nn cn) (.slice ab nb cb)).toList.drop 16).take (Tryd.prog.cellsOf 24) = [.slice an nn cn] := by
    rw [Tryd.cells24]; unfold cas; rw [Array.toList_append, List.drop_append_of_le_length (by simp [hag]), List.drop_of_length_le (by simp [hag])]; rfl
  have e17 : ((cas key (.slice an nn cn) (.slice ab nb cb)).toList.drop 17).take (Tryd.prog.cellsOf 24) = [.slice ab nb cb] := by
    rw [Tryd.cells24]; unfold cas; rw [Array.toList_append, List.drop_append, List.drop_of_length_le (by simp [hag])]; simp [hag]
  rw [e16] at h1
  rw [e17] at h2
  clear hf hxl hl e16 e17
  match xs, hl3, q2, h1, h2 with
  | [x0, x1, x2], _, q2, h1, h2 =>
    subst q2
    have hmem : ∀ y, y ∈ DataW.weights Tryd.prog 24 x1.1 ∨ y ∈ DataW.weights Tryd.prog 24 x2.1 → y ≤ R := by
      intro y hy
      refine hw y ?_
      simp only [DataW.weights, Tryd.underlying26, List.map_cons, List.map_nil, DataW.weightsEach, List.mem_append, List.append_nil]
      rcases hy with hy | hy
      · exact .inr (.inl hy)
      · exact .inr (.inr hy)
    exact ⟨weight_bytes h1 fun y hy => hmem y (.inl hy), weight_bytes h2 fun y hy => hmem y (.inr hy)⟩
end Go.Proofs.YtmolhljgmaoflaaDoor
