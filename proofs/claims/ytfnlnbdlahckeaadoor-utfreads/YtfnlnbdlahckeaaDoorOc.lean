/- What came in: truths. -/
import Derived.Test.YtfnlnbdlahckeaaDoorOb
import Derived.Test.YtfnlnbdlahckeaaDoorWc
import Derived.Deep.Grids
namespace Go.Proofs.YtfnlnbdlahckeaaDoor
open Go.ChangeShapes Go.WideShapes Go.ChangeAt Go.RowKit Go.BigFrame Go.Deep
set_option linter.unusedVariables false
set_option linter.unusedSimpArgs false
theorem Tryd.bytes4 : Tryd.prog.bytesOf 4 = 1 := by kernel_rfl
set_option maxRecDepth 100000 in
/-- Truths that came in as an argument. -/
theorem open_argT {H : Type} {enc : TypeId × Value → H} {W : World} {base R : Nat} {v : Value} {fuel : Nat} {x : DataW H × List MemPlace} (hok : Value.okWide Tryd.prog W .any base 31 v) (h : DataW.trod enc Tryd.prog W 0 (fun _ => true) true fuel 31 v.cells.toList = some x)
    (hw : ∀ y ∈ DataW.weights Tryd.prog 31 x.1, y ≤ R) : ∃ l, InT W.heap.size W v l ∧ l.length ≤ R := by
  unfold Value.okWide at hok
  rw [Tryd.underlying31] at hok
  have hc1 : v.cells.toList = [v] := by
    unfold Cell.okWide at hok
    rw [Tryd.underlying31] at hok
    cases v <;> first | rfl | (simp only [Cell.ok, Tryd.underlying31] at hok)
  rw [hc1] at h
  rcases open_bools Tryd.underlying31 Tryd.underlying4 Tryd.cells4 h with ⟨e, _⟩ | ⟨a, len, cap, B, e, _, hlc, hcm, hx, hcell⟩
  · simp only [List.cons.injEq, and_true] at e
    subst e
    exact ⟨[], ⟨none, 0, rfl, .inl rfl⟩, Nat.zero_le _⟩
  · simp only [List.cons.injEq, and_true] at e
    subst e
    have hsp : a.spot = none := by
      unfold Cell.okWide at hok
      rw [Tryd.underlying31] at hok
      simp only [Cell.ok, Tryd.underlying31] at hok
      exact hok.2.2.2.1
    obtain ⟨b, o, sp⟩ := a
    simp only at hsp
    subst hsp
    refine ⟨(List.range len).map B, ⟨some ⟨b, o, none⟩, cap, by simp, ?_⟩, ?_⟩
    · by_cases h0 : len = 0
      · left; simp [h0]
      · right
        have hc0 := hcell 0 (by omega)
        rw [Addr.add_mid] at hc0
        refine ⟨b, o, rfl, World.block_lt_of_cell? W _ hc0, fun j hj => ?_⟩
        have hj' : j < len := by simpa using hj
        have := hcell j (by omega)
        rw [Addr.add_mid] at this
        rw [this]
        simp [hj']
    · have := hw _ (by rw [hx]; simp only [boolRow, DataW.weights, Tryd.underlying31]; exact List.mem_cons_self)
      rw [Tryd.bytes4] at this
      simp at this ⊢
      omega
end Go.Proofs.YtfnlnbdlahckeaaDoor
