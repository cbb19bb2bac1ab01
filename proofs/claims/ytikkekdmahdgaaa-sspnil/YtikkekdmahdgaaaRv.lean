/- What came in: numbers, texts. -/
import Derived.Test.YtikkekdmahdgaaaRo
import Derived.ProofKit
import Derived.OpenShut
import Derived.HandedShaped
import Derived.ChangeSlices
import Derived.ChangeArms
import Derived.ChangeOld
import Derived.Deep.SlicePairs
import Derived.Carry
namespace Go.Proofs.Ytikkekdmahdgaaa
set_option maxRecDepth 100000
open Go.ChangeShapes Go.WideShapes Go.ChangeAt Go.RowKit Go.BigFrame
set_option linter.unusedSimpArgs false
set_option linter.unusedVariables false

theorem own : ownKnob Try.prog.godebug = none := by kernel_rfl
theorem laidOut : laidOutB Try.prog = true := by kernel_rfl
theorem wf_u64 {n : Int} (h : (Lit.int .u64 n).wf = true) : ∃ x : UInt64, n = (x.toNat : Int) := by
  simp only [Lit.wf, Bool.and_eq_true, decide_eq_true_eq] at h
  have h0 : 0 ≤ n := h.1
  have h1 : n ≤ 18446744073709551615 := h.2
  exact ⟨UInt64.ofNat n.toNat, by rw [UInt64.toNat_ofNat_of_lt' (show n.toNat < UInt64.size by unfold UInt64.size; omega)]; omega⟩
/-- A number of eight bytes that came in. -/
theorem open_u64 {H : Type} {enc : TypeId × Value → H} {W : World} {base : Nat} {v : Value} {fuel : Nat} {x : DataW H × List MemPlace} (hok : Value.okWide Try.prog W .any base 29 v) (h : DataW.trod enc Try.prog W 0 (fun _ => true) true fuel 29 v.cells.toList = some x) : ∃ n : UInt64, v = .int .u64 (n.toNat : Int) := by
  unfold Value.okWide at hok
  rw [Try.underlying29] at hok
  have hc1 : v.cells.toList = [v] := by
    unfold Cell.okWide at hok
    rw [Try.underlying29] at hok
    cases v <;> first | rfl | (simp only [Cell.ok, Try.underlying29] at hok)
  rw [hc1] at h
  obtain ⟨n, e, _, w0⟩ := DataW.trod_int Try.underlying29 h
  simp only [List.cons.injEq, and_true] at e
  obtain ⟨x, rfl⟩ := wf_u64 w0
  exact ⟨x, e⟩
/-- A text that came in. -/
theorem open_str {H : Type} {enc : TypeId × Value → H} {W : World} {base : Nat} {v : Value} {fuel : Nat} {x : DataW H × List MemPlace} (hok : Value.okWide Try.prog W .any base 9 v) (h : DataW.trod enc Try.prog W 0 (fun _ => true) true fuel 9 v.cells.toList = some x) : ∃ t : List UInt8, v = sT t := by
  unfold Value.okWide at hok
  rw [Try.underlying9] at hok
  have hc1 : v.cells.toList = [v] := by
    unfold Cell.okWide at hok
    rw [Try.underlying9] at hok
    cases v <;> first | rfl | (simp only [Cell.ok, Try.underlying9] at hok)
  rw [hc1] at h
  obtain ⟨s, e, _⟩ := DataW.trod_string Try.underlying9 h
  simp only [List.cons.injEq, and_true] at e
  exact ⟨s.data.toList, by rw [e]; unfold sT; simp⟩
end Go.Proofs.Ytikkekdmahdgaaa
