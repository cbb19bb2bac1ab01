/- What came in: a number of two bytes. -/
import Derived.Test.YthmcmdojnnbefaaTb
namespace Go.Proofs.Ythmcmdojnnbefaa
open Go.ChangeShapes Go.WideShapes Go.ChangeAt Go.RowKit Go.BigFrame

set_option maxRecDepth 100000 in
theorem open_u16 {H : Type} {enc : TypeId × Value → H} {W : World} {base : Nat} {v : Value} {fuel : Nat} {x : DataW H × List MemPlace} (hok : Value.okWide Try.prog W .any base 57 v) (h : DataW.trod enc Try.prog W 0 (fun _ => true) true fuel 57 v.cells.toList = some x) : ∃ n : Nat, v = .int .u16 (n : Int) ∧ n < 65536 := by
  unfold Value.okWide at hok
  rw [Try.underlying57] at hok
  have hc1 : v.cells.toList = [v] := by
    unfold Cell.okWide at hok
    rw [Try.underlying57] at hok
    cases v <;> first | rfl | (simp only [Cell.ok, Try.underlying57] at hok)
  rw [hc1] at h
  obtain ⟨n, e, _, w0⟩ := DataW.trod_int Try.underlying57 h
  simp only [List.cons.injEq, and_true] at e
  simp only [Lit.wf, Bool.and_eq_true, decide_eq_true_eq] at w0
  have h0 : 0 ≤ n := w0.1
  have h1 : n ≤ 65535 := w0.2
  exact ⟨n.toNat, by rw [e]; congr 1; omega, by omega⟩
end Go.Proofs.Ythmcmdojnnbefaa
