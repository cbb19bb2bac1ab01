/- What the bound on the bulk gives; numbers of two bytes that came in. -/
import Derived.Test.YtbnghmeeddjaoaaRows
import Derived.Test.YtbnghmeeddjaoaaHp
import Derived.JoinedCond
namespace Go.Proofs.Ytbnghmeeddjaoaa
open Go.ChangeShapes Go.WideShapes Go.ChangeAt Go.RowKit

theorem bulk_one {H : Type} (d : DataW H) : 1 ≤ Rows.uptoBulk d := by
  cases d with
  | lit l => cases l <;> simp [Rows.uptoBulk]
  | _ => simp [Rows.uptoBulk]
theorem bulk_len {H : Type} (l : List (DataW H)) : l.length ≤ Rows.uptoBulkAll l := by
  induction l with
  | nil => exact Nat.zero_le _
  | cons x r ih => have := bulk_one x; simp only [Rows.uptoBulkAll, List.length_cons]; omega
set_option maxRecDepth 100000 in
theorem bulk_bytes {H : Type} {enc : TypeId × Value → H} {W : World} {fuel : Nat} {a : Option Addr} {n c : Nat} {x : DataW H × List MemPlace} (h : DataW.trod enc Try.prog W 0 (fun _ => true) true fuel 22 [.slice a n c] = some x) : n ≤ Rows.uptoBulk x.1 := by
  rcases open_ints Try.underlying22 Try.underlying5 Try.cells5 h with ⟨e, _⟩ | ⟨a', len, cap, zs, e, _, hlc, hcm, hzl, hx, _⟩
  · simp only [List.cons.injEq, and_true, Value.slice.injEq] at e
    omega
  · simp only [List.cons.injEq, and_true, Value.slice.injEq] at e
    simp only [if_true] at hzl
    subst hx
    simp only [Rows.uptoBulk]
    refine Nat.le_trans ?_ (Nat.le_trans (bulk_len _) (Nat.le_trans (Nat.le_add_right _ _) (Nat.le_add_right _ _)))
    simp [lits]
    omega
/-- A number of two bytes that came in. -/
theorem open_u16 {H : Type} {enc : TypeId × Value → H} {W : World} {base : Nat} {v : Value} {fuel : Nat} {x : DataW H × List MemPlace} (hok : Value.okWide Try.prog W .any base 39 v) (h : DataW.trod enc Try.prog W 0 (fun _ => true) true fuel 39 v.cells.toList = some x) : ∃ n : Nat, v = .int .u16 (n : Int) ∧ n ≤ 65535 := by
  unfold Value.okWide at hok
  rw [Try.underlying39] at hok
  have hc1 : v.cells.toList = [v] := by
    unfold Cell.okWide at hok
    rw [Try.underlying39] at hok
    cases v <;> first | rfl | (simp only [Cell.ok, Try.underlying39] at hok)
  rw [hc1] at h
  obtain ⟨n, e, _, w0⟩ := DataW.trod_int Try.underlying39 h
  simp only [List.cons.injEq, and_true] at e
  simp only [Lit.wf, Bool.and_eq_true, decide_eq_true_eq] at w0
  have h0 : 0 ≤ n := w0.1
  have h1 : n ≤ 65535 := w0.2
  exact ⟨n.toNat, by rw [e]; congr 1; omega, by omega⟩
end Go.Proofs.Ytbnghmeeddjaoaa
