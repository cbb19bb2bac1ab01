/- A fact that the walk does not look through. -/
import Derived.Test.YtmafghbhbahhcaaRows
import Derived.Test.YtmafghbhbahhcaaL
import Derived.Deep.MidRow
namespace Go.Proofs.Ytmafghbhbahhcaa
/-- A fact that the walk does not look through. -/
structure Box' (p : Prop) : Prop where
  out : p
open Go.RowKit
theorem results_row_slot {P : Program} {w : World} {fn : Func} {p q : Tmp} {ty : TypeId} (hf : fn.results = #[.cell p ty, .tmp q]) (tmps : Array Value) (b : Nat) (hx : tmps.getD p undef = .pointer (some ⟨b, 0, none⟩)) (v : Value) (hq : tmps.getD q undef = v)
    (t : TypeId) (c : Array Value) (hr : Row w b t c) (d : TypeDesc) (hu : P.underlying ty = some d) (hd : (match d with | .struct _ | .array _ _ => true | _ => false) = true) (n : Nat) (hi : (P.info? ty).map (·.size) = some n) (hn : c.size = n) :
    (results fn tmps).run P w = .ok (.tuple #[.agg c, v]) w := by
  have hrun := run_loadVar_row (P := P) w b t ty c (0, 0) d hr hu hd (by rw [hn]; exact hi)
  have hx' : tmps[p]?.getD undef = .pointer (some ⟨b, 0, none⟩) := by simpa using hx
  have hq' : tmps[q]?.getD undef = v := by simpa using hq
  simp only [results, hf]
  simp [hx', hq', asAddr, hrun]
theorem Try.info23 : (Try.prog.info? 23).map (·.size) = some 3 := by kernel_rfl
theorem wrapI {z : Int} (h1 : -9223372036854775808 ≤ z) (h2 : z < 9223372036854775808) : IntKind.i64.wrap z = z := by
  have e : IntKind.i64.wrap z = if z % 18446744073709551616 ≥ 9223372036854775808 then z % 18446744073709551616 - 18446744073709551616 else z % 18446744073709551616 := by
    simp [IntKind.wrap, IntKind.bits, IntKind.signed]
  rw [e]
  split <;> omega
end Go.Proofs.Ytmafghbhbahhcaa
