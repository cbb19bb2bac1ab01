/- The walk of FragmentNil. -/
import Derived.Test.YthmcmdojnnbefaaOb
namespace Go.Proofs.Ythmcmdojnnbefaa
open Go.RowKit Go.BigFrame

set_option maxRecDepth 100000 in
set_option maxHeartbeats 4000000 in
theorem nil_any (w : World) (p : Prt) (v : Value) : Calls Try.prog 5 #[pv p v] w fun e w' => e = .returned (.bool true) ∧ Below w.heap.size w w' := by
  have T := Box'.mk (fun w => take_nil w p.id p.n p.last v)
  have HB := Box'.mk (fun o => (Below.refl w.heap.size w).alloc (Nat.le_refl _) o)
  unfold pv
  have AN := Box'.mk anchored_any
  go_enter Try.func5, Try.ntmps5
  go_wp2_with fail
  refine (T.out _).mono ?_
  rintro e1 w1 ⟨rfl, b1'⟩
  have b1 := (HB.out _).trans (b1'.mono (HB.out _).size)
  clear T b1' HB
  go_wp2_with fail
  refine (holds_nil w1).mono ?_
  rintro e2 w2 ⟨rfl, hww⟩
  rw [hww]
  clear hww w2
  go_wp2_with fail
  refine (AN.out w1).mono ?_
  rintro e3 w3 ⟨rfl, b3⟩
  have B3 := b1.trans (b3.mono b1.size)
  clear AN b1 b3
  go_wp2_with fail
  go_ret
  exact ⟨rfl, B3⟩
end Go.Proofs.Ythmcmdojnnbefaa
