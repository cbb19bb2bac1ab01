/- What the calls of a sender and of a receiver that are not there answer is what the document asks, and three answers that the document fixes come out so: for every number, with no condition. -/
import Derived.Test.YtikkekdmahdgaaaRows
import Derived.Test.YtikkekdmahdgaaaRv
import Derived.Test.YtikkekdmahdgaaaUj
namespace Go.Proofs.Ytikkekdmahdgaaa.sspNil
open Go.ChangeShapes Go.WideShapes Go.ChangeAt Go.RowKit
set_option linter.unusedVariables false
set_option linter.unusedSimpArgs false

set_option maxRecDepth 100000 in
theorem lifted (os : Os) (started : os.Started) (H : Type) (enc : TypeId × Value → H) :
    ReturnsInHanded {} Try.checked os 5 .any (Rows.sspNilSpec.pre6 enc Try.prog Try.f5 Rows.sspNilRow.domain false) (Rows.sspNilSpec.post enc Try.prog Try.f5 false true false false) := by
  refine returnsInHanded_of_change_shaped (C := Try.checked) own started (by kernel_rfl) Try.func5
    (ChangeSpec.witness6 (enc := enc) (C := Try.checked) false ⟨#[], #[.int .u64 0], []⟩ 8 (by kernel_rfl) (by kernel_rfl) (by kernel_rfl) (by kernel_rfl)) ?_
  intro W base args ds gs before hval0 hW _ hwt0 _ _
  have hval : ∀ (j : Nat) t v, Try.f5.params[j]? = some t → args[j]? = some v → Value.okWide Try.prog W .any base t v := hval0
  have hW' := hW
  obtain ⟨p, q, hA0, hV, rfl, hfz, hnd⟩ := hW
  have hA : DataW.TrodAll enc Try.prog W 0 (fun _ => true) true Try.f5.params.toList args.toList ds p := hA0
  rw [Try.params5] at hA hval
  obtain ⟨v0, vs0, d0, ds0, p0, q0, hargs, rfl, rfl, h0, r0⟩ := trodAll_cons hA
  obtain ⟨rfl, rfl, rfl⟩ := trodAll_nil r0
  obtain rfl : args = #[v0] := by cases args; simp_all
  obtain ⟨rfl, rfl⟩ := trodVars_none hV
  have lt0 : ∀ x ∈ p0, x.block < W.heap.size := by obtain ⟨m, hm⟩ := h0; exact DataW.trod_lt m _ _ _ hm
  have hwt : (DataW.weightsEach Try.prog [29] ([d0] ++ [])).all (· ≤ reachBytes) = true := hwt0
  have hall : (∀ y, y ∈ DataW.weights Try.prog 29 d0 → y ≤ 140737488351232) := by
    simp only [List.append_nil, DataW.weightsEach, List.all_append, Bool.and_eq_true, List.all_eq_true, decide_eq_true_eq] at hwt
    exact fun y hy => hwt y hy
  obtain ⟨m0, hm0⟩ := id h0
  obtain ⟨n, rfl⟩ := open_u64 (hval 0 29 v0 rfl rfl) hm0
  clear hA0 hval0
  refine (nil_walk n (tickNil n) toldNil (takeNil n) lateNil setNil (ackNil n) holdNil anch_C W).mono fun e W' ⟨he, bel⟩ => ?_
  subst he
  exact ⟨_, rfl, _, _, _, [], _, [], hW', trodAll_mk1 (shut_bool Try.underlying4 _), (trodAll_cons_mk (Below.trod laidOut (by kernel_rfl) (of_decide_eq_true (by kernel_rfl)) h0 bel lt0) trodAll_mk0), rfl, bel.frame _, fun h => by cases h⟩

theorem over : Rows.sspNilRow.holds Try.pinned (OpenSpec.ofChange Rows.sspNilSpec) :=
  OpenClaim.holds_of_wide 5 Try.f5 rfl rfl rfl rfl rfl rfl rfl ⟨rfl, rfl, rfl, rfl, rfl⟩ rfl rfl rfl rfl rfl (by kernel_rfl) Try.func5 (by kernel_rfl)
    (of_decide_eq_true (by kernel_rfl)) (by unfold Func.isWrapper; first | (rw [if_pos (by decide +kernel)]; kernel_rfl) | (rw [if_neg (by decide +kernel)]; exact ⟨rfl, rfl⟩))
    (fun os started H enc _ => lifted os started H enc)
end Go.Proofs.Ytikkekdmahdgaaa.sspNil
namespace Go.Proofs.Ytikkekdmahdgaaa
theorem sspNil_holds : Rows.SspNilSaid := sspNil.over
#print axioms sspNil_holds
end Go.Proofs.Ytikkekdmahdgaaa
