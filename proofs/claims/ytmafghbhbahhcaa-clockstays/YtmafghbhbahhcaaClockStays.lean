/- Whatever samples clock.Sample is handed one after the other from clock.Start on, each estimate may be, by clock.May and by the reference's, and clock.Timeout and clock.Pace are within their bounds; and two samples that the document fixes come out so: for all rows of samples, with no condition. -/
import Derived.Test.YtmafghbhbahhcaaRows
import Derived.Test.YtmafghbhbahhcaaQ
import Derived.Test.YtmafghbhbahhcaaT
namespace Go.Proofs.Ytmafghbhbahhcaa.clockStays
open Go.ChangeShapes Go.WideShapes Go.ChangeAt Go.RowKit
set_option linter.unusedVariables false
set_option linter.unusedSimpArgs false

set_option maxRecDepth 100000 in
theorem lifted (os : Os) (started : os.Started) (H : Type) (enc : TypeId × Value → H) :
    ReturnsInHanded {} Try.checked os 4 .any (Rows.clockStaysSpec.pre6 enc Try.prog Try.f4 Rows.clockStaysRow.domain false) (Rows.clockStaysSpec.post enc Try.prog Try.f4 false true false false) := by
  refine returnsInHanded_of_change_shaped (C := Try.checked) own started (by kernel_rfl) Try.func4
    (ChangeSpec.witness6 (enc := enc) (C := Try.checked) false ⟨#[], #[.slice none 0 0], []⟩ 8 (by kernel_rfl) (by kernel_rfl) (by kernel_rfl) (by kernel_rfl)) ?_
  intro W base args ds gs before hval0 hW _ hwt0 _ _
  have hval : ∀ (j : Nat) t v, Try.f4.params[j]? = some t → args[j]? = some v → Value.okWide Try.prog W .any base t v := hval0
  have hW' := hW
  obtain ⟨p, q, hA0, hV, rfl, hfz, hnd⟩ := hW
  have hA : DataW.TrodAll enc Try.prog W 0 (fun _ => true) true Try.f4.params.toList args.toList ds p := hA0
  rw [Try.params4] at hA hval
  obtain ⟨v0, vs0, d0, ds0, p0, q0, hargs, rfl, rfl, h0, r0⟩ := trodAll_cons hA
  obtain ⟨rfl, rfl, rfl⟩ := trodAll_nil r0
  obtain rfl : args = #[v0] := by cases args; simp_all
  obtain ⟨rfl, rfl⟩ := trodVars_none hV
  have lt0 : ∀ x ∈ p0, x.block < W.heap.size := by obtain ⟨m, hm⟩ := h0; exact DataW.trod_lt m _ _ _ hm
  have hwt : (DataW.weightsEach Try.prog [38] ([d0] ++ [])).all (· ≤ reachBytes) = true := hwt0
  have hall : (∀ y, y ∈ DataW.weights Try.prog 38 d0 → y ≤ 140737488351232) := by
    simp only [List.append_nil, DataW.weightsEach, List.all_append, Bool.and_eq_true, List.all_eq_true, decide_eq_true_eq] at hwt
    exact fun y hy => hwt y hy
  obtain ⟨sa, sn, sc, sl, rfl, hs, hsn⟩ : ∃ a n c l, v0 = .slice a n c ∧ Sms W.heap.size W a n l ∧ n ≤ 140737488351232 := by
    obtain ⟨m, hm⟩ := h0
    exact open_sms (hval 0 38 v0 rfl rfl) (by simpa using hm) hall
  clear hA0 hval0
  refine (stays_any sa sn sc sl (by omega) W hs).mono fun e W' ⟨he, bel⟩ => ?_
  subst he
  exact ⟨_, rfl, _, _, _, [], _, [], hW', trodAll_mk1 (shut_bool Try.underlying4 _), (trodAll_cons_mk (Below.trod laidOut (by kernel_rfl) (of_decide_eq_true (by kernel_rfl)) h0 bel lt0) trodAll_mk0), rfl, bel.frame _, fun h => by cases h⟩

theorem over : Rows.clockStaysRow.holds Try.pinned (OpenSpec.ofChange Rows.clockStaysSpec) :=
  OpenClaim.holds_of_wide 4 Try.f4 rfl rfl rfl rfl rfl rfl rfl ⟨rfl, rfl, rfl, rfl, rfl⟩ rfl rfl rfl rfl rfl (by kernel_rfl) Try.func4 (by kernel_rfl)
    (of_decide_eq_true (by kernel_rfl)) (by unfold Func.isWrapper; first | (rw [if_pos (by decide +kernel)]; kernel_rfl) | (rw [if_neg (by decide +kernel)]; exact ⟨rfl, rfl⟩))
    (fun os started H enc _ => lifted os started H enc)
end Go.Proofs.Ytmafghbhbahhcaa.clockStays
namespace Go.Proofs.Ytmafghbhbahhcaa
theorem clockStays_holds : Rows.ClockStaysSaid := clockStays.over
#print axioms clockStays_holds
end Go.Proofs.Ytmafghbhbahhcaa
