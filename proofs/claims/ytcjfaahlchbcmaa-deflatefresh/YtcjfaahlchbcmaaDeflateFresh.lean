/- deflate.Deflate and deflate.Stored keep what is handed in, and what they answer is new memory each time: marks in every place of an answer and behind it change neither the bytes that were handed in nor a later answer: for all bytes, with no condition. -/
import Derived.Test.YtcjfaahlchbcmaaRows
import Derived.Test.YtcjfaahlchbcmaaZ55
namespace Go.Proofs.Ytcjfaahlchbcmaa.deflateFresh
open Go.ChangeShapes Go.WideShapes Go.ChangeAt Go.RowKit
set_option linter.unusedVariables false

set_option maxRecDepth 100000 in
theorem lifted (os : Os) (started : os.Started) (H : Type) (enc : TypeId × Value → H) :
    ReturnsInHanded {} Try.checked os 6 .any (Rows.deflateFreshSpec.pre6 enc Try.prog Try.f6 Rows.deflateFreshRow.domain false) (Rows.deflateFreshSpec.post enc Try.prog Try.f6 false true false false) := by
  refine returnsInHanded_of_change_shaped (C := Try.checked) own started (by kernel_rfl) Try.func6
    (ChangeSpec.witness6 (enc := enc) (C := Try.checked) false ⟨#[], #[.slice none 0 0], []⟩ 8 (by kernel_rfl) (by kernel_rfl) (by kernel_rfl) (by kernel_rfl)) ?_
  intro W base args ds gs before hval0 hW _ hwt0 _ _
  have hval : ∀ (j : Nat) t v, Try.f6.params[j]? = some t → args[j]? = some v → Value.okWide Try.prog W .any base t v := hval0
  have hW' := hW
  obtain ⟨p, q, hA0, hV, rfl, hfz, hnd⟩ := hW
  have hA : DataW.TrodAll enc Try.prog W 0 (fun _ => true) true Try.f6.params.toList args.toList ds p := hA0
  rw [Try.params6] at hA hval
  obtain ⟨v1, vs1, d1, ds1, p1, q1, hargs, rfl, rfl, h1, r1⟩ := trodAll_cons hA
  obtain ⟨rfl, rfl, rfl⟩ := trodAll_nil r1
  obtain rfl : args = #[v1] := by cases args; simp_all
  obtain ⟨rfl, rfl⟩ := trodVars_none hV
  have lt1 : ∀ x ∈ p1, x.block < W.heap.size := by obtain ⟨m, hm⟩ := h1; exact DataW.trod_lt m _ _ _ hm
  have hwt : (DataW.weightsEach Try.prog [23] ([d1] ++ [])).all (· ≤ reachBytes) = true := hwt0
  have hall : ∀ y, y ∈ DataW.weights Try.prog 23 d1 → y ≤ 140737488351232 := by
    simp only [List.append_nil, DataW.weightsEach, List.all_eq_true, decide_eq_true_eq] at hwt
    exact fun y hy => hwt y hy
  obtain ⟨b, hb, hbn⟩ : ∃ b, InB W.heap.size W v1 b ∧ b.length ≤ 140737488351232 := by
    obtain ⟨m, hm⟩ := h1
    have hok := hval 0 23 v1 rfl rfl
    unfold Value.okWide at hok
    rw [Try.underlying23] at hok
    have hc1 : v1.cells.toList = [v1] := by
      unfold Cell.okWide at hok
      rw [Try.underlying23] at hok
      cases v1 <;> first | rfl | (simp only [Cell.ok, Try.underlying23] at hok)
    obtain ⟨b, hb, _⟩ := open_bytes hok (hc1 ▸ hm)
    obtain ⟨a, c, e, _⟩ := hb.slice
    refine ⟨b, hb, ?_⟩
    rw [hc1, e] at hm
    exact weight_bytes hm hall
  clear hA0 hval0
  refine (fresh_any W v1 b hbn hb).mono fun e W' ⟨he, bel⟩ => ?_
  subst he
  exact ⟨_, rfl, _, _, _, [], _, [], hW', trodAll_mk1 (shut_bool Try.underlying4 _), (trodAll_cons_mk (Below.trod laidOut (by kernel_rfl) (of_decide_eq_true (by kernel_rfl)) h1 bel lt1) trodAll_mk0), rfl, bel.frame _, fun h => by cases h⟩

theorem over : Rows.deflateFreshRow.holds Try.pinned (OpenSpec.ofChange Rows.deflateFreshSpec) :=
  OpenClaim.holds_of_wide 6 Try.f6 rfl rfl rfl rfl rfl rfl rfl ⟨rfl, rfl, rfl, rfl, rfl⟩ rfl rfl rfl rfl rfl (by kernel_rfl) Try.func6 (by kernel_rfl)
    (of_decide_eq_true (by kernel_rfl)) (by unfold Func.isWrapper; first | (rw [if_pos (by decide +kernel)]; kernel_rfl) | (rw [if_neg (by decide +kernel)]; exact ⟨rfl, rfl⟩))
    (fun os started H enc _ => lifted os started H enc)
end Go.Proofs.Ytcjfaahlchbcmaa.deflateFresh
namespace Go.Proofs.Ytcjfaahlchbcmaa
theorem deflateFresh_holds : Rows.DeflateFreshSaid := deflateFresh.over
#print axioms deflateFresh_holds
end Go.Proofs.Ytcjfaahlchbcmaa
