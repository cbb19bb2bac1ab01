/- For every screen and all deeds: where the screen may not be Keep refuses it and the reference's May says so; where it may be, a screen that was kept and brought back at once has the grid and the cursor that it had, and one that was kept, then had all the deeds done to it but Keep, Mode and Resize, and was brought back, has the cursor, the style and the pending mark that it had, and the trial of a small screen comes out; with no condition. -/
import Derived.Test.YtlekleeckcdcgaaGreatRows
import Derived.Test.YtlekleeckcdcgaaGreatZj
import Derived.Test.YtlekleeckcdcgaaGreatOb
namespace Go.Proofs.YtlekleeckcdcgaaGreat.screenKeeps
open Go.ChangeShapes Go.WideShapes Go.ChangeAt Go.RowKit
set_option maxRecDepth 100000
set_option linter.unusedVariables false
set_option linter.unusedSimpArgs false
theorem lifted (os : Os) (started : os.Started) (H : Type) (enc : TypeId × Value → H) :
  ReturnsInHanded {} Tryz.checked os 6 .any (Rows.screenKeepsSpec.pre6 enc Tryz.prog Tryz.f6 Rows.screenKeepsRow.domain false) (Rows.screenKeepsSpec.post enc Tryz.prog Tryz.f6 false true false false) := by
 refine returnsInHanded_of_change_shaped (C := Tryz.checked) own started (by kernel_rfl) Tryz.func6
  (ChangeSpec.witness6 (enc := enc) (C := Tryz.checked) false ⟨#[], #[.agg z32, .slice none 0 0], []⟩ 8 (by kernel_rfl) (by kernel_rfl) (by kernel_rfl) (by kernel_rfl)) ?_
 intro W base args ds gs before hval0 hW _ hwt0 _ _
 have hval : ∀ (j : Nat) t v, Tryz.f6.params[j]? = some t → args[j]? = some v → Value.okWide Tryz.prog W .any base t v := hval0
 have hW' := hW
 obtain ⟨p, q, hA0, hV, rfl, hfz, hnd⟩ := hW
 have hA : DataW.TrodAll enc Tryz.prog W 0 (fun _ => true) true Tryz.f6.params.toList args.toList ds p := hA0
 rw [Tryz.params6] at hA hval
 obtain ⟨v0, vs0, d0, ds0, p0, q0, hargs, rfl, rfl, h0, r0⟩ := trodAll_cons hA
 obtain ⟨v1, vs1, d1, ds1, p1, q1, rfl, rfl, rfl, h1, r1⟩ := trodAll_cons r0
 obtain ⟨rfl, rfl, rfl⟩ := trodAll_nil r1
 obtain rfl : args = #[v0, v1] := by cases args; simp_all
 obtain ⟨rfl, rfl⟩ := trodVars_none hV
 have lt0 : ∀ x ∈ p0, x.block < W.heap.size := by obtain ⟨m, hm⟩ := h0; exact DataW.trod_lt m _ _ _ hm
 have lt1 : ∀ x ∈ p1, x.block < W.heap.size := by obtain ⟨m, hm⟩ := h1; exact DataW.trod_lt m _ _ _ hm
 have hwt : (DataW.weightsEach Tryz.prog [32, 45] ([d0, d1] ++ [])).all (· ≤ reachBytes) = true := hwt0
 have hall : (∀ y, y ∈ DataW.weights Tryz.prog 32 d0 → y ≤ 140737488351232) ∧ (∀ y, y ∈ DataW.weights Tryz.prog 45 d1 → y ≤ 140737488351232) := by
  simp only [List.append_nil, DataW.weightsEach, List.all_append, Bool.and_eq_true, List.all_eq_true, decide_eq_true_eq] at hwt
  exact ⟨fun y hy => hwt.1 y hy, fun y hy => hwt.2 y hy⟩
 obtain ⟨m0, hm0⟩ := id h0
 obtain ⟨ss, gs, ts, ns, ls, rfl, lis, bos, bws, nls, ngs⟩ := open_screen (hval 0 32 v0 rfl rfl) hm0 hall.1
 obtain ⟨m1, hm1⟩ := id h1
 obtain ⟨aa, na, ca, qa, rfl, hna, hwa, hqa⟩ := open_deeds (hval 1 45 v1 rfl rfl) hm1 hall.2
 clear hA0 hval0
 refine (keeps_any ss gs ts ns ls aa na ca qa hna hwa W hqa lis bos).mono fun e W' ⟨he, bel⟩ => ?_
 subst he
 exact ⟨_, rfl, _, _, _, [], _, [], hW', trodAll_mk1 (shut_bool Tryz.underlying4 _), (trodAll_cons_mk (Below.trod laidOut (by kernel_rfl) (of_decide_eq_true (by kernel_rfl)) h0 bel lt0) (trodAll_cons_mk (Below.trod laidOut (by kernel_rfl) (of_decide_eq_true (by kernel_rfl)) h1 bel lt1) trodAll_mk0)), rfl, bel.frame _, fun h => by cases h⟩
theorem over : Rows.screenKeepsRow.holds Tryz.pinned (OpenSpec.ofChange Rows.screenKeepsSpec) :=
 OpenClaim.holds_of_wide 6 Tryz.f6 rfl rfl rfl rfl rfl rfl rfl ⟨rfl, rfl, rfl, rfl, rfl⟩ rfl rfl rfl rfl rfl (by kernel_rfl) Tryz.func6 (by kernel_rfl)
  (of_decide_eq_true (by kernel_rfl)) (by unfold Func.isWrapper; first | (rw [if_pos (by decide +kernel)]; kernel_rfl) | (rw [if_neg (by decide +kernel)]; exact ⟨rfl, rfl⟩))
  (fun os started H enc _ => lifted os started H enc)
end Go.Proofs.YtlekleeckcdcgaaGreat.screenKeeps
namespace Go.Proofs.YtlekleeckcdcgaaGreat
theorem screenKeeps_holds : Rows.ScreenKeepsSaid := screenKeeps.over
#print axioms screenKeeps_holds
end Go.Proofs.YtlekleeckcdcgaaGreat
