/- For every grid and every asking: what Erase and Resize answer is new memory, so that writing into it leaves the grid that was handed in as it was, what Scroll answers behind that is what the reference answers, and the trial of a small grid comes out; with no condition. -/
import Derived.Test.YtnbonlkmadmpcaaRows
import Derived.Test.YtnbonlkmadmpcaaUz
namespace Go.Proofs.Ytnbonlkmadmpcaa.gridFresh
open Go.ChangeShapes Go.WideShapes Go.ChangeAt Go.RowKit
set_option linter.unusedVariables false
set_option linter.unusedSimpArgs false

set_option maxRecDepth 100000 in
theorem lifted (os : Os) (started : os.Started) (H : Type) (enc : TypeId × Value → H) :
    ReturnsInHanded {} Try.checked os 6 .any (Rows.gridFreshSpec.pre6 enc Try.prog Try.f6 Rows.gridFreshRow.domain false) (Rows.gridFreshSpec.post enc Try.prog Try.f6 false true false false) := by
  refine returnsInHanded_of_change_shaped (C := Try.checked) own started (by kernel_rfl) Try.func6
    (ChangeSpec.witness6 (enc := enc) (C := Try.checked) false ⟨#[], #[.agg #[.int .i64 0, .int .i64 0, .slice none 0 0], .agg #[.int .i64 0, .int .i64 0, .int .i64 0, .int .i64 0, .int .i64 0, .int .i64 0, .bool false, .bool false, .bool false, .bool false, .bool false, .bool false, .bool false, .bool false, .slice none 0 0]], []⟩ 8 (by kernel_rfl) (by kernel_rfl) (by kernel_rfl) (by kernel_rfl)) ?_
  intro W base args ds gs before hval0 hW _ hwt0 _ _
  have hval : ∀ (j : Nat) t v, Try.f6.params[j]? = some t → args[j]? = some v → Value.okWide Try.prog W .any base t v := hval0
  have hW' := hW
  obtain ⟨p, q, hA0, hV, rfl, hfz, hnd⟩ := hW
  have hA : DataW.TrodAll enc Try.prog W 0 (fun _ => true) true Try.f6.params.toList args.toList ds p := hA0
  rw [Try.params6] at hA hval
  obtain ⟨v0, vs0, d0, ds0, p0, q0, hargs, rfl, rfl, h0, r0⟩ := trodAll_cons hA
  obtain ⟨v1, vs1, d1, ds1, p1, q1, rfl, rfl, rfl, h1, r1⟩ := trodAll_cons r0
  obtain ⟨rfl, rfl, rfl⟩ := trodAll_nil r1
  obtain rfl : args = #[v0, v1] := by cases args; simp_all
  obtain ⟨rfl, rfl⟩ := trodVars_none hV
  have lt0 : ∀ x ∈ p0, x.block < W.heap.size := by obtain ⟨m, hm⟩ := h0; exact DataW.trod_lt m _ _ _ hm
  have lt1 : ∀ x ∈ p1, x.block < W.heap.size := by obtain ⟨m, hm⟩ := h1; exact DataW.trod_lt m _ _ _ hm
  have hwt : (DataW.weightsEach Try.prog [24, 28] ([d0, d1] ++ [])).all (· ≤ reachBytes) = true := hwt0
  have hall : (∀ y, y ∈ DataW.weights Try.prog 24 d0 → y ≤ 140737488351232) ∧ (∀ y, y ∈ DataW.weights Try.prog 28 d1 → y ≤ 140737488351232) := by
    simp only [List.append_nil, DataW.weightsEach, List.all_append, Bool.and_eq_true, List.all_eq_true, decide_eq_true_eq] at hwt
    exact ⟨fun y hy => hwt.1 y hy, fun y hy => hwt.2 y hy⟩
  obtain ⟨m0, hm0⟩ := id h0
  obtain ⟨co, ro, vc, l, rfl, bc, br, hc, hn, h2⟩ := open_grid (R := 140737488351232) (hval 0 24 v0 rfl rfl) hm0 hall.1
  have hnl := nil_grid hm0
  obtain ⟨m1, hm1⟩ := id h1
  obtain ⟨row, col, to, k, s, vl, a, rfl, ib, ha, na, a2⟩ := open_ask (R := 140737488351232) (hval 1 28 v1 rfl rfl) hm1 hall.2
  clear hA0 hval0
  refine (fresh_any co ro vc l row col to k s vl a W hc ha hnl hn).mono fun e W' ⟨he, bel⟩ => ?_
  subst he
  exact ⟨_, rfl, _, _, _, [], _, [], hW', trodAll_mk1 (shut_bool Try.underlying4 _), (trodAll_cons_mk (Below.trod laidOut (by kernel_rfl) (of_decide_eq_true (by kernel_rfl)) h0 bel lt0) (trodAll_cons_mk (Below.trod laidOut (by kernel_rfl) (of_decide_eq_true (by kernel_rfl)) h1 bel lt1) trodAll_mk0)), rfl, bel.frame _, fun h => by cases h⟩

theorem over : Rows.gridFreshRow.holds Try.pinned (OpenSpec.ofChange Rows.gridFreshSpec) :=
  OpenClaim.holds_of_wide 6 Try.f6 rfl rfl rfl rfl rfl rfl rfl ⟨rfl, rfl, rfl, rfl, rfl⟩ rfl rfl rfl rfl rfl (by kernel_rfl) Try.func6 (by kernel_rfl)
    (of_decide_eq_true (by kernel_rfl)) (by unfold Func.isWrapper; first | (rw [if_pos (by decide +kernel)]; kernel_rfl) | (rw [if_neg (by decide +kernel)]; exact ⟨rfl, rfl⟩))
    (fun os started H enc _ => lifted os started H enc)
end Go.Proofs.Ytnbonlkmadmpcaa.gridFresh
namespace Go.Proofs.Ytnbonlkmadmpcaa
theorem gridFresh_holds : Rows.GridFreshSaid := gridFresh.over
#print axioms gridFresh_holds
end Go.Proofs.Ytnbonlkmadmpcaa
