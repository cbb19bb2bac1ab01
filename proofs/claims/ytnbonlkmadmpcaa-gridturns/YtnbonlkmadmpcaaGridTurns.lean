/- For every grid, every asking and every other grid: what New, Write, Erase, Shift, Scroll and Resize answer is what the reference answers, or its error; May and Same say what the reference's say; and the trial of a small grid comes out; with no condition. -/
import Derived.Test.YtnbonlkmadmpcaaRows
import Derived.Test.YtnbonlkmadmpcaaWi
namespace Go.Proofs.Ytnbonlkmadmpcaa.gridTurns
open Go.ChangeShapes Go.WideShapes Go.ChangeAt Go.RowKit
set_option linter.unusedVariables false
set_option linter.unusedSimpArgs false
set_option maxRecDepth 100000 in
theorem lifted (os : Os) (started : os.Started) (H : Type) (enc : TypeId × Value → H) :
  ReturnsInHanded {} Try.checked os 3 .any (Rows.gridTurnsSpec.pre6 enc Try.prog Try.f3 Rows.gridTurnsRow.domain false) (Rows.gridTurnsSpec.post enc Try.prog Try.f3 false true false false) := by
 refine returnsInHanded_of_change_shaped (C := Try.checked) own started (by kernel_rfl) Try.func3
  (ChangeSpec.witness6 (enc := enc) (C := Try.checked) false ⟨#[], #[.agg #[.int .i64 0, .int .i64 0, .slice none 0 0], .agg #[.int .i64 0, .int .i64 0, .int .i64 0, .int .i64 0, .int .i64 0, .int .i64 0, .bool false, .bool false, .bool false, .bool false, .bool false, .bool false, .bool false, .bool false, .slice none 0 0], .agg #[.int .i64 0, .int .i64 0, .slice none 0 0]], []⟩ 8 (by kernel_rfl) (by kernel_rfl) (by kernel_rfl) (by kernel_rfl)) ?_
 intro W base args ds gs before hval0 hW _ hwt0 _ _
 have hval : ∀ (j : Nat) t v, Try.f3.params[j]? = some t → args[j]? = some v → Value.okWide Try.prog W .any base t v := hval0
 have hW' := hW
 obtain ⟨p, q, hA0, hV, rfl, hfz, hnd⟩ := hW
 have hA : DataW.TrodAll enc Try.prog W 0 (fun _ => true) true Try.f3.params.toList args.toList ds p := hA0
 rw [Try.params3] at hA hval
 obtain ⟨v0, vs0, d0, ds0, p0, q0, hargs, rfl, rfl, h0, r0⟩ := trodAll_cons hA
 obtain ⟨v1, vs1, d1, ds1, p1, q1, rfl, rfl, rfl, h1, r1⟩ := trodAll_cons r0
 obtain ⟨v2, vs2, d2, ds2, p2, q2, rfl, rfl, rfl, h2, r2⟩ := trodAll_cons r1
 obtain ⟨rfl, rfl, rfl⟩ := trodAll_nil r2
 obtain rfl : args = #[v0, v1, v2] := by cases args; simp_all
 obtain ⟨rfl, rfl⟩ := trodVars_none hV
 have lt0 : ∀ x ∈ p0, x.block < W.heap.size := by obtain ⟨m, hm⟩ := h0; exact DataW.trod_lt m _ _ _ hm
 have lt1 : ∀ x ∈ p1, x.block < W.heap.size := by obtain ⟨m, hm⟩ := h1; exact DataW.trod_lt m _ _ _ hm
 have lt2 : ∀ x ∈ p2, x.block < W.heap.size := by obtain ⟨m, hm⟩ := h2; exact DataW.trod_lt m _ _ _ hm
 have hwt : (DataW.weightsEach Try.prog [24, 28, 24] ([d0, d1, d2] ++ [])).all (· ≤ reachBytes) = true := hwt0
 have hall : (∀ y, y ∈ DataW.weights Try.prog 24 d0 → y ≤ 140737488351232) ∧ (∀ y, y ∈ DataW.weights Try.prog 28 d1 → y ≤ 140737488351232) ∧ (∀ y, y ∈ DataW.weights Try.prog 24 d2 → y ≤ 140737488351232) := by
  simp only [List.append_nil, DataW.weightsEach, List.all_append, Bool.and_eq_true, List.all_eq_true, decide_eq_true_eq] at hwt
  exact ⟨fun y hy => hwt.1 y hy, fun y hy => hwt.2.1 y hy, fun y hy => hwt.2.2 y hy⟩
 obtain ⟨m0, hm0⟩ := id h0
 obtain ⟨cog, rog, vcg, lg, rfl, bcg, brg, hcg, hng, h2g⟩ := open_grid (R := 140737488351232) (hval 0 24 v0 rfl rfl) hm0 hall.1
 obtain ⟨m1, hm1⟩ := id h1
 obtain ⟨row, col, to, k, s, vl, a, rfl, ib, ha, na, a2⟩ := open_ask (R := 140737488351232) (hval 1 28 v1 rfl rfl) hm1 hall.2.1
 obtain ⟨m2, hm2⟩ := id h2
 obtain ⟨coo, roo, vco, lo, rfl, bco, bro, hco, hno, h2o⟩ := open_grid (R := 140737488351232) (hval 2 24 v2 rfl rfl) hm2 hall.2.2
 clear hA0 hval0
 refine (turns_any cog rog vcg lg row col to k s vl a coo roo vco lo W hcg ha hco hng na).mono fun e W' ⟨he, bel⟩ => ?_
 subst he
 exact ⟨_, rfl, _, _, _, [], _, [], hW', trodAll_mk1 (shut_bool Try.underlying4 _), (trodAll_cons_mk (Below.trod laidOut (by kernel_rfl) (of_decide_eq_true (by kernel_rfl)) h0 bel lt0) (trodAll_cons_mk (Below.trod laidOut (by kernel_rfl) (of_decide_eq_true (by kernel_rfl)) h1 bel lt1) (trodAll_cons_mk (Below.trod laidOut (by kernel_rfl) (of_decide_eq_true (by kernel_rfl)) h2 bel lt2) trodAll_mk0))), rfl, bel.frame _, fun h => by cases h⟩
theorem over : Rows.gridTurnsRow.holds Try.pinned (OpenSpec.ofChange Rows.gridTurnsSpec) :=
 OpenClaim.holds_of_wide 3 Try.f3 rfl rfl rfl rfl rfl rfl rfl ⟨rfl, rfl, rfl, rfl, rfl⟩ rfl rfl rfl rfl rfl (by kernel_rfl) Try.func3 (by kernel_rfl)
  (of_decide_eq_true (by kernel_rfl)) (by unfold Func.isWrapper; first | (rw [if_pos (by decide +kernel)]; kernel_rfl) | (rw [if_neg (by decide +kernel)]; exact ⟨rfl, rfl⟩))
  (fun os started H enc _ => lifted os started H enc)
end Go.Proofs.Ytnbonlkmadmpcaa.gridTurns
namespace Go.Proofs.Ytnbonlkmadmpcaa
theorem gridTurns_holds : Rows.GridTurnsSaid := gridTurns.over
#print axioms gridTurns_holds
end Go.Proofs.Ytnbonlkmadmpcaa
