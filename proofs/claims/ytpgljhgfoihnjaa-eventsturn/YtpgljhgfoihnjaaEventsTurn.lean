/- What events.Diff, Apply, Since, May and Begins answer for all events, any bytes and any number is what the reference reckons by the words of the document, and its error; and the answers that the document fixes come out so: with no condition. -/
import Derived.Test.YtpgljhgfoihnjaaRows
import Derived.Test.YtpgljhgfoihnjaaPo
import Derived.Test.YtpgljhgfoihnjaaPi
import Derived.Test.YtpgljhgfoihnjaaQf
namespace Go.Proofs.Ytpgljhgfoihnjaa.eventsTurn
open Go.ChangeShapes Go.WideShapes Go.ChangeAt Go.RowKit
set_option linter.unusedVariables false
set_option linter.unusedSimpArgs false

set_option maxRecDepth 100000 in
theorem lifted (os : Os) (started : os.Started) (H : Type) (enc : TypeId × Value → H) :
    ReturnsInHanded {} Try.checked os 3 .any (Rows.eventsTurnSpec.pre6 enc Try.prog Try.f3 Rows.eventsTurnRow.domain false) (Rows.eventsTurnSpec.post enc Try.prog Try.f3 false true false false) := by
  refine returnsInHanded_of_change_shaped (C := Try.checked) own started (by kernel_rfl) Try.func3
    (ChangeSpec.witness6 (enc := enc) (C := Try.checked) false ⟨#[], #[.slice none 0 0, .slice none 0 0, .agg #[.slice none 0 0, .int .i64 0]], []⟩ 8 (by kernel_rfl) (by kernel_rfl) (by kernel_rfl) (by kernel_rfl)) ?_
  intro W base args ds gs before hval0 hW _ hwt0 _ _
  have hval : ∀ (j : Nat) t v, Try.f3.params[j]? = some t → args[j]? = some v → Value.okWide Try.prog W .any base t v := hval0
  have hW' := hW
  obtain ⟨p, q, hA0, hV, rfl, hfz, hnd⟩ := hW
  have hA : DataW.TrodAll enc Try.prog W 0 (fun _ => true) true Try.f3.params.toList args.toList ds p := hA0
  rw [Try.params3] at hA hval
  obtain ⟨v0, vs0, d0, ds0, p0, q0, hargs, rfl, rfl, h0, r0⟩ := trodAll_cons hA
  obtain ⟨v1, vs1, d1, ds1, p1, q1, rfl, rfl, rfl, h1, r1⟩ := trodAll_cons r0
  obtain ⟨v2, vs2, d2, ds2, p2, q2, rfl, rfl, rfl, h2, r2⟩ := trodAll_cons r1
  obtain ⟨rfl, rfl, rfl⟩ := trodAll_nil r2
  obtain rfl : args = #[v0, v1, v2] := by cases args; simp_all
  obtain ⟨rfl, rfl⟩ := trodVars_none hV
  have lt0 : ∀ x ∈ p0, x.block < W.heap.size := by obtain ⟨m, hm⟩ := h0; exact DataW.trod_lt m _ _ _ hm
  have lt1 : ∀ x ∈ p1, x.block < W.heap.size := by obtain ⟨m, hm⟩ := h1; exact DataW.trod_lt m _ _ _ hm
  have lt2 : ∀ x ∈ p2, x.block < W.heap.size := by obtain ⟨m, hm⟩ := h2; exact DataW.trod_lt m _ _ _ hm
  have hwt : (DataW.weightsEach Try.prog [22, 22, 25] ([d0, d1, d2] ++ [])).all (· ≤ reachBytes) = true := hwt0
  have hall : (∀ y, y ∈ DataW.weights Try.prog 22 d0 → y ≤ 140737488351232) ∧ (∀ y, y ∈ DataW.weights Try.prog 22 d1 → y ≤ 140737488351232) ∧ (∀ y, y ∈ DataW.weights Try.prog 25 d2 → y ≤ 140737488351232) := by
    simp only [List.append_nil, DataW.weightsEach, List.all_append, Bool.and_eq_true, List.all_eq_true, decide_eq_true_eq] at hwt
    exact ⟨fun y hy => hwt.1 y hy, fun y hy => hwt.2.1 y hy, fun y hy => hwt.2.2 y hy⟩
  obtain ⟨m0, hm0⟩ := id h0
  obtain ⟨l1, hl1, hn1, _⟩ := open_evargB (hval 0 22 v0 rfl rfl) hm0 hall.1
  obtain ⟨m1, hm1⟩ := id h1
  obtain ⟨l2, hl2, hn2, _⟩ := open_evargB (hval 1 22 v1 rfl rfl) hm1 hall.2.1
  obtain ⟨m2, hm2⟩ := id h2
  obtain ⟨vd, d, n, rfl, hd, hdn⟩ := open_dn (hval 2 25 v2 rfl rfl) hm2 hall.2.2
  clear hA0 hval0
  refine (turn_walk diff_C apply_C since_C may_C begins_C (anch21 diff_C apply_C) W v0 v1 vd l1 l2 d n (by omega) (by omega) hdn hl1 hl2 hd).mono fun e W' ⟨he, bel⟩ => ?_
  subst he
  exact ⟨_, rfl, _, _, _, [], _, [], hW', trodAll_mk1 (shut_bool Try.underlying4 _), (trodAll_cons_mk (Below.trod laidOut (by kernel_rfl) (of_decide_eq_true (by kernel_rfl)) h0 bel lt0) (trodAll_cons_mk (Below.trod laidOut (by kernel_rfl) (of_decide_eq_true (by kernel_rfl)) h1 bel lt1) (trodAll_cons_mk (Below.trod laidOut (by kernel_rfl) (of_decide_eq_true (by kernel_rfl)) h2 bel lt2) trodAll_mk0))), rfl, bel.frame _, fun h => by cases h⟩

theorem over : Rows.eventsTurnRow.holds Try.pinned (OpenSpec.ofChange Rows.eventsTurnSpec) :=
  OpenClaim.holds_of_wide 3 Try.f3 rfl rfl rfl rfl rfl rfl rfl ⟨rfl, rfl, rfl, rfl, rfl⟩ rfl rfl rfl rfl rfl (by kernel_rfl) Try.func3 (by kernel_rfl)
    (of_decide_eq_true (by kernel_rfl)) (by unfold Func.isWrapper; first | (rw [if_pos (by decide +kernel)]; kernel_rfl) | (rw [if_neg (by decide +kernel)]; exact ⟨rfl, rfl⟩))
    (fun os started H enc _ => lifted os started H enc)
end Go.Proofs.Ytpgljhgfoihnjaa.eventsTurn
namespace Go.Proofs.Ytpgljhgfoihnjaa
theorem eventsTurn_holds : Rows.EventsTurnSaid := eventsTurn.over
#print axioms eventsTurn_holds
end Go.Proofs.Ytpgljhgfoihnjaa
