/- What events.Apply and events.Since answer is new memory: what is written into it, its bytes and its events, leaves what was handed in as it was, and Apply answers the same again; for all events, any bytes and any number, with no condition. -/
import Derived.Test.YtpgljhgfoihnjaaRows
import Derived.Test.YtpgljhgfoihnjaaPo
import Derived.Test.YtpgljhgfoihnjaaPi
import Derived.Test.YtpgljhgfoihnjaaPm
import Derived.Test.YtpgljhgfoihnjaaQf
namespace Go.Proofs.Ytpgljhgfoihnjaa.eventsFresh
open Go.ChangeShapes Go.WideShapes Go.ChangeAt Go.RowKit
set_option linter.unusedVariables false
set_option linter.unusedSimpArgs false

set_option maxRecDepth 100000 in
theorem lifted (os : Os) (started : os.Started) (H : Type) (enc : TypeId × Value → H) :
    ReturnsInHanded {} Try.checked os 5 .any (Rows.eventsFreshSpec.pre6 enc Try.prog Try.f5 Rows.eventsFreshRow.domain false) (Rows.eventsFreshSpec.post enc Try.prog Try.f5 false true false false) := by
  refine returnsInHanded_of_change_shaped (C := Try.checked) own started (by kernel_rfl) Try.func5
    (ChangeSpec.witness6 (enc := enc) (C := Try.checked) false ⟨#[], #[.slice none 0 0, .agg #[.slice none 0 0, .int .i64 0]], []⟩ 8 (by kernel_rfl) (by kernel_rfl) (by kernel_rfl) (by kernel_rfl)) ?_
  intro W base args ds gs before hval0 hW _ hwt0 _ _
  have hval : ∀ (j : Nat) t v, Try.f5.params[j]? = some t → args[j]? = some v → Value.okWide Try.prog W .any base t v := hval0
  have hW' := hW
  obtain ⟨p, q, hA0, hV, rfl, hfz, hnd⟩ := hW
  have hA : DataW.TrodAll enc Try.prog W 0 (fun _ => true) true Try.f5.params.toList args.toList ds p := hA0
  rw [Try.params5] at hA hval
  obtain ⟨v0, vs0, d0, ds0, p0, q0, hargs, rfl, rfl, h0, r0⟩ := trodAll_cons hA
  obtain ⟨v1, vs1, d1, ds1, p1, q1, rfl, rfl, rfl, h1, r1⟩ := trodAll_cons r0
  obtain ⟨rfl, rfl, rfl⟩ := trodAll_nil r1
  obtain rfl : args = #[v0, v1] := by cases args; simp_all
  obtain ⟨rfl, rfl⟩ := trodVars_none hV
  have lt0 : ∀ x ∈ p0, x.block < W.heap.size := by obtain ⟨m, hm⟩ := h0; exact DataW.trod_lt m _ _ _ hm
  have lt1 : ∀ x ∈ p1, x.block < W.heap.size := by obtain ⟨m, hm⟩ := h1; exact DataW.trod_lt m _ _ _ hm
  have hwt : (DataW.weightsEach Try.prog [22, 25] ([d0, d1] ++ [])).all (· ≤ reachBytes) = true := hwt0
  have hall : (∀ y, y ∈ DataW.weights Try.prog 22 d0 → y ≤ 140737488351232) ∧ (∀ y, y ∈ DataW.weights Try.prog 25 d1 → y ≤ 140737488351232) := by
    simp only [List.append_nil, DataW.weightsEach, List.all_append, Bool.and_eq_true, List.all_eq_true, decide_eq_true_eq] at hwt
    exact ⟨fun y hy => hwt.1 y hy, fun y hy => hwt.2 y hy⟩
  obtain ⟨m0, hm0⟩ := id h0
  obtain ⟨l1, hl1, hn1, hb1⟩ := open_evargB (hval 0 22 v0 rfl rfl) hm0 hall.1
  obtain ⟨m1, hm1⟩ := id h1
  obtain ⟨vd, d, n, rfl, hd, hdn⟩ := open_dn (hval 1 25 v1 rfl rfl) hm1 hall.2
  clear hA0 hval0
  refine (fresh_walk apply_C since_C (anch21 diff_C apply_C) W v0 vd l1 d n hn1 hb1 hdn hl1 hd).mono fun e W' ⟨he, bel⟩ => ?_
  subst he
  exact ⟨_, rfl, _, _, _, [], _, [], hW', trodAll_mk1 (shut_bool Try.underlying4 _), (trodAll_cons_mk (Below.trod laidOut (by kernel_rfl) (of_decide_eq_true (by kernel_rfl)) h0 bel lt0) (trodAll_cons_mk (Below.trod laidOut (by kernel_rfl) (of_decide_eq_true (by kernel_rfl)) h1 bel lt1) trodAll_mk0)), rfl, bel.frame _, fun h => by cases h⟩

theorem over : Rows.eventsFreshRow.holds Try.pinned (OpenSpec.ofChange Rows.eventsFreshSpec) :=
  OpenClaim.holds_of_wide 5 Try.f5 rfl rfl rfl rfl rfl rfl rfl ⟨rfl, rfl, rfl, rfl, rfl⟩ rfl rfl rfl rfl rfl (by kernel_rfl) Try.func5 (by kernel_rfl)
    (of_decide_eq_true (by kernel_rfl)) (by unfold Func.isWrapper; first | (rw [if_pos (by decide +kernel)]; kernel_rfl) | (rw [if_neg (by decide +kernel)]; exact ⟨rfl, rfl⟩))
    (fun os started H enc _ => lifted os started H enc)
end Go.Proofs.Ytpgljhgfoihnjaa.eventsFresh
namespace Go.Proofs.Ytpgljhgfoihnjaa
theorem eventsFresh_holds : Rows.EventsFreshSaid := eventsFresh.over
#print axioms eventsFresh_holds
end Go.Proofs.Ytpgljhgfoihnjaa
