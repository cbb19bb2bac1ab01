/- The parts of bytes, taken in whatever order, some of them more than once, come to the bytes, once, with the last of them that is new, and a joiner holds no more than the limits say; bytes that are too many are refused: for all bytes, every size and every order, with no condition. -/
import Derived.Test.YthmcmdojnnbefaaRows
import Derived.Test.YthmcmdojnnbefaaTc
namespace Go.Proofs.Ythmcmdojnnbefaa.fragmentBack
open Go.ChangeShapes Go.WideShapes Go.ChangeAt Go.RowKit
set_option linter.unusedVariables false
set_option linter.unusedSimpArgs false

set_option maxRecDepth 100000 in
theorem lifted (os : Os) (started : os.Started) (H : Type) (enc : TypeId × Value → H) :
    ReturnsInHanded {} Try.checked os 6 .any (Rows.fragmentBackSpec.pre6 enc Try.prog Try.f6 Rows.fragmentBackRow.domain false) (Rows.fragmentBackSpec.post enc Try.prog Try.f6 false true false false) := by
  refine returnsInHanded_of_change_shaped (C := Try.checked) own started (by kernel_rfl) Try.func6
    (ChangeSpec.witness6 (enc := enc) (C := Try.checked) false ⟨#[], #[.slice none 0 0, .int .u16 0, .slice none 0 0], []⟩ 8 (by kernel_rfl) (by kernel_rfl) (by kernel_rfl) (by kernel_rfl)) ?_
  intro W base args ds gs before hval0 hW _ hwt0 _ _
  have hval : ∀ (j : Nat) t v, Try.f6.params[j]? = some t → args[j]? = some v → Value.okWide Try.prog W .any base t v := hval0
  have hW' := hW
  obtain ⟨p, q, hA0, hV, rfl, hfz, hnd⟩ := hW
  have hA : DataW.TrodAll enc Try.prog W 0 (fun _ => true) true Try.f6.params.toList args.toList ds p := hA0
  rw [Try.params6] at hA hval
  obtain ⟨v0, vs0, d0, ds0, p0, q0, hargs, rfl, rfl, h0, r0⟩ := trodAll_cons hA
  obtain ⟨v1, vs1, d1, ds1, p1, q1, rfl, rfl, rfl, h1, r1⟩ := trodAll_cons r0
  obtain ⟨v2, vs2, d2, ds2, p2, q2, rfl, rfl, rfl, h2, r2⟩ := trodAll_cons r1
  obtain ⟨rfl, rfl, rfl⟩ := trodAll_nil r2
  obtain rfl : args = #[v0, v1, v2] := by cases args; simp_all
  obtain ⟨rfl, rfl⟩ := trodVars_none hV
  have lt0 : ∀ x ∈ p0, x.block < W.heap.size := by obtain ⟨m, hm⟩ := h0; exact DataW.trod_lt m _ _ _ hm
  have lt1 : ∀ x ∈ p1, x.block < W.heap.size := by obtain ⟨m, hm⟩ := h1; exact DataW.trod_lt m _ _ _ hm
  have lt2 : ∀ x ∈ p2, x.block < W.heap.size := by obtain ⟨m, hm⟩ := h2; exact DataW.trod_lt m _ _ _ hm
  have hwt : (DataW.weightsEach Try.prog [23, 57, 23] ([d0, d1, d2] ++ [])).all (· ≤ reachBytes) = true := hwt0
  have hall : (∀ y, y ∈ DataW.weights Try.prog 23 d0 → y ≤ 140737488351232) ∧ (∀ y, y ∈ DataW.weights Try.prog 57 d1 → y ≤ 140737488351232) ∧ (∀ y, y ∈ DataW.weights Try.prog 23 d2 → y ≤ 140737488351232) := by
    simp only [List.append_nil, DataW.weightsEach, List.all_append, Bool.and_eq_true, List.all_eq_true, decide_eq_true_eq] at hwt
    exact ⟨fun y hy => hwt.1 y hy, fun y hy => hwt.2.1 y hy, fun y hy => hwt.2.2 y hy⟩
  obtain ⟨b, hb, hbn⟩ : ∃ b, InB W.heap.size W v0 b ∧ b.length ≤ 140737488351232 := by
    obtain ⟨m, hm⟩ := h0
    exact open_arg (hval 0 23 v0 rfl rfl) hm hall.1
  obtain ⟨sz, rfl, hsz⟩ : ∃ n : Nat, v1 = .int .u16 (n : Int) ∧ n < 65536 := by
    obtain ⟨m, hm⟩ := h1
    exact open_u16 (hval 1 57 v1 rfl rfl) hm
  obtain ⟨od, hod, hodn⟩ : ∃ b, InB W.heap.size W v2 b ∧ b.length ≤ 140737488351232 := by
    obtain ⟨m, hm⟩ := h2
    exact open_arg (hval 2 23 v2 rfl rfl) hm hall.2.2
  clear hA0 hval0
  refine (back_any W v0 b hb hbn sz hsz v2 od hod hodn).mono fun e W' ⟨he, bel⟩ => ?_
  subst he
  exact ⟨_, rfl, _, _, _, [], _, [], hW', trodAll_mk1 (shut_bool Try.underlying4 _), (trodAll_cons_mk (Below.trod laidOut (by kernel_rfl) (of_decide_eq_true (by kernel_rfl)) h0 bel lt0) (trodAll_cons_mk (Below.trod laidOut (by kernel_rfl) (of_decide_eq_true (by kernel_rfl)) h1 bel lt1) (trodAll_cons_mk (Below.trod laidOut (by kernel_rfl) (of_decide_eq_true (by kernel_rfl)) h2 bel lt2) trodAll_mk0))), rfl, bel.frame _, fun h => by cases h⟩

theorem over : Rows.fragmentBackRow.holds Try.pinned (OpenSpec.ofChange Rows.fragmentBackSpec) :=
  OpenClaim.holds_of_wide 6 Try.f6 rfl rfl rfl rfl rfl rfl rfl ⟨rfl, rfl, rfl, rfl, rfl⟩ rfl rfl rfl rfl rfl (by kernel_rfl) Try.func6 (by kernel_rfl)
    (of_decide_eq_true (by kernel_rfl)) (by unfold Func.isWrapper; first | (rw [if_pos (by decide +kernel)]; kernel_rfl) | (rw [if_neg (by decide +kernel)]; exact ⟨rfl, rfl⟩))
    (fun os started H enc _ => lifted os started H enc)
end Go.Proofs.Ythmcmdojnnbefaa.fragmentBack
namespace Go.Proofs.Ythmcmdojnnbefaa
theorem fragmentBack_holds : Rows.FragmentBackSaid := fragmentBack.over
#print axioms fragmentBack_holds
end Go.Proofs.Ythmcmdojnnbefaa
