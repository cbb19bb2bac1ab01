/- huff.Lengths gives, for all counts and every greatest length, lengths that may be, none longer than asked, none for what does not come, whose cost is the least one as the reference reckons it, the same ones at each call, or the error of the document; and three codes that the document fixes are given and read so: for every input, with no condition. -/
import Derived.Test.YtcppfoolhkcfaaaRows
import Derived.Test.YtcppfoolhkcfaaaP
import Derived.Test.YtcppfoolhkcfaaaNc
namespace Go.Proofs.Ytcppfoolhkcfaaa.huffLengths
open Go.ChangeShapes Go.WideShapes Go.ChangeAt Go.RowKit
set_option linter.unusedVariables false

set_option maxRecDepth 100000 in
theorem lifted (os : Os) (started : os.Started) (H : Type) (enc : TypeId × Value → H) :
    ReturnsInHanded {} Try.checked os 4 .any (Rows.huffLengthsSpec.pre6 enc Try.prog Try.f4 Rows.huffLengthsRow.domain false) (Rows.huffLengthsSpec.post enc Try.prog Try.f4 false true false false) := by
  refine returnsInHanded_of_change_shaped (C := Try.checked) own started (by kernel_rfl) Try.func4
    (ChangeSpec.witness6 (enc := enc) (C := Try.checked) false ⟨#[], #[.slice none 0 0, .int .i64 0], []⟩ 8 (by kernel_rfl) (by kernel_rfl) (by kernel_rfl) (by kernel_rfl)) ?_
  intro W base args ds gs before hval0 hW _ hwt0 _ _
  have hval : ∀ (j : Nat) t v, Try.f4.params[j]? = some t → args[j]? = some v → Value.okWide Try.prog W .any base t v := hval0
  have hW' := hW
  obtain ⟨p, q, hA0, hV, rfl, hfz, hnd⟩ := hW
  have hA : DataW.TrodAll enc Try.prog W 0 (fun _ => true) true Try.f4.params.toList args.toList ds p := hA0
  rw [Try.params4] at hA hval
  obtain ⟨v0, vs0, d0, ds0, p0, q0, hargs, rfl, rfl, h0, r0⟩ := trodAll_cons hA
  obtain ⟨v1, vs1, d1, ds1, p1, q1, rfl, rfl, rfl, h1, r1⟩ := trodAll_cons r0
  obtain ⟨rfl, rfl, rfl⟩ := trodAll_nil r1
  obtain rfl : args = #[v0, v1] := by cases args; simp_all
  obtain ⟨rfl, rfl⟩ := trodVars_none hV
  have lt0 : ∀ x ∈ p0, x.block < W.heap.size := by obtain ⟨m, hm⟩ := h0; exact DataW.trod_lt m _ _ _ hm
  have lt1 : ∀ x ∈ p1, x.block < W.heap.size := by obtain ⟨m, hm⟩ := h1; exact DataW.trod_lt m _ _ _ hm
  have hwt : (DataW.weightsEach Try.prog [22, 3] ([d0, d1] ++ [])).all (· ≤ reachBytes) = true := hwt0
  simp only [List.append_nil, DataW.weightsEach, List.all_eq_true, List.mem_append, decide_eq_true_eq] at hwt
  have hall0 : ∀ y, y ∈ DataW.weights Try.prog 22 d0 → y ≤ 140737488351232 := fun y hy => hwt y (.inl hy)
  have one : ∀ {v : Value}, Value.okWide Try.prog W .any base 22 v → Cell.okWide Try.prog W .any base 22 v ∧ v.cells.toList = [v] := by
    intro v hok
    unfold Value.okWide at hok
    rw [Try.underlying22] at hok
    refine ⟨hok, ?_⟩
    unfold Cell.okWide at hok
    rw [Try.underlying22] at hok
    cases v <;> first | rfl | (simp only [Cell.ok, Try.underlying22] at hok)
  obtain ⟨l0, hl0, hn0⟩ : ∃ l, Ints W.heap.size W v0 l ∧ l.length ≤ 17592186044416 := by
    obtain ⟨m, hm⟩ := h0
    obtain ⟨hok, hc1⟩ := one (hval 0 22 v0 rfl rfl)
    exact open_nums hok (hc1 ▸ hm) hall0
  obtain ⟨z1, rfl, hz1⟩ : ∃ z : Int, v1 = .int .i64 z ∧ z ≤ 9223372036854775807 := by
    obtain ⟨m, hm⟩ := h1
    exact open_num (hval 1 3 v1 rfl rfl) hm
  clear hA0 hval0
  refine (huffLengths_any v0 l0 hn0 z1 W hl0).mono fun e W' ⟨he, bel⟩ => ?_
  subst he
  exact ⟨_, rfl, _, _, _, [], _, [], hW', trodAll_mk1 (shut_bool Try.underlying4 _), (trodAll_cons_mk (Below.trod laidOut (by kernel_rfl) (of_decide_eq_true (by kernel_rfl)) h0 bel lt0) (trodAll_cons_mk (Below.trod laidOut (by kernel_rfl) (of_decide_eq_true (by kernel_rfl)) h1 bel lt1) trodAll_mk0)), rfl, bel.frame _, fun h => by cases h⟩

theorem over : Rows.huffLengthsRow.holds Try.pinned (OpenSpec.ofChange Rows.huffLengthsSpec) :=
  OpenClaim.holds_of_wide 4 Try.f4 rfl rfl rfl rfl rfl rfl rfl ⟨rfl, rfl, rfl, rfl, rfl⟩ rfl rfl rfl rfl rfl (by kernel_rfl) Try.func4 (by kernel_rfl)
    (of_decide_eq_true (by kernel_rfl)) (by unfold Func.isWrapper; first | (rw [if_pos (by decide +kernel)]; kernel_rfl) | (rw [if_neg (by decide +kernel)]; exact ⟨rfl, rfl⟩))
    (fun os started H enc _ => lifted os started H enc)
end Go.Proofs.Ytcppfoolhkcfaaa.huffLengths
namespace Go.Proofs.Ytcppfoolhkcfaaa
theorem huffLengths_holds : Rows.HuffLengthsSaid := huffLengths.over
#print axioms huffLengths_holds
end Go.Proofs.Ytcppfoolhkcfaaa
