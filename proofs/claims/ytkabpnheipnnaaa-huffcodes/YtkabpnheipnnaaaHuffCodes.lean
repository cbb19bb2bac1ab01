/- huff.Codes, huff.Weight and huff.Symbol answer, for all lengths, bytes and places, what the reference reckons by the words of the document, errors too; and three codes that the document fixes are given and read so: for every input, with no condition. -/
import Derived.Test.YtkabpnheipnnaaaRows
import Derived.Test.YtkabpnheipnnaaaP
import Derived.Test.YtkabpnheipnnaaaG
namespace Go.Proofs.Ytkabpnheipnnaaa.huffCodes
open Go.ChangeShapes Go.WideShapes Go.ChangeAt Go.RowKit
set_option linter.unusedVariables false

set_option maxRecDepth 100000 in
theorem lifted (os : Os) (started : os.Started) (H : Type) (enc : TypeId × Value → H) :
    ReturnsInHanded {} Try.checked os 3 .any (Rows.huffCodesSpec.pre6 enc Try.prog Try.f3 Rows.huffCodesRow.domain false) (Rows.huffCodesSpec.post enc Try.prog Try.f3 false true false false) := by
  refine returnsInHanded_of_change_shaped (C := Try.checked) own started (by kernel_rfl) Try.func3
    (ChangeSpec.witness6 (enc := enc) (C := Try.checked) false ⟨#[], #[.slice none 0 0, .slice none 0 0, .int .i64 0], []⟩ 8 (by kernel_rfl) (by kernel_rfl) (by kernel_rfl) (by kernel_rfl)) ?_
  intro W base args ds gs before hval0 hW _ hwt0 _ _
  have hval : ∀ (j : Nat) t v, Try.f3.params[j]? = some t → args[j]? = some v → Value.okWide Try.prog W .any base t v := hval0
  have hW' := hW
  obtain ⟨p, q, hA0, hV, rfl, hfz, hnd⟩ := hW
  have hA : DataW.TrodAll enc Try.prog W 0 (fun _ => true) true Try.f3.params.toList args.toList ds p := hA0
  rw [Try.params3] at hA hval
  obtain ⟨v0, vs0, d0, ds0, p0, q0, hargs, rfl, rfl, h0, r0⟩ := trodAll_cons hA
  obtain ⟨v1, vs1, d1, ds1, p1, q1, rfl, rfl, rfl, h1, r1⟩ := trodAll_cons r0
  obtain ⟨v2, vs2, d2, ds2, p2, q2, rfl, rfl, rfl, h2, r2⟩ := trodAll_cons r1
  obtain ⟨rfl, rfl, rfl⟩ := trodAll_nil r2
  obtain rfl : args = #[v0, v1, v2] := by cases args; simp_all
  obtain ⟨rfl, rfl⟩ := trodVars_none hV
  have lt0 : ∀ x ∈ p0, x.block < W.heap.size := by obtain ⟨m, hm⟩ := h0; exact DataW.trod_lt m _ _ _ hm
  have lt1 : ∀ x ∈ p1, x.block < W.heap.size := by obtain ⟨m, hm⟩ := h1; exact DataW.trod_lt m _ _ _ hm
  have lt2 : ∀ x ∈ p2, x.block < W.heap.size := by obtain ⟨m, hm⟩ := h2; exact DataW.trod_lt m _ _ _ hm
  have hwt : (DataW.weightsEach Try.prog [22, 23, 3] ([d0, d1, d2] ++ [])).all (· ≤ reachBytes) = true := hwt0
  simp only [List.append_nil, DataW.weightsEach, List.all_eq_true, List.mem_append, decide_eq_true_eq] at hwt
  have hall0 : ∀ y, y ∈ DataW.weights Try.prog 22 d0 → y ≤ 140737488351232 := fun y hy => hwt y (.inl hy)
  have hall1 : ∀ y, y ∈ DataW.weights Try.prog 23 d1 → y ≤ 140737488351232 := fun y hy => hwt y (.inr (.inl hy))
  have one : ∀ {v : Value}, Value.okWide Try.prog W .any base 22 v → Cell.okWide Try.prog W .any base 22 v ∧ v.cells.toList = [v] := by
    intro v hok
    unfold Value.okWide at hok
    rw [Try.underlying22] at hok
    refine ⟨hok, ?_⟩
    unfold Cell.okWide at hok
    rw [Try.underlying22] at hok
    cases v <;> first | rfl | (simp only [Cell.ok, Try.underlying22] at hok)
  have oneb : ∀ {v : Value}, Value.okWide Try.prog W .any base 23 v → Cell.okWide Try.prog W .any base 23 v ∧ v.cells.toList = [v] := by
    intro v hok
    unfold Value.okWide at hok
    rw [Try.underlying23] at hok
    refine ⟨hok, ?_⟩
    unfold Cell.okWide at hok
    rw [Try.underlying23] at hok
    cases v <;> first | rfl | (simp only [Cell.ok, Try.underlying23] at hok)
  obtain ⟨l0, hl0, hn0⟩ : ∃ l, Ints W.heap.size W v0 l ∧ l.length ≤ 17592186044416 := by
    obtain ⟨m, hm⟩ := h0
    obtain ⟨hok, hc1⟩ := one (hval 0 22 v0 rfl rfl)
    exact open_nums hok (hc1 ▸ hm) hall0
  obtain ⟨l1, hl1, hn1⟩ : ∃ l, Bts (· < W.heap.size) W v1 l ∧ l.length ≤ 140737488355328 := by
    obtain ⟨m, hm⟩ := h1
    obtain ⟨hok, hc1⟩ := oneb (hval 1 23 v1 rfl rfl)
    obtain ⟨l, hl, _⟩ := open_bytes hok (hc1 ▸ hm)
    refine ⟨l, hl, ?_⟩
    obtain ⟨as0, cs0, rfl, _⟩ := hl
    exact Nat.le_trans (weight_bytes (hc1 ▸ hm) hall1) (by decide)
  obtain ⟨z2, rfl, hz2⟩ : ∃ z : Int, v2 = .int .i64 z ∧ z ≤ 9223372036854775807 := by
    obtain ⟨m, hm⟩ := h2
    exact open_num (hval 2 3 v2 rfl rfl) hm
  clear hA0 hval0
  refine (huffcodes_any v0 v1 l0 l1 z2 hn0 hn1 hz2 W hl0 hl1).mono fun e W' ⟨he, bel⟩ => ?_
  subst he
  exact ⟨_, rfl, _, _, _, [], _, [], hW', trodAll_mk1 (shut_bool Try.underlying4 _), (trodAll_cons_mk (Below.trod laidOut (by kernel_rfl) (of_decide_eq_true (by kernel_rfl)) h0 bel lt0) (trodAll_cons_mk (Below.trod laidOut (by kernel_rfl) (of_decide_eq_true (by kernel_rfl)) h1 bel lt1) (trodAll_cons_mk (Below.trod laidOut (by kernel_rfl) (of_decide_eq_true (by kernel_rfl)) h2 bel lt2) trodAll_mk0))), rfl, bel.frame _, fun h => by cases h⟩

theorem over : Rows.huffCodesRow.holds Try.pinned (OpenSpec.ofChange Rows.huffCodesSpec) :=
  OpenClaim.holds_of_wide 3 Try.f3 rfl rfl rfl rfl rfl rfl rfl ⟨rfl, rfl, rfl, rfl, rfl⟩ rfl rfl rfl rfl rfl (by kernel_rfl) Try.func3 (by kernel_rfl)
    (of_decide_eq_true (by kernel_rfl)) (by unfold Func.isWrapper; first | (rw [if_pos (by decide +kernel)]; kernel_rfl) | (rw [if_neg (by decide +kernel)]; exact ⟨rfl, rfl⟩))
    (fun os started H enc _ => lifted os started H enc)
end Go.Proofs.Ytkabpnheipnnaaa.huffCodes
namespace Go.Proofs.Ytkabpnheipnnaaa
theorem huffCodes_holds : Rows.HuffCodesSaid := huffCodes.over
#print axioms huffCodes_holds
end Go.Proofs.Ytkabpnheipnnaaa
