/- bits.Read and bits.Reverse answer, for all bytes, every place and size and all bits, what the reference reckons by the words of the document, errors too; and one row of bits that the document fixes is written and read so: for every input, with no condition. -/
import Derived.Test.YtkdhoneecaplbaaRows
import Derived.Test.YtkdhoneecaplbaaP
namespace Go.Proofs.Ytkdhoneecaplbaa.bitsReads
open Go.ChangeShapes Go.WideShapes Go.ChangeAt Go.RowKit
set_option linter.unusedVariables false

set_option maxRecDepth 100000 in
theorem lifted (os : Os) (started : os.Started) (H : Type) (enc : TypeId × Value → H) :
    ReturnsInHanded {} Try.checked os 4 .any (Rows.bitsReadsSpec.pre6 enc Try.prog Try.f4 Rows.bitsReadsRow.domain false) (Rows.bitsReadsSpec.post enc Try.prog Try.f4 false true false false) := by
  refine returnsInHanded_of_change_shaped (C := Try.checked) own started (by kernel_rfl) Try.func4
    (ChangeSpec.witness6 (enc := enc) (C := Try.checked) false ⟨#[], #[.slice none 0 0, .agg #[.int .i64 0, .int .i64 0], .agg #[.int .u64 0, .int .i64 0]], []⟩ 8 (by kernel_rfl) (by kernel_rfl) (by kernel_rfl) (by kernel_rfl)) ?_
  intro W base args ds gs before hval0 hW _ hwt0 _ _
  have hval : ∀ (j : Nat) t v, Try.f4.params[j]? = some t → args[j]? = some v → Value.okWide Try.prog W .any base t v := hval0
  have hW' := hW
  obtain ⟨p, q, hA0, hV, rfl, hfz, hnd⟩ := hW
  have hA : DataW.TrodAll enc Try.prog W 0 (fun _ => true) true Try.f4.params.toList args.toList ds p := hA0
  rw [Try.params4] at hA hval
  obtain ⟨v0, vs0, d0, ds0, p0, q0, hargs, rfl, rfl, h0, r0⟩ := trodAll_cons hA
  obtain ⟨v1, vs1, d1, ds1, p1, q1, rfl, rfl, rfl, h1, r1⟩ := trodAll_cons r0
  obtain ⟨v2, vs2, d2, ds2, p2, q2, rfl, rfl, rfl, h2, r2⟩ := trodAll_cons r1
  obtain ⟨rfl, rfl, rfl⟩ := trodAll_nil r2
  obtain rfl : args = #[v0, v1, v2] := by cases args; simp_all
  obtain ⟨rfl, rfl⟩ := trodVars_none hV
  have lt0 : ∀ x ∈ p0, x.block < W.heap.size := by obtain ⟨m, hm⟩ := h0; exact DataW.trod_lt m _ _ _ hm
  have lt1 : ∀ x ∈ p1, x.block < W.heap.size := by obtain ⟨m, hm⟩ := h1; exact DataW.trod_lt m _ _ _ hm
  have lt2 : ∀ x ∈ p2, x.block < W.heap.size := by obtain ⟨m, hm⟩ := h2; exact DataW.trod_lt m _ _ _ hm
  have hwt : (DataW.weightsEach Try.prog [23, 36, 39] ([d0, d1, d2] ++ [])).all (· ≤ reachBytes) = true := hwt0
  have hall : ∀ y, y ∈ DataW.weights Try.prog 23 d0 → y ≤ 140737488351232 := by
    intro y hy
    simp only [List.append_nil, DataW.weightsEach, List.all_eq_true, List.mem_append, decide_eq_true_eq] at hwt
    exact hwt y (.inl hy)
  obtain ⟨l, hl, _⟩ : ∃ l, Bts (· < W.heap.size) W v0 l ∧ l.length ≤ maxLen := by
    obtain ⟨m, hm⟩ := h0
    have hok := hval 0 23 v0 rfl rfl
    unfold Value.okWide at hok
    rw [Try.underlying23] at hok
    have hc1 : v0.cells.toList = [v0] := by
      unfold Cell.okWide at hok
      rw [Try.underlying23] at hok
      cases v0 <;> first | rfl | (simp only [Cell.ok, Try.underlying23] at hok)
    exact open_bytes hok (hc1 ▸ hm)
  have hn : l.length ≤ 140737488351232 := by
    obtain ⟨as0, cs0, rfl, _⟩ := hl
    obtain ⟨m, hm⟩ := h0
    exact weight_bytes hm hall
  obtain ⟨pa, pb, rfl, hpa⟩ : ∃ p q : Int, v1 = .agg #[.int .i64 p, .int .i64 q] ∧ p ≤ 9223372036854775807 := by
    obtain ⟨m, hm⟩ := h1
    exact open_pair (hval 1 36 v1 rfl rfl) hm
  obtain ⟨xv, xs, rfl, hx⟩ : ∃ (xv : Nat) (xs : Int), v2 = .agg (bts2 xv xs) ∧ xv < 18446744073709551616 := by
    obtain ⟨m, hm⟩ := h2
    exact open_two (hval 2 39 v2 rfl rfl) hm
  clear hA0 hval0
  refine (reads_any v0 l pa pb xv xs (by omega) hpa hx W hl).mono fun e W' ⟨he, bel⟩ => ?_
  subst he
  exact ⟨_, rfl, _, _, _, [], _, [], hW', trodAll_mk1 (shut_bool Try.underlying4 _), (trodAll_cons_mk (Below.trod laidOut (by kernel_rfl) (of_decide_eq_true (by kernel_rfl)) h0 bel lt0) (trodAll_cons_mk (Below.trod laidOut (by kernel_rfl) (of_decide_eq_true (by kernel_rfl)) h1 bel lt1) (trodAll_cons_mk (Below.trod laidOut (by kernel_rfl) (of_decide_eq_true (by kernel_rfl)) h2 bel lt2) trodAll_mk0))), rfl, bel.frame _, fun h => by cases h⟩

theorem over : Rows.bitsReadsRow.holds Try.pinned (OpenSpec.ofChange Rows.bitsReadsSpec) :=
  OpenClaim.holds_of_wide 4 Try.f4 rfl rfl rfl rfl rfl rfl rfl ⟨rfl, rfl, rfl, rfl, rfl⟩ rfl rfl rfl rfl rfl (by kernel_rfl) Try.func4 (by kernel_rfl)
    (of_decide_eq_true (by kernel_rfl)) (by unfold Func.isWrapper; first | (rw [if_pos (by decide +kernel)]; kernel_rfl) | (rw [if_neg (by decide +kernel)]; exact ⟨rfl, rfl⟩))
    (fun os started H enc _ => lifted os started H enc)
end Go.Proofs.Ytkdhoneecaplbaa.bitsReads
namespace Go.Proofs.Ytkdhoneecaplbaa
theorem bitsReads_holds : Rows.BitsReadsSaid := bitsReads.over
#print axioms bitsReads_holds
end Go.Proofs.Ytkdhoneecaplbaa
