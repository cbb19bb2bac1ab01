/- inflate.Inflate answers, for all bytes and every bound, what the reference reads bit by bit by the words of the document, errors too; and three streams that the document fixes are inflated so: for every input, with no condition. -/
import Derived.Test.YtbnghmeeddjaoaaRows
import Derived.Test.YtbnghmeeddjaoaaHp
import Derived.Test.YtbnghmeeddjaoaaRg
namespace Go.Proofs.Ytbnghmeeddjaoaa.inflateReads
open Go.ChangeShapes Go.WideShapes Go.ChangeAt Go.RowKit
set_option linter.unusedVariables false

set_option maxRecDepth 100000 in
theorem lifted (os : Os) (started : os.Started) (H : Type) (enc : TypeId × Value → H) :
    ReturnsInHanded {} Try.checked os 3 .any (Rows.inflateReadsSpec.pre6 enc Try.prog Try.f3 Rows.inflateReadsRow.domain false) (Rows.inflateReadsSpec.post enc Try.prog Try.f3 false true false false) := by
  refine returnsInHanded_of_change_shaped (C := Try.checked) own started (by kernel_rfl) Try.func3
    (ChangeSpec.witness6 (enc := enc) (C := Try.checked) false ⟨#[], #[.slice none 0 0, .int .i64 0], []⟩ 8 (by kernel_rfl) (by kernel_rfl) (by kernel_rfl) (by kernel_rfl)) ?_
  intro W base args ds gs before hval0 hW _ hwt0 _ _
  have hval : ∀ (j : Nat) t v, Try.f3.params[j]? = some t → args[j]? = some v → Value.okWide Try.prog W .any base t v := hval0
  have hW' := hW
  obtain ⟨p, q, hA0, hV, rfl, hfz, hnd⟩ := hW
  have hA : DataW.TrodAll enc Try.prog W 0 (fun _ => true) true Try.f3.params.toList args.toList ds p := hA0
  rw [Try.params3] at hA hval
  obtain ⟨v0, vs0, d0, ds0, p0, q0, hargs, rfl, rfl, h0, r0⟩ := trodAll_cons hA
  obtain ⟨v1, vs1, d1, ds1, p1, q1, rfl, rfl, rfl, h1, r1⟩ := trodAll_cons r0
  obtain ⟨rfl, rfl, rfl⟩ := trodAll_nil r1
  obtain rfl : args = #[v0, v1] := by cases args; simp_all
  obtain ⟨rfl, rfl⟩ := trodVars_none hV
  have lt0 : ∀ x ∈ p0, x.block < W.heap.size := by obtain ⟨m, hm⟩ := h0; exact DataW.trod_lt m _ _ _ hm
  have lt1 : ∀ x ∈ p1, x.block < W.heap.size := by obtain ⟨m, hm⟩ := h1; exact DataW.trod_lt m _ _ _ hm
  have hwt : (DataW.weightsEach Try.prog [22, 3] ([d0, d1] ++ [])).all (· ≤ reachBytes) = true := hwt0
  have hall : ∀ y, y ∈ DataW.weights Try.prog 22 d0 → y ≤ 140737488351232 := by
    intro y hy
    simp only [List.append_nil, DataW.weightsEach, List.all_eq_true, List.mem_append, decide_eq_true_eq] at hwt
    exact hwt y (.inl hy)
  obtain ⟨l, hl, _⟩ : ∃ l, Bts (· < W.heap.size) W v0 l ∧ l.length ≤ maxLen := by
    obtain ⟨m, hm⟩ := h0
    have hok := hval 0 22 v0 rfl rfl
    unfold Value.okWide at hok
    rw [Try.underlying22] at hok
    have hc1 : v0.cells.toList = [v0] := by
      unfold Cell.okWide at hok
      rw [Try.underlying22] at hok
      cases v0 <;> first | rfl | (simp only [Cell.ok, Try.underlying22] at hok)
    exact open_bytes hok (hc1 ▸ hm)
  have hn : l.length ≤ 140737488351232 := by
    obtain ⟨as0, cs0, rfl, _⟩ := hl
    obtain ⟨m, hm⟩ := h0
    exact weight_bytes hm hall
  obtain ⟨z, rfl⟩ : ∃ z : Int, v1 = .int .i64 z := by
    obtain ⟨m, hm⟩ := h1
    exact open_int (hval 1 3 v1 rfl rfl) hm
  clear hA0 hval0
  refine (inflateReads_any v0 l z (by omega) W hl).mono fun e W' ⟨he, bel⟩ => ?_
  subst he
  exact ⟨_, rfl, _, _, _, [], _, [], hW', trodAll_mk1 (shut_bool Try.underlying4 _), (trodAll_cons_mk (Below.trod laidOut (by kernel_rfl) (of_decide_eq_true (by kernel_rfl)) h0 bel lt0) (trodAll_cons_mk (Below.trod laidOut (by kernel_rfl) (of_decide_eq_true (by kernel_rfl)) h1 bel lt1) trodAll_mk0)), rfl, bel.frame _, fun h => by cases h⟩

theorem over : Rows.inflateReadsRow.holds Try.pinned (OpenSpec.ofChange Rows.inflateReadsSpec) :=
  OpenClaim.holds_of_wide 3 Try.f3 rfl rfl rfl rfl rfl rfl rfl ⟨rfl, rfl, rfl, rfl, rfl⟩ rfl rfl rfl rfl rfl (by kernel_rfl) Try.func3 (by kernel_rfl)
    (of_decide_eq_true (by kernel_rfl)) (by unfold Func.isWrapper; first | (rw [if_pos (by decide +kernel)]; kernel_rfl) | (rw [if_neg (by decide +kernel)]; exact ⟨rfl, rfl⟩))
    (fun os started H enc _ => lifted os started H enc)
end Go.Proofs.Ytbnghmeeddjaoaa.inflateReads
namespace Go.Proofs.Ytbnghmeeddjaoaa
theorem inflateReads_holds : Rows.InflateReadsSaid := inflateReads.over
#print axioms inflateReads_holds
end Go.Proofs.Ytbnghmeeddjaoaa
