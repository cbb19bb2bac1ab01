/- utf.May, utf.Decode and utf.Encode answer for any bytes and any numbers what the reference reckons by the words of the document: for all bytes and all numbers, where what comes in is of bulk at most 1048576, with no other condition but that the table of the package utf holds what the text of the program lays (the card ties it). -/
import Derived.Test.YtionlbgmmpoeeaaDoorRows
import Derived.Test.YtionlbgmmpoeeaaDoorCards
import Derived.Test.YtionlbgmmpoeeaaDoorTie
import Derived.Test.YtionlbgmmpoeeaaDoorOb
import Derived.Test.YtionlbgmmpoeeaaDoorWe
import Derived.SevenTiedAt
import Derived.Deep.DeepHandedRow
namespace Go.Proofs.YtionlbgmmpoeeaaDoor.utfDecodesUpto
open Go.ChangeShapes Go.WideShapes Go.ChangeAt Go.RowKit
set_option linter.unusedVariables false
set_option linter.unusedSimpArgs false

set_option maxRecDepth 100000 in
theorem laid_met (os : Os) : laidMet Tryd.prog Rows.utfDecodesUptoRow.laid ((World.doorLaid Tryd.prog 400 os).forCall (fun _ _ => 0) ⟨#[], #[.slice none 0 0, .slice none 0 0], []⟩).memory :=
  laidMet_of_run' 8 (by kernel_rfl) (by kernel_rfl)
set_option maxRecDepth 100000 in
theorem reads (os : Os) {H : Type} (enc : TypeId × Value → H) : ∃ places, DataW.whole enc Tryd.prog ((World.doorLaid Tryd.prog 400 os).forCall (fun _ _ => 0) ⟨#[], #[.slice none 0 0, .slice none 0 0], []⟩).memory Tryd.f3.params.toList Rows.utfDecodesSpec.vars false (#[.slice none 0 0, .slice none 0 0] : Array Value).toList 8 = some ([.nil, .nil], [], places) :=
  ⟨[], by kernel_rfl⟩
set_option maxRecDepth 100000 in
theorem lifted (os : Os) (started : os.Started) (H : Type) (enc : TypeId × Value → H) (F : Stop.Interp) :
    ReturnsInHanded {} Tryd.checked os 3 .any ((Rows.OpenSpec.upto Rows.utfDecodesSpec).preRow enc Tryd.prog Tryd.f3 Rows.utfDecodesUptoRow.domain false Rows.utfDecodesUptoRow.laid) (((Rows.OpenSpec.upto Rows.utfDecodesSpec).at F).post enc Tryd.prog Tryd.f3 false true false false) := by
  obtain ⟨places, hx⟩ := reads os enc
  refine returnsInHanded_of_row (C := Tryd.checked) (s := Rows.OpenSpec.upto Rows.utfDecodesSpec) own started (by kernel_rfl) Tryd.func3
    (witness_row_at (enc := enc) (C := Tryd.checked) false (World.doorLaid Tryd.prog 400 os) #[.slice none 0 0, .slice none 0 0] rfl (by kernel_rfl) (by kernel_rfl) (by kernel_rfl)
      (OpenSpec.preRow_of_cond 8 hx (by kernel_rfl) (fun k hk => by cases hk; kernel_rfl) (by kernel_rfl) (laid_met os))) ?_
  intro W base args ds gs before hval0 hW _ hcond hwt0 hL _ _
  have hval : ∀ (j : Nat) t v, Tryd.f3.params[j]? = some t → args[j]? = some v → Value.okWide Tryd.prog W .any base t v := hval0
  have hW' := hW
  obtain ⟨p, q, hA0, hV, rfl, hfz, hnd⟩ := hW
  have hA : DataW.TrodAll enc Tryd.prog W 0 (fun _ => true) true Tryd.f3.params.toList args.toList ds p := hA0
  rw [Tryd.params3] at hA hval
  obtain ⟨v0, vs0, d0, ds0, p0, q0, hargs, rfl, rfl, h0, r0⟩ := trodAll_cons hA
  obtain ⟨v1, vs1, d1, ds1, p1, q1, rfl, rfl, rfl, h1, r1⟩ := trodAll_cons r0
  obtain ⟨rfl, rfl, rfl⟩ := trodAll_nil r1
  obtain rfl : args = #[v0, v1] := by cases args; simp_all
  obtain ⟨rfl, rfl⟩ := trodVars_none hV
  have lt0 : ∀ x ∈ p0, x.block < W.heap.size := by obtain ⟨m, hm⟩ := h0; exact DataW.trod_lt m _ _ _ hm
  have lt1 : ∀ x ∈ p1, x.block < W.heap.size := by obtain ⟨m, hm⟩ := h1; exact DataW.trod_lt m _ _ _ hm
  have hwt : (DataW.weightsEach Tryd.prog [22, 23] ([d0, d1] ++ [])).all (· ≤ reachBytes) = true := hwt0
  have hall : (∀ y, y ∈ DataW.weights Tryd.prog 22 d0 → y ≤ 140737488351232) ∧ (∀ y, y ∈ DataW.weights Tryd.prog 23 d1 → y ≤ 140737488351232) := by
    simp only [List.append_nil, DataW.weightsEach, List.all_append, Bool.and_eq_true, List.all_eq_true, decide_eq_true_eq] at hwt
    exact ⟨fun y hy => hwt.1 y hy, fun y hy => hwt.2 y hy⟩
  have hbk : Rows.uptoBulkAll ([d0, d1] ++ []) ≤ 1048576 := of_decide_eq_true (hcond _ rfl)
  simp only [List.append_nil, Rows.uptoBulkAll] at hbk
  obtain ⟨b, hb, hbn⟩ : ∃ b, InB W.heap.size W v0 b ∧ b.length ≤ 140737488351232 := by
    obtain ⟨m, hm⟩ := h0
    exact open_arg (hval 0 22 v0 rfl rfl) hm hall.1
  have hbu : b.length ≤ 1048576 := by
    obtain ⟨m, hm⟩ := h0
    obtain ⟨a, c, e, _⟩ := hb.slice
    rw [e] at hm
    have := bulk_bytes hm
    simp only at this
    omega
  obtain ⟨l, hl, hln⟩ : ∃ l, InR W.heap.size W v1 l ∧ 4 * l.length ≤ 140737488351232 := by
    obtain ⟨m, hm⟩ := h1
    exact open_argR (hval 1 23 v1 rfl rfl) hm hall.2
  have hlu : l.length ≤ 1048576 := by
    obtain ⟨m, hm⟩ := h1
    obtain ⟨a, c, e, _⟩ := hl.slice
    rw [e] at hm
    have := bulk_runes hm
    simp only at this
    omega
  have hT := tab_of_laid hL
  clear hA0 hval0
  refine (decodes_any W hT _ v0 b hb.bts (fun _ h => h) _ v1 l hl.btsR (fun _ h => h) (by omega) (by omega)).mono fun e W' ⟨he, bel⟩ => ?_
  subst he
  exact ⟨_, rfl, _, _, _, [], _, [], hW', trodAll_mk1 (shut_bool Tryd.underlying4 _), (trodAll_cons_mk (Below.trod laidOut (by kernel_rfl) (of_decide_eq_true (by kernel_rfl)) h0 bel lt0) (trodAll_cons_mk (Below.trod laidOut (by kernel_rfl) (of_decide_eq_true (by kernel_rfl)) h1 bel lt1) trodAll_mk0)), rfl, bel.frame _, fun h => by cases h⟩

theorem over : Rows.UtfDecodesUptoSaid :=
  OpenClaim.holds_of_cond 3 Tryd.f3 rfl rfl rfl rfl rfl rfl rfl ⟨rfl, rfl, rfl, rfl, rfl⟩ rfl rfl rfl rfl rfl (by kernel_rfl) Tryd.func3 (by kernel_rfl)
    (of_decide_eq_true (by kernel_rfl)) (by unfold Func.isWrapper; first | (rw [if_pos (by decide +kernel)]; kernel_rfl) | (rw [if_neg (by decide +kernel)]; exact ⟨rfl, rfl⟩))
    (fun os started H enc _ F => by rw [OpenClaim.pre_eq_preRow]; exact lifted os started H enc F)
end Go.Proofs.YtionlbgmmpoeeaaDoor.utfDecodesUpto
namespace Go.Proofs.YtionlbgmmpoeeaaDoor
open Go
theorem utfDecodesUpto_holds : Rows.UtfDecodesUptoCardSaid :=
  Claim7.holds_tied_plain_at .later [] _ _ _ _
    utfDecodesUpto.over (fun _ h => by cases h) (by kernel_rfl) (fun _ h => by cases h) utfDecodesUpto_row_tie rfl ⟨rfl, rfl⟩ (by kernel_rfl) rfl
    (fun f fn hf hfn => by
      obtain rfl : f = 3 := Option.some.inj ((show Tryd.prog.funcNamed "wayfarer/wayfarerlaw11.UtfDecodes" = some 3 by kernel_rfl).symm.trans hf) |>.symm
      obtain rfl : fn = Tryd.f3 := (Option.some.inj (Tryd.func3.symm.trans hfn)).symm
      exact ⟨by kernel_rfl, fun j t ht => by
        rw [Tryd.params3] at ht
        have h3 : t = 22 ∨ t = 23 := by
          rcases j with _ | _ | j
          · exact (.inl (by simpa using ht.symm))
          · exact (.inr (by simpa using ht.symm))
          · simp at ht
        rcases h3 with rfl | rfl
        · exact (show Tryd.prog.wantsStandIn 22 = false by kernel_rfl)
        · exact (show Tryd.prog.wantsStandIn 23 = false by kernel_rfl)⟩)
    (by kernel_rfl)
#print axioms utfDecodesUpto_holds
end Go.Proofs.YtionlbgmmpoeeaaDoor
