/- Whatever is sealed, ocb.Seal answers what the reference reckons by the words of the document: the sealed bytes, or its error and nothing; the program's doubling and its comparing answer as the document says too, and one sealed nothing that the standard fixes is sealed so: for every key, nonce, bytes beside and plain bytes, with no condition but that the library's two listed tables hold what the program's text lays (the card ties them). -/
import Derived.Test.YtmolhljgmaoflaaDoorRows
import Derived.Test.YtmolhljgmaoflaaDoorCards
import Derived.Test.YtmolhljgmaoflaaDoorTie
import Derived.Test.YtmolhljgmaoflaaDoorRs
import Derived.SevenTiedAt
namespace Go.Proofs.YtmolhljgmaoflaaDoor.ocbSeals
open Go.ChangeShapes Go.WideShapes Go.ChangeAt Go.RowKit
set_option linter.unusedVariables false

set_option maxRecDepth 100000 in
theorem lifted (os : Os) (started : os.Started) (H : Type) (enc : TypeId × Value → H) :
    ReturnsInHanded {} Tryd.checked os 3 .any (fun w args => (Rows.ocbSealsSpec.pre enc Tryd.prog Tryd.f3 [] false w args ∧ laidMetH Tryd.prog laidTabs w) ∧ sizedMet enc Tryd.prog Tryd.f3 (OpenSpec.ofChange Rows.ocbSealsSpec) false w args)
      (Rows.ocbSealsSpec.post enc Tryd.prog Tryd.f3 false true false false) := by
  refine returnsInHanded_of_change_and (C := Tryd.checked) (X := fun w _ => laidMetH Tryd.prog laidTabs w) (fun _ _ _ hh h => h.of_heap hh) own started (by kernel_rfl) Tryd.func3
    (ChangeSpec.witness_shaped (enc := enc) (C := Tryd.checked) (os := os) (X := fun w _ => laidMetH Tryd.prog laidTabs w) false (World.doorLaid Tryd.prog 400 os) #[.agg #[.int .u8 0, .int .u8 0, .int .u8 0, .int .u8 0, .int .u8 0, .int .u8 0, .int .u8 0, .int .u8 0, .int .u8 0, .int .u8 0, .int .u8 0, .int .u8 0, .int .u8 0, .int .u8 0, .int .u8 0, .int .u8 0, .slice none 0 0, .slice none 0 0], .slice none 0 0] 8 rfl (World.shaped_of_RefB (by kernel_rfl) (by kernel_rfl)) (by kernel_rfl) (by kernel_rfl) (by kernel_rfl) (door_met os _)) ?_
  intro W base args ds gs before hval0 hW _ _ hL _
  have hval : ∀ (j : Nat) t v, Tryd.f3.params[j]? = some t → args[j]? = some v → Value.okWide Tryd.prog W .any base t v := hval0
  have hW' := hW
  obtain ⟨p, q, hA0, hV, rfl, hfz, hnd⟩ := hW
  have hA : DataW.TrodAll enc Tryd.prog W 0 (fun _ => true) true Tryd.f3.params.toList args.toList ds p := hA0
  rw [Tryd.params3] at hA hval
  obtain ⟨v0, vs0, d0, ds0, p0, q0, hargs, rfl, rfl, h0, r0⟩ := trodAll_cons hA
  obtain ⟨v1, vs1, d1, ds1, p1, q1, rfl, rfl, rfl, h1, r1⟩ := trodAll_cons r0
  obtain ⟨rfl, rfl, rfl⟩ := trodAll_nil r1
  obtain rfl : args = #[v0, v1] := by cases args; simp_all
  obtain ⟨rfl, rfl⟩ := trodVars_none hV
  have lt0 : ∀ x ∈ p0, x.block < W.heap.size := by obtain ⟨m, hm⟩ := h0; exact DataW.trod_lt m _ _ _ hm
  have lt1 : ∀ x ∈ p1, x.block < W.heap.size := by obtain ⟨m, hm⟩ := h1; exact DataW.trod_lt m _ _ _ hm
  obtain ⟨key, vn, vb, ln, lb, rfl, hkey, bn, mn, bb, mb⟩ : ∃ key vn vb ln lb, v0 = .agg (cas key vn vb) ∧ key.length = 16 ∧ Bts (· < W.heap.size) W vn ln ∧ ln.length ≤ maxLen ∧ Bts (· < W.heap.size) W vb lb ∧ lb.length ≤ maxLen := by
    obtain ⟨m, hm⟩ := h0
    exact open_case (hval 0 26 v0 rfl rfl) hm
  obtain ⟨ls, bs, ms⟩ : ∃ l, Bts (· < W.heap.size) W v1 l ∧ l.length ≤ maxLen := by
    obtain ⟨m, hm⟩ := h1
    have hok := hval 1 24 v1 rfl rfl
    unfold Value.okWide at hok
    rw [Tryd.underlying24] at hok
    have hc1 : v1.cells.toList = [v1] := by
      unfold Cell.okWide at hok
      rw [Tryd.underlying24] at hok
      cases v1 <;> first | rfl | (simp only [Cell.ok, Tryd.underlying24] at hok)
    exact open_bytes hok (hc1 ▸ hm)
  have hT := tab_of_laid hL
  clear hA0 hval0
  refine (seals_any key hkey vn vb v1 ln lb ls mn mb ms W hT bn bb bs).mono fun e W' ⟨he, bel⟩ => ?_
  subst he
  exact ⟨_, rfl, _, _, _, [], _, [], hW', trodAll_mk1 (shut_bool Tryd.underlying4 _), (trodAll_cons_mk (Below.trod laidOut (by kernel_rfl) (of_decide_eq_true (by kernel_rfl)) h0 bel lt0) (trodAll_cons_mk (Below.trod laidOut (by kernel_rfl) (of_decide_eq_true (by kernel_rfl)) h1 bel lt1) trodAll_mk0)), rfl, bel.frame _, fun h => by cases h⟩

theorem over : Rows.OcbSealsSaid :=
  OpenClaim.holds_of_wide 3 Tryd.f3 rfl rfl rfl rfl rfl rfl rfl ⟨rfl, rfl, rfl, rfl, rfl⟩ rfl rfl rfl rfl rfl (by kernel_rfl) Tryd.func3 (by kernel_rfl)
    (of_decide_eq_true (by kernel_rfl)) (by unfold Func.isWrapper; first | (rw [if_pos (by decide +kernel)]; kernel_rfl) | (rw [if_neg (by decide +kernel)]; exact ⟨rfl, rfl⟩))
    (fun os started H enc _ => lifted os started H enc)
end Go.Proofs.YtmolhljgmaoflaaDoor.ocbSeals
namespace Go.Proofs.YtmolhljgmaoflaaDoor
open Go
theorem ocbSeals_holds : Rows.OcbSealsCardSaid :=
  Claim7.holds_tied_plain_at .later [] [.data, .data] true (true, "bf8f6b13663c60ecd0ef01cd8892b18e04991ec34398e0d90c90c19f2bc8a11c") false
    ocbSeals.over (fun _ h => by cases h) (by kernel_rfl) (fun _ h => by cases h) ocbSeals_row_tie rfl ⟨rfl, rfl⟩ (by kernel_rfl) rfl
    (fun f fn hf hfn => by
      obtain rfl : f = 3 := Option.some.inj ((show Tryd.prog.funcNamed "wayfarer/wayfarerlaw02.OcbSeals" = some 3 by kernel_rfl).symm.trans hf) |>.symm
      obtain rfl : fn = Tryd.f3 := (Option.some.inj (Tryd.func3.symm.trans hfn)).symm
      exact ⟨by kernel_rfl, fun j t ht => by
        rw [Tryd.params3] at ht
        have h3 : t = 26 ∨ t = 24 := by
          rcases j with _ | _ | j
          · exact .inl (by simpa using ht.symm)
          · exact .inr (by simpa using ht.symm)
          · simp at ht
        rcases h3 with rfl | rfl
        · exact (show Tryd.prog.wantsStandIn 26 = false by kernel_rfl)
        · exact (show Tryd.prog.wantsStandIn 24 = false by kernel_rfl)⟩)
    (by kernel_rfl)
#print axioms ocbSeals_holds
end Go.Proofs.YtmolhljgmaoflaaDoor
