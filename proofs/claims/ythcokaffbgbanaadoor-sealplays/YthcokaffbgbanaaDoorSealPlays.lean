/- Sealing and taking, in every order, with what was sealed and with any bytes, answer what the reference reckons by the words of the document, and count as it counts: for every key, side and row of calls, with no condition but that the two listed tables of the library hold what the text of the program lays (the card ties them). -/
import Derived.Test.YthcokaffbgbanaaDoorRows
import Derived.Test.YthcokaffbgbanaaDoorCards
import Derived.Test.YthcokaffbgbanaaDoorTie
import Derived.Test.YthcokaffbgbanaaDoorYt
import Derived.SevenTiedAt
namespace Go.Proofs.YthcokaffbgbanaaDoor.sealPlays
open Go.ChangeShapes Go.WideShapes Go.ChangeAt Go.RowKit
set_option linter.unusedVariables false

set_option maxRecDepth 100000 in
theorem lifted (os : Os) (started : os.Started) (H : Type) (enc : TypeId × Value → H) :
    ReturnsInHanded {} Tryd.checked os 4 .any (fun w args => (Rows.sealPlaysSpec.pre enc Tryd.prog Tryd.f4 [] false w args ∧ laidMetH Tryd.prog laidTabs w) ∧ sizedMet enc Tryd.prog Tryd.f4 (OpenSpec.ofChange Rows.sealPlaysSpec) false w args)
      (Rows.sealPlaysSpec.post enc Tryd.prog Tryd.f4 false true false false) := by
  refine returnsInHanded_of_change_and (C := Tryd.checked) (X := fun w _ => laidMetH Tryd.prog laidTabs w) (fun _ _ _ hh h => h.of_heap hh) own started (by kernel_rfl) Tryd.func4
    (ChangeSpec.witness_shaped (enc := enc) (C := Tryd.checked) (os := os) (X := fun w _ => laidMetH Tryd.prog laidTabs w) false (World.doorLaid Tryd.prog 400 os) #[.agg #[.int .u8 0, .int .u8 0, .int .u8 0, .int .u8 0, .int .u8 0, .int .u8 0, .int .u8 0, .int .u8 0, .int .u8 0, .int .u8 0, .int .u8 0, .int .u8 0, .int .u8 0, .int .u8 0, .int .u8 0, .int .u8 0], .agg #[.int .u8 0, .slice none 0 0], .slice none 0 0] 8 rfl (World.shaped_of_RefB (by kernel_rfl) (by kernel_rfl)) (by kernel_rfl) (by kernel_rfl) (by kernel_rfl) (door_met os _)) ?_
  intro W base args ds gs before hval0 hW _ hwt0 hL _
  have hval : ∀ (j : Nat) t v, Tryd.f4.params[j]? = some t → args[j]? = some v → Value.okWide Tryd.prog W .any base t v := hval0
  have hW' := hW
  obtain ⟨p, q, hA0, hV, rfl, hfz, hnd⟩ := hW
  have hA : DataW.TrodAll enc Tryd.prog W 0 (fun _ => true) true Tryd.f4.params.toList args.toList ds p := hA0
  rw [Tryd.params4] at hA hval
  obtain ⟨v0, vs0, d0, ds0, p0, q0, hargs, rfl, rfl, h0, r0⟩ := trodAll_cons hA
  obtain ⟨v1, vs1, d1, ds1, p1, q1, rfl, rfl, rfl, h1, r1⟩ := trodAll_cons r0
  obtain ⟨v2, vs2, d2, ds2, p2, q2, rfl, rfl, rfl, h2, r2⟩ := trodAll_cons r1
  obtain ⟨rfl, rfl, rfl⟩ := trodAll_nil r2
  obtain rfl : args = #[v0, v1, v2] := by cases args; simp_all
  obtain ⟨rfl, rfl⟩ := trodVars_none hV
  have lt0 : ∀ x ∈ p0, x.block < W.heap.size := by obtain ⟨m, hm⟩ := h0; exact DataW.trod_lt m _ _ _ hm
  have lt1 : ∀ x ∈ p1, x.block < W.heap.size := by obtain ⟨m, hm⟩ := h1; exact DataW.trod_lt m _ _ _ hm
  have lt2 : ∀ x ∈ p2, x.block < W.heap.size := by obtain ⟨m, hm⟩ := h2; exact DataW.trod_lt m _ _ _ hm
  obtain ⟨key, rfl, hkey⟩ := open_key (hval 0 23 v0 rfl rfl)
  obtain ⟨fa, va, l, rfl, hfa, hbi, hbm⟩ : ∃ (f : Nat) (vb : Value) (l : List UInt8), v1 = .agg #[.int .u8 (f : Int), vb] ∧ f < 256 ∧ InB W.heap.size W vb l ∧ l.length ≤ maxLen := by
    obtain ⟨m, hm⟩ := h1
    exact open_ask (hval 1 31 v1 rfl rfl) hm
  obtain ⟨aa, ac, rfl, _⟩ := hbi.slice
  have hwt : (DataW.weightsEach Tryd.prog [23, 31, 46] ([d0, d1, d2] ++ [])).all (· ≤ reachBytes) = true := hwt0
  have hall : (∀ y, y ∈ DataW.weights Tryd.prog 23 d0 → y ≤ 140737488351232) ∧ (∀ y, y ∈ DataW.weights Tryd.prog 31 d1 → y ≤ 140737488351232) ∧ (∀ y, y ∈ DataW.weights Tryd.prog 46 d2 → y ≤ 140737488351232) := by
    simp only [List.append_nil, DataW.weightsEach, List.all_append, Bool.and_eq_true, List.all_eq_true, decide_eq_true_eq] at hwt
    exact ⟨fun y hy => hwt.1 y hy, fun y hy => hwt.2.1 y hy, fun y hy => hwt.2.2 y hy⟩
  obtain ⟨la, ln, lc, ls, rfl, hls, hln, hl⟩ : ∃ (la : Option Addr) (ln lc : Nat) (ls : List Ply), v2 = .slice la ln lc ∧ ls.length = ln ∧ ln * 32 ≤ 140737488351232 ∧ Plys W.heap.size W la ls := by
    obtain ⟨m, hm⟩ := h2
    exact open_plays (hval 2 46 v2 rfl rfl) hm hall.2.2
  have hT := tab_of_laid hL
  clear hA0 hval0
  refine (plays_any key hkey fa hfa aa l.length ac (by unfold maxLen at hbm; exact hbm) la ln lc ls W hT (by omega) hls hl).mono fun e W' ⟨he, bel⟩ => ?_
  subst he
  exact ⟨_, rfl, _, _, _, [], _, [], hW', trodAll_mk1 (shut_bool Tryd.underlying4 _), (trodAll_cons_mk (Below.trod laidOut (by kernel_rfl) (of_decide_eq_true (by kernel_rfl)) h0 bel lt0) (trodAll_cons_mk (Below.trod laidOut (by kernel_rfl) (of_decide_eq_true (by kernel_rfl)) h1 bel lt1) (trodAll_cons_mk (Below.trod laidOut (by kernel_rfl) (of_decide_eq_true (by kernel_rfl)) h2 bel lt2) trodAll_mk0))), rfl, bel.frame _, fun h => by cases h⟩

theorem over : Rows.SealPlaysSaid :=
  OpenClaim.holds_of_wide 4 Tryd.f4 rfl rfl rfl rfl rfl rfl rfl ⟨rfl, rfl, rfl, rfl, rfl⟩ rfl rfl rfl rfl rfl (by kernel_rfl) Tryd.func4 (by kernel_rfl)
    (of_decide_eq_true (by kernel_rfl)) (by unfold Func.isWrapper; first | (rw [if_pos (by decide +kernel)]; kernel_rfl) | (rw [if_neg (by decide +kernel)]; exact ⟨rfl, rfl⟩))
    (fun os started H enc _ => lifted os started H enc)
end Go.Proofs.YthcokaffbgbanaaDoor.sealPlays
namespace Go.Proofs.YthcokaffbgbanaaDoor
open Go
theorem sealPlays_holds : Rows.SealPlaysCardSaid :=
  Claim7.holds_tied_plain_at .later [] [.data, .data] true (true, "02fecd874d4169a1151399fe769257e9d8a419f3a460320c6d94602e38b8ff07") false
    sealPlays.over (fun _ h => by cases h) (by kernel_rfl) (fun _ h => by cases h) sealPlays_row_tie rfl ⟨rfl, rfl⟩ (by kernel_rfl) rfl
    (fun f fn hf hfn => by
      obtain rfl : f = 4 := Option.some.inj ((show Tryd.prog.funcNamed "wayfarer/wayfarerlaw08.SealPlays" = some 4 by kernel_rfl).symm.trans hf) |>.symm
      obtain rfl : fn = Tryd.f4 := (Option.some.inj (Tryd.func4.symm.trans hfn)).symm
      exact ⟨by kernel_rfl, fun j t ht => by
        rw [Tryd.params4] at ht
        have h3 : t = 23 ∨ t = 31 ∨ t = 46 := by
          rcases j with _ | _ | _ | j
          · exact (.inl (by simpa using ht.symm))
          · exact (.inr (.inl (by simpa using ht.symm)))
          · exact (.inr (.inr (by simpa using ht.symm)))
          · simp at ht
        rcases h3 with rfl | rfl | rfl
        · exact (show Tryd.prog.wantsStandIn 23 = false by kernel_rfl)
        · exact (show Tryd.prog.wantsStandIn 31 = false by kernel_rfl)
        · exact (show Tryd.prog.wantsStandIn 46 = false by kernel_rfl)⟩)
    (by kernel_rfl)
#print axioms sealPlays_holds
end Go.Proofs.YthcokaffbgbanaaDoor
