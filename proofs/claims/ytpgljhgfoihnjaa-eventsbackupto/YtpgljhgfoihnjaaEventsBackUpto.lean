/- What events.Apply makes of what events.Diff says is the latter events again, for all events where what comes in is of bulk at most 1048576. -/
import Derived.Test.YtpgljhgfoihnjaaRows
import Derived.Test.YtpgljhgfoihnjaaPo
import Derived.Test.YtpgljhgfoihnjaaKu
import Derived.Test.YtpgljhgfoihnjaaPi
import Derived.Test.YtpgljhgfoihnjaaPl
import Derived.Test.YtpgljhgfoihnjaaQf
import Derived.JoinedCond
namespace Go.Proofs.Ytpgljhgfoihnjaa.eventsBack
open Go.ChangeShapes Go.WideShapes Go.ChangeAt Go.RowKit
set_option linter.unusedVariables false
set_option linter.unusedSimpArgs false

set_option maxRecDepth 100000 in
theorem lifted (os : Os) (started : os.Started) (H : Type) (enc : TypeId × Value → H) (F : Stop.Interp) :
    ReturnsInHanded {} Try.checked os 4 .any ((Rows.OpenSpec.upto Rows.eventsBackSpec).pre6 enc Try.prog Try.f4 Rows.eventsBackUptoRow.domain false) (((Rows.OpenSpec.upto Rows.eventsBackSpec).at F).post enc Try.prog Try.f4 false true false false) := by
  refine returnsInHanded_of_cond (C := Try.checked) (s := Rows.OpenSpec.upto Rows.eventsBackSpec) (k := Rows.uptoSmall) rfl own started (by kernel_rfl) Try.func4
    (OpenSpec.witness (enc := enc) (C := Try.checked) (s := Rows.OpenSpec.upto Rows.eventsBackSpec) (k := Rows.uptoSmall) rfl false ⟨#[], #[.slice none 0 0, .slice none 0 0, .int .u8 0], []⟩ 8 (by kernel_rfl) (by kernel_rfl) (by kernel_rfl)
      (x := ([.nil, .nil, .lit (.int .u8 0)], [], [])) (by kernel_rfl) rfl (by kernel_rfl)) ?_
  intro W base args ds gs before hval0 hW _ hk _
  have hval : ∀ (j : Nat) t v, Try.f4.params[j]? = some t → args[j]? = some v → Value.okWide Try.prog W .any base t v := hval0
  have hW' := hW
  obtain ⟨p, q, hA0, hV, rfl, hfz, hnd⟩ := hW
  have hA : DataW.TrodAll enc Try.prog W 0 (fun _ => true) true Try.f4.params.toList args.toList ds p := hA0
  rw [Try.params4] at hA hval
  obtain ⟨v0, vs0, d0, ds0, p0, q0, hargs, rfl, rfl, h0, r0⟩ := trodAll_cons hA
  obtain ⟨v1, vs1, d1, ds1, p1, q1, rfl, rfl, rfl, h1, r1⟩ := trodAll_cons r0
  obtain ⟨v2, vs2, d2, ds2, p2, q2, rfl, rfl, rfl, h2, r2⟩ := trodAll_cons r1
  obtain ⟨rfl, rfl, rfl⟩ := trodAll_nil r2
  obtain rfl : args = #[v0, v1, v2] := by cases args; simp_all
  obtain ⟨rfl, rfl⟩ := trodVars_none hV
  have lt0 : ∀ x ∈ p0, x.block < W.heap.size := by obtain ⟨m, hm⟩ := h0; exact DataW.trod_lt m _ _ _ hm
  have lt1 : ∀ x ∈ p1, x.block < W.heap.size := by obtain ⟨m, hm⟩ := h1; exact DataW.trod_lt m _ _ _ hm
  have lt2 : ∀ x ∈ p2, x.block < W.heap.size := by obtain ⟨m, hm⟩ := h2; exact DataW.trod_lt m _ _ _ hm
  have hbk : Rows.uptoBulkAll ([d0, d1, d2] ++ []) ≤ 1048576 := of_decide_eq_true hk
  simp only [List.append_nil, Rows.uptoBulkAll] at hbk
  obtain ⟨m0, hm0⟩ := id h0
  obtain ⟨l1, hl1, hnl1, hbl1⟩ := open_evargB (hval 0 22 v0 rfl rfl) hm0 (weights_le (of_decide_eq_true (by kernel_rfl)) (show Rows.uptoBulk d0 ≤ 1048576 by omega))
  have hcl1 : l1.length ≤ 1048576 := by
    have hok := hval 0 22 v0 rfl rfl
    unfold Value.okWide at hok
    rw [Try.underlying22] at hok
    have hc1 : v0.cells.toList = [v0] := by
      unfold Cell.okWide at hok
      rw [Try.underlying22] at hok
      cases v0 <;> first | rfl | (simp only [Cell.ok, Try.underlying22] at hok)
    rw [hc1] at hm0
    obtain ⟨l', hl', hq'⟩ := open_evsU hok hm0
    obtain ⟨x1, c1, q1, _⟩ := hl1.cap
    obtain ⟨x2, c2, q2, _⟩ := hl'.cap
    rw [q1] at q2
    injection q2 with _ q3 _
    simp only at hq'
    omega
  obtain ⟨m1, hm1⟩ := id h1
  obtain ⟨l2, hl2, hnl2, hbl2⟩ := open_evargB (hval 1 22 v1 rfl rfl) hm1 (weights_le (of_decide_eq_true (by kernel_rfl)) (show Rows.uptoBulk d1 ≤ 1048576 by omega))
  have hcl2 : l2.length ≤ 1048576 := by
    have hok := hval 1 22 v1 rfl rfl
    unfold Value.okWide at hok
    rw [Try.underlying22] at hok
    have hc1 : v1.cells.toList = [v1] := by
      unfold Cell.okWide at hok
      rw [Try.underlying22] at hok
      cases v1 <;> first | rfl | (simp only [Cell.ok, Try.underlying22] at hok)
    rw [hc1] at hm1
    obtain ⟨l', hl', hq'⟩ := open_evsU hok hm1
    obtain ⟨x1, c1, q1, _⟩ := hl2.cap
    obtain ⟨x2, c2, q2, _⟩ := hl'.cap
    rw [q1] at q2
    injection q2 with _ q3 _
    simp only at hq'
    omega
  obtain ⟨nn, rfl⟩ : ∃ m : UInt8, v2 = .int .u8 (m.toNat : Int) := by
    obtain ⟨m, hm⟩ := h2
    exact open_u8 (hval 2 5 v2 rfl rfl) hm
  clear hA0 hval0
  refine (back_walk diff_C apply_C begins_C (anch21 diff_C apply_C) W v0 v1 l1 l2 nn hcl1 hcl2 (fun k hk => hbl1 k hk) hl1 hl2).mono fun e W' ⟨he, bel⟩ => ?_
  subst he
  exact ⟨_, rfl, _, _, _, [], _, [], hW', trodAll_mk1 (shut_bool Try.underlying4 _), (trodAll_cons_mk (Below.trod laidOut (by kernel_rfl) (of_decide_eq_true (by kernel_rfl)) h0 bel lt0) (trodAll_cons_mk (Below.trod laidOut (by kernel_rfl) (of_decide_eq_true (by kernel_rfl)) h1 bel lt1) (trodAll_cons_mk (Below.trod laidOut (by kernel_rfl) (of_decide_eq_true (by kernel_rfl)) h2 bel lt2) trodAll_mk0))), rfl, bel.frame _, fun h => by cases h⟩

theorem over : Rows.EventsBackUptoSaid :=
  OpenClaim.holds_of_cond 4 Try.f4 rfl rfl rfl rfl rfl rfl rfl ⟨rfl, rfl, rfl, rfl, rfl⟩ rfl rfl rfl rfl rfl (by kernel_rfl) Try.func4 (by kernel_rfl)
    (of_decide_eq_true (by kernel_rfl)) (by unfold Func.isWrapper; first | (rw [if_pos (by decide +kernel)]; kernel_rfl) | (rw [if_neg (by decide +kernel)]; exact ⟨rfl, rfl⟩))
    (fun os started H enc _ F => lifted os started H enc F)
end Go.Proofs.Ytpgljhgfoihnjaa.eventsBack
namespace Go.Proofs.Ytpgljhgfoihnjaa
theorem eventsBack_upto : Rows.EventsBackUptoSaid := eventsBack.over
#print axioms eventsBack_upto
end Go.Proofs.Ytpgljhgfoihnjaa
