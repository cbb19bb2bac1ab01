/- Whatever it is asked, a sender tells what the reference reckons by the words of the document; and three answers that the document fixes come out so: for every text and every script, where what comes in is of bulk at most 1048576. -/
import Derived.Test.YtikkekdmahdgaaaRows
import Derived.Test.YtikkekdmahdgaaaRz
import Derived.Test.YtikkekdmahdgaaaUj
import Derived.JoinedCond
namespace Go.Proofs.Ytikkekdmahdgaaa.sspSends
open Go.ChangeShapes Go.WideShapes Go.ChangeAt Go.RowKit
set_option linter.unusedVariables false
set_option linter.unusedSimpArgs false

set_option maxRecDepth 100000 in
theorem lifted (os : Os) (started : os.Started) (H : Type) (enc : TypeId × Value → H) (F : Stop.Interp) :
    ReturnsInHanded {} Try.checked os 3 .any ((Rows.OpenSpec.upto Rows.sspSendsSpec).pre6 enc Try.prog Try.f3 Rows.sspSendsUptoRow.domain false) (((Rows.OpenSpec.upto Rows.sspSendsSpec).at F).post enc Try.prog Try.f3 false true false false) := by
  refine returnsInHanded_of_cond (C := Try.checked) (s := Rows.OpenSpec.upto Rows.sspSendsSpec) (k := Rows.uptoSmall) rfl own started (by kernel_rfl) Try.func3
    (OpenSpec.witness (enc := enc) (C := Try.checked) (s := Rows.OpenSpec.upto Rows.sspSendsSpec) (k := Rows.uptoSmall) rfl false ⟨#[], #[.string ⟨#[]⟩, .slice none 0 0], []⟩ 8 (by kernel_rfl) (by kernel_rfl) (by kernel_rfl)
      (x := ([.lit (.string []), .nil], [], [])) (by kernel_rfl) rfl (by kernel_rfl)) ?_
  intro W base args ds gs before hval0 hW _ hk _
  have hval : ∀ (j : Nat) t v, Try.f3.params[j]? = some t → args[j]? = some v → Value.okWide Try.prog W .any base t v := hval0
  have hW' := hW
  obtain ⟨p, q, hA0, hV, rfl, hfz, hnd⟩ := hW
  have hA : DataW.TrodAll enc Try.prog W 0 (fun _ => true) true Try.f3.params.toList args.toList ds p := hA0
  rw [Try.params3] at hA hval
  obtain ⟨v0, vs0, d0, ds0, p0, q0, hargs, rfl, rfl, h0, r0⟩ := trodAll_cons hA
  obtain ⟨v1, vs1, d1, ds1, p1, q1, rfl, rfl, rfl, h1, r1⟩ := trodAll_cons r0
  obtain ⟨rfl, rfl, rfl⟩ := trodAll_nil r1
  obtain rfl : args = #[v0, v1] := by cases args; simp_all
  obtain ⟨rfl, rfl⟩ := trodVars_none hV
  have lt0 : ∀ x ∈ p0, x.block < W.heap.size := by obtain ⟨m, hm⟩ := h0; exact DataW.trod_lt m _ _ _ hm
  have lt1 : ∀ x ∈ p1, x.block < W.heap.size := by obtain ⟨m, hm⟩ := h1; exact DataW.trod_lt m _ _ _ hm
  have hbk : Rows.uptoBulkAll ([d0, d1] ++ []) ≤ 1048576 := of_decide_eq_true hk
  simp only [List.append_nil, Rows.uptoBulkAll] at hbk
  obtain ⟨m0, hm0⟩ := id h0
  obtain ⟨t, rfl, ht⟩ := open_strU (hval 0 9 v0 rfl rfl) hm0
  obtain ⟨l, hl, hln, hld⟩ : ∃ l, OpsL W.heap.size W v1 l ∧ l.length ≤ 1048576 ∧ ∀ y, y ∈ l → y.t.length ≤ 1048576 := by
    obtain ⟨m, hm⟩ := h1
    have hok := hval 1 22 v1 rfl rfl
    unfold Value.okWide at hok
    rw [Try.underlying22] at hok
    have hc1 : v1.cells.toList = [v1] := by
      unfold Cell.okWide at hok
      rw [Try.underlying22] at hok
      cases v1 <;> first | rfl | (simp only [Cell.ok, Try.underlying22] at hok)
    rw [hc1] at hm
    obtain ⟨l, hl, hq, hd⟩ := open_opsU hok hm
    exact ⟨l, hl, by simp only at hq; omega, fun y hy => by have := hd y hy; simp only at this; omega⟩
  have hsum : t.length + txtK l l.length ≤ 4398046511104 := by
    have h1 := txtK_bound l 1048576 hld
    have h2 := Nat.mul_le_mul_right (1048576 + 1) hln
    simp only at ht
    omega
  clear hA0 hval0
  refine (sends_walk SndR sndR_keep newSend_C set_C ack_C tick_C told_C W t v1 l hl hln hsum).mono fun e W' ⟨he, bel⟩ => ?_
  subst he
  exact ⟨_, rfl, _, _, _, [], _, [], hW', trodAll_mk1 (shut_bool Try.underlying4 _), (trodAll_cons_mk (Below.trod laidOut (by kernel_rfl) (of_decide_eq_true (by kernel_rfl)) h0 bel lt0) (trodAll_cons_mk (Below.trod laidOut (by kernel_rfl) (of_decide_eq_true (by kernel_rfl)) h1 bel lt1) trodAll_mk0)), rfl, bel.frame _, fun h => by cases h⟩

theorem over : Rows.SspSendsUptoSaid :=
  OpenClaim.holds_of_cond 3 Try.f3 rfl rfl rfl rfl rfl rfl rfl ⟨rfl, rfl, rfl, rfl, rfl⟩ rfl rfl rfl rfl rfl (by kernel_rfl) Try.func3 (by kernel_rfl)
    (of_decide_eq_true (by kernel_rfl)) (by unfold Func.isWrapper; first | (rw [if_pos (by decide +kernel)]; kernel_rfl) | (rw [if_neg (by decide +kernel)]; exact ⟨rfl, rfl⟩))
    (fun os started H enc _ F => lifted os started H enc F)
end Go.Proofs.Ytikkekdmahdgaaa.sspSends
namespace Go.Proofs.Ytikkekdmahdgaaa
theorem sspSends_upto : Rows.SspSendsUptoSaid := sspSends.over
#print axioms sspSends_upto
end Go.Proofs.Ytikkekdmahdgaaa
