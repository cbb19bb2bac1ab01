/- What lies behind a stream changes nothing of what inflate.Inflate answers, nor does a greater bound, and what is handed in stays: for all bytes, all bytes behind them and every bound, where what comes in is of bulk at most 1048576. -/
import Derived.Test.YtbnghmeeddjaoaaRows
import Derived.Test.YtbnghmeeddjaoaaKe
import Derived.Test.YtbnghmeeddjaoaaKd
namespace Go.Proofs.Ytbnghmeeddjaoaa.inflateAhead
open Go.ChangeShapes Go.WideShapes Go.ChangeAt Go.RowKit
set_option linter.unusedVariables false

set_option maxRecDepth 100000 in
theorem lifted (os : Os) (started : os.Started) (H : Type) (enc : TypeId × Value → H) (F : Stop.Interp) :
    ReturnsInHanded {} Try.checked os 5 .any ((Rows.OpenSpec.upto Rows.inflateAheadSpec).pre6 enc Try.prog Try.f5 Rows.inflateAheadUptoRow.domain false) (((Rows.OpenSpec.upto Rows.inflateAheadSpec).at F).post enc Try.prog Try.f5 false true false false) := by
  refine returnsInHanded_of_cond (C := Try.checked) (s := Rows.OpenSpec.upto Rows.inflateAheadSpec) (k := Rows.uptoSmall) rfl own started (by kernel_rfl) Try.func5
    (OpenSpec.witness (enc := enc) (C := Try.checked) (s := Rows.OpenSpec.upto Rows.inflateAheadSpec) (k := Rows.uptoSmall) rfl false ⟨#[], #[.slice none 0 0, .slice none 0 0, .int .u16 0], []⟩ 8 (by kernel_rfl) (by kernel_rfl) (by kernel_rfl)
      (x := ([.nil, .nil, .lit (.int .u16 0)], [], [])) (by kernel_rfl) rfl (by kernel_rfl)) ?_
  intro W base args ds gs before hval0 hW _ hk _
  have hval : ∀ (j : Nat) t v, Try.f5.params[j]? = some t → args[j]? = some v → Value.okWide Try.prog W .any base t v := hval0
  have hW' := hW
  obtain ⟨p, q, hA0, hV, rfl, hfz, hnd⟩ := hW
  have hA : DataW.TrodAll enc Try.prog W 0 (fun _ => true) true Try.f5.params.toList args.toList ds p := hA0
  rw [Try.params5] at hA hval
  obtain ⟨v0, vs0, d0, ds0, p0, q0, hargs, rfl, rfl, h0, r0⟩ := trodAll_cons hA
  obtain ⟨v1, vs1, d1, ds1, p1, q1, rfl, rfl, rfl, h1, r1⟩ := trodAll_cons r0
  obtain ⟨v2, vs2, d2, ds2, p2, q2, rfl, rfl, rfl, h2, r2⟩ := trodAll_cons r1
  obtain ⟨rfl, rfl, rfl⟩ := trodAll_nil r2
  obtain rfl : args = #[v0, v1, v2] := by cases args; simp_all
  obtain ⟨rfl, rfl⟩ := trodVars_none hV
  have lt0 : ∀ x ∈ p0, x.block < W.heap.size := by obtain ⟨m, hm⟩ := h0; exact DataW.trod_lt m _ _ _ hm
  have lt1 : ∀ x ∈ p1, x.block < W.heap.size := by obtain ⟨m, hm⟩ := h1; exact DataW.trod_lt m _ _ _ hm
  have lt2 : ∀ x ∈ p2, x.block < W.heap.size := by obtain ⟨m, hm⟩ := h2; exact DataW.trod_lt m _ _ _ hm
  have hbk : Rows.uptoBulkAll ([d0, d1, d2] ++ []) ≤ 1048576 := of_decide_eq_true hk
  simp only [List.append_nil, Rows.uptoBulkAll] at hbk
  obtain ⟨b, hb, hbn⟩ : ∃ b, Bts (· < W.heap.size) W v0 b ∧ b.length ≤ 1100000 := by
    obtain ⟨m, hm⟩ := h0
    have hok := hval 0 22 v0 rfl rfl
    unfold Value.okWide at hok
    rw [Try.underlying22] at hok
    have hc1 : v0.cells.toList = [v0] := by
      unfold Cell.okWide at hok
      rw [Try.underlying22] at hok
      cases v0 <;> first | rfl | (simp only [Cell.ok, Try.underlying22] at hok)
    rw [hc1] at hm
    obtain ⟨b, hb, _⟩ := open_bytes hok hm
    obtain ⟨a, c, e, _⟩ := id hb
    refine ⟨b, hb, ?_⟩
    rw [e] at hm
    have := bulk_bytes hm
    simp only at this
    omega
  obtain ⟨c, hc, hcn⟩ : ∃ c, Bts (· < W.heap.size) W v1 c ∧ c.length ≤ 1100000 := by
    obtain ⟨m, hm⟩ := h1
    have hok := hval 1 22 v1 rfl rfl
    unfold Value.okWide at hok
    rw [Try.underlying22] at hok
    have hc1 : v1.cells.toList = [v1] := by
      unfold Cell.okWide at hok
      rw [Try.underlying22] at hok
      cases v1 <;> first | rfl | (simp only [Cell.ok, Try.underlying22] at hok)
    rw [hc1] at hm
    obtain ⟨b, hb, _⟩ := open_bytes hok hm
    obtain ⟨a, c, e, _⟩ := id hb
    refine ⟨b, hb, ?_⟩
    rw [e] at hm
    have := bulk_bytes hm
    simp only at this
    omega
  obtain ⟨n, rfl, hn⟩ : ∃ n : Nat, v2 = .int .u16 (n : Int) ∧ n ≤ 65535 := by
    obtain ⟨m, hm⟩ := h2
    exact open_u16 (hval 2 39 v2 rfl rfl) hm
  clear hA0 hval0
  refine (ahead_any v0 v1 b c n hbn hcn hn W hb hc).mono fun e W' ⟨he, bel⟩ => ?_
  subst he
  exact ⟨_, rfl, _, _, _, [], _, [], hW', trodAll_mk1 (shut_bool Try.underlying4 _), (trodAll_cons_mk (Below.trod laidOut (by kernel_rfl) (of_decide_eq_true (by kernel_rfl)) h0 bel lt0) (trodAll_cons_mk (Below.trod laidOut (by kernel_rfl) (of_decide_eq_true (by kernel_rfl)) h1 bel lt1) (trodAll_cons_mk (Below.trod laidOut (by kernel_rfl) (of_decide_eq_true (by kernel_rfl)) h2 bel lt2) trodAll_mk0))), rfl, bel.frame _, fun h => by cases h⟩

theorem over : Rows.InflateAheadUptoSaid :=
  OpenClaim.holds_of_cond 5 Try.f5 rfl rfl rfl rfl rfl rfl rfl ⟨rfl, rfl, rfl, rfl, rfl⟩ rfl rfl rfl rfl rfl (by kernel_rfl) Try.func5 (by kernel_rfl)
    (of_decide_eq_true (by kernel_rfl)) (by unfold Func.isWrapper; first | (rw [if_pos (by decide +kernel)]; kernel_rfl) | (rw [if_neg (by decide +kernel)]; exact ⟨rfl, rfl⟩))
    (fun os started H enc _ F => lifted os started H enc F)
end Go.Proofs.Ytbnghmeeddjaoaa.inflateAhead
namespace Go.Proofs.Ytbnghmeeddjaoaa
theorem inflateAhead_upto : Rows.InflateAheadUptoSaid := inflateAhead.over
#print axioms inflateAhead_upto
end Go.Proofs.Ytbnghmeeddjaoaa
