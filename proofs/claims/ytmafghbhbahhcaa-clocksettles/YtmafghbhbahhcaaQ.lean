/- What came in: estimates, times, samples in a row. -/
import Derived.Test.YtmafghbhbahhcaaS
import Derived.ProofKit
import Derived.OpenShut
import Derived.HandedShaped
import Derived.ChangeSlices
import Derived.ChangeArms
import Derived.ChangeOld
import Derived.Deep.SlicePairs
import Derived.Carry
namespace Go.Proofs.Ytmafghbhbahhcaa
open Go.ChangeShapes Go.WideShapes Go.ChangeAt Go.RowKit Go.BigFrame
set_option linter.unusedVariables false

theorem own : ownKnob Try.prog.godebug = none := by kernel_rfl
theorem laidOut : laidOutB Try.prog = true := by kernel_rfl
theorem Try.cells24 : Try.prog.cellsOf 24 = 1 := by kernel_rfl
theorem Try.cells3 : Try.prog.cellsOf 3 = 1 := by kernel_rfl
theorem Try.cells4 : Try.prog.cellsOf 4 = 1 := by kernel_rfl
theorem Try.cells23 : Try.prog.cellsOf 23 = 3 := by kernel_rfl
theorem Try.bytes24 : Try.prog.bytesOf 24 = 2 := by kernel_rfl
theorem wf_u16 {n : Int} (h : (Lit.int .u16 n).wf = true) : 0 ≤ n ∧ n ≤ 65535 := by
  simp only [Lit.wf, Bool.and_eq_true, decide_eq_true_eq] at h
  exact ⟨h.1, h.2⟩
set_option maxRecDepth 100000 in
theorem open_u16 {H : Type} {enc : TypeId × Value → H} {W : World} {base : Nat} {v : Value} {fuel : Nat} {x : DataW H × List MemPlace} (hok : Value.okWide Try.prog W .any base 24 v) (h : DataW.trod enc Try.prog W 0 (fun _ => true) true fuel 24 v.cells.toList = some x) : ∃ n : Int, v = .int .u16 n ∧ 0 ≤ n ∧ n ≤ 65535 := by
  unfold Value.okWide at hok
  rw [Try.underlying24] at hok
  have hc1 : v.cells.toList = [v] := by
    unfold Cell.okWide at hok
    rw [Try.underlying24] at hok
    cases v <;> first | rfl | (simp only [Cell.ok, Try.underlying24] at hok)
  rw [hc1] at h
  obtain ⟨n, e, _, w0⟩ := DataW.trod_int Try.underlying24 h
  simp only [List.cons.injEq, and_true] at e
  exact ⟨n, e, wf_u16 w0⟩
set_option maxRecDepth 100000 in
theorem open_rtt {H : Type} {enc : TypeId × Value → H} {W : World} {base : Nat} {v : Value} {fuel : Nat} {x : DataW H × List MemPlace} (hok : Value.okWide Try.prog W .any base 23 v) (h : DataW.trod enc Try.prog W 0 (fun _ => true) true fuel 23 v.cells.toList = some x) :
    ∃ (a : Bool) (m s : Int), v = .agg #[.bool a, .int .i64 m, .int .i64 s] := by
  unfold Value.okWide at hok
  rw [Try.underlying23] at hok
  simp only at hok
  obtain ⟨cs, rfl, hsz, _⟩ := hok
  rw [Try.cells23] at hsz
  obtain ⟨l⟩ := cs
  match l, hsz with
  | [v0, v1, v2], _ =>
    have h' : DataW.trod enc Try.prog W 0 (fun _ => true) true fuel 23 [v0, v1, v2] = some x := h
    obtain ⟨xs, k, hk, hxy, _, hxl, hf⟩ := DataW.trod_struct Try.underlying23 h'
    have hl2 : xs.length = 3 := hxl
    have g0 : DataW.trod enc Try.prog W 0 (fun _ => true) true k 4 (([v0, v1, v2].drop 0).take (Try.prog.cellsOf 4)) = xs[0]? := hf 0 _ rfl
    have g1 : DataW.trod enc Try.prog W 0 (fun _ => true) true k 3 (([v0, v1, v2].drop 1).take (Try.prog.cellsOf 3)) = xs[1]? := hf 1 _ rfl
    have g2 : DataW.trod enc Try.prog W 0 (fun _ => true) true k 3 (([v0, v1, v2].drop 2).take (Try.prog.cellsOf 3)) = xs[2]? := hf 2 _ rfl
    rw [Try.cells4, List.getElem?_eq_getElem (by omega)] at g0
    rw [Try.cells3, List.getElem?_eq_getElem (by omega)] at g1 g2
    obtain ⟨n0, e0, _⟩ := DataW.trod_bool Try.underlying4 g0
    obtain ⟨n1, e1, _, _⟩ := DataW.trod_int Try.underlying3 g1
    obtain ⟨n2, e2, _, _⟩ := DataW.trod_int Try.underlying3 g2
    simp only [List.drop_zero, List.take_succ_cons, List.take_zero, List.cons.injEq, and_true] at e0
    simp only [List.drop_succ_cons, List.drop_zero, List.take_succ_cons, List.take_zero, List.cons.injEq, and_true] at e1 e2
    subst e0 e1 e2
    exact ⟨n0, n1, n2, rfl⟩
set_option maxRecDepth 100000 in
theorem open_sms {H : Type} {enc : TypeId × Value → H} {W : World} {base R : Nat} {v : Value} {fuel : Nat} {x : DataW H × List MemPlace} (hok : Value.okWide Try.prog W .any base 38 v) (h : DataW.trod enc Try.prog W 0 (fun _ => true) true fuel 38 v.cells.toList = some x)
    (hw : ∀ y ∈ DataW.weights Try.prog 38 x.1, y ≤ R) : ∃ a n c l, v = .slice a n c ∧ Sms W.heap.size W a n l ∧ n ≤ R := by
  unfold Value.okWide at hok
  rw [Try.underlying38] at hok
  have hc1 : v.cells.toList = [v] := by
    unfold Cell.okWide at hok
    rw [Try.underlying38] at hok
    cases v <;> first | rfl | (simp only [Cell.ok, Try.underlying38] at hok)
  rw [hc1] at h
  rcases open_ints Try.underlying38 Try.underlying24 Try.cells24 h with ⟨e, _⟩ | ⟨a, len, cap, zs, e, _, hlc, hcm, hzl, hx, hcell, hwf⟩
  · simp only [List.cons.injEq, and_true] at e
    subst e
    exact ⟨none, 0, 0, [], rfl, ⟨rfl, fun k hk => absurd hk (Nat.not_lt_zero _)⟩, Nat.zero_le _⟩
  · simp only [List.cons.injEq, and_true] at e
    subst e
    simp only [if_true] at hzl
    have hsp : a.spot = none := by
      unfold Cell.okWide at hok
      rw [Try.underlying38] at hok
      simp only [Cell.ok, Try.underlying38] at hok
      exact hok.2.2.2.1
    obtain ⟨b, o, sp⟩ := a
    simp only at hsp
    subst hsp
    refine ⟨_, _, _, zs.take len, rfl, ⟨by rw [List.length_take]; omega, fun k hk => ?_⟩, ?_⟩
    · have hc := hcell k (by omega)
      rw [Addr.add_mid] at hc
      have hzk : k < zs.length := by omega
      have hz : zs.getD k 0 = zs[k] := by simp [hzk]
      have hz2 : (zs.take len).getD k 0 = zs[k] := by simp [List.getD_eq_getElem?_getD, List.getElem?_take_of_lt hk, List.getElem?_eq_getElem hzk]
      have hb := wf_u16 (hwf zs[k] (List.getElem_mem hzk))
      rw [hz] at hc
      rw [hz2]
      exact ⟨b, o, rfl, World.block_lt_of_cell? W _ hc, hb.1, hb.2, hc⟩
    · subst hx
      have := hw _ (by simp only [DataW.weights, Try.underlying38]; exact List.mem_cons_self)
      rw [Try.bytes24] at this
      simp [lits] at this
      omega
end Go.Proofs.Ytmafghbhbahhcaa
