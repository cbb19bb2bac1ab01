/- What wire.Uint, wire.Write and wire.WriteEvents write is read by wire.ReadUint, wire.Read and wire.ReadEvents as it was; and two forms that the document fixes come out so: for every instruction, all events and every number, with no condition. -/
import Derived.Test.YtciiaopbghjcnaaRows
import Derived.Test.YtciiaopbghjcnaaOe
import Derived.Test.YtciiaopbghjcnaaBa
namespace Go.Proofs.Ytciiaopbghjcnaa.wireBack
open Go.ChangeShapes Go.WideShapes Go.ChangeAt Go.RowKit
set_option linter.unusedVariables false
set_option linter.unusedSimpArgs false

set_option maxRecDepth 100000 in
theorem lifted (os : Os) (started : os.Started) (H : Type) (enc : TypeId × Value → H) :
    ReturnsInHanded {} Try.checked os 6 .any (Rows.wireBackSpec.pre6 enc Try.prog Try.f6 Rows.wireBackRow.domain false) (Rows.wireBackSpec.post enc Try.prog Try.f6 false true false false) := by
  refine returnsInHanded_of_change_shaped (C := Try.checked) own started (by kernel_rfl) Try.func6
    (ChangeSpec.witness6 (enc := enc) (C := Try.checked) false ⟨#[], #[.agg #[.int .u64 0, .int .u64 0, .int .u64 0, .int .u64 0, .slice none 0 0], .slice none 0 0, .int .u64 0], []⟩ 8 (by kernel_rfl) (by kernel_rfl) (by kernel_rfl) (by kernel_rfl)) ?_
  intro W base args ds gs before hval0 hW _ hwt0 _ _
  have hval : ∀ (j : Nat) t v, Try.f6.params[j]? = some t → args[j]? = some v → Value.okWide Try.prog W .any base t v := hval0
  have hW' := hW
  obtain ⟨p, q, hA0, hV, rfl, hfz, hnd⟩ := hW
  have hA : DataW.TrodAll enc Try.prog W 0 (fun _ => true) true Try.f6.params.toList args.toList ds p := hA0
  rw [Try.params6] at hA hval
  obtain ⟨v0, vs0, d0, ds0, p0, q0, hargs, rfl, rfl, h0, r0⟩ := trodAll_cons hA
  obtain ⟨v1, vs1, d1, ds1, p1, q1, rfl, rfl, rfl, h1, r1⟩ := trodAll_cons r0
  obtain ⟨v2, vs2, d2, ds2, p2, q2, rfl, rfl, rfl, h2, r2⟩ := trodAll_cons r1
  obtain ⟨rfl, rfl, rfl⟩ := trodAll_nil r2
  obtain rfl : args = #[v0, v1, v2] := by cases args; simp_all
  obtain ⟨rfl, rfl⟩ := trodVars_none hV
  have lt0 : ∀ x ∈ p0, x.block < W.heap.size := by obtain ⟨m, hm⟩ := h0; exact DataW.trod_lt m _ _ _ hm
  have lt1 : ∀ x ∈ p1, x.block < W.heap.size := by obtain ⟨m, hm⟩ := h1; exact DataW.trod_lt m _ _ _ hm
  have lt2 : ∀ x ∈ p2, x.block < W.heap.size := by obtain ⟨m, hm⟩ := h2; exact DataW.trod_lt m _ _ _ hm
  have hwt : (DataW.weightsEach Try.prog [34, 45, 22] ([d0, d1, d2] ++ [])).all (· ≤ reachBytes) = true := hwt0
  have hall : (∀ y, y ∈ DataW.weights Try.prog 34 d0 → y ≤ 140737488351232) ∧ (∀ y, y ∈ DataW.weights Try.prog 45 d1 → y ≤ 140737488351232) ∧ (∀ y, y ∈ DataW.weights Try.prog 22 d2 → y ≤ 140737488351232) := by
    simp only [List.append_nil, DataW.weightsEach, List.all_append, Bool.and_eq_true, List.all_eq_true, decide_eq_true_eq] at hwt
    exact ⟨fun y hy => hwt.1 y hy, fun y hy => hwt.2.1 y hy, fun y hy => hwt.2.2 y hy⟩
  obtain ⟨x, vx, rfl, hx, hxd, hxl⟩ : ∃ (i : Ins) (vd : Value), v0 = .agg #[.int .u64 (i.old : Int), .int .u64 (i.new : Int), .int .u64 (i.ack : Int), .int .u64 (i.thr : Int), vd] ∧ i.ok ∧ InB W.heap.size W vd i.dif ∧ i.dif.length ≤ 140737488351232 := by
    obtain ⟨m, hm⟩ := h0
    exact open_ins (hval 0 34 v0 rfl rfl) hm hall.1
  obtain ⟨l, hl, hln⟩ : ∃ l, Evs W.heap.size W v1 l ∧ l.length ≤ 140737488351232 := by
    obtain ⟨m, hm⟩ := h1
    exact open_evarg (hval 1 45 v1 rfl rfl) hm hall.2.1
  obtain ⟨n, rfl, hn⟩ : ∃ n : Nat, v2 = .int .u64 (n : Int) ∧ n < 18446744073709551616 := by
    obtain ⟨m, hm⟩ := h2
    exact open_u64 (hval 2 22 v2 rfl rfl) hm
  clear hA0 hval0
  refine (back_any W vx v1 x l n hx hn hln hxd hl).mono fun e W' ⟨he, bel⟩ => ?_
  subst he
  exact ⟨_, rfl, _, _, _, [], _, [], hW', trodAll_mk1 (shut_bool Try.underlying4 _), (trodAll_cons_mk (Below.trod laidOut (by kernel_rfl) (of_decide_eq_true (by kernel_rfl)) h0 bel lt0) (trodAll_cons_mk (Below.trod laidOut (by kernel_rfl) (of_decide_eq_true (by kernel_rfl)) h1 bel lt1) (trodAll_cons_mk (Below.trod laidOut (by kernel_rfl) (of_decide_eq_true (by kernel_rfl)) h2 bel lt2) trodAll_mk0))), rfl, bel.frame _, fun h => by cases h⟩

theorem over : Rows.wireBackRow.holds Try.pinned (OpenSpec.ofChange Rows.wireBackSpec) :=
  OpenClaim.holds_of_wide 6 Try.f6 rfl rfl rfl rfl rfl rfl rfl ⟨rfl, rfl, rfl, rfl, rfl⟩ rfl rfl rfl rfl rfl (by kernel_rfl) Try.func6 (by kernel_rfl)
    (of_decide_eq_true (by kernel_rfl)) (by unfold Func.isWrapper; first | (rw [if_pos (by decide +kernel)]; kernel_rfl) | (rw [if_neg (by decide +kernel)]; exact ⟨rfl, rfl⟩))
    (fun os started H enc _ => lifted os started H enc)
end Go.Proofs.Ytciiaopbghjcnaa.wireBack
namespace Go.Proofs.Ytciiaopbghjcnaa
theorem wireBack_holds : Rows.WireBackSaid := wireBack.over
#print axioms wireBack_holds
end Go.Proofs.Ytciiaopbghjcnaa
