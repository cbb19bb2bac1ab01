/- What came in: bytes, numbers. -/
import Derived.Test.YthmcmdojnnbefaaSb
import Derived.ProofKit
import Derived.OpenShut
import Derived.HandedShaped
import Derived.ChangeSlices
import Derived.ChangeArms
import Derived.ChangeOld
import Derived.Deep.SlicePairs
import Derived.Carry
namespace Go.Proofs.Ythmcmdojnnbefaa
open Go.ChangeShapes Go.WideShapes Go.ChangeAt Go.RowKit Go.BigFrame

theorem Try.cells5 : Try.prog.cellsOf 5 = 1 := by kernel_rfl
theorem Try.cells3 : Try.prog.cellsOf 3 = 1 := by kernel_rfl
theorem Try.bytes5 : Try.prog.bytesOf 5 = 1 := by kernel_rfl
theorem Try.cells22 : Try.prog.cellsOf 22 = 1 := by kernel_rfl
set_option maxRecDepth 100000 in
/-- A slice of bytes that came in. -/
theorem open_bytes {H : Type} {enc : TypeId × Value → H} {W : World} {base : Nat} {v : Value} {fuel : Nat} {x : DataW H × List MemPlace} (hok : Cell.okWide Try.prog W .any base 23 v) (h : DataW.trod enc Try.prog W 0 (fun _ => true) true fuel 23 [v] = some x) :
    ∃ l, InB W.heap.size W v l ∧ l.length ≤ maxLen := by
  rcases open_ints Try.underlying23 Try.underlying5 Try.cells5 h with ⟨e, _⟩ | ⟨a, len, cap, zs, e, _, hlc, hcm, hzl, _, hcell, hwf⟩
  · simp only [List.cons.injEq, and_true] at e
    subst e
    exact ⟨[], .inl ⟨rfl, rfl⟩, Nat.zero_le _⟩
  · simp only [List.cons.injEq, and_true] at e
    subst e
    simp only [if_true] at hzl
    have hsp : a.spot = none := by
      unfold Cell.okWide at hok
      rw [Try.underlying23] at hok
      simp only [Cell.ok, Try.underlying23] at hok
      exact hok.2.2.2.1
    obtain ⟨b, o, sp⟩ := a
    simp only at hsp
    subst hsp
    have hlen : ((zs.take len).map fun z => UInt8.ofNat z.toNat).length = len := by rw [List.length_map, List.length_take]; omega
    have hr : W.rangeAt b o (((zs.take len).map fun z => UInt8.ofNat z.toNat).map B) := by
      intro j u hu
      have hj : j < len := by
        have := (List.getElem?_eq_some_iff.1 hu).1
        rw [List.length_map, hlen] at this
        exact this
      have hc := hcell j (by omega)
      rw [Addr.add_mid] at hc
      rw [hc]
      have hzj : j < zs.length := by omega
      have hz : zs.getD j 0 = zs[j] := by simp [hzj]
      have hw := hwf zs[j] (List.getElem_mem hzj)
      have hb : 0 ≤ zs[j] ∧ zs[j] ≤ 255 := by
        simp only [Lit.wf] at hw
        simpa [IntKind.min, IntKind.max, IntKind.bits, IntKind.signed] using hw
      simp only [List.getElem?_map, List.getElem?_take_of_lt hj, List.getElem?_eq_getElem hzj, Option.map_some, Option.some.injEq] at hu
      rw [← hu, hz]
      unfold B
      rw [UInt8.toNat_ofNat_of_lt' (by show zs[j].toNat < 256; omega)]
      congr 2
      omega
    refine ⟨(zs.take len).map fun z => UInt8.ofNat z.toNat, .inr ⟨b, o, cap, by rw [hlen], by rw [hlen]; exact hlc, ?_, hr⟩, by rw [hlen]; omega⟩
    by_cases h0 : len = 0
    · left
      apply List.eq_nil_of_length_eq_zero
      rw [hlen]; exact h0
    · right
      exact range_lt hr (by rw [hlen]; omega)

theorem weight_bytes {H : Type} {enc : TypeId × Value → H} {W : World} {fuel : Nat} {a : Option Addr} {n c R : Nat} {x : DataW H × List MemPlace} (h : DataW.trod enc Try.prog W 0 (fun _ => true) true fuel 23 [.slice a n c] = some x)
    (hw : ∀ y ∈ DataW.weights Try.prog 23 x.1, y ≤ R) : n ≤ R := by
  rcases open_ints Try.underlying23 Try.underlying5 Try.cells5 h with ⟨e, _⟩ | ⟨a', len, cap, zs, e, _, hlc, hcm, hzl, hx, _⟩
  · simp only [List.cons.injEq, and_true, Value.slice.injEq] at e
    omega
  · simp only [List.cons.injEq, and_true, Value.slice.injEq] at e
    simp only [if_true] at hzl
    subst hx
    have := hw _ (by simp only [DataW.weights, Try.underlying23]; exact List.mem_cons_self)
    rw [Try.bytes5] at this
    simp [lits] at this
    omega

theorem wf_u8 {n : Int} (h : (Lit.int .u8 n).wf = true) : ∃ x : UInt8, n = (x.toNat : Int) := by
  simp only [Lit.wf, Bool.and_eq_true, decide_eq_true_eq] at h
  have h0 : 0 ≤ n := h.1
  have h1 : n ≤ 255 := h.2
  exact ⟨UInt8.ofNat n.toNat, by rw [UInt8.toNat_ofNat_of_lt' (by show n.toNat < 256; omega)]; omega⟩

theorem wf_u64 {n : Int} (h : (Lit.int .u64 n).wf = true) : ∃ x : Nat, n = (x : Int) ∧ x < 18446744073709551616 := by
  simp only [Lit.wf, Bool.and_eq_true, decide_eq_true_eq] at h
  have h0 : 0 ≤ n := h.1
  have h1 : n ≤ 18446744073709551615 := h.2
  exact ⟨n.toNat, by omega, by omega⟩
/-- A number of eight bytes that came in. -/
theorem open_u64 {H : Type} {enc : TypeId × Value → H} {W : World} {base : Nat} {v : Value} {fuel : Nat} {x : DataW H × List MemPlace} (hok : Value.okWide Try.prog W .any base 22 v) (h : DataW.trod enc Try.prog W 0 (fun _ => true) true fuel 22 v.cells.toList = some x) : ∃ n : Nat, v = .int .u64 (n : Int) ∧ n < 18446744073709551616 := by
  unfold Value.okWide at hok
  rw [Try.underlying22] at hok
  have hc1 : v.cells.toList = [v] := by
    unfold Cell.okWide at hok
    rw [Try.underlying22] at hok
    cases v <;> first | rfl | (simp only [Cell.ok, Try.underlying22] at hok)
  rw [hc1] at h
  obtain ⟨n, e, _, w0⟩ := DataW.trod_int Try.underlying22 h
  simp only [List.cons.injEq, and_true] at e
  obtain ⟨x, rfl, hx⟩ := wf_u64 w0
  exact ⟨x, e, hx⟩
/-- Bytes that came in as an argument. -/
theorem open_arg {H : Type} {enc : TypeId × Value → H} {W : World} {base R : Nat} {v : Value} {fuel : Nat} {x : DataW H × List MemPlace} (hok : Value.okWide Try.prog W .any base 23 v) (h : DataW.trod enc Try.prog W 0 (fun _ => true) true fuel 23 v.cells.toList = some x)
    (hw : ∀ y ∈ DataW.weights Try.prog 23 x.1, y ≤ R) : ∃ b, InB W.heap.size W v b ∧ b.length ≤ R := by
  unfold Value.okWide at hok
  rw [Try.underlying23] at hok
  have hc1 : v.cells.toList = [v] := by
    unfold Cell.okWide at hok
    rw [Try.underlying23] at hok
    cases v <;> first | rfl | (simp only [Cell.ok, Try.underlying23] at hok)
  obtain ⟨b, hb, _⟩ := open_bytes hok (hc1 ▸ h)
  obtain ⟨a, c, e, _⟩ := hb.slice
  refine ⟨b, hb, ?_⟩
  rw [hc1, e] at h
  exact weight_bytes h hw
theorem wf_i64 {n : Int} (h : (Lit.int .i64 n).wf = true) : -9223372036854775808 ≤ n ∧ n ≤ 9223372036854775807 := by
  simp only [Lit.wf, Bool.and_eq_true, decide_eq_true_eq] at h
  exact ⟨h.1, h.2⟩
/-- A number that came in. -/
theorem open_int {H : Type} {enc : TypeId × Value → H} {W : World} {base : Nat} {v : Value} {fuel : Nat} {x : DataW H × List MemPlace} (hok : Value.okWide Try.prog W .any base 3 v) (h : DataW.trod enc Try.prog W 0 (fun _ => true) true fuel 3 v.cells.toList = some x) : ∃ z : Int, v = .int .i64 z ∧ -9223372036854775808 ≤ z ∧ z ≤ 9223372036854775807 := by
  unfold Value.okWide at hok
  rw [Try.underlying3] at hok
  have hc1 : v.cells.toList = [v] := by
    unfold Cell.okWide at hok
    rw [Try.underlying3] at hok
    cases v <;> first | rfl | (simp only [Cell.ok, Try.underlying3] at hok)
  rw [hc1] at h
  obtain ⟨n, e, _, hw⟩ := DataW.trod_int Try.underlying3 h
  simp only [List.cons.injEq, and_true] at e
  exact ⟨n, e, wf_i64 hw⟩
theorem Try.cells25 : Try.prog.cellsOf 25 = 4 := by kernel_rfl
theorem Try.cells23 : Try.prog.cellsOf 23 = 1 := by kernel_rfl
theorem Try.cells4 : Try.prog.cellsOf 4 = 1 := by kernel_rfl
theorem Try.types25 : Try.prog.cellTypes Try.prog.depth 25 = some [22, 3, 4, 23] := by kernel_rfl
theorem each3 {H : Type} (t0 t1 t2 t3 : TypeId) (xs : List (DataW H × List MemPlace)) (h : xs.length = 4) (y : Nat) (hy : y ∈ DataW.weights Try.prog t3 (xs[3]'(by omega)).1) : y ∈ DataW.weightsEach Try.prog [t0, t1, t2, t3] (xs.map (·.1)) := by
  match xs, h with
  | [a0, a1, a2, a3], _ =>
    simp only [List.map_cons, List.map_nil, DataW.weightsEach, List.mem_append]
    exact .inr (.inr (.inr (.inl hy)))
structure Prt.ok (p : Prt) : Prop where
  id : p.id < 18446744073709551616
  lo : -9223372036854775808 ≤ p.n
  hi : p.n ≤ 9223372036854775807
  len : p.d.length ≤ 140737488351232
set_option maxRecDepth 100000 in
/-- A part that came in. -/
theorem open_part {H : Type} {enc : TypeId × Value → H} {W : World} {base : Nat} {v : Value} {fuel : Nat} {x : DataW H × List MemPlace} (hok : Value.okWide Try.prog W .any base 25 v) (h : DataW.trod enc Try.prog W 0 (fun _ => true) true fuel 25 v.cells.toList = some x)
    (hw : ∀ y ∈ DataW.weights Try.prog 25 x.1, y ≤ 140737488351232) : ∃ (p : Prt) (vd : Value), v = pv p vd ∧ p.ok ∧ InB W.heap.size W vd p.d := by
  unfold Value.okWide at hok
  rw [Try.underlying25] at hok
  simp only at hok
  obtain ⟨cs, rfl, hsz, ts, hts, _, hcell⟩ := hok
  rw [Try.cells25] at hsz
  rw [Try.types25] at hts
  injection hts with hts
  subst hts
  obtain ⟨l⟩ := cs
  match l, hsz with
  | [v0, v1, v2, v3], _ =>
    have h' : DataW.trod enc Try.prog W 0 (fun _ => true) true fuel 25 [v0, v1, v2, v3] = some x := h
    obtain ⟨xs, k, hk, hxy, _, hxl, hf⟩ := DataW.trod_struct Try.underlying25 h'
    have hl4 : xs.length = 4 := hxl
    have g0 : DataW.trod enc Try.prog W 0 (fun _ => true) true k 22 (([v0, v1, v2, v3].drop 0).take (Try.prog.cellsOf 22)) = xs[0]? := hf 0 _ rfl
    have g1 : DataW.trod enc Try.prog W 0 (fun _ => true) true k 3 (([v0, v1, v2, v3].drop 1).take (Try.prog.cellsOf 3)) = xs[1]? := hf 1 _ rfl
    have g2 : DataW.trod enc Try.prog W 0 (fun _ => true) true k 4 (([v0, v1, v2, v3].drop 2).take (Try.prog.cellsOf 4)) = xs[2]? := hf 2 _ rfl
    have g3 : DataW.trod enc Try.prog W 0 (fun _ => true) true k 23 (([v0, v1, v2, v3].drop 3).take (Try.prog.cellsOf 23)) = xs[3]? := hf 3 _ rfl
    rw [Try.cells22, List.getElem?_eq_getElem (by omega)] at g0
    rw [Try.cells3, List.getElem?_eq_getElem (by omega)] at g1
    rw [Try.cells4, List.getElem?_eq_getElem (by omega)] at g2
    rw [Try.cells23, List.getElem?_eq_getElem (by omega)] at g3
    obtain ⟨n0, e0, _, w0⟩ := DataW.trod_int Try.underlying22 g0
    obtain ⟨n1, e1, _, w1⟩ := DataW.trod_int Try.underlying3 g1
    obtain ⟨b2, e2, _⟩ := DataW.trod_bool Try.underlying4 g2
    simp only [List.drop_zero, List.take_succ_cons, List.take_zero, List.cons.injEq, and_true] at e0
    simp only [List.drop_succ_cons, List.drop_zero, List.take_succ_cons, List.take_zero, List.cons.injEq, and_true] at e1 e2
    obtain ⟨m0, rfl, q0⟩ := wf_u64 w0
    have q1 := wf_i64 w1
    simp only [List.drop_succ_cons, List.drop_zero, List.take_succ_cons, List.take_zero] at g3
    obtain ⟨u, hu, hc3⟩ := hcell 3 v3 rfl
    have hu' : u = 23 := by simpa using hu.symm
    subst hu'
    obtain ⟨d, hd, _⟩ := open_bytes hc3 g3
    obtain ⟨a, c, e, _⟩ := hd.slice
    subst e0 e1 e2
    refine ⟨⟨m0, n1, b2, d⟩, v3, rfl, ⟨q0, q1.1, q1.2, ?_⟩, hd⟩
    rw [e] at g3
    refine weight_bytes g3 fun y hy => hw y ?_
    rw [hxy]
    simp only [DataW.weights, Try.underlying25]
    exact each3 _ _ _ _ xs hl4 y hy
end Go.Proofs.Ythmcmdojnnbefaa
