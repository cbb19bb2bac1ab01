/- What came in: numbers in a row, bytes. -/
import Derived.Test.YtcppfoolhkcfaaaH
import Derived.ProofKit
import Derived.OpenShut
import Derived.HandedShaped
import Derived.ChangeSlices
import Derived.ChangeArms
import Derived.ChangeOld
import Derived.Carry
namespace Go.Proofs.Ytcppfoolhkcfaaa
open Go.ChangeShapes Go.WideShapes Go.ChangeAt Go.RowKit

theorem Try.cells5 : Try.prog.cellsOf 5 = 1 := by kernel_rfl
theorem Try.cells3 : Try.prog.cellsOf 3 = 1 := by kernel_rfl
theorem Try.bytes5 : Try.prog.bytesOf 5 = 1 := by kernel_rfl
theorem Try.bytes3 : Try.prog.bytesOf 3 = 8 := by kernel_rfl
/-- A slice of bytes that came in. -/
theorem open_bytes {H : Type} {enc : TypeId × Value → H} {W : World} {base : Nat} {v : Value} {fuel : Nat} {x : DataW H × List MemPlace} (hok : Cell.okWide Try.prog W .any base 23 v) (h : DataW.trod enc Try.prog W 0 (fun _ => true) true fuel 23 [v] = some x) :
    ∃ l, Bts (· < W.heap.size) W v l ∧ l.length ≤ maxLen := by
  rcases open_ints Try.underlying23 Try.underlying5 Try.cells5 h with ⟨e, _⟩ | ⟨a, len, cap, zs, e, _, hlc, hcm, hzl, _, hcell, hwf⟩
  · simp only [List.cons.injEq, and_true] at e
    subst e
    exact ⟨[], ⟨none, 0, rfl, Nat.le_refl _, .inl rfl⟩, Nat.zero_le _⟩
  · simp only [List.cons.injEq, and_true] at e
    subst e
    simp only [if_true] at hzl
    have hsp : a.spot = none := by
      unfold Cell.okWide at hok
      rw [Try.underlying23] at hok
      simp only [Cell.ok, Try.underlying23] at hok
      exact hok.2.2.2.1
    obtain ⟨b, o, sp⟩ := a
    simp only at hsp
    subst hsp
    have hlen : ((zs.take len).map fun z => UInt8.ofNat z.toNat).length = len := by rw [List.length_map, List.length_take]; omega
    refine ⟨(zs.take len).map fun z => UInt8.ofNat z.toNat, ⟨_, _, by rw [hlen], by rw [hlen]; exact hlc, ?_⟩, by rw [hlen]; omega⟩
    by_cases h0 : len = 0
    · left
      apply List.eq_nil_of_length_eq_zero
      rw [hlen]; exact h0
    · right
      have hr : W.rangeAt b o (((zs.take len).map fun z => UInt8.ofNat z.toNat).map B) := by
        intro j u hu
        have hj : j < len := by
          have := (List.getElem?_eq_some_iff.1 hu).1
          rw [List.length_map, hlen] at this
          exact this
        have hc := hcell j (by omega)
        rw [Addr.add_mid] at hc
        rw [hc]
        have hzj : j < zs.length := by omega
        have hz : zs.getD j 0 = zs[j] := by simp [hzj]
        have hw := hwf zs[j] (List.getElem_mem hzj)
        have hb : 0 ≤ zs[j] ∧ zs[j] ≤ 255 := by
          simp only [Lit.wf] at hw
          simpa [IntKind.min, IntKind.max, IntKind.bits, IntKind.signed] using hw
        simp only [List.getElem?_map, List.getElem?_take_of_lt hj, List.getElem?_eq_getElem hzj, Option.map_some, Option.some.injEq] at hu
        rw [← hu, hz]
        unfold B
        rw [UInt8.toNat_ofNat_of_lt' (by show zs[j].toNat < 256; omega)]
        congr 2
        omega
      exact ⟨b, o, rfl, range_lt hr (by rw [hlen]; omega), hr⟩

theorem weight_bytes {H : Type} {enc : TypeId × Value → H} {W : World} {fuel : Nat} {a : Option Addr} {n c R : Nat} {x : DataW H × List MemPlace} (h : DataW.trod enc Try.prog W 0 (fun _ => true) true fuel 23 [.slice a n c] = some x)
    (hw : ∀ y ∈ DataW.weights Try.prog 23 x.1, y ≤ R) : n ≤ R := by
  rcases open_ints Try.underlying23 Try.underlying5 Try.cells5 h with ⟨e, _⟩ | ⟨a', len, cap, zs, e, _, hlc, hcm, hzl, hx, _⟩
  · simp only [List.cons.injEq, and_true, Value.slice.injEq] at e
    omega
  · simp only [List.cons.injEq, and_true, Value.slice.injEq] at e
    simp only [if_true] at hzl
    subst hx
    have := hw _ (by simp only [DataW.weights, Try.underlying23]; exact List.mem_cons_self)
    rw [Try.bytes5] at this
    simp [lits] at this
    omega

/-- A slice of numbers that came in. -/
theorem open_nums {H : Type} {enc : TypeId × Value → H} {W : World} {base : Nat} {v : Value} {fuel : Nat} {x : DataW H × List MemPlace} (hok : Cell.okWide Try.prog W .any base 22 v) (h : DataW.trod enc Try.prog W 0 (fun _ => true) true fuel 22 [v] = some x)
    (hw : ∀ y ∈ DataW.weights Try.prog 22 x.1, y ≤ 140737488351232) : ∃ l, Ints W.heap.size W v l ∧ l.length ≤ 17592186044416 := by
  rcases open_ints Try.underlying22 Try.underlying3 Try.cells3 h with ⟨e, _⟩ | ⟨a, len, cap, zs, e, _, hlc, hcm, hzl, hx, hcell, hwf⟩
  · simp only [List.cons.injEq, and_true] at e
    subst e
    exact ⟨[], ⟨none, 0, rfl, Nat.le_refl _, .inl rfl⟩, Nat.zero_le _⟩
  · simp only [List.cons.injEq, and_true] at e
    subst e
    simp only [if_true] at hzl
    have hsp : a.spot = none := by
      unfold Cell.okWide at hok
      rw [Try.underlying22] at hok
      simp only [Cell.ok, Try.underlying22] at hok
      exact hok.2.2.2.1
    obtain ⟨b, o, sp⟩ := a
    simp only at hsp
    subst hsp
    have hlen : (zs.take len).length = len := by rw [List.length_take]; omega
    refine ⟨zs.take len, ⟨_, _, by rw [hlen], by rw [hlen]; exact hlc, ?_⟩, ?_⟩
    · by_cases h0 : len = 0
      · left
        apply List.eq_nil_of_length_eq_zero
        rw [hlen]; exact h0
      · right
        have hr : ∀ k, k < len → W.cell? ⟨b, o + k, none⟩ = some (.int .i64 ((zs.take len).getD k 0)) := by
          intro k hk
          have hc := hcell k (by omega)
          rw [Addr.add_mid] at hc
          rw [hc]
          have hzk : k < zs.length := by omega
          simp [hk]
        refine ⟨b, o, rfl, World.block_lt_of_cell? W _ (hr 0 (by omega)), ?_⟩
        rw [hlen]; exact hr
    · subst hx
      have := hw _ (by simp only [DataW.weights, Try.underlying22]; exact List.mem_cons_self)
      rw [Try.bytes3] at this
      simp [lits] at this
      rw [hlen]
      omega
theorem open_num {H : Type} {enc : TypeId × Value → H} {W : World} {base : Nat} {v : Value} {fuel : Nat} {x : DataW H × List MemPlace} (hok : Value.okWide Try.prog W .any base 3 v) (h : DataW.trod enc Try.prog W 0 (fun _ => true) true fuel 3 v.cells.toList = some x) :
    ∃ z : Int, v = .int .i64 z ∧ z ≤ 9223372036854775807 := by
  obtain ⟨n0, e0, _, w0⟩ := DataW.trod_int Try.underlying3 h
  have hv : v = .int .i64 n0 := by
    unfold Value.okWide at hok
    rw [Try.underlying3] at hok
    unfold Cell.okWide at hok
    rw [Try.underlying3] at hok
    cases v <;> simp only [Cell.ok, Try.underlying3] at hok
    simpa [Value.cells] using e0
  refine ⟨n0, hv, ?_⟩
  simp only [Lit.wf, Bool.and_eq_true, decide_eq_true_eq] at w0
  exact w0.2
end Go.Proofs.Ytcppfoolhkcfaaa
