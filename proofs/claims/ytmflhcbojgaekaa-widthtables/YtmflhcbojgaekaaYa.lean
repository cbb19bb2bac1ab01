/- What came in: runes, spans, small numbers. -/
import Derived.Test.YtmflhcbojgaekaaN
import Derived.ProofKit
import Derived.OpenShut
import Derived.HandedShaped
import Derived.ChangeSlices
import Derived.ChangeArms
import Derived.ChangeOld
import Derived.Deep.SlicePairs
import Derived.Carry
namespace Go.Proofs.Ytmflhcbojgaekaa
open Go.ChangeShapes Go.WideShapes Go.ChangeAt Go.RowKit Go.BigFrame
set_option linter.unusedVariables false
set_option linter.unusedSimpArgs false

theorem own : ownKnob Try.prog.godebug = none := by kernel_rfl
theorem laidOut : laidOutB Try.prog = true := by kernel_rfl
theorem Try.cells21 : Try.prog.cellsOf 21 = 1 := by kernel_rfl
theorem Try.bytes21 : Try.prog.bytesOf 21 = 4 := by kernel_rfl
theorem Try.cells35 : Try.prog.cellsOf 35 = 2 := by kernel_rfl
theorem Try.bytes35 : Try.prog.bytesOf 35 = 8 := by kernel_rfl
set_option maxRecDepth 100000 in
/-- Runes that came in. -/
theorem open_runes {H : Type} {enc : TypeId × Value → H} {W : World} {base R : Nat} {v : Value} {fuel : Nat} {x : DataW H × List MemPlace} (hok : Cell.okWide Try.prog W .any base 22 v) (h : DataW.trod enc Try.prog W 0 (fun _ => true) true fuel 22 [v] = some x)
    (hw : ∀ y ∈ DataW.weights Try.prog 22 x.1, y ≤ R) : ∃ l, Rns W.heap.size W v l ∧ 4 * l.length ≤ R := by
  rcases open_ints Try.underlying22 Try.underlying21 Try.cells21 h with ⟨e, _⟩ | ⟨a, len, cap, zs, e, _, hlc, hcm, hzl, hx, hcell, hwf⟩
  · simp only [List.cons.injEq, and_true] at e
    subst e
    exact ⟨[], ⟨none, 0, rfl, Nat.le_refl _, .inl rfl⟩, Nat.zero_le _⟩
  · simp only [List.cons.injEq, and_true] at e
    subst e
    simp only [if_true] at hzl
    have hsp : a.spot = none := by
      unfold Cell.okWide at hok
      rw [Try.underlying22] at hok
      simp only [Cell.ok, Try.underlying22] at hok
      exact hok.2.2.2.1
    obtain ⟨b, o, sp⟩ := a
    simp only at hsp
    subst hsp
    have hlen : (zs.take len).length = len := by rw [List.length_take]; omega
    have hcl : ∀ k, k < len → W.cell? ⟨b, o + k, none⟩ = some (.int .i32 ((zs.take len).getD k 0)) := by
      intro k hk
      have hc := hcell k (by omega)
      rw [Addr.add_mid] at hc
      rw [hc]
      simp [List.getElem?_take_of_lt hk]
    refine ⟨zs.take len, ⟨_, _, by rw [hlen], by rw [hlen]; exact hlc, ?_⟩, ?_⟩
    · by_cases h0 : len = 0
      · left
        apply List.eq_nil_of_length_eq_zero
        rw [hlen]; exact h0
      · right
        refine ⟨b, o, rfl, ?_, fun k hk => hcl k (by rw [hlen] at hk; exact hk)⟩
        have := hcl 0 (by omega)
        exact World.block_lt_of_cell? W _ this
    · rw [hlen]
      subst hx
      have := hw _ (by simp only [DataW.weights, Try.underlying22]; exact List.mem_cons_self)
      rw [Try.bytes21] at this
      simp [lits] at this
      omega
/-- Runes that came in as an argument. -/
theorem open_runesA {H : Type} {enc : TypeId × Value → H} {W : World} {base R : Nat} {v : Value} {fuel : Nat} {x : DataW H × List MemPlace} (hok : Value.okWide Try.prog W .any base 22 v) (h : DataW.trod enc Try.prog W 0 (fun _ => true) true fuel 22 v.cells.toList = some x)
    (hw : ∀ y ∈ DataW.weights Try.prog 22 x.1, y ≤ R) : ∃ l, Rns W.heap.size W v l ∧ 4 * l.length ≤ R := by
  unfold Value.okWide at hok
  rw [Try.underlying22] at hok
  have hc1 : v.cells.toList = [v] := by
    unfold Cell.okWide at hok
    rw [Try.underlying22] at hok
    cases v <;> first | rfl | (simp only [Cell.ok, Try.underlying22] at hok)
  exact open_runes hok (hc1 ▸ h) hw
/-- Spans that came in. -/
theorem open_spans {H : Type} {enc : TypeId × Value → H} {W : World} {base R : Nat} {v : Value} {fuel : Nat} {x : DataW H × List MemPlace} (hok : Cell.okWide Try.prog W .any base 23 v) (h : DataW.trod enc Try.prog W 0 (fun _ => true) true fuel 23 [v] = some x)
    (hw : ∀ y ∈ DataW.weights Try.prog 23 x.1, y ≤ R) : ∃ l, Sps W.heap.size W v l ∧ 8 * l.length ≤ R := by
  rcases Deep.open_slice_pairs Try.underlying23 Try.underlying35 Try.cells35 rfl rfl Try.cells21 Try.cells21 h with ⟨e, _⟩ | ⟨a, len, cap, m, n, V0, V1, D0, D1, P0, P1, e, hb, hl, hm, hmm, hx, hc⟩
  · simp only [List.cons.injEq, and_true] at e
    subst e
    exact ⟨[], ⟨none, 0, rfl, Nat.le_refl _, .inl rfl⟩, Nat.zero_le _⟩
  · simp only [List.cons.injEq, and_true] at e
    subst e
    simp only [if_true] at hmm
    subst hmm
    have hsp : a.spot = none := by
      unfold Cell.okWide at hok
      rw [Try.underlying23] at hok
      simp only [Cell.ok, Try.underlying23] at hok
      exact hok.2.2.2.1
    obtain ⟨b, o, sp⟩ := a
    simp only at hsp
    subst hsp
    have each : ∀ i, i < len → ∃ q : Int × Int, V0 i = .int .i32 q.1 ∧ V1 i = .int .i32 q.2 := by
      intro i hi
      obtain ⟨_, _, t0, t1⟩ := hc i (by omega)
      obtain ⟨n0, e0, _, w0⟩ := DataW.trod_int Try.underlying21 t0
      obtain ⟨n1, e1, _, _⟩ := DataW.trod_int Try.underlying21 t1
      simp only [List.cons.injEq, and_true] at e0 e1
      exact ⟨(n0, n1), e0, e1⟩
    obtain ⟨q, hq⟩ := Deep.choose_lt each
    have hlen : ((List.range len).map q).length = len := by simp
    refine ⟨(List.range len).map q, ⟨_, _, by rw [hlen], by rw [hlen]; exact hl, ?_⟩, ?_⟩
    · by_cases h0 : len = 0
      · left; subst h0; rfl
      · right
        have hlt : b < W.heap.size := by
          have := (hc 0 (by omega)).1
          rw [Addr.add_mid] at this
          exact World.block_lt_of_cell? W _ this
        refine ⟨b, o, rfl, hlt, fun k hk => ?_⟩
        rw [hlen] at hk
        have h1 := (hc k (by omega)).1
        have h2 := (hc k (by omega)).2.1
        rw [Addr.add_mid] at h1 h2
        have e : ((List.range len).map q).getD k (0, 0) = q k := by simp [hk]
        rw [e, h1, ← Nat.add_assoc] at *
        exact ⟨by rw [(hq k hk).1], by rw [h2, (hq k hk).2]⟩
    · subst hx
      rw [hlen]
      have := hw _ (by simp only [DataW.weights, Try.underlying23]; exact List.mem_cons_self)
      rw [Try.bytes35] at this
      simp at this
      omega
theorem open_spansA {H : Type} {enc : TypeId × Value → H} {W : World} {base R : Nat} {v : Value} {fuel : Nat} {x : DataW H × List MemPlace} (hok : Value.okWide Try.prog W .any base 23 v) (h : DataW.trod enc Try.prog W 0 (fun _ => true) true fuel 23 v.cells.toList = some x)
    (hw : ∀ y ∈ DataW.weights Try.prog 23 x.1, y ≤ R) : ∃ l, Sps W.heap.size W v l ∧ 8 * l.length ≤ R := by
  unfold Value.okWide at hok
  rw [Try.underlying23] at hok
  have hc1 : v.cells.toList = [v] := by
    unfold Cell.okWide at hok
    rw [Try.underlying23] at hok
    cases v <;> first | rfl | (simp only [Cell.ok, Try.underlying23] at hok)
  exact open_spans hok (hc1 ▸ h) hw
set_option maxRecDepth 100000 in
theorem open_u8 {H : Type} {enc : TypeId × Value → H} {W : World} {base : Nat} {v : Value} {fuel : Nat} {x : DataW H × List MemPlace} (hok : Value.okWide Try.prog W .any base 5 v) (h : DataW.trod enc Try.prog W 0 (fun _ => true) true fuel 5 v.cells.toList = some x) : ∃ c : UInt8, v = .int .u8 (c.toNat : Int) := by
  unfold Value.okWide at hok
  rw [Try.underlying5] at hok
  have hc1 : v.cells.toList = [v] := by
    unfold Cell.okWide at hok
    rw [Try.underlying5] at hok
    cases v <;> first | rfl | (simp only [Cell.ok, Try.underlying5] at hok)
  rw [hc1] at h
  obtain ⟨n, e, _, w0⟩ := DataW.trod_int Try.underlying5 h
  simp only [List.cons.injEq, and_true] at e
  simp only [Lit.wf, Bool.and_eq_true, decide_eq_true_eq] at w0
  have h0 : 0 ≤ n := w0.1
  have h1 : n ≤ 255 := w0.2
  refine ⟨UInt8.ofNat n.toNat, ?_⟩
  rw [e, UInt8.toNat_ofNat_of_lt' (by show n.toNat < 256; omega)]
  congr 1; omega
set_option maxRecDepth 100000 in
theorem open_u16 {H : Type} {enc : TypeId × Value → H} {W : World} {base : Nat} {v : Value} {fuel : Nat} {x : DataW H × List MemPlace} (hok : Value.okWide Try.prog W .any base 33 v) (h : DataW.trod enc Try.prog W 0 (fun _ => true) true fuel 33 v.cells.toList = some x) : ∃ c : UInt16, v = .int .u16 (c.toNat : Int) := by
  unfold Value.okWide at hok
  rw [Try.underlying33] at hok
  have hc1 : v.cells.toList = [v] := by
    unfold Cell.okWide at hok
    rw [Try.underlying33] at hok
    cases v <;> first | rfl | (simp only [Cell.ok, Try.underlying33] at hok)
  rw [hc1] at h
  obtain ⟨n, e, _, w0⟩ := DataW.trod_int Try.underlying33 h
  simp only [List.cons.injEq, and_true] at e
  simp only [Lit.wf, Bool.and_eq_true, decide_eq_true_eq] at w0
  have h0 : 0 ≤ n := w0.1
  have h1 : n ≤ 65535 := w0.2
  refine ⟨UInt16.ofNat n.toNat, ?_⟩
  rw [e, UInt16.toNat_ofNat_of_lt' (by show n.toNat < 65536; omega)]
  congr 1; omega
end Go.Proofs.Ytmflhcbojgaekaa
