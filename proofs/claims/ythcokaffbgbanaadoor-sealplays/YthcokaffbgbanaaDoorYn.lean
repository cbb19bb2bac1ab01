/- What SealOnce is handed: a list of slices of bytes. -/
import Derived.Test.YthcokaffbgbanaaDoorYk
import Derived.Test.YthcokaffbgbanaaDoorXo
import Derived.Test.YthcokaffbgbanaaDoorXf
import Derived.Deep.Slices
namespace Go.Proofs.YthcokaffbgbanaaDoor
open Go.ChangeShapes Go.WideShapes Go.RowKit
set_option linter.unusedVariables false
theorem Tryd.bytes26 : Tryd.prog.bytesOf 26 = 24 := by kernel_rfl
theorem Tryd.bytes5 : Tryd.prog.bytesOf 5 = 1 := by kernel_rfl
set_option maxRecDepth 100000 in
theorem open_inE {H : Type} {enc : TypeId × Value → H} {W : World} {v : Value} {fuel : Nat} {x : DataW H × List MemPlace} (h : DataW.trod enc Tryd.prog W 0 (fun _ => true) true fuel 26 [v] = some x) :
    ∃ l, InE W.heap.size W v l ∧ l.length ≤ maxLen := by
  rcases open_ints Tryd.underlying26 Tryd.underlying5 Tryd.cells5 h with ⟨e, _⟩ | ⟨a, len, cap, zs, e, _, hlc, hcm, hzl, _, hcell, hwf⟩
  · simp only [List.cons.injEq, and_true] at e
    subst e
    exact ⟨[], .inl ⟨rfl, rfl⟩, Nat.zero_le _⟩
  · simp only [List.cons.injEq, and_true] at e
    subst e
    simp only [if_true] at hzl
    have hlen : ((zs.take len).map fun z => UInt8.ofNat z.toNat).length = len := by rw [List.length_map, List.length_take]; omega
    have hr : ∀ j u, (((zs.take len).map fun z => UInt8.ofNat z.toNat).map B)[j]? = some u → W.cell? (a.add j) = some u := by
      intro j u hu
      have hj : j < len := by
        have := (List.getElem?_eq_some_iff.1 hu).1
        rw [List.length_map, hlen] at this
        exact this
      rw [hcell j (by omega)]
      have hzj : j < zs.length := by omega
      have hz : zs.getD j 0 = zs[j] := by simp [hzj]
      have hw := hwf zs[j] (List.getElem_mem hzj)
      have hb : 0 ≤ zs[j] ∧ zs[j] ≤ 255 := by
        simp only [Lit.wf] at hw
        simpa [IntKind.min, IntKind.max, IntKind.bits, IntKind.signed] using hw
      simp only [List.getElem?_map, List.getElem?_take_of_lt hj, List.getElem?_eq_getElem hzj, Option.map_some, Option.some.injEq] at hu
      rw [← hu, hz]
      unfold B
      rw [UInt8.toNat_ofNat_of_lt' (by show zs[j].toNat < 256; omega)]
      congr 2
      omega
    refine ⟨(zs.take len).map fun z => UInt8.ofNat z.toNat, .inr ⟨a, cap, by rw [hlen], by rw [hlen]; exact hlc, ?_, hr⟩, by rw [hlen]; exact Nat.le_trans hlc hcm⟩
    by_cases h0 : len = 0
    · left
      apply List.eq_nil_of_length_eq_zero
      rw [hlen]; exact h0
    · right
      have := hcell 0 (by omega)
      have := World.block_lt_of_cell? W _ this
      rwa [add_blk] at this

set_option maxRecDepth 100000 in
theorem open_rows {H : Type} {enc : TypeId × Value → H} {W : World} {base R : Nat} {v : Value} {fuel : Nat} {x : DataW H × List MemPlace} (hok : Cell.okWide Tryd.prog W .any base 59 v) (h : DataW.trod enc Tryd.prog W 0 (fun _ => true) true fuel 59 [v] = some x)
    (hw : ∀ y ∈ DataW.weights Tryd.prog 59 x.1, y ≤ R) : ∃ (la : Option Addr) (ln lc : Nat) (ls : List (List UInt8)), v = .slice la ln lc ∧ ls.length = ln ∧ ln * 24 ≤ R ∧ ∀ k, k < ln → ∃ b o vk, la = some ⟨b, o, none⟩ ∧ b < W.heap.size ∧ W.cell? ⟨b, o + k, none⟩ = some vk ∧ InE W.heap.size W vk (ls.getD k []) ∧ (ls.getD k []).length ≤ maxLen := by
  rcases Deep.open_slice Tryd.underlying59 h with ⟨e, _⟩ | ⟨a, len, cap, m, n, D, Pl, e, hb, hl, hm, hmm, hx, hc⟩
  · simp only [List.cons.injEq, and_true] at e
    subst e
    exact ⟨none, 0, 0, [], rfl, rfl, by omega, fun k hk => by omega⟩
  · simp only [List.cons.injEq, and_true] at e
    subst e
    simp only [if_true] at hmm
    subst hmm
    have hsp : a.spot = none := by
      unfold Cell.okWide at hok
      rw [Tryd.underlying59] at hok
      simp only [Cell.ok, Tryd.underlying59] at hok
      exact hok.2.2.2.1
    obtain ⟨b, o, sp⟩ := a
    simp only at hsp
    subst hsp
    have each : ∀ i, i < len → ∃ (q : List UInt8) (vk : Value), W.cell? ⟨b, o + i, none⟩ = some vk ∧ InE W.heap.size W vk q ∧ q.length ≤ maxLen := by
      intro i hi
      obtain ⟨cs', h1, h2⟩ := hc i (by omega)
      rw [Tryd.cells26'] at h1
      obtain ⟨_, hlen, hcell⟩ := World.cells?_some h1
      match cs', hlen with
      | [v0], _ =>
        obtain ⟨l, g1, g2⟩ := open_inE h2
        have f0 := hcell 0 (by omega)
        rw [Deep.add_add, Addr.add_mid] at f0
        exact ⟨l, v0, by simpa using f0, g1, g2⟩
    obtain ⟨q, hq⟩ : ∃ q : Nat → List UInt8, ∀ i, i < len → ∃ vk : Value, W.cell? ⟨b, o + i, none⟩ = some vk ∧ InE W.heap.size W vk (q i) ∧ (q i).length ≤ maxLen := by
      classical
      exact ⟨fun i => if hi : i < len then Classical.choose (each i hi) else [], fun i hi => by simp only [hi, dif_pos]; exact Classical.choose_spec (each i hi)⟩
    have hlen : ((List.range len).map q).length = len := by simp
    refine ⟨_, _, _, (List.range len).map q, rfl, hlen, ?_, fun k hk => ?_⟩
    · subst hx
      have := hw _ (by simp only [DataW.weights, Tryd.underlying59]; exact List.mem_cons_self)
      rw [Tryd.bytes26] at this
      simp at this
      omega
    · have e : ((List.range len).map q).getD k [] = q k := by simp [hk]
      obtain ⟨vk, c0, c1, c2⟩ := hq k hk
      exact ⟨b, o, vk, rfl, World.block_lt_of_cell? W _ c0, c0, by rw [e]; exact c1, by rw [e]; exact c2⟩
set_option maxRecDepth 100000 in
theorem open_rowsarg {H : Type} {enc : TypeId × Value → H} {W : World} {base R : Nat} {v : Value} {fuel : Nat} {x : DataW H × List MemPlace} (hok : Value.okWide Tryd.prog W .any base 59 v) (h : DataW.trod enc Tryd.prog W 0 (fun _ => true) true fuel 59 v.cells.toList = some x)
    (hw : ∀ y ∈ DataW.weights Tryd.prog 59 x.1, y ≤ R) : ∃ (la : Option Addr) (ln lc : Nat) (ls : List (List UInt8)), v = .slice la ln lc ∧ ls.length = ln ∧ ln * 24 ≤ R ∧ ∀ k, k < ln → ∃ b o vk, la = some ⟨b, o, none⟩ ∧ b < W.heap.size ∧ W.cell? ⟨b, o + k, none⟩ = some vk ∧ InE W.heap.size W vk (ls.getD k []) ∧ (ls.getD k []).length ≤ maxLen := by
  unfold Value.okWide at hok
  rw [Tryd.underlying59] at hok
  have hc1 : v.cells.toList = [v] := by
    unfold Cell.okWide at hok
    rw [Tryd.underlying59] at hok
    cases v <;> first | rfl | (simp only [Cell.ok, Tryd.underlying59] at hok)
  exact open_rows hok (hc1 ▸ h) hw
set_option maxRecDepth 100000 in
/-- Bytes that came in as an argument, with their weight. -/
theorem open_bytesW {H : Type} {enc : TypeId × Value → H} {W : World} {base R : Nat} {v : Value} {fuel : Nat} {x : DataW H × List MemPlace} (hok : Value.okWide Tryd.prog W .any base 26 v) (h : DataW.trod enc Tryd.prog W 0 (fun _ => true) true fuel 26 v.cells.toList = some x)
    (hw : ∀ y ∈ DataW.weights Tryd.prog 26 x.1, y ≤ R) : ∃ (a : Option Addr) (c : Nat) (l : List UInt8), v = .slice a l.length c ∧ Bts (· < W.heap.size) W (.slice a l.length c) l ∧ l.length ≤ R := by
  unfold Value.okWide at hok
  rw [Tryd.underlying26] at hok
  have hc1 : v.cells.toList = [v] := by
    unfold Cell.okWide at hok
    rw [Tryd.underlying26] at hok
    cases v <;> first | rfl | (simp only [Cell.ok, Tryd.underlying26] at hok)
  rw [hc1] at h
  obtain ⟨l, hb, _⟩ := open_bytes hok h
  obtain ⟨a, c, e, _⟩ := hb.slice
  refine ⟨a, c, l, e, e ▸ hb.inE.bts, ?_⟩
  rcases Deep.open_slice Tryd.underlying26 h with ⟨e2, _⟩ | ⟨a2, len, cap, m, n, D, Pl, e2, _, _, _, _, hx, _⟩
  · simp only [List.cons.injEq, and_true] at e2
    rw [e] at e2
    simp only [Value.slice.injEq] at e2
    omega
  · simp only [List.cons.injEq, and_true] at e2
    rw [e] at e2
    simp only [Value.slice.injEq] at e2
    subst hx
    have := hw _ (by simp only [DataW.weights, Tryd.underlying26]; exact List.mem_cons_self)
    rw [Tryd.bytes5] at this
    simp at this
    omega
end Go.Proofs.YthcokaffbgbanaaDoor
