/- What came in: events. -/
import Derived.Test.YtciiaopbghjcnaaZ
import Derived.Test.YtciiaopbghjcnaaO
namespace Go.Proofs.Ytciiaopbghjcnaa
open Go.ChangeShapes Go.WideShapes Go.ChangeAt Go.RowKit Go.BigFrame

theorem Try.cells55 : Try.prog.cellsOf 55 = 5 := by kernel_rfl
theorem Try.cells53 : Try.prog.cellsOf 53 = 1 := by kernel_rfl
theorem Try.bytes55 : Try.prog.bytesOf 55 = 56 := by kernel_rfl
set_option maxRecDepth 100000 in
/-- A slice of bytes, wherever it was met. -/
theorem open_inE {H : Type} {enc : TypeId × Value → H} {W : World} {v : Value} {fuel : Nat} {x : DataW H × List MemPlace} (h : DataW.trod enc Try.prog W 0 (fun _ => true) true fuel 23 [v] = some x) :
    ∃ l, InE W.heap.size W v l := by
  rcases open_ints Try.underlying23 Try.underlying5 Try.cells5 h with ⟨e, _⟩ | ⟨a, len, cap, zs, e, _, hlc, hcm, hzl, _, hcell, hwf⟩
  · simp only [List.cons.injEq, and_true] at e
    subst e
    exact ⟨[], .inl ⟨rfl, rfl⟩⟩
  · simp only [List.cons.injEq, and_true] at e
    subst e
    simp only [if_true] at hzl
    have hlen : ((zs.take len).map fun z => UInt8.ofNat z.toNat).length = len := by rw [List.length_map, List.length_take]; omega
    have hr : ∀ j u, (((zs.take len).map fun z => UInt8.ofNat z.toNat).map B)[j]? = some u → W.cell? (a.add j) = some u := by
      intro j u hu
      have hj : j < len := by
        have := (List.getElem?_eq_some_iff.1 hu).1
        rw [List.length_map, hlen] at this
        exact this
      rw [hcell j (by omega)]
      have hzj : j < zs.length := by omega
      have hz : zs.getD j 0 = zs[j] := by simp [hzj]
      have hw := hwf zs[j] (List.getElem_mem hzj)
      have hb : 0 ≤ zs[j] ∧ zs[j] ≤ 255 := by
        simp only [Lit.wf] at hw
        simpa [IntKind.min, IntKind.max, IntKind.bits, IntKind.signed] using hw
      simp only [List.getElem?_map, List.getElem?_take_of_lt hj, List.getElem?_eq_getElem hzj, Option.map_some, Option.some.injEq] at hu
      rw [← hu, hz]
      unfold B
      rw [UInt8.toNat_ofNat_of_lt' (by show zs[j].toNat < 256; omega)]
      congr 2
      omega
    refine ⟨(zs.take len).map fun z => UInt8.ofNat z.toNat, .inr ⟨a, cap, by rw [hlen], by rw [hlen]; exact hlc, ?_, hr⟩⟩
    by_cases h0 : len = 0
    · left
      apply List.eq_nil_of_length_eq_zero
      rw [hlen]; exact h0
    · right
      have := hcell 0 (by omega)
      have := World.block_lt_of_cell? W _ this
      rwa [add_blk] at this
set_option maxRecDepth 100000 in
/-- Events that came in. -/
theorem open_evs {H : Type} {enc : TypeId × Value → H} {W : World} {base R : Nat} {v : Value} {fuel : Nat} {x : DataW H × List MemPlace} (hok : Cell.okWide Try.prog W .any base 45 v) (h : DataW.trod enc Try.prog W 0 (fun _ => true) true fuel 45 [v] = some x)
    (hw : ∀ y ∈ DataW.weights Try.prog 45 x.1, y ≤ R) : ∃ l, Evs W.heap.size W v l ∧ l.length ≤ R := by
  rcases Deep.open_slice Try.underlying45 h with ⟨e, _⟩ | ⟨a, len, cap, m, n, D, Pl, e, hb, hl, hm, hmm, hx, hc⟩
  · simp only [List.cons.injEq, and_true] at e
    subst e
    exact ⟨[], ⟨none, 0, rfl, Nat.le_refl _, fun k hk => by simp at hk⟩, Nat.zero_le _⟩
  · simp only [List.cons.injEq, and_true] at e
    subst e
    simp only [if_true] at hmm
    subst hmm
    have hsp : a.spot = none := by
      unfold Cell.okWide at hok
      rw [Try.underlying45] at hok
      simp only [Cell.ok, Try.underlying45] at hok
      exact hok.2.2.2.1
    obtain ⟨b, o, sp⟩ := a
    simp only at hsp
    subst hsp
    have each : ∀ i, i < len → ∃ q : Ev, EvAt W.heap.size W b (o + i * 5) q := by
      intro i hi
      obtain ⟨cs', h1, h2⟩ := hc i (by omega)
      rw [Try.cells55] at h1
      obtain ⟨_, hlen, hcell⟩ := World.cells?_some h1
      obtain ⟨xs, k, hk, hxy, _, hxl, hf⟩ := DataW.trod_struct Try.underlying55 h2
      match cs', hlen with
      | [v0, v1, v2, v3, v4], _ =>
        have hl5 : xs.length = 5 := hxl
        have g0 : DataW.trod enc Try.prog W 0 (fun _ => true) true k 53 (([v0, v1, v2, v3, v4].drop 0).take (Try.prog.cellsOf 53)) = xs[0]? := hf 0 _ rfl
        have g1 : DataW.trod enc Try.prog W 0 (fun _ => true) true k 23 (([v0, v1, v2, v3, v4].drop 1).take (Try.prog.cellsOf 23)) = xs[1]? := hf 1 _ rfl
        have g2 : DataW.trod enc Try.prog W 0 (fun _ => true) true k 3 (([v0, v1, v2, v3, v4].drop 2).take (Try.prog.cellsOf 3)) = xs[2]? := hf 2 _ rfl
        have g3 : DataW.trod enc Try.prog W 0 (fun _ => true) true k 3 (([v0, v1, v2, v3, v4].drop 3).take (Try.prog.cellsOf 3)) = xs[3]? := hf 3 _ rfl
        have g4 : DataW.trod enc Try.prog W 0 (fun _ => true) true k 5 (([v0, v1, v2, v3, v4].drop 4).take (Try.prog.cellsOf 5)) = xs[4]? := hf 4 _ rfl
        rw [Try.cells53, List.getElem?_eq_getElem (by omega)] at g0
        rw [Try.cells23, List.getElem?_eq_getElem (by omega)] at g1
        rw [Try.cells3, List.getElem?_eq_getElem (by omega)] at g2 g3
        rw [Try.cells5, List.getElem?_eq_getElem (by omega)] at g4
        obtain ⟨n0, e0, _, w0⟩ := DataW.trod_int Try.underlying53 g0
        obtain ⟨n2, e2, _, _⟩ := DataW.trod_int Try.underlying3 g2
        obtain ⟨n3, e3, _, _⟩ := DataW.trod_int Try.underlying3 g3
        obtain ⟨n4, e4, _, w4⟩ := DataW.trod_int Try.underlying5 g4
        simp only [List.drop_zero, List.take_succ_cons, List.take_zero, List.cons.injEq, and_true] at e0
        simp only [List.drop_succ_cons, List.drop_zero, List.take_succ_cons, List.take_zero, List.cons.injEq, and_true] at e2 e3 e4
        simp only [List.drop_succ_cons, List.drop_zero, List.take_succ_cons, List.take_zero] at g1
        obtain ⟨y0, rfl⟩ := wf_u8 w0
        obtain ⟨y4, rfl⟩ := wf_u8 w4
        obtain ⟨d, hd⟩ := open_inE g1
        have f0 := hcell 0 (by omega)
        have f1 := hcell 1 (by omega)
        have f2 := hcell 2 (by omega)
        have f3 := hcell 3 (by omega)
        have f4 := hcell 4 (by omega)
        rw [Deep.add_add, Addr.add_mid] at f0 f1 f2 f3 f4
        exact ⟨⟨y0, d, n2, n3, y4⟩, v1, by simpa [e0] using f0, by simpa [Nat.add_assoc] using f1, by simpa [e2, Nat.add_assoc] using f2, by simpa [e3, Nat.add_assoc] using f3, by simpa [e4, Nat.add_assoc] using f4, hd⟩
    obtain ⟨q, hq⟩ : ∃ q : Nat → Ev, ∀ i, i < len → EvAt W.heap.size W b (o + i * 5) (q i) := by
      classical
      exact ⟨fun i => if hi : i < len then Classical.choose (each i hi) else Ev.none, fun i hi => by simp only [hi, dif_pos]; exact Classical.choose_spec (each i hi)⟩
    have hlen : ((List.range len).map q).length = len := by simp
    refine ⟨(List.range len).map q, ⟨_, _, by rw [hlen], by rw [hlen]; exact hl, fun k hk => ?_⟩, ?_⟩
    · rw [hlen] at hk
      have e : ((List.range len).map q).getD k Ev.none = q k := by simp [hk]
      obtain ⟨vb, c0, _⟩ := hq k hk
      exact ⟨b, o, rfl, World.block_lt_of_cell? W _ c0, by rw [e]; exact hq k hk⟩
    · subst hx
      rw [hlen]
      have := hw _ (by simp only [DataW.weights, Try.underlying45]; exact List.mem_cons_self)
      rw [Try.bytes55] at this
      simp at this
      omega
/-- Events that came in as an argument. -/
theorem open_evarg {H : Type} {enc : TypeId × Value → H} {W : World} {base R : Nat} {v : Value} {fuel : Nat} {x : DataW H × List MemPlace} (hok : Value.okWide Try.prog W .any base 45 v) (h : DataW.trod enc Try.prog W 0 (fun _ => true) true fuel 45 v.cells.toList = some x)
    (hw : ∀ y ∈ DataW.weights Try.prog 45 x.1, y ≤ R) : ∃ l, Evs W.heap.size W v l ∧ l.length ≤ R := by
  unfold Value.okWide at hok
  rw [Try.underlying45] at hok
  have hc1 : v.cells.toList = [v] := by
    unfold Cell.okWide at hok
    rw [Try.underlying45] at hok
    cases v <;> first | rfl | (simp only [Cell.ok, Try.underlying45] at hok)
  exact open_evs hok (hc1 ▸ h) hw
end Go.Proofs.Ytciiaopbghjcnaa
