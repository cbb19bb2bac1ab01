/- What came in: parts. -/
import Derived.Test.YthmcmdojnnbefaaOb
namespace Go.Proofs.Ythmcmdojnnbefaa
open Go.ChangeShapes Go.WideShapes Go.ChangeAt Go.RowKit Go.BigFrame

theorem Try.bytes25 : Try.prog.bytesOf 25 = 48 := by kernel_rfl
/-- A part that lies at b, o. -/
def PtAt (N : Nat) (w : World) (b o : Nat) (p : Prt) : Prop := ∃ vb, w.rangeAt b o (prC p vb) ∧ InE N w vb p.d ∧ p.id < 18446744073709551616
/-- Parts behind a slice. -/
def Pts (N : Nat) (w : World) (v : Value) (l : List Prt) : Prop :=
  ∃ a c, v = .slice a l.length c ∧ l.length ≤ c ∧ ∀ k, (hk : k < l.length) → ∃ b o, a = some ⟨b, o, Option.none⟩ ∧ b < N ∧ PtAt N w b (o + k * 4) l[k]
set_option maxRecDepth 100000 in
/-- A slice of bytes, wherever it was met. -/
theorem open_inE {H : Type} {enc : TypeId × Value → H} {W : World} {v : Value} {fuel : Nat} {x : DataW H × List MemPlace} (h : DataW.trod enc Try.prog W 0 (fun _ => true) true fuel 23 [v] = some x) :
    ∃ l, InE W.heap.size W v l := by
  rcases open_ints Try.underlying23 Try.underlying5 Try.cells5 h with ⟨e, _⟩ | ⟨a, len, cap, zs, e, _, hlc, hcm, hzl, _, hcell, hwf⟩
  · simp only [List.cons.injEq, and_true] at e
    subst e
    exact ⟨[], .inl ⟨rfl, rfl⟩⟩
  · simp only [List.cons.injEq, and_true] at e
    subst e
    simp only [if_true] at hzl
    have hlen : ((zs.take len).map fun z => UInt8.ofNat z.toNat).length = len := by rw [List.length_map, List.length_take]; omega
    have hr : ∀ j u, (((zs.take len).map fun z => UInt8.ofNat z.toNat).map B)[j]? = some u → W.cell? (a.add j) = some u := by
      intro j u hu
      have hj : j < len := by
        have := (List.getElem?_eq_some_iff.1 hu).1
        rw [List.length_map, hlen] at this
        exact this
      rw [hcell j (by omega)]
      have hzj : j < zs.length := by omega
      have hz : zs.getD j 0 = zs[j] := by simp [hzj]
      have hw := hwf zs[j] (List.getElem_mem hzj)
      have hb : 0 ≤ zs[j] ∧ zs[j] ≤ 255 := by
        simp only [Lit.wf] at hw
        simpa [IntKind.min, IntKind.max, IntKind.bits, IntKind.signed] using hw
      simp only [List.getElem?_map, List.getElem?_take_of_lt hj, List.getElem?_eq_getElem hzj, Option.map_some, Option.some.injEq] at hu
      rw [← hu, hz]
      unfold B
      rw [UInt8.toNat_ofNat_of_lt' (by show zs[j].toNat < 256; omega)]
      congr 2
      omega
    refine ⟨(zs.take len).map fun z => UInt8.ofNat z.toNat, .inr ⟨a, cap, by rw [hlen], by rw [hlen]; exact hlc, ?_, hr⟩⟩
    by_cases h0 : len = 0
    · left
      apply List.eq_nil_of_length_eq_zero
      rw [hlen]; exact h0
    · right
      have := hcell 0 (by omega)
      have := World.block_lt_of_cell? W _ this
      rwa [add_blk] at this
set_option maxRecDepth 100000 in
/-- Parts that came in. -/
theorem open_pts {H : Type} {enc : TypeId × Value → H} {W : World} {base R : Nat} {v : Value} {fuel : Nat} {x : DataW H × List MemPlace} (hok : Cell.okWide Try.prog W .any base 35 v) (h : DataW.trod enc Try.prog W 0 (fun _ => true) true fuel 35 [v] = some x)
    (hw : ∀ y ∈ DataW.weights Try.prog 35 x.1, y ≤ R) : ∃ l, Pts W.heap.size W v l ∧ l.length ≤ R := by
  rcases Deep.open_slice Try.underlying35 h with ⟨e, _⟩ | ⟨a, len, cap, m, n, D, Pl, e, hb, hl, hm, hmm, hx, hc⟩
  · simp only [List.cons.injEq, and_true] at e
    subst e
    exact ⟨[], ⟨none, 0, rfl, Nat.le_refl _, fun k hk => by simp at hk⟩, Nat.zero_le _⟩
  · simp only [List.cons.injEq, and_true] at e
    subst e
    simp only [if_true] at hmm
    subst hmm
    have hsp : a.spot = none := by
      unfold Cell.okWide at hok
      rw [Try.underlying35] at hok
      simp only [Cell.ok, Try.underlying35] at hok
      exact hok.2.2.2.1
    obtain ⟨b, o, sp⟩ := a
    simp only at hsp
    subst hsp
    have each : ∀ i, i < len → ∃ q : Prt, PtAt W.heap.size W b (o + i * 4) q := by
      intro i hi
      obtain ⟨cs', h1, h2⟩ := hc i (by omega)
      rw [Try.cells25] at h1
      obtain ⟨_, hlen, hcell⟩ := World.cells?_some h1
      obtain ⟨xs, k, hk, hxy, _, hxl, hf⟩ := DataW.trod_struct Try.underlying25 h2
      match cs', hlen with
      | [v0, v1, v2, v3], _ =>
        have hl4 : xs.length = 4 := hxl
        have g0 : DataW.trod enc Try.prog W 0 (fun _ => true) true k 22 (([v0, v1, v2, v3].drop 0).take (Try.prog.cellsOf 22)) = xs[0]? := hf 0 _ rfl
        have g1 : DataW.trod enc Try.prog W 0 (fun _ => true) true k 3 (([v0, v1, v2, v3].drop 1).take (Try.prog.cellsOf 3)) = xs[1]? := hf 1 _ rfl
        have g2 : DataW.trod enc Try.prog W 0 (fun _ => true) true k 4 (([v0, v1, v2, v3].drop 2).take (Try.prog.cellsOf 4)) = xs[2]? := hf 2 _ rfl
        have g3 : DataW.trod enc Try.prog W 0 (fun _ => true) true k 23 (([v0, v1, v2, v3].drop 3).take (Try.prog.cellsOf 23)) = xs[3]? := hf 3 _ rfl
        rw [Try.cells22, List.getElem?_eq_getElem (by omega)] at g0
        rw [Try.cells3, List.getElem?_eq_getElem (by omega)] at g1
        rw [Try.cells4, List.getElem?_eq_getElem (by omega)] at g2
        rw [Try.cells23, List.getElem?_eq_getElem (by omega)] at g3
        obtain ⟨n0, e0, _, w0⟩ := DataW.trod_int Try.underlying22 g0
        obtain ⟨n1, e1, _, _⟩ := DataW.trod_int Try.underlying3 g1
        obtain ⟨b2, e2, _⟩ := DataW.trod_bool Try.underlying4 g2
        simp only [List.drop_zero, List.take_succ_cons, List.take_zero, List.cons.injEq, and_true] at e0
        simp only [List.drop_succ_cons, List.drop_zero, List.take_succ_cons, List.take_zero, List.cons.injEq, and_true] at e1 e2
        simp only [List.drop_succ_cons, List.drop_zero, List.take_succ_cons, List.take_zero] at g3
        obtain ⟨y0, rfl, hy0⟩ := wf_u64 w0
        obtain ⟨d, hd⟩ := open_inE g3
        refine ⟨⟨y0, n1, b2, d⟩, v3, ?_, hd, hy0⟩
        intro j u hu
        have hj : j < 4 := by have := (List.getElem?_eq_some_iff.1 hu).1; simpa [prC] using this
        have f0 := hcell j (by simpa using hj)
        rw [Deep.add_add, Addr.add_mid] at f0
        subst e0 e1 e2
        rcases (show j = 0 ∨ j = 1 ∨ j = 2 ∨ j = 3 by omega) with rfl | rfl | rfl | rfl
        · simp [prC] at hu; subst hu; simpa using f0
        · simp [prC] at hu; subst hu; simpa [Nat.add_assoc] using f0
        · simp [prC] at hu; subst hu; simpa [Nat.add_assoc] using f0
        · simp [prC] at hu; subst hu; simpa [Nat.add_assoc] using f0
    obtain ⟨q, hq⟩ : ∃ q : Nat → Prt, ∀ i, i < len → PtAt W.heap.size W b (o + i * 4) (q i) := by
      classical
      exact ⟨fun i => if hi : i < len then Classical.choose (each i hi) else ⟨0, 0, false, []⟩, fun i hi => by simp only [hi, dif_pos]; exact Classical.choose_spec (each i hi)⟩
    have hlen : ((List.range len).map q).length = len := by simp
    refine ⟨(List.range len).map q, ⟨_, _, by rw [hlen], by rw [hlen]; exact hl, fun k hk => ?_⟩, ?_⟩
    · rw [hlen] at hk
      have e : ((List.range len).map q)[k]'(by rw [hlen]; exact hk) = q k := by simp
      obtain ⟨vb, c0, _⟩ := hq k hk
      exact ⟨b, o, rfl, World.block_lt_of_cell? W _ (c0 0 _ rfl), by rw [e]; exact hq k hk⟩
    · subst hx
      rw [hlen]
      have := hw _ (by simp only [DataW.weights, Try.underlying35]; exact List.mem_cons_self)
      rw [Try.bytes25] at this
      simp at this
      omega
/-- Parts that came in as an argument. -/
theorem open_ptarg {H : Type} {enc : TypeId × Value → H} {W : World} {base R : Nat} {v : Value} {fuel : Nat} {x : DataW H × List MemPlace} (hok : Value.okWide Try.prog W .any base 35 v) (h : DataW.trod enc Try.prog W 0 (fun _ => true) true fuel 35 v.cells.toList = some x)
    (hw : ∀ y ∈ DataW.weights Try.prog 35 x.1, y ≤ R) : ∃ l, Pts W.heap.size W v l ∧ l.length ≤ R := by
  unfold Value.okWide at hok
  rw [Try.underlying35] at hok
  have hc1 : v.cells.toList = [v] := by
    unfold Cell.okWide at hok
    rw [Try.underlying35] at hok
    cases v <;> first | rfl | (simp only [Cell.ok, Try.underlying35] at hok)
  exact open_pts hok (hc1 ▸ h) hw
end Go.Proofs.Ythmcmdojnnbefaa
