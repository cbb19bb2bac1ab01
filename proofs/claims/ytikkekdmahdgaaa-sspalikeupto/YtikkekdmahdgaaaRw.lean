/- Instructions that came in, bounded by their bulk. -/
import Derived.Test.YtikkekdmahdgaaaRv
import Derived.JoinedCond
namespace Go.Proofs.Ytikkekdmahdgaaa
set_option maxRecDepth 100000
open Go.ChangeShapes Go.WideShapes Go.ChangeAt Go.RowKit Go.BigFrame
set_option linter.unusedVariables false
set_option linter.unusedSimpArgs false
theorem bulk_pos {H : Type} (d : DataW H) : 1 ≤ Rows.uptoBulk d := by
  cases d with
  | lit l => cases l <;> simp [Rows.uptoBulk]
  | _ => simp [Rows.uptoBulk]
theorem bulk_all {H : Type} (l : List (DataW H)) : l.length ≤ Rows.uptoBulkAll l := by
  induction l with
  | nil => exact Nat.zero_le _
  | cons x r ih => have := bulk_pos x; simp only [Rows.uptoBulkAll, List.length_cons]; omega
theorem bulk_mem {H : Type} (l : List (DataW H)) (d : DataW H) (h : d ∈ l) : Rows.uptoBulk d ≤ Rows.uptoBulkAll l := by
  induction l with
  | nil => cases h
  | cons x r ih =>
    simp only [Rows.uptoBulkAll]
    rcases List.mem_cons.1 h with rfl | h
    · omega
    · have := ih h; omega
theorem Try.cells5 : Try.prog.cellsOf 5 = 1 := by kernel_rfl
theorem Try.cells29 : Try.prog.cellsOf 29 = 1 := by kernel_rfl
theorem Try.cells39 : Try.prog.cellsOf 39 = 1 := by kernel_rfl
theorem Try.cells41 : Try.prog.cellsOf 41 = 5 := by kernel_rfl
set_option maxRecDepth 100000 in
/-- A slice of bytes, wherever it was met. -/
theorem open_inE {H : Type} {enc : TypeId × Value → H} {W : World} {v : Value} {fuel : Nat} {x : DataW H × List MemPlace} (h : DataW.trod enc Try.prog W 0 (fun _ => true) true fuel 39 [v] = some x) :
    ∃ l, InE W.heap.size W v l := by
  rcases open_ints Try.underlying39 Try.underlying5 Try.cells5 h with ⟨e, _⟩ | ⟨a, len, cap, zs, e, _, hlc, hcm, hzl, _, hcell, hwf⟩
  · simp only [List.cons.injEq, and_true] at e
    subst e
    exact ⟨[], .inl ⟨rfl, rfl⟩⟩
  · simp only [List.cons.injEq, and_true] at e
    subst e
    simp only [if_true] at hzl
    have hlen : ((zs.take len).map fun z => UInt8.ofNat z.toNat).length = len := by rw [List.length_map, List.length_take]; omega
    have hr : ∀ j u, (((zs.take len).map fun z => UInt8.ofNat z.toNat).map B)[j]? = some u → W.cell? (a.add j) = some u := by
      intro j u hu
      have hj : j < len := by
        have := (List.getElem?_eq_some_iff.1 hu).1
        rw [List.length_map, hlen] at this
        exact this
      rw [hcell j (by omega)]
      have hzj : j < zs.length := by omega
      have hz : zs.getD j 0 = zs[j] := by simp [hzj]
      have hw := hwf zs[j] (List.getElem_mem hzj)
      have hb : 0 ≤ zs[j] ∧ zs[j] ≤ 255 := by
        simp only [Lit.wf] at hw
        simpa [IntKind.min, IntKind.max, IntKind.bits, IntKind.signed] using hw
      simp only [List.getElem?_map, List.getElem?_take_of_lt hj, List.getElem?_eq_getElem hzj, Option.map_some, Option.some.injEq] at hu
      rw [← hu, hz]
      unfold B
      rw [UInt8.toNat_ofNat_of_lt' (by show zs[j].toNat < 256; omega)]
      congr 2
      omega
    refine ⟨(zs.take len).map fun z => UInt8.ofNat z.toNat, .inr ⟨a, cap, by rw [hlen], by rw [hlen]; exact hlc, ?_, hr⟩⟩
    by_cases h0 : len = 0
    · left
      apply List.eq_nil_of_length_eq_zero
      rw [hlen]; exact h0
    · right
      have := hcell 0 (by omega)
      have := World.block_lt_of_cell? W _ this
      rwa [add_blk] at this

set_option maxRecDepth 100000 in
theorem bulk_bytes {H : Type} {enc : TypeId × Value → H} {W : World} {fuel : Nat} {a : Option Addr} {n c : Nat} {x : DataW H × List MemPlace} (h : DataW.trod enc Try.prog W 0 (fun _ => true) true fuel 39 [.slice a n c] = some x) : n ≤ Rows.uptoBulk x.1 := by
  rcases open_ints Try.underlying39 Try.underlying5 Try.cells5 h with ⟨e, _⟩ | ⟨a', len, cap, zs, e, _, hlc, hcm, hzl, hx, _⟩
  · simp only [List.cons.injEq, and_true, Value.slice.injEq] at e
    omega
  · simp only [List.cons.injEq, and_true, Value.slice.injEq] at e
    simp only [if_true] at hzl
    subst hx
    simp only [Rows.uptoBulk]
    refine Nat.le_trans ?_ (Nat.le_trans (bulk_all _) (Nat.le_trans (Nat.le_add_right _ _) (Nat.le_add_right _ _)))
    simp [lits]
    omega

set_option maxRecDepth 100000 in
/-- A text's length is no more than its bulk. -/
theorem open_strU {H : Type} {enc : TypeId × Value → H} {W : World} {base : Nat} {v : Value} {fuel : Nat} {x : DataW H × List MemPlace} (hok : Value.okWide Try.prog W .any base 9 v) (h : DataW.trod enc Try.prog W 0 (fun _ => true) true fuel 9 v.cells.toList = some x) : ∃ t : List UInt8, v = sT t ∧ t.length ≤ Rows.uptoBulk x.1 := by
  unfold Value.okWide at hok
  rw [Try.underlying9] at hok
  have hc1 : v.cells.toList = [v] := by
    unfold Cell.okWide at hok
    rw [Try.underlying9] at hok
    cases v <;> first | rfl | (simp only [Cell.ok, Try.underlying9] at hok)
  rw [hc1] at h
  obtain ⟨s, e, hx, _⟩ := DataW.trod_string Try.underlying9 h
  simp only [List.cons.injEq, and_true] at e
  refine ⟨s.data.toList, by rw [e]; unfold sT; simp, ?_⟩
  rw [hx]; simp [Rows.uptoBulk]
set_option maxRecDepth 100000 in
/-- Instructions that came in. -/
theorem open_insU {H : Type} {enc : TypeId × Value → H} {W : World} {base : Nat} {v : Value} {fuel : Nat} {x : DataW H × List MemPlace} (hok : Cell.okWide Try.prog W .any base 53 v) (h : DataW.trod enc Try.prog W 0 (fun _ => true) true fuel 53 [v] = some x) : ∃ l, InsL W.heap.size W v l ∧ l.length ≤ Rows.uptoBulk x.1 ∧ ∀ y, y ∈ l → y.dif.length ≤ Rows.uptoBulk x.1 := by
  rcases Deep.open_slice Try.underlying53 h with ⟨e, _⟩ | ⟨a, len, cap, m, n, D, Pl, e, hb, hl, hm, hmm, hx, hc⟩
  · simp only [List.cons.injEq, and_true] at e
    subst e
    exact ⟨[], ⟨none, 0, rfl, Nat.le_refl _, fun k hk => by simp at hk⟩, Nat.zero_le _, fun y hy => by simp at hy⟩
  · simp only [List.cons.injEq, and_true] at e
    subst e
    simp only [if_true] at hmm
    subst hmm
    have hsp : a.spot = none := by
      unfold Cell.okWide at hok
      rw [Try.underlying53] at hok
      simp only [Cell.ok, Try.underlying53] at hok
      exact hok.2.2.2.1
    obtain ⟨b, o, sp⟩ := a
    simp only at hsp
    subst hsp
    have each : ∀ i, i < len → ∃ q : Ins, InsAt W.heap.size W b (o + i * 5) q ∧ q.dif.length ≤ Rows.uptoBulk (D i) := by
      intro i hi
      obtain ⟨cs', h1, h2⟩ := hc i (by omega)
      rw [Try.cells41] at h1
      obtain ⟨_, hlen, hcell⟩ := World.cells?_some h1
      obtain ⟨xs, k, hk, hxy, _, hxl, hf⟩ := DataW.trod_struct Try.underlying41 h2
      match cs', hlen with
      | [v0, v1, v2, v3, v4], _ =>
        have hl5 : xs.length = 5 := hxl
        have g0 : DataW.trod enc Try.prog W 0 (fun _ => true) true k 29 (([v0, v1, v2, v3, v4].drop 0).take (Try.prog.cellsOf 29)) = xs[0]? := hf 0 _ rfl
        have g1 : DataW.trod enc Try.prog W 0 (fun _ => true) true k 29 (([v0, v1, v2, v3, v4].drop 1).take (Try.prog.cellsOf 29)) = xs[1]? := hf 1 _ rfl
        have g2 : DataW.trod enc Try.prog W 0 (fun _ => true) true k 29 (([v0, v1, v2, v3, v4].drop 2).take (Try.prog.cellsOf 29)) = xs[2]? := hf 2 _ rfl
        have g3 : DataW.trod enc Try.prog W 0 (fun _ => true) true k 29 (([v0, v1, v2, v3, v4].drop 3).take (Try.prog.cellsOf 29)) = xs[3]? := hf 3 _ rfl
        have g4 : DataW.trod enc Try.prog W 0 (fun _ => true) true k 39 (([v0, v1, v2, v3, v4].drop 4).take (Try.prog.cellsOf 39)) = xs[4]? := hf 4 _ rfl
        rw [Try.cells29, List.getElem?_eq_getElem (by omega)] at g0 g1 g2 g3
        rw [Try.cells39, List.getElem?_eq_getElem (by omega)] at g4
        obtain ⟨n0, e0, _, w0⟩ := DataW.trod_int Try.underlying29 g0
        obtain ⟨n1, e1, _, w1⟩ := DataW.trod_int Try.underlying29 g1
        obtain ⟨n2, e2, _, w2⟩ := DataW.trod_int Try.underlying29 g2
        obtain ⟨n3, e3, _, w3⟩ := DataW.trod_int Try.underlying29 g3
        simp only [List.drop_zero, List.take_succ_cons, List.take_zero, List.cons.injEq, and_true] at e0
        simp only [List.drop_succ_cons, List.drop_zero, List.take_succ_cons, List.take_zero, List.cons.injEq, and_true] at e1 e2 e3
        simp only [List.drop_succ_cons, List.drop_zero, List.take_succ_cons, List.take_zero] at g4
        obtain ⟨y0, rfl⟩ := wf_u64 w0
        obtain ⟨y1, rfl⟩ := wf_u64 w1
        obtain ⟨y2, rfl⟩ := wf_u64 w2
        obtain ⟨y3, rfl⟩ := wf_u64 w3
        obtain ⟨d, hd⟩ := open_inE g4
        obtain ⟨ad, cd, ed, _⟩ := hd.slice
        have hdl : d.length ≤ Rows.uptoBulk (D i) := by
          rw [ed] at g4
          have h4 := bulk_bytes g4
          have hD : D i = .agg (xs.map (·.1)) := congrArg Prod.fst hxy
          rw [hD]
          simp only [Rows.uptoBulk]
          have := bulk_mem (xs.map (·.1)) xs[4].1 (List.mem_map.2 ⟨xs[4], List.getElem_mem _, rfl⟩)
          omega
        have f0 := hcell 0 (by omega)
        have f1 := hcell 1 (by omega)
        have f2 := hcell 2 (by omega)
        have f3 := hcell 3 (by omega)
        have f4 := hcell 4 (by omega)
        rw [Deep.add_add, Addr.add_mid] at f0 f1 f2 f3 f4
        exact ⟨⟨y0, y1, y2, y3, d⟩, ⟨v4, by simpa [e0] using f0, by simpa [e1, Nat.add_assoc] using f1, by simpa [e2, Nat.add_assoc] using f2, by simpa [e3, Nat.add_assoc] using f3, by simpa [Nat.add_assoc] using f4, hd⟩, hdl⟩
    obtain ⟨q, hq⟩ : ∃ q : Nat → Ins, ∀ i, i < len → InsAt W.heap.size W b (o + i * 5) (q i) ∧ (q i).dif.length ≤ Rows.uptoBulk (D i) := by
      classical
      exact ⟨fun i => if hi : i < len then Classical.choose (each i hi) else Ins.none, fun i hi => by simp only [hi, dif_pos]; exact Classical.choose_spec (each i hi)⟩
    have hlen : ((List.range len).map q).length = len := by simp
    refine ⟨(List.range len).map q, ⟨_, _, by rw [hlen], by rw [hlen]; exact hl, fun k hk => ?_⟩, ?_, ?_⟩
    · rw [hlen] at hk
      have e : ((List.range len).map q).getD k Ins.none = q k := by simp [hk]
      obtain ⟨⟨vb, c0, _⟩, _⟩ := hq k hk
      exact ⟨b, o, rfl, World.block_lt_of_cell? W _ c0, by rw [e]; exact (hq k hk).1⟩
    · subst hx
      rw [hlen]
      simp only [Rows.uptoBulk]
      refine Nat.le_trans ?_ (Nat.le_trans (bulk_all _) (Nat.le_trans (Nat.le_add_right _ _) (Nat.le_add_right _ _)))
      simp
    · intro y hy
      obtain ⟨i, hi, rfl⟩ := List.mem_map.1 hy
      have hi := List.mem_range.1 hi
      subst hx
      simp only [Rows.uptoBulk]
      have := bulk_mem ((List.range len).map D) (D i) (List.mem_map.2 ⟨i, List.mem_range.2 hi, rfl⟩)
      have := (hq i hi).2
      omega
theorem difK_bound (xs : List Ins) (m : Nat) (h : ∀ y, y ∈ xs → y.dif.length ≤ m) : difK xs xs.length ≤ xs.length * m := by
  unfold difK
  rw [List.take_length]
  induction xs with
  | nil => simp
  | cons x r ih =>
    have h1 := h x (List.mem_cons_self ..)
    have h2 := ih fun y hy => h y (List.mem_cons_of_mem _ hy)
    simp only [List.map_cons, List.sum_cons, List.length_cons, Nat.add_mul, Nat.one_mul] at h2 ⊢
    omega
end Go.Proofs.Ytikkekdmahdgaaa
