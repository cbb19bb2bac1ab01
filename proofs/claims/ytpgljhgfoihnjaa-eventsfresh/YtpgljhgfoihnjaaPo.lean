/- What came in: events with what they bear, what Apply is handed. -/
import Derived.Test.YtpgljhgfoihnjaaKo
import Derived.Test.YtpgljhgfoihnjaaO
namespace Go.Proofs.Ytpgljhgfoihnjaa
open Go.ChangeShapes Go.WideShapes Go.ChangeAt Go.RowKit Go.BigFrame
set_option linter.unusedVariables false
set_option linter.unusedSimpArgs false

theorem Try.bytes48 : Try.prog.bytesOf 48 = 56 := by kernel_rfl
theorem Try.cells25 : Try.prog.cellsOf 25 = 2 := by kernel_rfl
theorem Try.types25 : Try.prog.cellTypes Try.prog.depth 25 = some [23, 3] := by kernel_rfl
theorem all_mem {H : Type} {P : Program} {e : TypeId} {l : List (DataW H)} {d : DataW H} (h : d ∈ l) {y : Nat} (hy : y ∈ DataW.weights P e d) : y ∈ DataW.weightsAll P e l := by
  induction l with
  | nil => simp at h
  | cons a r ih =>
    simp only [DataW.weightsAll, List.mem_append]
    rcases List.mem_cons.1 h with rfl | h
    · exact .inl hy
    · exact .inr (ih h)
theorem each1 {H : Type} (t0 t1 t2 t3 t4 : TypeId) (xs : List (DataW H × List MemPlace)) (h : xs.length = 5) (y : Nat) (hy : y ∈ DataW.weights Try.prog t1 (xs[1]'(by omega)).1) : y ∈ DataW.weightsEach Try.prog [t0, t1, t2, t3, t4] (xs.map (·.1)) := by
  match xs, h with
  | [a0, a1, a2, a3, a4], _ =>
    simp only [List.map_cons, List.map_nil, DataW.weightsEach, List.mem_append]
    exact .inr (.inl hy)
theorem each0 {H : Type} (t0 t1 : TypeId) (xs : List (DataW H × List MemPlace)) (h : xs.length = 2) (y : Nat) (hy : y ∈ DataW.weights Try.prog t0 (xs[0]'(by omega)).1) : y ∈ DataW.weightsEach Try.prog [t0, t1] (xs.map (·.1)) := by
  match xs, h with
  | [a0, a1], _ =>
    simp only [List.map_cons, List.map_nil, DataW.weightsEach, List.mem_append]
    exact .inl hy
set_option maxRecDepth 100000 in
/-- Events that came in, with what they bear. -/
theorem open_evsB {H : Type} {enc : TypeId × Value → H} {W : World} {base R : Nat} {v : Value} {fuel : Nat} {x : DataW H × List MemPlace} (hok : Cell.okWide Try.prog W .any base 22 v) (h : DataW.trod enc Try.prog W 0 (fun _ => true) true fuel 22 [v] = some x)
    (hw : ∀ y ∈ DataW.weights Try.prog 22 x.1, y ≤ R) : ∃ l, Evs W.heap.size W v l ∧ l.length * 56 ≤ R ∧ ∀ k, k < l.length → (l.getD k Ev.none).byt.length ≤ R := by
  rcases Deep.open_slice Try.underlying22 h with ⟨e, _⟩ | ⟨a, len, cap, m, n, D, Pl, e, hb, hl, hm, hmm, hx, hc⟩
  · simp only [List.cons.injEq, and_true] at e
    subst e
    exact ⟨[], ⟨none, 0, rfl, Nat.le_refl _, fun k hk => by simp at hk⟩, by simp, fun k hk => by simp at hk⟩
  · simp only [List.cons.injEq, and_true] at e
    subst e
    simp only [if_true] at hmm
    subst hmm
    have hsp : a.spot = none := by
      unfold Cell.okWide at hok
      rw [Try.underlying22] at hok
      simp only [Cell.ok, Try.underlying22] at hok
      exact hok.2.2.2.1
    obtain ⟨b, o, sp⟩ := a
    simp only at hsp
    subst hsp
    have each : ∀ i, i < len → ∃ q : Ev, EvAt W.heap.size W b (o + i * 5) q ∧ q.byt.length ≤ R := by
      intro i hi
      obtain ⟨cs', h1, h2⟩ := hc i (by omega)
      rw [Try.cells48] at h1
      obtain ⟨_, hlen, hcell⟩ := World.cells?_some h1
      obtain ⟨xs, k, hk, hxy, _, hxl, hf⟩ := DataW.trod_struct Try.underlying48 h2
      match cs', hlen with
      | [v0, v1, v2, v3, v4], _ =>
        have hl5 : xs.length = 5 := hxl
        have g0 : DataW.trod enc Try.prog W 0 (fun _ => true) true k 46 (([v0, v1, v2, v3, v4].drop 0).take (Try.prog.cellsOf 46)) = xs[0]? := hf 0 _ rfl
        have g1 : DataW.trod enc Try.prog W 0 (fun _ => true) true k 23 (([v0, v1, v2, v3, v4].drop 1).take (Try.prog.cellsOf 23)) = xs[1]? := hf 1 _ rfl
        have g2 : DataW.trod enc Try.prog W 0 (fun _ => true) true k 3 (([v0, v1, v2, v3, v4].drop 2).take (Try.prog.cellsOf 3)) = xs[2]? := hf 2 _ rfl
        have g3 : DataW.trod enc Try.prog W 0 (fun _ => true) true k 3 (([v0, v1, v2, v3, v4].drop 3).take (Try.prog.cellsOf 3)) = xs[3]? := hf 3 _ rfl
        have g4 : DataW.trod enc Try.prog W 0 (fun _ => true) true k 5 (([v0, v1, v2, v3, v4].drop 4).take (Try.prog.cellsOf 5)) = xs[4]? := hf 4 _ rfl
        rw [Try.cells46, List.getElem?_eq_getElem (by omega)] at g0
        rw [Try.cells23, List.getElem?_eq_getElem (by omega)] at g1
        rw [Try.cells3, List.getElem?_eq_getElem (by omega)] at g2 g3
        rw [Try.cells5, List.getElem?_eq_getElem (by omega)] at g4
        obtain ⟨n0, e0, _, w0⟩ := DataW.trod_int Try.underlying46 g0
        obtain ⟨n2, e2, _, _⟩ := DataW.trod_int Try.underlying3 g2
        obtain ⟨n3, e3, _, _⟩ := DataW.trod_int Try.underlying3 g3
        obtain ⟨n4, e4, _, w4⟩ := DataW.trod_int Try.underlying5 g4
        simp only [List.drop_zero, List.take_succ_cons, List.take_zero, List.cons.injEq, and_true] at e0
        simp only [List.drop_succ_cons, List.drop_zero, List.take_succ_cons, List.take_zero, List.cons.injEq, and_true] at e2 e3 e4
        simp only [List.drop_succ_cons, List.drop_zero, List.take_succ_cons, List.take_zero] at g1
        obtain ⟨y0, rfl⟩ := wf_u8 w0
        obtain ⟨y4, rfl⟩ := wf_u8 w4
        obtain ⟨d, hd⟩ := open_inE g1
        have hdl : d.length ≤ R := by
          obtain ⟨a1, c1, ev1, _⟩ := hd.slice
          rw [ev1] at g1
          refine weight_bytes g1 fun y hy => hw y ?_
          rw [hx]
          simp only [DataW.weights, Try.underlying22]
          refine List.mem_cons_of_mem _ (List.mem_append_left _ (all_mem (List.mem_map.2 ⟨i, List.mem_range.2 hi, rfl⟩) ?_))
          rw [show D i = DataW.agg (List.map (fun x => x.fst) xs) from congrArg Prod.fst hxy]
          simp only [DataW.weights, Try.underlying48]
          exact each1 _ _ _ _ _ xs hl5 y hy
        have f0 := hcell 0 (by omega)
        have f1 := hcell 1 (by omega)
        have f2 := hcell 2 (by omega)
        have f3 := hcell 3 (by omega)
        have f4 := hcell 4 (by omega)
        rw [Deep.add_add, Addr.add_mid] at f0 f1 f2 f3 f4
        exact ⟨⟨y0, d, n2, n3, y4⟩, ⟨v1, by simpa [e0] using f0, by simpa [Nat.add_assoc] using f1, by simpa [e2, Nat.add_assoc] using f2, by simpa [e3, Nat.add_assoc] using f3, by simpa [e4, Nat.add_assoc] using f4, hd⟩, hdl⟩
    obtain ⟨q, hq⟩ : ∃ q : Nat → Ev, ∀ i, i < len → EvAt W.heap.size W b (o + i * 5) (q i) ∧ (q i).byt.length ≤ R := by
      classical
      exact ⟨fun i => if hi : i < len then Classical.choose (each i hi) else Ev.none, fun i hi => by simp only [hi, dif_pos]; exact Classical.choose_spec (each i hi)⟩
    have hlen : ((List.range len).map q).length = len := by simp
    refine ⟨(List.range len).map q, ⟨_, _, by rw [hlen], by rw [hlen]; exact hl, fun k hk => ?_⟩, ?_, fun k hk => ?_⟩
    · rw [hlen] at hk
      have e : ((List.range len).map q).getD k Ev.none = q k := by simp [hk]
      obtain ⟨vb, c0, _⟩ := (hq k hk).1
      exact ⟨b, o, rfl, World.block_lt_of_cell? W _ c0, by rw [e]; exact (hq k hk).1⟩
    · subst hx
      rw [hlen]
      have := hw _ (by simp only [DataW.weights, Try.underlying22]; exact List.mem_cons_self)
      rw [Try.bytes48] at this
      simp at this
      omega
    · rw [hlen] at hk
      have e : ((List.range len).map q).getD k Ev.none = q k := by simp [hk]
      rw [e]
      exact (hq k hk).2
set_option maxRecDepth 100000 in
theorem open_evargB {H : Type} {enc : TypeId × Value → H} {W : World} {base R : Nat} {v : Value} {fuel : Nat} {x : DataW H × List MemPlace} (hok : Value.okWide Try.prog W .any base 22 v) (h : DataW.trod enc Try.prog W 0 (fun _ => true) true fuel 22 v.cells.toList = some x)
    (hw : ∀ y ∈ DataW.weights Try.prog 22 x.1, y ≤ R) : ∃ l, Evs W.heap.size W v l ∧ l.length * 56 ≤ R ∧ ∀ k, k < l.length → (l.getD k Ev.none).byt.length ≤ R := by
  unfold Value.okWide at hok
  rw [Try.underlying22] at hok
  have hc1 : v.cells.toList = [v] := by
    unfold Cell.okWide at hok
    rw [Try.underlying22] at hok
    cases v <;> first | rfl | (simp only [Cell.ok, Try.underlying22] at hok)
  exact open_evsB hok (hc1 ▸ h) hw
set_option maxRecDepth 100000 in
/-- What Apply is handed: bytes and a number. -/
theorem open_dn {H : Type} {enc : TypeId × Value → H} {W : World} {base R : Nat} {v : Value} {fuel : Nat} {x : DataW H × List MemPlace} (hok : Value.okWide Try.prog W .any base 25 v) (h : DataW.trod enc Try.prog W 0 (fun _ => true) true fuel 25 v.cells.toList = some x)
    (hw : ∀ y ∈ DataW.weights Try.prog 25 x.1, y ≤ R) : ∃ (vd : Value) (d : List UInt8) (n : Int), v = .agg #[vd, .int .i64 n] ∧ InB W.heap.size W vd d ∧ d.length ≤ R := by
  unfold Value.okWide at hok
  rw [Try.underlying25] at hok
  simp only at hok
  obtain ⟨cs, rfl, hsz, ts, hts, _, hcell⟩ := hok
  rw [Try.cells25] at hsz
  rw [Try.types25] at hts
  injection hts with hts
  subst hts
  obtain ⟨l⟩ := cs
  match l, hsz with
  | [v0, v1], _ =>
    have h' : DataW.trod enc Try.prog W 0 (fun _ => true) true fuel 25 [v0, v1] = some x := h
    obtain ⟨xs, k, hk, hxy, _, hxl, hf⟩ := DataW.trod_struct Try.underlying25 h'
    have hl4 : xs.length = 2 := hxl
    have g0 : DataW.trod enc Try.prog W 0 (fun _ => true) true k 23 (([v0, v1].drop 0).take (Try.prog.cellsOf 23)) = xs[0]? := hf 0 _ rfl
    have g1 : DataW.trod enc Try.prog W 0 (fun _ => true) true k 3 (([v0, v1].drop 1).take (Try.prog.cellsOf 3)) = xs[1]? := hf 1 _ rfl
    rw [Try.cells3, List.getElem?_eq_getElem (by omega)] at g1
    rw [Try.cells23, List.getElem?_eq_getElem (by omega)] at g0
    obtain ⟨n1, e1, _, w1⟩ := DataW.trod_int Try.underlying3 g1
    simp only [List.drop_zero, List.drop_succ_cons, List.take_succ_cons, List.take_zero, List.cons.injEq, and_true] at e1
    simp only [List.drop_zero, List.take_succ_cons, List.take_zero] at g0
    obtain ⟨u, hu, hc0⟩ := hcell 0 v0 rfl
    have hu' : u = 23 := by simpa using hu.symm
    subst hu'
    obtain ⟨d, hd, _⟩ := open_bytes hc0 g0
    obtain ⟨a1, c1, ev1, _⟩ := hd.slice
    refine ⟨v0, d, n1, by rw [e1], hd, ?_⟩
    rw [ev1] at g0
    refine weight_bytes g0 fun y hy => hw y ?_
    rw [hxy]
    simp only [DataW.weights, Try.underlying25]
    exact each0 _ _ xs hl4 y hy
end Go.Proofs.Ytpgljhgfoihnjaa
