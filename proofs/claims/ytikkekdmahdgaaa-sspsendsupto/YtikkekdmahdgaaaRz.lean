/- A script that came in, bounded by its bulk. -/
import Derived.Test.YtikkekdmahdgaaaRw
import Derived.Test.YtikkekdmahdgaaaRy
namespace Go.Proofs.Ytikkekdmahdgaaa
set_option maxRecDepth 100000
open Go.ChangeShapes Go.WideShapes Go.ChangeAt Go.RowKit Go.BigFrame
set_option linter.unusedVariables false
set_option linter.unusedSimpArgs false
theorem Try.cells3 : Try.prog.cellsOf 3 = 1 := by kernel_rfl
theorem Try.cells9 : Try.prog.cellsOf 9 = 1 := by kernel_rfl
theorem Try.cells31 : Try.prog.cellsOf 31 = 5 := by kernel_rfl
theorem wf_u8 {n : Int} (h : (Lit.int .u8 n).wf = true) : ∃ x : UInt8, n = (x.toNat : Int) := by
  simp only [Lit.wf, Bool.and_eq_true, decide_eq_true_eq] at h
  have h0 : 0 ≤ n := h.1
  have h1 : n ≤ 255 := h.2
  exact ⟨UInt8.ofNat n.toNat, by rw [UInt8.toNat_ofNat_of_lt' (show n.toNat < UInt8.size by unfold UInt8.size; omega)]; omega⟩
theorem wf_i64 {n : Int} (h : (Lit.int .i64 n).wf = true) : -9223372036854775808 ≤ n ∧ n < 9223372036854775808 := by
  simp only [Lit.wf, Bool.and_eq_true, decide_eq_true_eq] at h
  have h0 : -9223372036854775808 ≤ n := h.1
  have h1 : n ≤ 9223372036854775807 := h.2
  omega
set_option maxRecDepth 100000 in
/-- A script that came in. -/
theorem open_opsU {H : Type} {enc : TypeId × Value → H} {W : World} {base : Nat} {v : Value} {fuel : Nat} {x : DataW H × List MemPlace} (hok : Cell.okWide Try.prog W .any base 22 v) (h : DataW.trod enc Try.prog W 0 (fun _ => true) true fuel 22 [v] = some x) : ∃ l, OpsL W.heap.size W v l ∧ l.length ≤ Rows.uptoBulk x.1 ∧ ∀ y, y ∈ l → y.t.length ≤ Rows.uptoBulk x.1 := by
  rcases Deep.open_slice Try.underlying22 h with ⟨e, _⟩ | ⟨a, len, cap, m, n, D, Pl, e, hb, hl, hm, hmm, hx, hc⟩
  · simp only [List.cons.injEq, and_true] at e
    subst e
    exact ⟨[], ⟨none, 0, rfl, Nat.le_refl _, fun k hk => by simp at hk⟩, Nat.zero_le _, fun y hy => by simp at hy⟩
  · simp only [List.cons.injEq, and_true] at e
    subst e
    simp only [if_true] at hmm
    subst hmm
    have hsp : a.spot = none := by
      unfold Cell.okWide at hok
      rw [Try.underlying22] at hok
      simp only [Cell.ok, Try.underlying22] at hok
      exact hok.2.2.2.1
    obtain ⟨b, o, sp⟩ := a
    simp only at hsp
    subst hsp
    have each : ∀ i, i < len → ∃ q : Op', OpAt W b (o + i * 5) q ∧ q.t.length ≤ Rows.uptoBulk (D i) := by
      intro i hi
      obtain ⟨cs', h1, h2⟩ := hc i (by omega)
      rw [Try.cells31] at h1
      obtain ⟨_, hlen, hcell⟩ := World.cells?_some h1
      obtain ⟨xs, k, hk, hxy, _, hxl, hf⟩ := DataW.trod_struct Try.underlying31 h2
      match cs', hlen with
      | [v0, v1, v2, v3, v4], _ =>
        have hl5 : xs.length = 5 := hxl
        have g0 : DataW.trod enc Try.prog W 0 (fun _ => true) true k 5 (([v0, v1, v2, v3, v4].drop 0).take (Try.prog.cellsOf 5)) = xs[0]? := hf 0 _ rfl
        have g1 : DataW.trod enc Try.prog W 0 (fun _ => true) true k 29 (([v0, v1, v2, v3, v4].drop 1).take (Try.prog.cellsOf 29)) = xs[1]? := hf 1 _ rfl
        have g2 : DataW.trod enc Try.prog W 0 (fun _ => true) true k 3 (([v0, v1, v2, v3, v4].drop 2).take (Try.prog.cellsOf 3)) = xs[2]? := hf 2 _ rfl
        have g3 : DataW.trod enc Try.prog W 0 (fun _ => true) true k 3 (([v0, v1, v2, v3, v4].drop 3).take (Try.prog.cellsOf 3)) = xs[3]? := hf 3 _ rfl
        have g4 : DataW.trod enc Try.prog W 0 (fun _ => true) true k 9 (([v0, v1, v2, v3, v4].drop 4).take (Try.prog.cellsOf 9)) = xs[4]? := hf 4 _ rfl
        rw [Try.cells5, List.getElem?_eq_getElem (by omega)] at g0
        rw [Try.cells29, List.getElem?_eq_getElem (by omega)] at g1
        rw [Try.cells3, List.getElem?_eq_getElem (by omega)] at g2 g3
        rw [Try.cells9, List.getElem?_eq_getElem (by omega)] at g4
        obtain ⟨n0, e0, _, w0⟩ := DataW.trod_int Try.underlying5 g0
        obtain ⟨n1, e1, _, w1⟩ := DataW.trod_int Try.underlying29 g1
        obtain ⟨n2, e2, _, w2⟩ := DataW.trod_int Try.underlying3 g2
        obtain ⟨n3, e3, _, w3⟩ := DataW.trod_int Try.underlying3 g3
        obtain ⟨s4, e4, x4, _⟩ := DataW.trod_string Try.underlying9 g4
        simp only [List.drop_zero, List.take_succ_cons, List.take_zero, List.cons.injEq, and_true] at e0
        simp only [List.drop_succ_cons, List.drop_zero, List.take_succ_cons, List.take_zero, List.cons.injEq, and_true] at e1 e2 e3 e4
        obtain ⟨y0, rfl⟩ := wf_u8 w0
        obtain ⟨y1, rfl⟩ := wf_u64 w1
        have r2 := wf_i64 w2
        have r3 := wf_i64 w3
        have hdl : s4.data.toList.length ≤ Rows.uptoBulk (D i) := by
          have hD : D i = .agg (xs.map (·.1)) := congrArg Prod.fst hxy
          rw [hD]
          simp only [Rows.uptoBulk]
          have h1 := bulk_mem (xs.map (·.1)) xs[4].1 (List.mem_map.2 ⟨xs[4], List.getElem_mem _, rfl⟩)
          have h2 : s4.data.toList.length ≤ Rows.uptoBulk xs[4].1 := by rw [x4]; simp [Rows.uptoBulk]
          omega
        have f0 := hcell 0 (by omega)
        have f1 := hcell 1 (by omega)
        have f2 := hcell 2 (by omega)
        have f3 := hcell 3 (by omega)
        have f4 := hcell 4 (by omega)
        rw [Deep.add_add, Addr.add_mid] at f0 f1 f2 f3 f4
        exact ⟨⟨y0, y1, n2, n3, s4.data.toList⟩, ⟨by simpa [e0] using f0, by simpa [e1, Nat.add_assoc] using f1, by simpa [e2, Nat.add_assoc] using f2, by simpa [e3, Nat.add_assoc] using f3, by simpa [e4, Nat.add_assoc] using f4, r2.1, r2.2, r3.1, r3.2⟩, hdl⟩
    obtain ⟨q, hq⟩ : ∃ q : Nat → Op', ∀ i, i < len → OpAt W b (o + i * 5) (q i) ∧ (q i).t.length ≤ Rows.uptoBulk (D i) := by
      classical
      exact ⟨fun i => if hi : i < len then Classical.choose (each i hi) else Op'.none, fun i hi => by simp only [hi, dif_pos]; exact Classical.choose_spec (each i hi)⟩
    have hlen : ((List.range len).map q).length = len := by simp
    refine ⟨(List.range len).map q, ⟨_, _, by rw [hlen], by rw [hlen]; exact hl, fun k hk => ?_⟩, ?_, ?_⟩
    · rw [hlen] at hk
      have e : ((List.range len).map q).getD k Op'.none = q k := by simp [hk]
      obtain ⟨⟨c0, _⟩, _⟩ := hq k hk
      exact ⟨b, o, rfl, World.block_lt_of_cell? W _ c0, by rw [e]; exact (hq k hk).1⟩
    · subst hx
      rw [hlen]
      simp only [Rows.uptoBulk]
      refine Nat.le_trans ?_ (Nat.le_trans (bulk_all _) (Nat.le_trans (Nat.le_add_right _ _) (Nat.le_add_right _ _)))
      simp
    · intro y hy
      obtain ⟨i, hi, rfl⟩ := List.mem_map.1 hy
      have hi := List.mem_range.1 hi
      subst hx
      simp only [Rows.uptoBulk]
      have := bulk_mem ((List.range len).map D) (D i) (List.mem_map.2 ⟨i, List.mem_range.2 hi, rfl⟩)
      have := (hq i hi).2
      omega
theorem txtK_bound (xs : List Op') (m : Nat) (h : ∀ y, y ∈ xs → y.t.length ≤ m) : txtK xs xs.length ≤ xs.length * (m + 1) := by
  unfold txtK
  rw [List.take_length]
  induction xs with
  | nil => simp
  | cons x r ih =>
    have h1 := h x (List.mem_cons_self ..)
    have h2 := ih fun y hy => h y (List.mem_cons_of_mem _ hy)
    simp only [List.map_cons, List.sum_cons, List.length_cons, Nat.add_mul, Nat.one_mul] at h2 ⊢
    omega
end Go.Proofs.Ytikkekdmahdgaaa
