/- Texts, bytes that came in, by bulk. -/
import Derived.Test.YtikkekdmahdgaaaSh
import Derived.Test.YtikkekdmahdgaaaRw
namespace Go.Proofs.Ytikkekdmahdgaaa
set_option maxRecDepth 100000
open Go.ChangeShapes Go.WideShapes Go.ChangeAt Go.RowKit Go.BigFrame
set_option linter.unusedSimpArgs false
set_option linter.unusedVariables false

theorem Try.cells9t : Try.prog.cellsOf 9 = 1 := by kernel_rfl
theorem inE_by {N : Nat} {w : World} {v : Value} {l : List UInt8} (h : InE N w v l) : ByL N w v l := by
  rcases h with ⟨rfl, rfl⟩ | ⟨a, c, rfl, hc, h3, h4⟩
  · exact ⟨_, _, rfl, Nat.le_refl _, fun k hk => by simp at hk⟩
  · refine ⟨_, c, rfl, hc, fun k hk => ?_⟩
    have h0 := h4 k (B l[k]) (by simp [hk])
    have h00 := h4 0 (B (l[0]'(by omega))) (by simp [show 0 < l.length by omega])
    obtain ⟨b, o, sp⟩ := a
    have hsp : sp = none := by
      cases sp with
      | none => rfl
      | some q =>
        exfalso
        unfold World.cell? at h00
        split at h00
        · simp [Addr.add] at h00
        · cases h00
    subst hsp
    rw [Addr.add_mid] at h0
    refine ⟨b, o, rfl, ?_, by rw [h0, show l.getD k 0 = l[k] by simp [hk]]; rfl⟩
    rcases h3 with q | q
    · subst q; simp at hk
    · exact q
set_option maxRecDepth 100000 in
/-- Texts that came in. -/
theorem open_txsU {H : Type} {enc : TypeId × Value → H} {W : World} {base : Nat} {v : Value} {fuel : Nat} {x : DataW H × List MemPlace} (hok : Cell.okWide Try.prog W .any base 70 v) (h : DataW.trod enc Try.prog W 0 (fun _ => true) true fuel 70 [v] = some x) : ∃ l : List (List UInt8), TxL W.heap.size W v l ∧ l.length ≤ Rows.uptoBulk x.1 ∧ ∀ y, y ∈ l → y.length ≤ Rows.uptoBulk x.1 := by
  rcases Deep.open_slice Try.under70 h with ⟨e, _⟩ | ⟨a, len, cap, m, n, D, Pl, e, hb, hl, hm, hmm, hx, hc⟩
  · simp only [List.cons.injEq, and_true] at e
    subst e
    exact ⟨[], ⟨none, 0, rfl, Nat.le_refl _, fun k hk => by simp at hk⟩, Nat.zero_le _, fun y hy => by simp at hy⟩
  · simp only [List.cons.injEq, and_true] at e
    subst e
    simp only [if_true] at hmm
    subst hmm
    have hsp : a.spot = none := by
      unfold Cell.okWide at hok
      rw [Try.under70] at hok
      simp only [Cell.ok, Try.under70] at hok
      exact hok.2.2.2.1
    obtain ⟨b, o, sp⟩ := a
    simp only at hsp
    subst hsp
    have each : ∀ i, i < len → ∃ q : List UInt8, W.cell? ⟨b, o + i, none⟩ = some (.string ⟨q.toArray⟩) ∧ q.length ≤ Rows.uptoBulk (D i) := by
      intro i hi
      obtain ⟨cs', h1, h2⟩ := hc i (by omega)
      rw [Try.cells9t] at h1
      obtain ⟨_, hlen, hcell⟩ := World.cells?_some h1
      match cs', hlen with
      | [v0], _ =>
        obtain ⟨s, e, hD, _⟩ := DataW.trod_string Try.underlying9 h2
        simp only [List.cons.injEq, and_true] at e
        have f0 := hcell 0 (by omega)
        rw [Deep.add_add, Addr.add_mid] at f0
        refine ⟨s.data.toList, ?_, ?_⟩
        · have f0 : W.cell? ⟨b, o + i, none⟩ = some v0 := by simpa using f0
          rw [f0, e]
        · have hDi : D i = _ := congrArg Prod.fst hD
          rw [hDi]; simp [Rows.uptoBulk]
    obtain ⟨q, hq⟩ : ∃ q : Nat → List UInt8, ∀ i, i < len → W.cell? ⟨b, o + i, none⟩ = some (.string ⟨(q i).toArray⟩) ∧ (q i).length ≤ Rows.uptoBulk (D i) := by
      classical
      exact ⟨fun i => if hi : i < len then Classical.choose (each i hi) else [], fun i hi => by simp only [hi, dif_pos]; exact Classical.choose_spec (each i hi)⟩
    have hlen : ((List.range len).map q).length = len := by simp
    refine ⟨(List.range len).map q, ⟨_, _, by rw [hlen], by rw [hlen]; exact hl, fun k hk => ?_⟩, ?_, ?_⟩
    · rw [hlen] at hk
      have e : ((List.range len).map q).getD k [] = q k := by simp [hk]
      have c0 := (hq k hk).1
      exact ⟨b, o, rfl, World.block_lt_of_cell? W _ c0, by rw [e]; exact c0⟩
    · subst hx
      rw [hlen]
      simp only [Rows.uptoBulk]
      refine Nat.le_trans ?_ (Nat.le_trans (bulk_all _) (Nat.le_trans (Nat.le_add_right _ _) (Nat.le_add_right _ _)))
      simp
    · intro y hy
      obtain ⟨i, hi, rfl⟩ := List.mem_map.1 hy
      have hi := List.mem_range.1 hi
      subst hx
      simp only [Rows.uptoBulk]
      have := bulk_mem ((List.range len).map D) (D i) (List.mem_map.2 ⟨i, List.mem_range.2 hi, rfl⟩)
      have := (hq i hi).2
      omega
theorem wrdK_bound (xs : List (List UInt8)) (m : Nat) (h : ∀ y, y ∈ xs → y.length ≤ m) : wrdK xs xs.length ≤ xs.length * m := by
  unfold wrdK
  rw [List.take_length]
  induction xs with
  | nil => simp
  | cons x r ih =>
    have h1 := h x (by simp)
    have h2 := ih (fun y hy => h y (by simp [hy]))
    simp only [List.map_cons, List.sum_cons, List.length_cons, Nat.add_mul]
    omega
end Go.Proofs.Ytikkekdmahdgaaa
