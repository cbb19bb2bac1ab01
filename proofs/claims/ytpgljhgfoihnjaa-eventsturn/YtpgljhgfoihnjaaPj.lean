/- Events that came in, put behind one's own; Diff and Apply there and back. -/
import Derived.Test.YtpgljhgfoihnjaaPi
namespace Go.Proofs.Ytpgljhgfoihnjaa
open Go.RowKit Go.BigFrame
set_option maxRecDepth 100000
set_option linter.unusedSimpArgs false
set_option linter.unusedVariables false

theorem flat_len (l : List (Ev × Value)) : (l.flatMap fun p => evC p.1 p.2).length = l.length * 5 := by
  induction l with
  | nil => rfl
  | cons x r ih => rw [List.flatMap_cons, List.length_append, ih, List.length_cons]; show 5 + _ = _; omega
/-- The cells of events behind a slice. -/
theorem Evs.cells {N : Nat} {w : World} {a : Option Addr} {n c : Nat} {m : List Ev} (h : Evs N w (.slice a n c) m) : ∃ ys : List (Ev × Value), ys.map (·.1) = m ∧ (∀ p ∈ ys, InE N w p.2 p.1.byt) ∧ ∀ ad, a = some ad → ∀ j u, (ys.flatMap fun p => evC p.1 p.2)[j]? = some u → w.cell? (ad.add j) = some u := by
  obtain ⟨a', c', e, hc, h3⟩ := h
  injection e with e1 e2 e3
  subst e1 e2
  clear hc e3
  have each : ∀ k, k < m.length → ∃ vb, InE N w vb (m.getD k Ev.none).byt ∧ ∀ ad, a = some ad → ∀ j, j < 5 → w.cell? (ad.add (k * 5 + j)) = (evC (m.getD k Ev.none) vb)[j]? := fun k hk => by
    obtain ⟨b, o, rfl, _, vb, q1, q2, q3, q4, q5, q6⟩ := h3 k hk
    refine ⟨vb, q6, fun ad had j hj => ?_⟩
    injection had with had
    subst had
    rw [Addr.add_mid, ← Nat.add_assoc]
    rcases (show j = 0 ∨ j = 1 ∨ j = 2 ∨ j = 3 ∨ j = 4 by omega) with rfl | rfl | rfl | rfl | rfl
    · simpa [evC] using q1
    · simpa [evC] using q2
    · simpa [evC] using q3
    · simpa [evC] using q4
    · simpa [evC] using q5
  clear h3
  obtain ⟨f, hf⟩ : ∃ f : Nat → Value, ∀ k, k < m.length → InE N w (f k) (m.getD k Ev.none).byt ∧ ∀ ad, a = some ad → ∀ j, j < 5 → w.cell? (ad.add (k * 5 + j)) = (evC (m.getD k Ev.none) (f k))[j]? := by
    classical
    exact ⟨fun k => if hk : k < m.length then Classical.choose (each k hk) else undef, fun k hk => by simp only [hk, dif_pos]; exact Classical.choose_spec (each k hk)⟩
  refine ⟨(List.range m.length).map fun k => (m.getD k Ev.none, f k), ?_, ?_, ?_⟩
  · refine List.ext_getElem (by simp) fun i h1 h2 => ?_
    simp at h1 ⊢
    simp [h1]
  · intro p hp
    obtain ⟨k, hk, rfl⟩ := List.mem_map.1 hp
    exact (hf k (List.mem_range.1 hk)).1
  · intro ad had j u hu
    have hlen : ((List.range m.length).map fun k => (m.getD k Ev.none, f k)).length = m.length := by simp
    have hj : j / 5 < m.length := by
      have h1 := (List.getElem?_eq_some_iff.1 hu).1
      have h2 : (((List.range m.length).map fun k => (m.getD k Ev.none, f k)).flatMap fun p => evC p.1 p.2).length = m.length * 5 := by
        rw [flat_len, hlen]
      omega
    have hf2 := flat_at ((List.range m.length).map fun k => (m.getD k Ev.none, f k)) (j / 5) (j % 5) (by rw [hlen]; exact hj) (Nat.mod_lt _ (by decide))
    rw [show j / 5 * 5 + j % 5 = j by omega, hu] at hf2
    have h3 := (hf (j / 5) hj).2 ad had (j % 5) (Nat.mod_lt _ (by decide))
    rw [show j / 5 * 5 + j % 5 = j by omega] at h3
    rw [h3, hf2]
    simp
/-- A row of events of one's own, their bytes wherever they lie. -/
theorem evs_of_own {N : Nat} {w : World} {v : Value} {l : List (Ev × Value)} (h : w.ownsRow N 48 5 v l.length (l.flatMap fun p => evC p.1 p.2)) (hi : ∀ p ∈ l, InE w.heap.size w p.2 p.1.byt) : Evs w.heap.size w v (l.map (·.1)) := by
  rcases h.2 with ⟨e, e0⟩ | ⟨g, cap, cur, e1, e2, e3, e4, e5, e6, e7⟩
  · refine ⟨none, 0, by rw [e, List.length_map, e0], by rw [List.length_map, e0]; exact Nat.le_refl _, fun k hk => ?_⟩
    rw [List.length_map] at hk
    omega
  · have r : Row w g 48 cur := e3
    refine ⟨_, cap, by rw [e1, List.length_map], by rw [List.length_map]; exact e4, fun k hk => ?_⟩
    rw [List.length_map] at hk
    have hc : ∀ j, j < 5 → w.cell? ⟨g, 0 + k * 5 + j, Option.none⟩ = (evC (l[k]).1 (l[k]).2)[j]? := fun j hj => by
      rw [← flat_at l k j hk hj]
      have h5 : ((l.flatMap fun p => evC p.1 p.2)[k * 5 + j]?).isSome := by rw [flat_at l k j hk hj]; simp [evC]; omega
      obtain ⟨u, hu⟩ := Option.isSome_iff_exists.1 h5
      have := World.ownsRow.cells h (g := g) (by rw [e1]; rfl) _ _ hu
      rw [Addr.add_mid] at this
      rw [show 0 + k * 5 + j = 0 + (k * 5 + j) by omega, this, hu]
    have hx : (l.map (·.1)).getD k Ev.none = (l[k]).1 := by simp [hk]
    refine ⟨g, 0, rfl, r.lt, (l[k]).2, ?_, ?_, ?_, ?_, ?_, ?_⟩
    · rw [hx]; have := hc 0 (by decide); simpa [evC] using this
    · have := hc 1 (by decide); simpa [evC] using this
    · rw [hx]; have := hc 2 (by decide); simpa [evC] using this
    · rw [hx]; have := hc 3 (by decide); simpa [evC] using this
    · rw [hx]; have := hc 4 (by decide); simpa [evC] using this
    · rw [hx]; exact hi (l[k]) (List.getElem_mem hk)
theorem inE_one {N : Nat} {w : World} {v : Value} {l : List UInt8} (h : InE N w v l) : v.oneCell' = true := by
  rcases h with ⟨rfl, _⟩ | ⟨a, c, rfl, _⟩ <;> rfl
set_option maxHeartbeats 1000000 in
/-- Events that came in, put behind one's own. -/
theorem wpList_appEvF {ops : Array Oper} {rest : List Oper} {o : Oper} {a : Act} {w : World} {Q : Exit → Act → World → Prop} (hgd : o.guard = none) (s x : Operand)
    (ho : o.op = .call { callee := .builtin .append, args := #[s, x], argTypes := #[22, 22] }) (N : Nat) (hN : N ≤ w.heap.size)
    (v : Value) (l : List (Ev × Value)) (hs : a.eval s = v) (hown : OwnE N w v l) (aq : Option Addr) (nq cq : Nat) (m : List Ev) (hx : a.eval x = .slice aq nq cq) (hq : Evs N w (.slice aq nq cq) m)
    (hmax : (l.length + m.length) * 56 ≤ 140737488355328)
    (h : ∀ v' w', Evs w'.heap.size w' v' (l.map (·.1) ++ m) → Below N w w' → wpList Try.prog ops Q rest (a.put o.dst v') w') : wpList Try.prog ops Q (o :: rest) a w := by
  obtain ⟨i, h1, h2, h3, h4⟩ := Try.info55a
  obtain ⟨ys, hy1, hy2, hy3⟩ := hq.cells
  have hyl : ys.length = m.length := by rw [← hy1, List.length_map]
  obtain ⟨a', c', e, hc', hall⟩ := hq
  injection e with e1 e2 e3
  subst e1 e2
  cases aq with
  | none =>
    obtain rfl : m = [] := by
      cases m with
      | nil => rfl
      | cons x r => obtain ⟨b, o, hh, _⟩ := hall 0 (by simp); cases hh
    subst e3
    have hz : cq = cq := rfl
    refine wpList_plain hgd fun K hK => ?_
    obtain ⟨av, cv, hv⟩ := hown.slice
    have hcv : l.length ≤ cv := by
      rcases hown.row.2 with ⟨e, e0⟩ | ⟨g, cap, cur, e1, e2, e3, e4, _⟩
      · rw [hv] at e; injection e with _ q1 q2; omega
      · rw [hv] at e1; injection e1 with _ q1 q2; omega
    have hrun : (Builtin.append_ #[22, 22] o.type #[v, .slice none ([] : List Ev).length cq]).run Try.prog w = .ok v w := by
      rw [hv]
      cases av with
      | none => simp [Builtin.append_, run_underlying Try.underlying22, sizeOf, typeInfo, h1, Builtin.lenOf, run_firstCells_none, hcv]
      | some a0 => simp [Builtin.append_, run_underlying Try.underlying22, sizeOf, typeInfo, h1, Builtin.lenOf, run_firstCells_none, storeCells, hcv]
    unfold Oper.wp execOp
    simp only [ho, resolve, invoke, builtin, Sem.run_bind, Sem.run_pure, Result.andThen_ok, List.map_toArray, List.map_cons, List.map_nil, hs, hx, hrun]
    exact hK _ _ (h v w (by rw [List.append_nil]; exact hown.evs) (Below.refl _ _))
  | some ad =>
    obtain ⟨v', w', hrun, g2, g3, _⟩ := run_append_own (P := Try.prog) w N 22 o.type 48 i _ 5 56 Try.underlying22 h1 h2 h3 h4 rfl (by decide) v l.length _ hown.row ad m.length cq (ys.flatMap fun p => evC p.1 p.2) (by rw [flat_len, hyl]) (hy3 ad rfl) (fun u hu => by
      obtain ⟨p, hp, hu⟩ := List.mem_flatMap.1 hu
      have := inE_one (hy2 p hp)
      simp only [evC, List.mem_cons, List.not_mem_nil, or_false] at hu
      rcases hu with rfl | rfl | rfl | rfl | rfl <;> first | rfl | exact this) (by unfold maxLen; omega) (by omega) hN
    have hB : Below N w w' := ⟨g3.os, g3.tape, g3.output, g3.size, fun k hk => g3.block k (by omega) fun e => by have := (hown.lt k e.symm).1; omega⟩
    have hkeep : ∀ {p : Ev × Value}, OwnB N w p.2 p.1.byt → OwnB N w' p.2 p.1.byt := fun {p} hp => hp.same fun k hk => by
      obtain ⟨_, cur, r2⟩ := hp.lt k hk
      refine g3.block k r2.lt fun e => ?_
      obtain ⟨_, cur3, r3⟩ := hown.lt k e.symm
      unfold Row at r2 r3
      rw [r2] at r3
      simp at r3
    refine wpList_plain hgd fun K hK => ?_
    unfold Oper.wp execOp
    simp only [ho, resolve, invoke, builtin, Sem.run_bind, Sem.run_pure, Result.andThen_ok, List.map_toArray, List.map_cons, List.map_nil, hs, hx, hrun]
    refine hK _ _ (h v' w' ?_ hB)
    have := evs_of_own (l := l ++ ys) (by rw [List.length_append, List.flatMap_append, hyl]; exact g2) (fun p hp => by
      rcases List.mem_append.1 hp with hp | hp
      · exact (hkeep (hown.own p hp)).inB.inE
      · exact ((hy2 p hp).below hB (Nat.le_refl _)).up (Nat.le_trans hN g3.size))
    rwa [List.map_append, hy1] at this
end Go.Proofs.Ytpgljhgfoihnjaa
