/- A row of slices of bytes that a call puts together: it grows, and stays. -/
import Derived.Test.YthcokaffbgbanaaDoorXo
namespace Go.Proofs.YthcokaffbgbanaaDoor
open Go.RowKit Go.BigFrame
set_option linter.unusedVariables false

/-- The slice v has the slices vs, in a row of one's own; each has the bytes of ds, in a row of one's own. -/
structure SR (N : Nat) (w : World) (v : Value) (vs : List Value) (ds : List (List UInt8)) : Prop where
  row : w.ownsRow N 26 1 v vs.length vs
  len : vs.length = ds.length
  each : ∀ k, k < ds.length → Own N w (vs.getD k undef) (ds.getD k [])
theorem SR.nil (N : Nat) (w : World) : SR N w (.slice none 0 0) [] [] := ⟨⟨rfl, .inl ⟨rfl, rfl⟩⟩, rfl, fun k hk => by simp at hk⟩
theorem SR.same {N : Nat} {w w' : World} {v : Value} {vs : List Value} {ds : List (List UInt8)} (h : SR N w v vs ds) (h5 : ∀ b c, Row w b 5 c → Row w' b 5 c) (h26 : ∀ b c, Row w b 26 c → Row w' b 26 c) : SR N w' v vs ds := by
  refine ⟨⟨h.row.1, ?_⟩, h.len, fun k hk => (h.each k hk).same h5⟩
  rcases h.row.2 with h2 | ⟨g, cap, cur, e1, e2, e3, e4⟩
  · exact .inl h2
  · exact .inr ⟨g, cap, cur, e1, e2, h26 g cur e3, e4⟩
theorem SR.below {N : Nat} {w w' : World} {v : Value} {vs : List Value} {ds : List (List UInt8)} (h : SR N w v vs ds) (hb : Below w.heap.size w w') : SR N w' v vs ds :=
  h.same (fun _ _ hr => hr.below hb hr.lt) (fun _ _ hr => hr.below hb hr.lt)
theorem SR.bt {N p : Nat} {w w' : World} {v : Value} {vs : List Value} {ds : List (List UInt8)} {t : TypeId} {c : Array Value} (h : SR N w v vs ds) (hb : Bt p w w') (hp : Row w p t c) (h5 : t ≠ 5) (h26 : t ≠ 26) : SR N w' v vs ds :=
  h.same (fun _ _ hr => hb.row hr (row_ne hr hp (Ne.symm h5))) (fun _ _ hr => hb.row hr (row_ne hr hp (Ne.symm h26)))
theorem SR.slice {N : Nat} {w : World} {v : Value} {vs : List Value} {ds : List (List UInt8)} (h : SR N w v vs ds) : ∃ a c, v = .slice a ds.length c ∧ ds.length ≤ c := by
  rw [← h.len]
  rcases h.row.2 with ⟨e, e0⟩ | ⟨g, cap, cur, e1, _, _, e4, _⟩
  · exact ⟨none, 0, by rw [e, e0], by omega⟩
  · exact ⟨_, _, e1, e4⟩
/-- One of them. -/
theorem SR.at {N : Nat} {w : World} {v : Value} {vs : List Value} {ds : List (List UInt8)} (h : SR N w v vs ds) (hd : 0 < ds.length) : ∃ g cap, v = .slice (some ⟨g, 0, none⟩) ds.length cap ∧ N ≤ g ∧ ∀ k, k < ds.length → w.cell? ⟨g, k, none⟩ = some (vs.getD k undef) := by
  have hl := h.len
  rcases h.row.2 with ⟨_, h2⟩ | ⟨g, cap, cur, e1, e2, e3, e4, e5, e6, e7⟩
  · omega
  · refine ⟨g, cap, by rw [← hl]; exact e1, e2, fun k hk => ?_⟩
    have r : Row w g 26 cur := e3
    rw [r.cell, ← Array.getElem?_toList]
    have h3 : (cur.toList.take (vs.length * 1))[k]? = cur.toList[k]? := List.getElem?_take_of_lt (by omega)
    rw [← h3, e7]
    have : k < vs.length := by omega
    simp [this]
set_option maxRecDepth 100000 in
theorem Tryd.info26a : ∃ i, Tryd.prog.info? 26 = some i ∧ i.zero = some (.slice none 0 0) ∧ i.size = 1 ∧ i.bytes = 24 := ⟨_, rfl, rfl, rfl, rfl⟩
/-- What an append to such a row leaves as it was. -/
structure Ap (N : Nat) (w w' : World) : Prop where
  bel : Below N w w'
  rows : ∀ b t c, Row w b t c → t ≠ 26 → Row w' b t c
theorem wpList_appS {ops : Array Oper} {rest : List Oper} {o : Oper} {a : Act} {w : World} {Q : Exit → Act → World → Prop} (hgd : o.guard = none) (s x : Operand)
    (ho : o.op = .call { callee := .builtin .append, args := #[s, x], argTypes := #[59, 59] }) (N : Nat) (hN : N ≤ w.heap.size)
    (v : Value) (vs : List Value) (ds : List (List UInt8)) (hs : a.eval s = v) (hsr : SR N w v vs ds) (ad : Addr) (c : Nat) (vb : Value) (d : List UInt8) (hx : a.eval x = .slice (some ad) 1 c) (hc : w.cell? ad = some vb) (hone : vb.oneCell' = true) (hvb : Own N w vb d) (hmax : (ds.length + 1) * 24 ≤ 140737488355328)
    (h : ∀ v' w', SR N w' v' (vs ++ [vb]) (ds ++ [d]) → Ap N w w' → wpList Tryd.prog ops Q rest (a.put o.dst v') w') : wpList Tryd.prog ops Q (o :: rest) a w := by
  obtain ⟨i, h1, h2, h3, h4⟩ := Tryd.info26a
  have hl := hsr.len
  obtain ⟨v', w', hr, g2, g3, _⟩ := run_append_own (P := Tryd.prog) w N 59 o.type 26 i _ 1 24 Tryd.underlying59 h1 h2 h3 h4 rfl (by decide) v vs.length vs hsr.row ad 1 c [vb] rfl (fun j u hu => by
    cases j with
    | zero => simp at hu; subst hu; exact hc
    | succ j => simp at hu) (fun u hu => by simp at hu; subst hu; exact hone) (by unfold maxLen; omega) (by omega) hN
  have hblk : ∀ k, v.ownBlock = some k → N ≤ k ∧ ∃ cur, Row w k 26 cur := by
    intro k hk
    rcases hsr.row.2 with ⟨e, _⟩ | ⟨g, cap, cur, e1, e2, e3, _⟩
    · rw [e] at hk; simp [Value.ownBlock] at hk
    · rw [e1] at hk; simp [Value.ownBlock] at hk; subst hk; exact ⟨e2, cur, e3⟩
  have hrows : ∀ b t c, Row w b t c → t ≠ 26 → Row w' b t c := fun b t c hr ht => by
    have := g3.block b hr.lt (fun e => by obtain ⟨_, cur, r5⟩ := hblk b e.symm; exact row_ne hr r5 ht rfl)
    exact hr.same this
  have hap : Ap N w w' := ⟨⟨g3.os, g3.tape, g3.output, g3.size, fun k hk => g3.block k (by omega) (fun e => by have := (hblk k e.symm).1; omega)⟩, hrows⟩
  have hsr' : SR N w' v' (vs ++ [vb]) (ds ++ [d]) := by
    refine ⟨?_, by simp [hl], fun k hk => ?_⟩
    · rw [List.length_append]; exact g2
    · have h5 : ∀ b c, Row w b 5 c → Row w' b 5 c := fun b c hr => hrows b 5 c hr (by decide)
      by_cases hkl : k < ds.length
      · have e1 : (vs ++ [vb]).getD k undef = vs.getD k undef := by simp [List.getD_eq_getElem?_getD, List.getElem?_append_left (show k < vs.length by omega)]
        have e2 : (ds ++ [d]).getD k [] = ds.getD k [] := by simp [List.getD_eq_getElem?_getD, List.getElem?_append_left hkl]
        rw [e1, e2]
        exact (hsr.each k hkl).same h5
      · have hk' : k = ds.length := by simp at hk; omega
        subst hk'
        have e1 : (vs ++ [vb]).getD ds.length undef = vb := by rw [← hl]; simp [List.getD_eq_getElem?_getD]
        have e2 : (ds ++ [d]).getD ds.length [] = d := by simp [List.getD_eq_getElem?_getD]
        rw [e1, e2]
        exact hvb.same h5
  refine wpList_plain hgd fun K hK => ?_
  unfold Oper.wp execOp
  simp only [ho, resolve, invoke, builtin, Sem.run_bind, Sem.run_pure, Result.andThen_ok, List.map_toArray, List.map_cons, List.map_nil, hs, hx, hr]
  exact hK _ _ (h v' w' hsr' hap)
/-- Heads of unlike numbers are unlike. -/
theorem Gf.heads_ne {key : List UInt8} {i j s s' e e' : Nat} {l l' : List UInt8} (hi : i < 4611686018427387904) (hj : j < 4611686018427387904) (h : i ≠ j) : (Gf.dgB key 2 i s e l).take 8 ≠ (Gf.dgB key 2 j s' e' l').take 8 := by
  intro hh
  unfold Gf.dgB at hh
  have h8 : ∀ (n : Nat) (t : List UInt8), (Gf.be8 n ++ t).take 8 = Gf.be8 n := fun n t => by
    rw [List.take_append_of_le_length (by rw [Gf.be8_len]; exact Nat.le_refl _), List.take_of_length_le (by rw [Gf.be8_len]; exact Nat.le_refl _)]
  rw [h8, h8] at hh
  have e1 := Gf.num_be (Gf.hdN 2 i) (Gf.hdN_lt hi) []
  have e2 := Gf.num_be (Gf.hdN 2 j) (Gf.hdN_lt hj) []
  rw [hh, e2] at e1
  unfold Gf.hdN at e1
  simp at e1
  exact h e1.symm
end Go.Proofs.YthcokaffbgbanaaDoor
