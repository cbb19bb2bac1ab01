/- Rows of cells of one's own: append, copy. -/
import Derived.Test.YtnbonlkmadmpcaaMa
namespace Go.Proofs.Ytnbonlkmadmpcaa
open Go.RowKit Go.BigFrame
set_option linter.unusedVariables false
set_option linter.unusedSimpArgs false
set_option maxRecDepth 100000 in
theorem info26' : ∃ i z, Try.prog.info? 49 = some i ∧ i.zero = some z ∧ i.size = 15 ∧ i.bytes = 48 ∧ z.cells.size = 15 := ⟨_, _, rfl, rfl, rfl, rfl, rfl⟩
/-- A row of cells of one's own, that grows. -/
def OwnC (N : Nat) (w : World) (v : Value) (l : List Cl) : Prop := w.ownsRow N 49 15 v l.length (cLs l)
theorem OwnC.nil (N : Nat) (w : World) : OwnC N w (.slice none 0 0) [] := ⟨rfl, .inl ⟨rfl, rfl⟩⟩
theorem OwnC.made (w : World) : OwnC w.heap.size (w.alloc (.cells #[] 49)) (.slice (some ⟨w.heap.size, 0, none⟩) 0 0) [] :=
 ⟨rfl, .inr ⟨w.heap.size, 0, #[], rfl, Nat.le_refl _, Row.new w 49 #[], Nat.le_refl _, by unfold maxLen; omega, rfl, rfl⟩⟩
theorem OwnC.below {N : Nat} {w w' : World} {v : Value} {l : List Cl} (h : OwnC N w v l) (hb : Below w.heap.size w w') : OwnC N w' v l := by
 refine ⟨h.1, ?_⟩
 rcases h.2 with h2 | ⟨g, cap, cur, e1, e2, e3, e4⟩
 ·exact .inl h2
 ·exact .inr ⟨g, cap, cur, e1, e2, by rw [hb.block g (Array.getElem?_eq_some_iff.1 e3).1]; exact e3, e4⟩
theorem OwnC.alloc {N : Nat} {w : World} {v : Value} {l : List Cl} (h : OwnC N w v l) (o : Obj) : OwnC N (w.alloc o) v l := h.below (bR.alloc (Nat.le_refl _) _)
theorem OwnC.down {N M : Nat} {w : World} {v : Value} {l : List Cl} (h : OwnC N w v l) (hM : M ≤ N) : OwnC M w v l := by
 refine ⟨h.1, ?_⟩
 rcases h.2 with h2 | ⟨g, cap, cur, e1, e2, e3, e4⟩
 ·exact .inl h2
 ·exact .inr ⟨g, cap, cur, e1, Nat.le_trans hM e2, e3, e4⟩
theorem OwnC.lt {N : Nat} {w : World} {v : Value} {l : List Cl} (h : OwnC N w v l) : ∀ g, v.ownBlock = some g → N ≤ g ∧ g < w.heap.size := by
 intro k hk
 rcases h.2 with ⟨e, _⟩ | ⟨g, cap, cur, e1, e2, e3, _⟩
 ·rw [e] at hk; simp [Value.ownBlock] at hk
 ·rw [e1] at hk; simp [Value.ownBlock] at hk; subst hk; exact ⟨e2, (Array.getElem?_eq_some_iff.1 e3).1⟩
theorem OwnC.slice {N : Nat} {w : World} {v : Value} {l : List Cl} (h : OwnC N w v l) : ∃ a c, v = .slice a l.length c ∧ l.length ≤ c := by
 rcases h.2 with ⟨e, e0⟩ | ⟨g, cap, cur, e1, e2, e3, e4, _⟩
 ·exact ⟨none, 0, by rw [e, e0], by omega⟩
 ·exact ⟨_, cap, e1, e4⟩
/-- Such a row that has a cell lies in a block of its own. -/
theorem OwnC.row {N : Nat} {w : World} {v : Value} {l : List Cl} (h : OwnC N w v l) (hl : 0 < l.length) : ∃ g cap sp, v = .slice (some ⟨g, 0, none⟩) l.length cap ∧ N ≤ g ∧ l.length ≤ cap ∧ RC w g l sp := by
 rcases h.2 with ⟨_, e0⟩ | ⟨g, cap, cur, e1, e2, e3, e4, _, e6, e7⟩
 ·omega
 ·refine ⟨g, cap, cur.toList.drop (l.length * 15), e1, e2, e4, ?_⟩
  unfold RC
  rw [← e7, List.take_append_drop]
  exact e3
theorem OwnC.cls {N : Nat} {w : World} {v : Value} {l : List Cl} (h : OwnC N w v l) : Cls w.heap.size w v l := by
 by_cases hl : 0 < l.length
 ·obtain ⟨g, cap, sp, rfl, _, hc, hr⟩ := h.row hl
  have := hr.cls 0 l.length cap (by omega) hc
  simpa using this
 ·obtain ⟨a, c, e, hc⟩ := h.slice
  exact ⟨a, c, e, hc, .inl (List.eq_nil_of_length_eq_zero (by omega))⟩
/-- The flat cells behind a slice. -/
theorem Cls.flat {N : Nat} {w : World} {v : Value} {l : List Cl} (h : Cls N w v l) (hl : 0 < l.length) : ∃ b o c, v = .slice (some ⟨b, o, none⟩) l.length c ∧ b < N ∧ l.length ≤ c ∧ ∀ j u, (cLs l)[j]? = some u → w.cell? ((⟨b, o, none⟩ : Addr).add j) = some u := by
 obtain ⟨a, c, e, hc, h⟩ := h
 rcases h with rfl | ⟨b, o, rfl, h6, h7⟩
 ·simp at hl
 ·refine ⟨b, o, c, e, h6, hc, fun j u hu => ?_⟩
  have hj : j < l.length * 15 := by have := (List.getElem?_eq_some_iff.1 hu).1; rwa [cLs_len] at this
  have e1 : j = j / 15 * 15 + j % 15 := by omega
  rw [Addr.add_mid]
  rw [e1] at hu ⊢
  rw [cLs_get l (j / 15) (j % 15) (by omega) (by omega)] at hu
  rw [← Nat.add_assoc, h7 (j / 15) (by omega) (j % 15) (by omega)]
  exact hu
theorem wpList_appC {ops : Array Oper} {rest : List Oper} {o : Oper} {a : Act} {w : World} {Q : Exit → Act → World → Prop} (hgd : o.guard = none) (s x : Operand)
  (ho : o.op = .call { callee := .builtin .append, args := #[s, x], argTypes := #[22, 22] }) (N M : Nat) (hN : N ≤ w.heap.size)
  (v : Value) (d : List Cl) (hs : a.eval s = v) (hown : OwnC N w v d) (vx : Value) (l : List Cl) (hx : a.eval x = vx) (hin : Cls M w vx l) (hnil : l = [] → vx = .slice none 0 0 ∨ ∃ ad c, vx = .slice (some ad) 0 c) (hmax : (d.length + l.length) * 48 ≤ 140737488355328)
  (h : ∀ v' w', OwnC N w' v' (d ++ l) → w.grownBy w' v.ownBlock → Below N w w' → wpList Try.prog ops Q rest (a.put o.dst v') w') : wpList Try.prog ops Q (o :: rest) a w := by
 obtain ⟨i, z, h1, h2, h3, h4, h5⟩ := info26'
 have key : ∀ (ad : Addr) (c : Nat), vx = .slice (some ad) l.length c → (∀ j u, (cLs l)[j]? = some u → w.cell? (ad.add j) = some u) → wpList Try.prog ops Q (o :: rest) a w := by
  intro ad c e hc
  obtain ⟨v', w', hr, g2, g3, _⟩ := run_append_own (P := Try.prog) w N 22 o.type 49 i z 15 48 Try.underlying22 h1 h2 h3 h4 h5 (by decide) v d.length _ hown ad l.length c (cLs l) (cLs_len l) hc (cLs_oneCell l) (by unfold maxLen; omega) hmax hN
  have g2' : OwnC N w' v' (d ++ l) := by unfold OwnC; rw [List.length_append, cLs_app]; exact g2
  have hbl : Below N w w' := ⟨g3.os, g3.tape, g3.output, g3.size, fun k hk => g3.block k (by omega) (fun e => by have := (hown.lt k e.symm).1; omega)⟩
  refine wpList_plain hgd fun K hK => ?_
  rw [e] at hx
  unfold Oper.wp execOp
  simp only [ho, resolve, invoke, builtin, Sem.run_bind, Sem.run_pure, Result.andThen_ok, List.map_toArray, List.map_cons, List.map_nil, hs, hx, hr]
  exact hK _ _ (h v' w' g2' g3 hbl)
 by_cases hl : 0 < l.length
 ·obtain ⟨b, o', c, e, _, _, hc⟩ := hin.flat hl
  exact key _ c e hc
 ·have e0 : l = [] := List.eq_nil_of_length_eq_zero (by omega)
  subst e0
  rcases hnil rfl with e | ⟨ad, c, e⟩
  ·subst e
   refine wpList_append_own_none hgd s x 22 ho N 49 i 15 Try.underlying22 h1 v d.length _ hs hown hx ?_
   exact h v w (by rw [List.append_nil]; exact hown) ⟨rfl, rfl, rfl, Nat.le_refl _, fun _ _ _ => rfl⟩ bR
  ·exact key ad c e (fun j u hu => by simp [cLs] at hu)
/-- Cells are copied into a block. -/
theorem run_copy15 (w : World) (ty : TypeId) (g o dLen dCap : Nat) (ad : Addr) (sLen sCap : Nat) (l m : List Cl) (sp : List Value) (hr : RC w g l sp) (hn : m.length = Nat.min sLen dLen)
  (hsrc : ∀ j v, (cLs m)[j]? = some v → w.cell? (ad.add j) = some v) (hfit : o + m.length ≤ l.length) :
  (Builtin.copy_ #[22, 22] ty #[.slice (some ⟨g, o * 15, none⟩) dLen dCap, .slice (some ad) sLen sCap]).run Try.prog w = .ok (goInt m.length) (w.setRow g (cLs (l.take o ++ m ++ l.drop (o + m.length)) ++ sp).toArray) := by
 obtain ⟨i, z, h1, h2, h3, h4, h5⟩ := info26'
 have hl := run_loadCells_list (P := Try.prog) w ad (cLs m) hsrc
 have hst := run_storeCells_at Try.prog g (o * 15) 49 (cLs m) 0 _ w hr (by rw [cLs_len]; simp [cLs_len]; omega) (cLs_oneCell m)
 have e : (cLs l ++ sp).take (o * 15) ++ cLs m ++ (cLs l ++ sp).drop (o * 15 + m.length * 15) = cLs (l.take o ++ m ++ l.drop (o + m.length)) ++ sp := by
  rw [List.take_append_of_le_length (by rw [cLs_len]; omega), List.drop_append_of_le_length (by rw [cLs_len]; omega), ← cLs_splice l m o hfit, List.append_assoc, List.append_assoc, List.append_assoc]
 simp only [Nat.add_zero, cLs_len, List.toList_toArray] at hst hl
 rw [e] at hst
 simp [Builtin.copy_, run_underlying Try.underlying22, Builtin.lenOf, Builtin.firstCells, sizeOf, typeInfo, h1, h3, ← hn, hl, hst]
end Go.Proofs.Ytnbonlkmadmpcaa
