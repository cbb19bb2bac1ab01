/- A row that a constant's bytes are laid in, and what is put behind it. -/
import Derived.Test.YtepepoabbbjmgaaU
import Derived.Lib.AppendStr
import Derived.Lib.SlBytesConst
namespace Go.Proofs.Ytepepoabbbjmgaa
open Go.RowKit Go.BigFrame
set_option linter.unusedSimpArgs false
set_option linter.unusedVariables false

/-- The bytes C and D: in a row of one's own, or, where D has none, still in C's own. -/
def Mk (N : Nat) (w : World) (v : Value) (C D : List UInt8) : Prop :=
  OwnB N w v (C ++ D) ∨ (D = [] ∧ ∃ g, N ≤ g ∧ v = .slice (some ⟨g, 0, none⟩) C.length C.length ∧ w.heap[g]? = some (.cells (ag C) 5 (C.length, C.length + 1)))
theorem grown_own (N : Nat) (w : World) (X : List UInt8) (cap : Nat) (h1 : X.length ≤ cap) (h2 : cap ≤ maxLen) (hN : N ≤ w.heap.size) (z : Value) (hz : z.cells.size = 1) :
    OwnB N (w.drew.alloc (.cells ((X.map B).toArray ++ Builtin.zeroCells z.cells (cap - X.length)) 5)) (.slice (some ⟨w.heap.size, 0, none⟩) X.length cap) X := by
  refine ⟨by simp, .inr ⟨w.heap.size, cap, _, rfl, hN, heap_alloc_last w.drew _, h1, h2, ?_, ?_⟩⟩
  · rw [Array.size_append, size_zeroCells, hz]; simp; omega
  · have e : X.length * 1 = (X.map B).length := by simp
    rw [Array.toList_append, e]
    exact List.take_left
theorem below_grown (w : World) (o : Obj) : Below w.heap.size w (w.drew.alloc o) := ((Below.refl w.heap.size w).drew).alloc (Nat.le_refl _) o
theorem cells_ag {w : World} {g : Nat} {C : List UInt8} {fz : Nat × Nat} (h : w.heap[g]? = some (.cells (ag C) 5 fz)) : ∀ j u, (C.map B)[j]? = some u → w.cell? ((⟨g, 0, none⟩ : Addr).add j) = some u := fun j u hu => by
  rw [Addr.add_mid, Nat.zero_add, cell_of_row w g j (ag C) 5 fz h]
  simpa [ag] using hu
set_option maxHeartbeats 1000000 in
theorem run_mk1 (w : World) (N g : Nat) (C : List UInt8) (hg : w.heap[g]? = some (.cells (ag C) 5 (C.length, C.length + 1))) (hN : N ≤ g) (vx : Value) (D : List UInt8) (M : Nat) (hin : InB M w vx D) (hl : C.length + D.length ≤ 140737488355328) (ty : TypeId) :
    ∃ v' w', (Builtin.append_ #[23, 23] ty #[.slice (some ⟨g, 0, none⟩) C.length C.length, vx]).run Try.prog w = .ok v' w' ∧ Mk N w' v' C D ∧ Below w.heap.size w w' := by
  obtain ⟨i, h1, h2, h3, h4⟩ := Try.info5a
  have hgw : g < w.heap.size := (Array.getElem?_eq_some_iff.1 hg).1
  by_cases hD : D = []
  · subst hD
    refine ⟨.slice (some ⟨g, 0, none⟩) C.length C.length, w, ?_, .inr ⟨rfl, g, hN, rfl, hg⟩, Below.refl _ _⟩
    rcases hin with ⟨rfl, _⟩ | ⟨b, o, c, rfl, hc, _⟩
    · simp [Builtin.append_, run_underlying Try.underlying23, sizeOf, typeInfo, h1, Builtin.lenOf, run_firstCells_none, storeCells]
    · simp [Builtin.append_, run_underlying Try.underlying23, sizeOf, typeInfo, h1, Builtin.lenOf, run_firstCells_some (P := Try.prog) w i.size 0 ⟨b, o, none⟩ 0 c [] (by simp) (by simp), storeCells]
  · have hp : 0 < D.length := List.length_pos_iff.2 hD
    rcases hin with ⟨_, h⟩ | ⟨b, o, c, rfl, hc, hb, hr⟩
    · exact absurd h hD
    · have hr' := run_append_grow (P := Try.prog) w 23 ty 5 i _ Try.underlying23 h1 h2 ⟨g, 0, none⟩ C.length C.length (C.map B) (by rw [h3]; simp) (cells_ag hg) ⟨b, o, none⟩ D.length c (D.map B) (by rw [h3]; simp) (fun j u hu => by rw [Addr.add_mid]; exact hr j u hu) (by omega) (by omega) (by rw [h4]; exact growslice_fits (by omega) (by omega))
      refine ⟨_, _, hr', .inl ?_, below_grown w _⟩
      have := grown_own N w (C ++ D) (grownCap w (C.length + D.length) C.length 5) (by rw [List.length_append]; exact grownCap_ge _ _ _ _) (grownCap_le_maxLen _ _ _ _ (by unfold maxLen; omega)) (by omega) (.int .u8 0) rfl
      rw [List.length_append, List.map_append] at this
      simpa using this
set_option maxHeartbeats 1000000 in
theorem run_mk2 (w : World) (N : Nat) (C D : List UInt8) (v : Value) (h : Mk N w v C D) (hN : N ≤ w.heap.size) (Z : List UInt8) (hZ : 0 < Z.length) (hl : (C ++ D).length + Z.length ≤ 140737488355328) (ty : TypeId) :
    ∃ v' w', (Builtin.append_ #[23, 9] ty #[v, .string ⟨Z.toArray⟩]).run Try.prog w = .ok v' w' ∧ OwnB N w' v' (C ++ D ++ Z) ∧ Fr N w w' := by
  obtain ⟨i, h1, h2, h3, h4⟩ := Try.info5a
  have hs : (⟨Z.toArray⟩ : ByteArray).size = Z.length := by simp [ByteArray.size]
  have hc : Go.Lib.strCells ⟨Z.toArray⟩ = Z.map B := rfl
  rcases h with h | ⟨rfl, g, hg1, rfl, hg⟩
  · obtain ⟨v', w', hr, g2, g3, _⟩ := Go.Lib.run_append_own_string (P := Try.prog) w N 23 9 ty 5 i Try.underlying23 Try.underlying9 h1 h2 h3 h4 v _ _ h ⟨Z.toArray⟩ (by rw [hs]; unfold maxLen; omega) (by rw [hs]; exact hl) hN
    refine ⟨v', w', hr, ?_, Fr.grown h g3⟩
    unfold OwnB
    rw [List.length_append, List.map_append]
    rw [hs, hc] at g2
    exact g2
  · simp only [List.append_nil] at hl ⊢
    have hr' := Go.Lib.run_append_grow_string (P := Try.prog) w 23 9 ty 5 i _ Try.underlying23 Try.underlying9 h1 h2 ⟨g, 0, none⟩ C.length C.length (C.map B) (by rw [h3]; simp) (cells_ag hg) ⟨Z.toArray⟩ (by omega) (by rw [hs]; omega) (by rw [h4, hs]; exact growslice_fits (by omega) (by omega))
    rw [hs, hc] at hr'
    refine ⟨_, _, hr', ?_, Fr.of (below_grown w _)⟩
    have := grown_own N w (C ++ Z) (grownCap w (C.length + Z.length) C.length 5) (by rw [List.length_append]; exact grownCap_ge _ _ _ _) (grownCap_le_maxLen _ _ _ _ (by unfold maxLen; omega)) hN (.int .u8 0) rfl
    rw [List.length_append, List.map_append] at this
    simpa using this
theorem wpList_mk1 {ops : Array Oper} {rest : List Oper} {o : Oper} {a : Act} {w : World} {Q : Exit → Act → World → Prop} (hgd : o.guard = none) (s x : Operand)
    (ho : o.op = .call { callee := .builtin .append, args := #[s, x], argTypes := #[23, 23] }) (N g : Nat) (C : List UInt8) (hs : a.eval s = .slice (some ⟨g, 0, none⟩) C.length C.length) (hg : w.heap[g]? = some (.cells (ag C) 5 (C.length, C.length + 1))) (hN : N ≤ g)
    (vx : Value) (D : List UInt8) (M : Nat) (hx : a.eval x = vx) (hin : InB M w vx D) (hl : C.length + D.length ≤ 140737488355328)
    (h : ∀ v' w', Mk N w' v' C D → Below w.heap.size w w' → wpList Try.prog ops Q rest (a.put o.dst v') w') : wpList Try.prog ops Q (o :: rest) a w := by
  obtain ⟨v', w', hr, h2, h3⟩ := run_mk1 w N g C hg hN vx D M hin hl o.type
  refine wpList_plain hgd fun K hK => ?_
  unfold Oper.wp execOp
  simp only [ho, resolve, invoke, builtin, Sem.run_bind, Sem.run_pure, Result.andThen_ok, List.map_toArray, List.map_cons, List.map_nil, hs, hx, hr]
  exact hK _ _ (h v' w' h2 h3)
theorem wpList_mk2 {ops : Array Oper} {rest : List Oper} {o : Oper} {a : Act} {w : World} {Q : Exit → Act → World → Prop} (hgd : o.guard = none) (s x : Operand)
    (ho : o.op = .call { callee := .builtin .append, args := #[s, x], argTypes := #[23, 9] }) (N : Nat) (C D : List UInt8) (v : Value) (hs : a.eval s = v) (hm : Mk N w v C D) (hN : N ≤ w.heap.size)
    (Z : List UInt8) (hx : a.eval x = .string ⟨Z.toArray⟩) (hZ : 0 < Z.length) (hl : (C ++ D).length + Z.length ≤ 140737488355328)
    (h : ∀ v' w', OwnB N w' v' (C ++ D ++ Z) → Fr N w w' → wpList Try.prog ops Q rest (a.put o.dst v') w') : wpList Try.prog ops Q (o :: rest) a w := by
  obtain ⟨v', w', hr, h2, h3⟩ := run_mk2 w N C D v hm hN Z hZ hl o.type
  refine wpList_plain hgd fun K hK => ?_
  unfold Oper.wp execOp
  simp only [ho, resolve, invoke, builtin, Sem.run_bind, Sem.run_pure, Result.andThen_ok, List.map_toArray, List.map_cons, List.map_nil, hs, hx, hr]
  exact hK _ _ (h v' w' h2 h3)
end Go.Proofs.Ytepepoabbbjmgaa
