/- Rows of cells in memory: read, written, copied, appended. -/
import Derived.Test.YtnbonlkmadmpcaaSk
import Derived.Laws.CopyRow
import Derived.Laws.AppendOwn
import Derived.Laws.AppendOwnNone
namespace Go.Proofs.Ytnbonlkmadmpcaa
open Go.RowKit Go.BigFrame
set_option linter.unusedVariables false
set_option linter.unusedSimpArgs false
/-- The cells of a list of cells, one behind the other. -/
def cLs : List Cl → List Value
 | [] => []
 | x :: l => (cA x).toList ++ cLs l
theorem cA_len (x : Cl) : (cA x).toList.length = 15 := rfl
theorem cLs_len : ∀ l : List Cl, (cLs l).length = l.length * 15
 | [] => rfl
 | x :: l => by rw [cLs, List.length_append, cA_len, cLs_len l, List.length_cons]; omega
theorem cLs_app : ∀ a b : List Cl, cLs (a ++ b) = cLs a ++ cLs b
 | [], b => rfl
 | x :: a, b => by rw [List.cons_append, cLs, cLs, cLs_app a b, List.append_assoc]
theorem cLs_one (x : Cl) : cLs [x] = (cA x).toList := by rw [cLs, cLs, List.append_nil]
theorem cLs_take : ∀ (l : List Cl) (k : Nat), (cLs l).take (k * 15) = cLs (l.take k)
 | [], k => by simp [cLs]
 | x :: l, 0 => by simp [cLs]
 | x :: l, k + 1 => by
  rw [tkS, cLs, cLs, List.take_append, cA_len, show (k + 1) * 15 - 15 = k * 15 by omega, cLs_take l k, List.take_of_length_le (by rw [cA_len]; omega)]
theorem cLs_drop : ∀ (l : List Cl) (k : Nat), (cLs l).drop (k * 15) = cLs (l.drop k)
 | [], k => by simp [cLs]
 | x :: l, 0 => by simp [cLs]
 | x :: l, k + 1 => by
  rw [List.drop_succ_cons, cLs, List.drop_append, cA_len, show (k + 1) * 15 - 15 = k * 15 by omega, cLs_drop l k, List.drop_of_length_le (by rw [cA_len]; omega), List.nil_append]
theorem cLs_get (l : List Cl) (k j : Nat) (hk : k < l.length) (hj : j < 15) : (cLs l)[k * 15 + j]? = (cA (l.getD k (hf pl)))[j]? := by
 rw [← List.getElem?_drop, cLs_drop, List.drop_eq_getElem_cons hk, cLs, List.getElem?_append_left (by rw [cA_len]; exact hj)]
 simp [hk]
theorem cLs_set (l : List Cl) (k : Nat) (y : Cl) (hk : k < l.length) : (cLs l).take (k * 15) ++ (cA y).toList ++ (cLs l).drop (k * 15 + 15) = cLs (l.set k y) := by
 rw [cLs_take, show k * 15 + 15 = (k + 1) * 15 by omega, cLs_drop, ← cLs_one, ← cLs_app, ← cLs_app, List.set_eq_take_append_cons_drop, if_pos hk]
 simp
theorem cLs_splice (l m : List Cl) (k : Nat) (h : k + m.length ≤ l.length) : (cLs l).take (k * 15) ++ cLs m ++ (cLs l).drop (k * 15 + m.length * 15) = cLs (l.take k ++ m ++ l.drop (k + m.length)) := by
 rw [cLs_take, ← Nat.add_mul, cLs_drop, cLs_app, cLs_app]
theorem cLs_oneCell : ∀ (l : List Cl), ∀ v ∈ cLs l, v.oneCell' = true
 | [], v, h => by simp [cLs] at h
 | x :: l, v, h => by
  rw [cLs, List.mem_append] at h
  rcases h with h | h
  ·exact (Array.all_eq_true_iff_forall_mem.1 (one15 x)) v (by simpa using h)
  ·exact cLs_oneCell l v h
/-- The block g holds the cells l, and others behind them. -/
def RC (w : World) (g : Nat) (l : List Cl) (sp : List Value) : Prop := Row w g 49 (cLs l ++ sp).toArray
theorem RC.lt {w : World} {g : Nat} {l : List Cl} {sp : List Value} (h : RC w g l sp) : g < w.heap.size := Row.lt h
theorem RC.below {N : Nat} {w w' : World} {g : Nat} {l : List Cl} {sp : List Value} (h : RC w g l sp) (hb : Below N w w') (hn : g < N) : RC w' g l sp := Row.below h hb hn
theorem RC.drew {w : World} {g : Nat} {l : List Cl} {sp : List Value} (h : RC w g l sp) : RC w.drew g l sp := h
theorem RC.drewN {w : World} {g : Nat} {l : List Cl} {sp : List Value} (h : RC w g l sp) (n : Nat) : RC (w.drewN n) g l sp := h
theorem RC.cell {w : World} {g : Nat} {l : List Cl} {sp : List Value} (h : RC w g l sp) (k j : Nat) (hk : k < l.length) (hj : j < 15) : w.cell? ⟨g, k * 15 + j, none⟩ = (cA (l.getD k (hf pl)))[j]? := by
 rw [Row.cell h, List.getElem?_toArray, List.getElem?_append_left (by rw [cLs_len]; omega), cLs_get l k j hk hj]
/-- The slice of a part of it has that part. -/
theorem RC.cls {w : World} {g : Nat} {l : List Cl} {sp : List Value} (h : RC w g l sp) (o n c : Nat) (hn : o + n ≤ l.length) (hc : n ≤ c) : Cls w.heap.size w (.slice (some ⟨g, o * 15, none⟩) n c) ((l.drop o).take n) := by
 have hl : ((l.drop o).take n).length = n := by rw [List.length_take, List.length_drop]; omega
 refine ⟨_, _, by rw [hl], by rw [hl]; exact hc, .inr ⟨g, o * 15, rfl, h.lt, fun k hk j hj => ?_⟩⟩
 rw [hl] at hk
 rw [← Nat.add_mul, h.cell (o + k) j (by omega) hj]
 congr 2
 simp [List.getElem?_take_of_lt hk]
section
variable {ops : Array Oper} {rest : List Oper} {op : Oper} {a : Act} {w : World} {Q : Exit → Act → World → Prop}
/-- A cell is written into such a block. -/
theorem run_store_cell (w : World) (g : Nat) (l : List Cl) (sp : List Value) (k : Nat) (y : Cl) (hr : RC w g l sp) (hk : k < l.length) : (Instr.storeAt 49 (.pointer (some ⟨g, k * 15, none⟩)) (.agg (cA y))).run Try.prog w = .ok () (w.setRow g (cLs (l.set k y) ++ sp).toArray) := by
 have hst := run_storeCells_at Try.prog g (k * 15) 49 (cA y).toList 0 _ w hr (by rw [cA_len]; simp [cLs_len]; omega) (fun v hv => (Array.all_eq_true_iff_forall_mem.1 (one15 y)) v (by simpa using hv))
 have hs : (sizeOf 49).run Try.prog w = .ok 15 w := by
  have := s26
  cases hq : Try.prog.info? 49 with
  | none => simp [hq] at this
  | some i => simp [hq] at this; simp [sizeOf, typeInfo, hq, this]
 have e : (cLs l ++ sp).take (k * 15) ++ (cA y).toList ++ (cLs l ++ sp).drop (k * 15 + 15) = cLs (l.set k y) ++ sp := by
  rw [List.take_append_of_le_length (by rw [cLs_len]; omega), List.drop_append_of_le_length (by rw [cLs_len]; omega), ← cLs_set l k y hk, List.append_assoc, List.append_assoc, List.append_assoc]
 simp only [Nat.add_zero, cA_len, List.toList_toArray] at hst
 rw [e] at hst
 simp only [Instr.storeAt, Instr.sureAddr, Sem.run_bind, Sem.run_pure, Result.andThen_ok, storeVar, hs, Value.cells]
 have hz : (cA y).size = 15 := rfl
 simp [hz, hst]
theorem wp_store_cell {K : Act → World → Prop} (x z : Operand) (ho : op.op = .store 49 x z) (g : Nat) (l : List Cl) (sp : List Value) (k : Nat) (y : Cl) (hx : a.eval x = .pointer (some ⟨g, k * 15, none⟩)) (hz : a.eval z = .agg (cA y)) (hr : RC w g l sp) (hk : k < l.length)
  (h : K (a.put op.dst undef) (w.setRow g (cLs (l.set k y) ++ sp).toArray)) : op.wp Try.prog a w K Q := by
 unfold Oper.wp execOp
 simp only [ho, hx, hz, Sem.run_bind, run_store_cell w g l sp k y hr hk, Result.andThen_ok, Sem.run_pure]
 exact h
theorem wpList_store_cell (hgd : op.guard = none) (x z : Operand) (ho : op.op = .store 49 x z) (g : Nat) (l : List Cl) (sp : List Value) (k : Nat) (y : Cl) (hx : a.eval x = .pointer (some ⟨g, k * 15, none⟩)) (hz : a.eval z = .agg (cA y)) (hr : RC w g l sp) (hk : k < l.length)
  (h : wpList Try.prog ops Q rest (a.put op.dst undef) (w.setRow g (cLs (l.set k y) ++ sp).toArray)) : wpList Try.prog ops Q (op :: rest) a w :=
 wpList_plain hgd fun K hK => wp_store_cell x z ho g l sp k y hx hz hr hk (hK _ _ h)
/-- A cell is read out of it. -/
theorem rangeAt_cell {l : List Cl} {sp : List Value} {g k : Nat} (hr : RC w g l sp) (hk : k < l.length) : w.rangeAt g (k * 15) (cA (l.getD k (hf pl))).toList := fun j v hv => by
 have hj : j < 15 := by have := (List.getElem?_eq_some_iff.1 hv).1; rwa [cA_len] at this
 rw [hr.cell k j hk hj]
 simpa using hv
theorem rangeAt_cls {N : Nat} {v : Value} {l : List Cl} {b o k : Nat} (hc : ∀ j, j < 15 → w.cell? ⟨b, o + k * 15 + j, none⟩ = (cA (l.getD k (hf pl)))[j]?) : w.rangeAt b (o + k * 15) (cA (l.getD k (hf pl))).toList := fun j v hv => by
 have hj : j < 15 := by have := (List.getElem?_eq_some_iff.1 hv).1; rwa [cA_len] at this
 rw [hc j hj]
 simpa using hv
theorem wp_load_cell {K : Act → World → Prop} (x : Operand) (ho : op.op = .load 49 x) (b o : Nat) (y : Cl) (hx : a.eval x = .pointer (some ⟨b, o, none⟩)) (hc : w.rangeAt b o (cA y).toList) (h : K (a.put op.dst (.agg (cA y))) w) : op.wp Try.prog a w K Q :=
 wp_load_mid 49 x ho b o hx (cA y).toList _ hc Try.underlying49 rfl s26 h
theorem wpList_load_cell (hgd : op.guard = none) (x : Operand) (ho : op.op = .load 49 x) (b o : Nat) (y : Cl) (hx : a.eval x = .pointer (some ⟨b, o, none⟩)) (hc : w.rangeAt b o (cA y).toList)
  (h : wpList Try.prog ops Q rest (a.put op.dst (.agg (cA y))) w) : wpList Try.prog ops Q (op :: rest) a w :=
 wpList_plain hgd fun K hK => wp_load_cell x ho b o y hx hc (hK _ _ h)
end
end Go.Proofs.Ytnbonlkmadmpcaa
