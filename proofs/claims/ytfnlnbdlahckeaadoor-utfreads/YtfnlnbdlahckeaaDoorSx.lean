/- Bytes are cut. -/
import Derived.Test.YtfnlnbdlahckeaaDoorRd
namespace Go.Proofs.YtfnlnbdlahckeaaDoor
open Go.RowKit Go.BigFrame
set_option linter.unusedSimpArgs false

theorem slice_op {P : Program} {op : Oper} {a : Act} (t : TypeId) (x : Operand) (lo hi mx : Option Operand) (ho : op.op = .slice t x lo hi mx) (v : Value) (w : World) (h : (Instr.sliceAt t (a.eval x) (lo.map a.eval) (hi.map a.eval) (mx.map a.eval)).run P w = .ok v w) :
    (execOp a.eval op).run P w = .ok (.value v) w := by
  unfold execOp
  simp only [ho, Sem.run_bind, h, Result.andThen_ok, Sem.run_pure]
theorem wpList_val {P : Program} {ops : Array Oper} {rest : List Oper} {op : Oper} {a : Act} {w : World} {Q : Exit → Act → World → Prop} (hgd : op.guard = none) (v : Value) (hrun : (execOp a.eval op).run P w = .ok (.value v) w)
    (h : wpList P ops Q rest (a.put op.dst v) w) : wpList P ops Q (op :: rest) a w :=
  wpList_plain hgd fun _ hK => by unfold Oper.wp; rw [hrun]; exact hK _ _ h
theorem wpList_slice {P : Program} {ops : Array Oper} {rest : List Oper} {op : Oper} {a : Act} {w : World} {Q : Exit → Act → World → Prop} (hgd : op.guard = none) (t : TypeId) (x : Operand) (lo hi mx : Option Operand) (ho : op.op = .slice t x lo hi mx) (v : Value)
    (hrun : (Instr.sliceAt t (a.eval x) (lo.map a.eval) (hi.map a.eval) (mx.map a.eval)).run P w = .ok v w) (h : wpList P ops Q rest (a.put op.dst v) w) : wpList P ops Q (op :: rest) a w :=
  wpList_val hgd v (slice_op t x lo hi mx ho v w hrun) h
theorem Tryd.size5 : ∀ w, (sizeOf 5).run Tryd.prog w = .ok 1 w := by
  intro w
  obtain ⟨i, h1, h2, h3, h4⟩ := Tryd.info5a
  simp [sizeOf, typeInfo, h1, h3]
/-- What lies behind is cut out. -/
theorem InB.behind {N : Nat} {w : World} {v : Value} {l : List UInt8} (h : InB N w v l) {k : Nat} (hk : k ≤ l.length) (hl : l.length ≤ 140737488355328) :
    ∃ a' c', (∀ w', (Instr.sliceAt 22 v (some (.int .i64 (k : Int))) none none).run Tryd.prog w' = .ok (.slice a' (l.length - k) c') w') ∧ InB N w (.slice a' (l.length - k) c') (l.drop k) := by
  rcases h with ⟨rfl, rfl⟩ | ⟨b, o, c, rfl, hc, h3, h4⟩
  · obtain rfl : k = 0 := by simpa using hk
    refine ⟨none, 0, fun w' => ?_, .inl ⟨rfl, rfl⟩⟩
    simp [Instr.sliceAt, Instr.slice, run_underlying Tryd.underlying22, Instr.sliceBounds, Instr.sliceBound, go_sem, Tryd.size5, asIntOf, Result.andThen]
  · have h1 : (0 : Int) ≤ (k : Int) ∧ (k : Int) ≤ (l.length : Int) := by omega
    by_cases hck : c = k
    · refine ⟨some ⟨b, o, none⟩, c - k, fun w' => ?_, .inr ⟨b, o, c - k, by rw [List.length_drop], by rw [List.length_drop]; omega, .inl (List.eq_nil_of_length_eq_zero (by rw [List.length_drop]; omega)), fun j u hu => ?_⟩⟩
      · simp [Instr.sliceAt, Instr.slice, run_underlying Tryd.underlying22, Instr.sliceBounds, Instr.sliceBound, go_sem, Tryd.size5, asIntOf, Result.andThen, h1, hck]
        rw [if_pos hk]
        simp
      · rw [List.eq_nil_of_length_eq_zero (show (l.drop k).length = 0 by rw [List.length_drop]; omega)] at hu
        simp at hu
    · refine ⟨some ⟨b, o + k, none⟩, c - k, fun w' => ?_, .inr ⟨b, o + k, c - k, by rw [List.length_drop], by rw [List.length_drop]; omega, ?_, range_drop h4 k⟩⟩
      · simp [Instr.sliceAt, Instr.slice, run_underlying Tryd.underlying22, Instr.sliceBounds, Instr.sliceBound, go_sem, Tryd.size5, asIntOf, Result.andThen, h1, hck, Addr.add]
        rw [if_pos hk]
        simp only [if_neg hck]
        by_cases h0 : k = 0
        · subst h0; simp
        · rw [if_neg h0]
      · rcases h3 with rfl | h3
        · exact .inl (by simp)
        · exact .inr h3
end Go.Proofs.YtfnlnbdlahckeaaDoor
