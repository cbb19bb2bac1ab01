/- Styles compared as one. -/
import Derived.Test.YtnbonlkmadmpcaaV
import Derived.Laws.StructEq
namespace Go.Proofs.Ytnbonlkmadmpcaa
open Go.RowKit Go.BigFrame
set_option linter.unusedVariables false
set_option linter.unusedSimpArgs false

set_option maxRecDepth 100000 in
theorem fields24 : (Try.prog.fieldsOf 26).toList = [⟨ "Fg", 3, 0, false, "", "", 0⟩, ⟨ "Bg", 3, 1, false, "", "", 8⟩, ⟨ "Bold", 4, 2, false, "", "", 16⟩, ⟨ "Faint", 4, 3, false, "", "", 17⟩, ⟨ "Italic", 4, 4, false, "", "", 18⟩, ⟨ "Under", 4, 5, false, "", "", 19⟩, ⟨ "Blink", 4, 6, false, "", "", 20⟩, ⟨ "Inverse", 4, 7, false, "", "", 21⟩, ⟨ "Hidden", 4, 8, false, "", "", 22⟩, ⟨ "Struck", 4, 9, false, "", "", 23⟩] := by kernel_rfl
theorem run_part1 (w : World) (e : TypeId) (k : IntKind) (he : Try.prog.underlying e = some (.int k)) (c : Array Value) (i : Nat) (v : Value) (hc : c[i]? = some v) : (part e c i).run Try.prog w = .ok v w := by
  simp [part, isAgg, underlying, he, hc]
theorem run_partB (w : World) (e : TypeId) (he : Try.prog.underlying e = some .bool) (c : Array Value) (i : Nat) (v : Value) (hc : c[i]? = some v) : (part e c i).run Try.prog w = .ok v w := by
  simp [part, isAgg, underlying, he, hc]
theorem eqF_int (w : World) (d : Nat) (xs ys : Array Value) (nm tg pk : String) (hn : nm ≠ "_") (i bo : Nat) (em : Bool) (x y : Int) (hx : xs[i]? = some (.int .i64 x)) (hy : ys[i]? = some (.int .i64 y)) (fs : List Field) :
    (Op.eqFields (d + 1) xs ys (⟨nm, 3, i, em, tg, pk, bo⟩ :: fs)).run Try.prog w = if x = y then (Op.eqFields (d + 1) xs ys fs).run Try.prog w else .ok false w := by
  simp only [Op.eqFields, if_pos hn, Sem.run_bind, run_part1 w 3 .i64 Try.underlying3 _ _ _ hx, run_part1 w 3 .i64 Try.underlying3 _ _ _ hy, Result.andThen_ok, run_equalIn_int w d 3 .i64 .i64 x y Try.underlying3]
  by_cases h : x = y
  · subst h; simp
  · rw [beq_eq_false_iff_ne.2 h]; simp [h]
theorem eqF_bool (w : World) (d : Nat) (xs ys : Array Value) (nm tg pk : String) (hn : nm ≠ "_") (i bo : Nat) (em : Bool) (x y : Bool) (hx : xs[i]? = some (.bool x)) (hy : ys[i]? = some (.bool y)) (fs : List Field) :
    (Op.eqFields (d + 1) xs ys (⟨nm, 4, i, em, tg, pk, bo⟩ :: fs)).run Try.prog w = if x = y then (Op.eqFields (d + 1) xs ys fs).run Try.prog w else .ok false w := by
  simp only [Op.eqFields, if_pos hn, Sem.run_bind, run_partB w 4 Try.underlying4 _ _ _ hx, run_partB w 4 Try.underlying4 _ _ _ hy, Result.andThen_ok, run_equalIn_bool' w d 4 x y Try.underlying4]
  cases x <;> cases y <;> simp
theorem st_ext (s t : St) : stB s t = true ↔ s.fg = t.fg ∧ s.bg = t.bg ∧ s.b1 = t.b1 ∧ s.b2 = t.b2 ∧ s.b3 = t.b3 ∧ s.b4 = t.b4 ∧ s.b5 = t.b5 ∧ s.b7 = t.b7 ∧ s.b8 = t.b8 ∧ s.b9 = t.b9 := by
  rw [stB_iff]
  cases s; cases t; simp
theorem ite_dec {p q : Prop} [Decidable p] [Decidable q] (w : World) : (if p then (Result.ok (decide q) w : Result Bool) else .ok false w) = .ok (decide (p ∧ q)) w := by
  by_cases h : p <;> simp [h]
theorem run_eq_style (w : World) (d : Nat) (s t : St) : (Op.equalIn (d + 2) 26 (.agg (sA s)) (.agg (sA t))).run Try.prog w = .ok (stB s t) w := by
  rw [run_equalIn_struct w (d + 1) 26 _ _ (by kernel_rfl) (by kernel_rfl), fields24]
  rw [eqF_int w d _ _ _ _ _ (by decide) 0 _ _ s.fg t.fg rfl rfl, eqF_int w d _ _ _ _ _ (by decide) 1 _ _ s.bg t.bg rfl rfl]
  rw [eqF_bool w d _ _ _ _ _ (by decide) 2 _ _ s.b1 t.b1 rfl rfl, eqF_bool w d _ _ _ _ _ (by decide) 3 _ _ s.b2 t.b2 rfl rfl, eqF_bool w d _ _ _ _ _ (by decide) 4 _ _ s.b3 t.b3 rfl rfl, eqF_bool w d _ _ _ _ _ (by decide) 5 _ _ s.b4 t.b4 rfl rfl, eqF_bool w d _ _ _ _ _ (by decide) 6 _ _ s.b5 t.b5 rfl rfl, eqF_bool w d _ _ _ _ _ (by decide) 7 _ _ s.b7 t.b7 rfl rfl, eqF_bool w d _ _ _ _ _ (by decide) 8 _ _ s.b8 t.b8 rfl rfl, eqF_bool w d _ _ _ _ _ (by decide) 9 _ _ s.b9 t.b9 rfl rfl]
  have e : ∀ p : Prop, [Decidable p] → (if p then (Op.eqFields (d + 1) (sA s) (sA t) []).run Try.prog w else .ok false w) = .ok (decide p) w := by
    intro p _
    by_cases h : p <;> simp [h, Op.eqFields]
  rw [e]
  repeat rw [ite_dec]
  congr 1
  cases e : stB s t with
  | true => exact decide_eq_true ((st_ext s t).1 e)
  | false => exact decide_eq_false (fun h => by rw [(st_ext s t).2 h] at e; cases e)
theorem run_eql_style (w : World) (s t : St) : (binOp .eql 26 (.agg (sA s)) (.agg (sA t))).run Try.prog w = .ok (.bool (stB s t)) w := by
  rw [run_eql_struct, run_eq_style w 9998 s t]; rfl
set_option maxRecDepth 100000 in
theorem guard24 : Try.prog.eqGuardType Try.prog.depth 26 = false := by kernel_rfl
/-- The same as an operation. -/
theorem run_eql_op {op : Oper} {a : Act} (ty : TypeId) (x y : Operand) (ho : op.op = .binOp .eql 26 x y ty) (s t : St) (hx : a.eval x = .agg (sA s)) (hy : a.eval y = .agg (sA t)) (r : Bool) (hr : stB s t = r) (w : World) :
    (execOp a.eval op).run Try.prog w = .ok (.value (.bool r)) w := by
  unfold execOp
  simp only [ho, hx, hy, Sem.run_bind, run_eqGuard_agg w .eql 26 x y (sA s) (sA t) guard24, Result.andThen_ok, run_eql_style w s t, hr, Sem.run_pure]
theorem wpList_eql {ops : Array Oper} {rest : List Oper} {op : Oper} {a : Act} {w : World} {Q : Exit → Act → World → Prop} (hgd : op.guard = none) (ty : TypeId) (x y : Operand) (ho : op.op = .binOp .eql 26 x y ty) (s t : St) (hx : a.eval x = .agg (sA s)) (hy : a.eval y = .agg (sA t)) (r : Bool) (hr : stB s t = r)
    (h : wpList Try.prog ops Q rest (a.put op.dst (.bool r)) w) : wpList Try.prog ops Q (op :: rest) a w :=
  wpList_plain hgd fun K hK => wp_val _ (run_eql_op ty x y ho s t hx hy r hr w) (hK _ _ h)
end Go.Proofs.Ytnbonlkmadmpcaa
