/- Marks: mayMarks, withMark. Changes: the parameters that make one style of another one. Colours and styles that may be; what tells a colour. Styles compared as one. Blank, Mark, May. -/
import Derived.Test.YtnbonlkmadmpcaaA
import Derived.Test.YtnbonlkmadmpcaaS
import Derived.Test.YtnbonlkmadmpcaaV
import Derived.Deep.Cut
import Derived.Laws.StructEq
namespace Go.Proofs.Ytnbonlkmadmpcaa
open Go.RowKit Go.BigFrame
set_option linter.unusedVariables false
set_option linter.unusedSimpArgs false
set_option maxRecDepth 100000 in
theorem s21 : (Try.prog.info? 21).map (·.size) = some 1 := by kernel_rfl
theorem wpList_idx {ops : Array Oper} {rest : List Oper} {op : Oper} {a : Act} {w : World} {Q : Exit → Act → World → Prop} (hgd : op.guard = none) (x i : Operand) (ho : op.op = .index 47 x i) (c : Array Value) (k : Nat) (v : Value) (hx : a.eval x = .agg c) (hi : a.eval i = .int .i64 (k : Int)) (hk : k < 3) (hc : c[k]? = some v)
  (h : wpList Try.prog ops Q rest (a.put op.dst v) w) : wpList Try.prog ops Q (op :: rest) a w := by
 refine wpList_plain hgd fun K hK => ?_
 unfold Oper.wp execOp
 simp only [ho, hx, hi, Sem.run_bind, run_index_arr w 47 21 3 c k v .i64 .i32 Try.underlying47 Try.underlying21 s21 hk hc, Result.andThen_ok, Sem.run_pure]
 exact hK _ _ h
end Go.Proofs.Ytnbonlkmadmpcaa
namespace Go.Proofs.Ytnbonlkmadmpcaa
set_option linter.unusedVariables false
set_option linter.unusedSimpArgs false
def mc (n : Int) : Bool := decide (-1 ≤ n ∧ n ≤ 255)
def mayS (s : St) : Bool := mc s.fg && mc s.bg
end Go.Proofs.Ytnbonlkmadmpcaa
namespace Go.Proofs.Ytnbonlkmadmpcaa
open Go.RowKit Go.BigFrame
set_option linter.unusedVariables false
set_option linter.unusedSimpArgs false
set_option maxHeartbeats 1000000 in
theorem mayColour_any (n : Int) (w : World) : Calls Try.prog 65 #[.int .i64 n] w fun e w' => e = .returned (.bool (mc n)) ∧ w' = w := by
 have IC := Box'.mk (isColour_any n w)
 by_cases h : n = -1
 ·subst h
  go_enter Try.func65, Try.ntmps65
  go_wp2_with fail
  go_ret
  exact ⟨rfl, rfl⟩
 ·have E : Box' (mc n = (n == -1 || isC n)) := ⟨by rw [beq_eq_false_iff_ne.2 h, Bool.false_or]; unfold mc isC; apply decide_eq_decide.2; omega⟩
  go_enter Try.func65, Try.ntmps65
  go_wp2_with fail
  refine IC.out.mono ?_
  rintro e w1 ⟨rfl, rfl⟩
  go_wp2_with fail
  go_ret
  exact ⟨by rw [E.out]; rfl, rfl⟩
set_option maxHeartbeats 1000000 in
theorem refColour_any (n : Int) (w : World) : Calls Try.prog 51 #[.int .i64 n] w fun e w' => e = .returned (.bool (mc n)) ∧ w' = w := by
 by_cases h1 : -1 ≤ n
 ·by_cases h2 : n ≤ 255
  ·have E : Box' (mc n = true) := ⟨by unfold mc; simp; omega⟩
   go_enter Try.func51, Try.ntmps51
   go_wp2_with fail
   go_ret
   exact ⟨by rw [E.out]; rfl, rfl⟩
  ·have E : Box' (mc n = false) := ⟨by unfold mc; simp; omega⟩
   go_enter Try.func51, Try.ntmps51
   go_wp2_with fail
   go_ret
   exact ⟨by rw [E.out]; rfl, rfl⟩
 ·have E : Box' (mc n = false) := ⟨by unfold mc; simp; omega⟩
  go_enter Try.func51, Try.ntmps51
  go_wp2_with fail
  go_ret
  exact ⟨by rw [E.out]; rfl, rfl⟩
set_option maxHeartbeats 2000000 in
theorem mayStyle_any (s : St) (w : World) : Calls Try.prog 55 #[.agg (sA s)] w fun e w' => e = .returned (.bool (mayS s)) ∧ Below w.heap.size w w' := by
 have MC := Box'.mk mayColour_any
 have B := Box'.mk ((Below.refl w.heap.size w).alloc (Nat.le_refl _) (.cells (sA s) 26))
 have R := Box'.mk (Row.new w 26 (sA s))
 generalize hw : w.alloc (.cells (sA s) 26) = w1 at *
 have c0 : w1.cell? ⟨w.heap.size, 0, none⟩ = some (.int .i64 s.fg) := R.out.cell 0
 have c1 : w1.cell? ⟨w.heap.size, 1, none⟩ = some (.int .i64 s.bg) := R.out.cell 1
 have HW := Box'.mk hw
 clear hw R
 go_enter Try.func55, Try.ntmps55
 go_upto_region 1 with (fail)
 rw [HW.out]
 clear HW
 cases hf : mc s.fg with
 | false =>
  have E : Box' (mayS s = false) := ⟨by unfold mayS; rw [hf]; rfl⟩
  go_wp2_with fail
  refine (MC.out _ _).mono ?_
  rintro e w2 ⟨rfl, rfl⟩
  rw [hf]
  go_wp2_with fail
  go_ret
  exact ⟨by rw [E.out]; rfl, B.out⟩
 | true =>
  have E : Box' (mayS s = mc s.bg) := ⟨by unfold mayS; rw [hf]; rfl⟩
  go_wp2_with fail
  refine (MC.out _ _).mono ?_
  rintro e w2 ⟨rfl, rfl⟩
  rw [hf]
  go_wp2_with fail
  refine (MC.out _ _).mono ?_
  rintro e w3 ⟨rfl, rfl⟩
  go_wp2_with fail
  go_ret
  exact ⟨by rw [E.out]; rfl, B.out⟩
set_option maxHeartbeats 2000000 in
theorem refMayStyle_any (s : St) (w : World) : Calls Try.prog 30 #[.agg (sA s)] w fun e w' => e = .returned (.bool (mayS s)) ∧ Below w.heap.size w w' := by
 have MC := Box'.mk refColour_any
 have B := Box'.mk ((Below.refl w.heap.size w).alloc (Nat.le_refl _) (.cells (sA s) 26))
 have R := Box'.mk (Row.new w 26 (sA s))
 generalize hw : w.alloc (.cells (sA s) 26) = w1 at *
 have c0 : w1.cell? ⟨w.heap.size, 0, none⟩ = some (.int .i64 s.fg) := R.out.cell 0
 have c1 : w1.cell? ⟨w.heap.size, 1, none⟩ = some (.int .i64 s.bg) := R.out.cell 1
 have HW := Box'.mk hw
 clear hw R
 go_enter Try.func30, Try.ntmps30
 go_upto_region 1 with (fail)
 rw [HW.out]
 clear HW
 cases hf : mc s.fg with
 | false =>
  have E : Box' (mayS s = false) := ⟨by unfold mayS; rw [hf]; rfl⟩
  go_wp2_with fail
  refine (MC.out _ _).mono ?_
  rintro e w2 ⟨rfl, rfl⟩
  rw [hf]
  go_wp2_with fail
  go_ret
  exact ⟨by rw [E.out]; rfl, B.out⟩
 | true =>
  have E : Box' (mayS s = mc s.bg) := ⟨by unfold mayS; rw [hf]; rfl⟩
  go_wp2_with fail
  refine (MC.out _ _).mono ?_
  rintro e w2 ⟨rfl, rfl⟩
  rw [hf]
  go_wp2_with fail
  refine (MC.out _ _).mono ?_
  rintro e w3 ⟨rfl, rfl⟩
  go_wp2_with fail
  go_ret
  exact ⟨by rw [E.out]; rfl, B.out⟩
end Go.Proofs.Ytnbonlkmadmpcaa
namespace Go.Proofs.Ytnbonlkmadmpcaa
open Go.RowKit Go.BigFrame
set_option linter.unusedVariables false
set_option linter.unusedSimpArgs false
set_option maxRecDepth 100000 in
theorem fields24 : (Try.prog.fieldsOf 26).toList = [⟨ "Fg", 3, 0, false, "", "", 0⟩, ⟨ "Bg", 3, 1, false, "", "", 8⟩, ⟨ "Bold", 4, 2, false, "", "", 16⟩, ⟨ "Faint", 4, 3, false, "", "", 17⟩, ⟨ "Italic", 4, 4, false, "", "", 18⟩, ⟨ "Under", 4, 5, false, "", "", 19⟩, ⟨ "Blink", 4, 6, false, "", "", 20⟩, ⟨ "Inverse", 4, 7, false, "", "", 21⟩, ⟨ "Hidden", 4, 8, false, "", "", 22⟩, ⟨ "Struck", 4, 9, false, "", "", 23⟩] := by kernel_rfl
theorem run_part1 (w : World) (e : TypeId) (k : IntKind) (he : Try.prog.underlying e = some (.int k)) (c : Array Value) (i : Nat) (v : Value) (hc : c[i]? = some v) : (part e c i).run Try.prog w = .ok v w := by
 simp [part, isAgg, underlying, he, hc]
theorem run_partB (w : World) (e : TypeId) (he : Try.prog.underlying e = some .bool) (c : Array Value) (i : Nat) (v : Value) (hc : c[i]? = some v) : (part e c i).run Try.prog w = .ok v w := by
 simp [part, isAgg, underlying, he, hc]
theorem eqF_int (w : World) (d : Nat) (xs ys : Array Value) (nm tg pk : String) (hn : nm ≠ "_") (i bo : Nat) (em : Bool) (x y : Int) (hx : xs[i]? = some (.int .i64 x)) (hy : ys[i]? = some (.int .i64 y)) (fs : List Field) :
  (Op.eqFields (d + 1) xs ys (⟨nm, 3, i, em, tg, pk, bo⟩ :: fs)).run Try.prog w = if x = y then (Op.eqFields (d + 1) xs ys fs).run Try.prog w else .ok false w := by
 simp only [Op.eqFields, if_pos hn, Sem.run_bind, run_part1 w 3 .i64 Try.underlying3 _ _ _ hx, run_part1 w 3 .i64 Try.underlying3 _ _ _ hy, Result.andThen_ok, run_equalIn_int w d 3 .i64 .i64 x y Try.underlying3]
 by_cases h : x = y
 ·subst h; simp
 ·rw [beq_eq_false_iff_ne.2 h]; simp [h]
theorem eqF_bool (w : World) (d : Nat) (xs ys : Array Value) (nm tg pk : String) (hn : nm ≠ "_") (i bo : Nat) (em : Bool) (x y : Bool) (hx : xs[i]? = some (.bool x)) (hy : ys[i]? = some (.bool y)) (fs : List Field) :
  (Op.eqFields (d + 1) xs ys (⟨nm, 4, i, em, tg, pk, bo⟩ :: fs)).run Try.prog w = if x = y then (Op.eqFields (d + 1) xs ys fs).run Try.prog w else .ok false w := by
 simp only [Op.eqFields, if_pos hn, Sem.run_bind, run_partB w 4 Try.underlying4 _ _ _ hx, run_partB w 4 Try.underlying4 _ _ _ hy, Result.andThen_ok, run_equalIn_bool' w d 4 x y Try.underlying4]
 cases x <;> cases y <;> simp
theorem st_ext (s t : St) : stB s t = true ↔ s.fg = t.fg ∧ s.bg = t.bg ∧ s.b1 = t.b1 ∧ s.b2 = t.b2 ∧ s.b3 = t.b3 ∧ s.b4 = t.b4 ∧ s.b5 = t.b5 ∧ s.b7 = t.b7 ∧ s.b8 = t.b8 ∧ s.b9 = t.b9 := by
 rw [stB_iff]
 cases s; cases t; simp
theorem ite_dec {p q : Prop} [Decidable p] [Decidable q] (w : World) : (if p then (Result.ok (decide q) w : Result Bool) else .ok false w) = .ok (decide (p ∧ q)) w := by
 by_cases h : p <;> simp [h]
theorem run_eq_style (w : World) (d : Nat) (s t : St) : (Op.equalIn (d + 2) 26 (.agg (sA s)) (.agg (sA t))).run Try.prog w = .ok (stB s t) w := by
 rw [run_equalIn_struct w (d + 1) 26 _ _ (by kernel_rfl) (by kernel_rfl), fields24]
 rw [eqF_int w d _ _ _ _ _ (by decide) 0 _ _ s.fg t.fg rfl rfl, eqF_int w d _ _ _ _ _ (by decide) 1 _ _ s.bg t.bg rfl rfl]
 rw [eqF_bool w d _ _ _ _ _ (by decide) 2 _ _ s.b1 t.b1 rfl rfl, eqF_bool w d _ _ _ _ _ (by decide) 3 _ _ s.b2 t.b2 rfl rfl, eqF_bool w d _ _ _ _ _ (by decide) 4 _ _ s.b3 t.b3 rfl rfl, eqF_bool w d _ _ _ _ _ (by decide) 5 _ _ s.b4 t.b4 rfl rfl, eqF_bool w d _ _ _ _ _ (by decide) 6 _ _ s.b5 t.b5 rfl rfl, eqF_bool w d _ _ _ _ _ (by decide) 7 _ _ s.b7 t.b7 rfl rfl, eqF_bool w d _ _ _ _ _ (by decide) 8 _ _ s.b8 t.b8 rfl rfl, eqF_bool w d _ _ _ _ _ (by decide) 9 _ _ s.b9 t.b9 rfl rfl]
 have e : ∀ p : Prop, [Decidable p] → (if p then (Op.eqFields (d + 1) (sA s) (sA t) []).run Try.prog w else .ok false w) = .ok (decide p) w := by
  intro p _
  by_cases h : p <;> simp [h, Op.eqFields]
 rw [e]
 repeat rw [ite_dec]
 congr 1
 cases e : stB s t with
 | true => exact decide_eq_true ((st_ext s t).1 e)
 | false => exact decide_eq_false (fun h => by rw [(st_ext s t).2 h] at e; cases e)
theorem run_eql_style (w : World) (s t : St) : (binOp .eql 26 (.agg (sA s)) (.agg (sA t))).run Try.prog w = .ok (.bool (stB s t)) w := by
 rw [run_eql_struct, run_eq_style w 9998 s t]; rfl
set_option maxRecDepth 100000 in
theorem guard24 : Try.prog.eqGuardType Try.prog.depth 26 = false := by kernel_rfl
/-- The same as an operation. -/
theorem run_eql_op {op : Oper} {a : Act} (ty : TypeId) (x y : Operand) (ho : op.op = .binOp .eql 26 x y ty) (s t : St) (hx : a.eval x = .agg (sA s)) (hy : a.eval y = .agg (sA t)) (r : Bool) (hr : stB s t = r) (w : World) :
  (execOp a.eval op).run Try.prog w = .ok (.value (.bool r)) w := by
 unfold execOp
 simp only [ho, hx, hy, Sem.run_bind, run_eqGuard_agg w .eql 26 x y (sA s) (sA t) guard24, Result.andThen_ok, run_eql_style w s t, hr, Sem.run_pure]
end Go.Proofs.Ytnbonlkmadmpcaa
namespace Go.Proofs.Ytnbonlkmadmpcaa
open Go.RowKit Go.BigFrame
set_option linter.unusedVariables false
set_option linter.unusedSimpArgs false
theorem size21 (w : World) : (sizeOf 21).run Try.prog w = .ok 1 w := by
 have := s21
 cases hq : Try.prog.info? 21 with
 | none => simp [hq] at this
 | some i => simp [hq] at this; simp [sizeOf, typeInfo, hq, this]
theorem run_part21 (w : World) (c : Array Value) (i : Nat) (v : Value) (hc : c[i]? = some v) : (part 21 c i).run Try.prog w = .ok v w := by
 simp [part, isAgg, underlying, Try.underlying21, hc]
def bl (s : St) : Cl := ⟨32, 0, 0, 0, 1, { pl with bg := s.bg }⟩
theorem of_32 : ofF 32 = 1 := by decide +kernel
theorem results13 (tmps : Array Value) (b : Nat) (hx : tmps.getD 2 undef = .pointer (some ⟨b, 0, none⟩)) (w : World) (c : Array Value) (hr : Row w b 49 c) (hn : c.size = 15) : (results Try.f53 tmps).run Try.prog w = .ok (.agg c) w :=
 results_row (p := 2) (ty := 49) rfl tmps b hx 49 c hr _ Try.underlying49 rfl 15 s26 hn
theorem one15 (x : Cl) : (cA x).all (·.oneCell') = true := by simp [cA, Value.oneCell']
set_option maxHeartbeats 4000000 in
theorem blank_any (s : St) (w : World) : Calls Try.prog 53 #[.agg (sA s)] w fun e w' => e = .returned (.agg (cA (bl s))) ∧ Below w.heap.size w w' := by
 have RS : Box' (Row ((w.alloc (.cells (sA s) 26)).alloc (.cells #[.int .i32 0, .int .i32 0, .int .i32 0, .int .i32 0, .int .u8 0, .int .i64 0, .int .i64 0, .bool false, .bool false, .bool false, .bool false, .bool false, .bool false, .bool false, .bool false] 49)) w.heap.size 26 (sA s)) := ⟨(Row.new _ _ _).alloc _⟩
 have RM : Box' (Room ((w.alloc (.cells (sA s) 26)).alloc (.cells #[.int .i32 0, .int .i32 0, .int .i32 0, .int .i32 0, .int .u8 0, .int .i64 0, .int .i64 0, .bool false, .bool false, .bool false, .bool false, .bool false, .bool false, .bool false, .bool false] 49)) (w.heap.size + 1) 49 15) := ⟨Room.made _ _ _ _ _ rfl (by simp)⟩
 have BB : Box' (Below w.heap.size w ((w.alloc (.cells (sA s) 26)).alloc (.cells #[.int .i32 0, .int .i32 0, .int .i32 0, .int .i32 0, .int .u8 0, .int .i64 0, .int .i64 0, .bool false, .bool false, .bool false, .bool false, .bool false, .bool false, .bool false, .bool false] 49))) := ⟨((Below.refl w.heap.size w).alloc (Nat.le_refl _) _).alloc (by simp) _⟩
 have PL := Box'.mk (plain_any ((w.alloc (.cells (sA s) 26)).alloc (.cells #[.int .i32 0, .int .i32 0, .int .i32 0, .int .i32 0, .int .u8 0, .int .i64 0, .int .i64 0, .bool false, .bool false, .bool false, .bool false, .bool false, .bool false, .bool false, .bool false] 49)))
 rw [lit_p] at PL
 have S26 := Box'.mk s26
 have O : Box' ((#[.int .i32 32, .int .i32 0, .int .i32 0, .int .i32 0, .int .u8 1, .int .i64 (-1), .int .i64 s.bg, .bool false, .bool false, .bool false, .bool false, .bool false, .bool false, .bool false, .bool false] : Array Value).all (·.oneCell') = true) := ⟨one15 (bl s)⟩
 go_enter Try.func53, Try.ntmps53
 go_wp2_with fail
 generalize ((w.alloc (.cells (sA s) 26)).alloc (.cells #[.int .i32 0, .int .i32 0, .int .i32 0, .int .i32 0, .int .u8 0, .int .i64 0, .int .i64 0, .bool false, .bool false, .bool false, .bool false, .bool false, .bool false, .bool false, .bool false] 49)) = w1 at *
 refine PL.out.mono ?_
 rintro e w2 ⟨rfl, hb2⟩
 have R2 := Box'.mk (RS.out.below hb2 RS.out.lt)
 have M2 := Box'.mk (RM.out.below hb2 (by obtain ⟨c, h, _⟩ := RM.out; exact h.lt))
 have B2 := Box'.mk (BB.out.trans (hb2.mono BB.out.size))
 have hlt := R2.out.lt
 have R3 := Box'.mk (R2.out.alloc (.cells #[.int .i64 (-1), .int .i64 (-1), .bool false, .bool false, .bool false, .bool false, .bool false, .bool false, .bool false, .bool false] 26))
 have RP := Box'.mk (Row.new w2 26 #[.int .i64 (-1), .int .i64 (-1), .bool false, .bool false, .bool false, .bool false, .bool false, .bool false, .bool false, .bool false])
 have M3 := Box'.mk (M2.out.alloc (.cells #[.int .i64 (-1), .int .i64 (-1), .bool false, .bool false, .bool false, .bool false, .bool false, .bool false, .bool false, .bool false] 26))
 have hl2 : w.heap.size + 1 < w2.heap.size := by obtain ⟨c, h, _⟩ := M2.out; exact h.lt
 have B3 := Box'.mk (B2.out.alloc B2.out.size (.cells #[.int .i64 (-1), .int .i64 (-1), .bool false, .bool false, .bool false, .bool false, .bool false, .bool false, .bool false, .bool false] 26))
 clear hb2 RS RM BB PL M2 B2 R2
 go_upto_region 2 with (fail)
 generalize (w2.alloc (.cells #[.int .i64 (-1), .int .i64 (-1), .bool false, .bool false, .bool false, .bool false, .bool false, .bool false, .bool false, .bool false] 26)) = w3 at *
 generalize w2.heap.size = g at *
 have c1 : w3.cell? ⟨w.heap.size, 1, none⟩ = some (.int .i64 s.bg) := R3.out.cell 1
 have d1 : w3.cell? ⟨g, 1, none⟩ = some (.int .i64 (-1)) := RP.out.cell 1
 have f1 := RP.out.frozen 1
 have RQ : Box' (Row (w3.setCell ⟨g, 1, none⟩ (.int .i64 s.bg)) g 26 #[.int .i64 (-1), .int .i64 s.bg, .bool false, .bool false, .bool false, .bool false, .bool false, .bool false, .bool false, .bool false]) := ⟨RP.out.setCell 1 _⟩
 have M4 : Box' (Room (w3.setCell ⟨g, 1, none⟩ (.int .i64 s.bg)) (w.heap.size + 1) 49 15) := ⟨M3.out.setOther _ _ (by show w.heap.size + 1 ≠ g; omega)⟩
 have B4 : Box' (Below w.heap.size w (w3.setCell ⟨g, 1, none⟩ (.int .i64 s.bg))) := ⟨B3.out.setCell (by show w.heap.size ≤ g; omega) _⟩
 have S24 := Box'.mk s24
 have U24 := Box'.mk Try.underlying26
 clear R3 RP M3 B3 hlt
 go_wp2_with (first
  | (refine wpList_load_row rfl 26 (.tmp 3) rfl g rfl 26 #[.int .i64 (-1), .int .i64 s.bg, .bool false, .bool false, .bool false, .bool false, .bool false, .bool false, .bool false, .bool false] RQ.out _ U24.out rfl 10 S24.out rfl ?_)
  | (refine wpList_store_row rfl 49 (.tmp 2) (.tmp 9) rfl (w.heap.size + 1) rfl #[.int .i32 32, .int .i32 0, .int .i32 0, .int .i32 0, .int .u8 1, .int .i64 (-1), .int .i64 s.bg, .bool false, .bool false, .bool false, .bool false, .bool false, .bool false, .bool false, .bool false] rfl 49 15 M4.out S26.out rfl O.out ?_))
 exact bodyPost_ret (results13 _ (w.heap.size + 1) rfl _ _ (M4.out.setRow _) rfl) rfl ⟨rfl, below_setRow B4.out (by omega) _⟩
set_option maxHeartbeats 4000000 in
theorem may_no (x : Cl) (h : mayS x.st = false) (w : World) : Calls Try.prog 50 #[.agg (cA x)] w fun e w' => e = .returned (.bool false) ∧ Below w.heap.size w w' := by
 have MS := Box'.mk (mayStyle_any x.st)
 rw [h] at MS
 have RX := Box'.mk (Row.new w 49 (cA x))
 have BB := Box'.mk ((Below.refl w.heap.size w).alloc (Nat.le_refl _) (.cells (cA x) 49))
 go_enter Try.func50, Try.ntmps50
 go_upto_region 1 with (fail)
 generalize w.alloc (.cells (cA x) 49) = w1 at *
 have c0 : w1.cell? ⟨w.heap.size, 0, none⟩ = some (.int .i32 x.ch) := RX.out.cell 0
 have c1 : w1.cell? ⟨w.heap.size, 1, none⟩ = some (.int .i32 x.m0) := RX.out.cell 1
 have c2 : w1.cell? ⟨w.heap.size, 2, none⟩ = some (.int .i32 x.m1) := RX.out.cell 2
 have c3 : w1.cell? ⟨w.heap.size, 3, none⟩ = some (.int .i32 x.m2) := RX.out.cell 3
 have c4 : w1.cell? ⟨w.heap.size, 4, none⟩ = some (.int .u8 (x.wd : Int)) := RX.out.cell 4
 have c5 : w1.cell? ⟨w.heap.size, 5, none⟩ = some (.int .i64 x.st.fg) := RX.out.cell 5
 have c6 : w1.cell? ⟨w.heap.size, 6, none⟩ = some (.int .i64 x.st.bg) := RX.out.cell 6
 have c7 : w1.cell? ⟨w.heap.size, 7, none⟩ = some (.bool x.st.b1) := RX.out.cell 7
 have c8 : w1.cell? ⟨w.heap.size, 8, none⟩ = some (.bool x.st.b2) := RX.out.cell 8
 have c9 : w1.cell? ⟨w.heap.size, 9, none⟩ = some (.bool x.st.b3) := RX.out.cell 9
 have c10 : w1.cell? ⟨w.heap.size, 10, none⟩ = some (.bool x.st.b4) := RX.out.cell 10
 have c11 : w1.cell? ⟨w.heap.size, 11, none⟩ = some (.bool x.st.b5) := RX.out.cell 11
 have c12 : w1.cell? ⟨w.heap.size, 12, none⟩ = some (.bool x.st.b7) := RX.out.cell 12
 have c13 : w1.cell? ⟨w.heap.size, 13, none⟩ = some (.bool x.st.b8) := RX.out.cell 13
 have c14 : w1.cell? ⟨w.heap.size, 14, none⟩ = some (.bool x.st.b9) := RX.out.cell 14
 clear RX h
 go_wp2_with fail
 refine (MS.out _).mono ?_
 rintro e w2 ⟨rfl, hb2⟩
 have B2 := Box'.mk (BB.out.trans (hb2.mono BB.out.size))
 clear hb2 BB MS
 go_wp2_with fail
 go_ret
 exact ⟨rfl, B2.out⟩
end Go.Proofs.Ytnbonlkmadmpcaa
