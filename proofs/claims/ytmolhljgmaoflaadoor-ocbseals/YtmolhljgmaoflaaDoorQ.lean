/- Arrays of bytes compared as one. -/
import Derived.Test.YtmolhljgmaoflaaDoorL
import Derived.Laws.StructEq
namespace Go.Proofs.YtmolhljgmaoflaaDoor
variable {P : Program}

theorem run_part_byte (w : World) (e : TypeId) (ek : IntKind) (he : P.underlying e = some (.int ek)) (c : Array Value) (k : Nat) (v : Value) (hc : c[k]? = some v) : (part e c k).run P w = .ok v w := by
  simp [part, isAgg, underlying, he, hc]

theorem drop_cons_getD (l : List UInt8) (s : Nat) (h : s < l.length) : l.drop s = l.getD s 0 :: l.drop (s + 1) := by
  rw [List.drop_eq_getElem_cons h]; simp [h]

theorem run_eq_arr (w : World) (d : Nat) (t e : TypeId) (n : Nat) (ek : IntKind) (hu : P.underlying t = some (.array n e)) (he : P.underlying e = some (.int ek)) (hs : (P.info? e).map (·.size) = some 1)
    (l l' : List UInt8) (hl : l.length = n) (hl' : l'.length = n) (hd : ∃ m, d = m + 1) : (Op.equalIn (d + 1) t (.agg (ag l)) (.agg (ag l'))).run P w = .ok (decide (l = l')) w := by
  have hsz : ∀ w, (sizeOf e).run P w = .ok 1 w := by
    intro w
    cases hq : P.info? e with
    | none => simp [hq] at hs
    | some i => simp [hq] at hs; simp [sizeOf, typeInfo, hq, hs]
  have hin : ∀ (w : World) (a b : Int), (Op.equalIn d e (.int .u8 a) (.int .u8 b)).run P w = .ok (a == b) w := by
    obtain ⟨m, rfl⟩ := hd
    intro w a b; exact run_equalIn_int w m e .u8 ek a b he
  clear hd
  simp only [Op.equalIn, Sem.run_bind, run_underlying hu, Result.andThen_ok, hsz]
  rw [Std.Legacy.Range.forIn_eq_forIn_range']
  have key : ∀ (k s : Nat), s + k = n → ∀ w : World, (Sem.run P (forIn (List.range' s k) ((none : Option Bool), ()) fun i __s => do
            let a ← part e (ag l) (i * 1)
            let b ← part e (ag l') (i * 1)
            let r ← Op.equalIn d e a b
            if (!r) = true then pure (ForInStep.done (some false, ())) else pure (ForInStep.yield (none, ()))) w) = .ok (if l.drop s = l'.drop s then (none, ()) else (some false, ())) w := by
    intro k
    induction k with
    | zero =>
      intro s hsn w
      have h1 : l.drop s = [] := List.drop_eq_nil_of_le (by omega)
      have h2 : l'.drop s = [] := List.drop_eq_nil_of_le (by omega)
      simp [h1, h2]
    | succ k ih =>
      intro s hsn w
      rw [List.range'_succ, List.forIn_cons]
      have p1 := run_part_byte (P := P) w e ek he (ag l) (s * 1) _ (by rw [Nat.mul_one]; exact ag_get (by omega))
      have p2 := run_part_byte (P := P) w e ek he (ag l') (s * 1) _ (by rw [Nat.mul_one]; exact ag_get (by omega))
      simp only [Sem.run_bind, p1, p2, Result.andThen_ok, hin]
      rw [drop_cons_getD l s (by omega), drop_cons_getD l' s (by omega)]
      by_cases hx : l.getD s 0 = l'.getD s 0
      · rw [hx]
        simp only [beq_self_eq_true, Bool.not_true, Bool.false_eq_true, if_false, Sem.run_pure, Result.andThen_ok, List.cons.injEq, true_and]
        exact ih (s + 1) (by omega) w
      · have hne : (((l.getD s 0).toNat : Int) == ((l'.getD s 0).toNat : Int)) = false := by
          rw [beq_eq_false_iff_ne]; intro h; exact hx (UInt8.toNat_inj.1 (by omega))
        simp only [hne, Bool.not_false, if_true, Sem.run_pure, Result.andThen_ok, List.cons.injEq, hx, false_and, if_false]
  have hk := key n 0 (by omega) w
  have e1 : [:n].size = n := by simp [Std.Legacy.Range.size]
  have e2 : ([:n].start) = 0 := rfl
  have e3 : ([:n].step) = 1 := rfl
  rw [e1, e2, e3, hk]
  simp only [List.drop_zero, Result.andThen_ok]
  by_cases h : l = l' <;> simp [h]

/-- Two arrays of bytes, compared by '=='. -/
theorem run_eql_arr (w : World) (t e : TypeId) (n : Nat) (ek : IntKind) (hu : P.underlying t = some (.array n e)) (he : P.underlying e = some (.int ek)) (hs : (P.info? e).map (·.size) = some 1)
    (l l' : List UInt8) (hl : l.length = n) (hl' : l'.length = n) : (binOp .eql t (.agg (ag l)) (.agg (ag l'))).run P w = .ok (.bool (decide (l = l'))) w := by
  rw [run_eql_struct, run_eq_arr w 9999 t e n ek hu he hs l l' hl hl' ⟨9998, rfl⟩]; rfl
/-- The same as an operation. -/
theorem run_eql_op {op : Oper} {a : Act} (t e ty : TypeId) (n : Nat) (ek : IntKind) (x y : Operand) (ho : op.op = .binOp .eql t x y ty) (hm : P.eqGuardType P.depth t = false) (hu : P.underlying t = some (.array n e)) (he : P.underlying e = some (.int ek)) (hs : (P.info? e).map (·.size) = some 1)
    (l l' : List UInt8) (hx : a.eval x = .agg (ag l)) (hy : a.eval y = .agg (ag l')) (hl : l.length = n) (hl' : l'.length = n) (r : Bool) (hr : decide (l = l') = r) (w : World) : (execOp a.eval op).run P w = .ok (.value (.bool r)) w := by
  unfold execOp
  simp only [ho, hx, hy, Sem.run_bind, run_eqGuard_agg w _ _ _ _ _ _ hm, Result.andThen_ok, run_eql_arr w t e n ek hu he hs l l' hl hl', hr, Sem.run_pure]
theorem run_pick_op {op : Oper} {a : Act} (c x y : Operand) (ho : op.op = .pick c x y) (t : Bool) (hc : a.eval c = .bool t) (v : Value) (hv : (if t then a.eval x else a.eval y) = v) (w : World) : (execOp a.eval op).run P w = .ok (.value v) w := by
  unfold execOp
  subst hv
  cases t <;> simp [ho, hc, asBool]

end Go.Proofs.YtmolhljgmaoflaaDoor
