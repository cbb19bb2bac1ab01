/- Events behind a slice, cut; what stands between the marks of a paste. -/
import Derived.Test.YtepepoabbbjmgaaKf
import Derived.Laws.Small
namespace Go.Proofs.Ytepepoabbbjmgaa
open Go.RowKit Go.BigFrame
set_option linter.unusedSimpArgs false
set_option linter.unusedVariables false

theorem slice_op {P : Program} {op : Oper} {a : Act} (t : TypeId) (x : Operand) (lo hi mx : Option Operand) (ho : op.op = .slice t x lo hi mx) (v : Value) (w : World) (h : (Instr.sliceAt t (a.eval x) (lo.map a.eval) (hi.map a.eval) (mx.map a.eval)).run P w = .ok v w) :
    (execOp a.eval op).run P w = .ok (.value v) w := by
  unfold execOp
  simp only [ho, Sem.run_bind, h, Result.andThen_ok, Sem.run_pure]
theorem wp_val {P : Program} {op : Oper} {a : Act} {w : World} {K : Act → World → Prop} {Q : Exit → Act → World → Prop} (v : Value) (hrun : (execOp a.eval op).run P w = .ok (.value v) w) (h : K (a.put op.dst v) w) : op.wp P a w K Q := by
  unfold Oper.wp; rw [hrun]; exact h
theorem wpList_slice {P : Program} {ops : Array Oper} {rest : List Oper} {op : Oper} {a : Act} {w : World} {Q : Exit → Act → World → Prop} (hgd : op.guard = none) (t : TypeId) (x : Operand) (lo hi mx : Option Operand) (ho : op.op = .slice t x lo hi mx) (v : Value)
    (h : (Instr.sliceAt t (a.eval x) (lo.map a.eval) (hi.map a.eval) (mx.map a.eval)).run P w = .ok v w) (hk : wpList P ops Q rest (a.put op.dst v) w) : wpList P ops Q (op :: rest) a w :=
  wpList_plain hgd fun K hK => wp_val v (slice_op t x lo hi mx ho v w h) (hK _ _ hk)
set_option maxRecDepth 100000 in
theorem info25 : ∃ i, Try.prog.info? 25 = some i ∧ i.size = 5 := ⟨_, rfl, rfl⟩
theorem size25 (w : World) : (sizeOf 25).run Try.prog w = .ok 5 w := by
  obtain ⟨i, h1, h2⟩ := info25
  simp [sizeOf, typeInfo, h1, h2]
def backE (a : Option Addr) (c k : Nat) : Option Addr := if c = k then a else a.map (·.add (k * 5))
set_option maxRecDepth 100000 in
theorem run_frontE (a : Option Addr) (n c k : Nat) (h1 : k ≤ c) (w : World) : (Instr.sliceAt 48 (.slice a n c) none (some (.int .i64 (k : Int))) (some (.int .i64 (k : Int)))).run Try.prog w = .ok (.slice a k k) w := by
  have e : Try.prog.elem 48 = 25 := by kernel_rfl
  rw [run_sliceAt_slice w 48 _ _ _ _ (by kernel_rfl), run_slice_hm w 48 a n c (by kernel_rfl) _ _ _ _ (by omega) (by omega) (by omega), e, size25]
  simp only [Result.andThen_ok, Int.toNat_natCast, sliced]
  cases a with
  | none => simp
  | some a => by_cases hk : k = 0 <;> simp [hk, Addr.add]
set_option maxRecDepth 100000 in
theorem run_backE (a : Option Addr) (n c k : Nat) (h0 : k ≤ n) (h1 : n ≤ c) (w : World) : (Instr.sliceAt 48 (.slice a n c) (some (.int .i64 (k : Int))) none none).run Try.prog w = .ok (.slice (backE a c k) (n - k) (c - k)) w := by
  have e : Try.prog.elem 48 = 25 := by kernel_rfl
  rw [run_sliceAt_slice w 48 _ _ _ _ (by kernel_rfl), run_slice_l w 48 a n c (by kernel_rfl) _ _ (by omega) (by omega), e, size25]
  simp only [Result.andThen_ok, Int.toNat_natCast, sliced, backE]
theorem Evs.cap {N : Nat} {w : World} {v : Value} {l : List Ev} (h : Evs N w v l) : ∃ a c, v = .slice a l.length c ∧ l.length ≤ c := let ⟨a, c, h1, h2, _⟩ := h; ⟨a, c, h1, h2⟩
theorem Evs.front {N : Nat} {w : World} {a : Option Addr} {n c k : Nat} {l : List Ev} (h : Evs N w (.slice a n c) l) (hk : k ≤ l.length) : Evs N w (.slice a k k) (l.take k) := by
  have hlen : (l.take k).length = k := by rw [List.length_take]; omega
  obtain ⟨a', c', e, hc, h3⟩ := h
  injection e with e1 e2 e3
  subst e1
  refine ⟨a, k, by rw [hlen], by omega, fun j hj => ?_⟩
  rw [hlen] at hj
  obtain ⟨b, o, q1, q2, q3⟩ := h3 j (by omega)
  refine ⟨b, o, q1, q2, ?_⟩
  rwa [show (l.take k).getD j Ev.none = l.getD j Ev.none by simp [List.getD_eq_getElem?_getD, List.getElem?_take, hj]]
theorem Evs.back {N : Nat} {w : World} {a : Option Addr} {n c k : Nat} {l : List Ev} (h : Evs N w (.slice a n c) l) (hk : k ≤ l.length) : Evs N w (.slice (backE a c k) (n - k) (c - k)) (l.drop k) := by
  have hlen : (l.drop k).length = l.length - k := List.length_drop
  obtain ⟨a', c', e, hc, h3⟩ := h
  injection e with e1 e2 e3
  subst e1 e2 e3
  refine ⟨_, _, by rw [hlen], by omega, fun j hj => ?_⟩
  rw [hlen] at hj
  obtain ⟨b, o, q1, q2, q3⟩ := h3 (k + j) (by omega)
  subst q1
  have hck : ¬ c = k := by omega
  refine ⟨b, o + k * 5, ?_, q2, ?_⟩
  · unfold backE; rw [if_neg hck, Option.map_some, Addr.add_mid]
  · rw [show (l.drop k).getD j Ev.none = l.getD (k + j) Ev.none by simp [List.getD_eq_getElem?_getD], show o + k * 5 + j * 5 = o + (k + j) * 5 by omega]
    exact q3
/-- append, by itself. -/
theorem wp_app0 {o : Oper} {a : Act} {w : World} {K : Act → World → Prop} {Q : Exit → Act → World → Prop} (s x : Operand)
    (ho : o.op = .call { callee := .builtin .append, args := #[s, x], argTypes := #[23, 23] }) (N M : Nat) (hN : N ≤ w.heap.size)
    (v : Value) (d : List UInt8) (hs : a.eval s = v) (hown : OwnB N w v d) (vx : Value) (l : List UInt8) (hx : a.eval x = vx) (hin : InB M w vx l) (hmax : d.length + l.length ≤ 140737488355328)
    (h : ∀ v' w', OwnB N w' v' (d ++ l) → Fr N w w' → K (a.put o.dst v') w') : o.wp Try.prog a w K Q := by
  obtain ⟨i, h1, h2, h3, h4⟩ := Try.info5a
  have hsl := hown
  rcases hin with ⟨rfl, rfl⟩ | ⟨b, off, c, rfl, hc, hb, hr⟩
  · obtain ⟨a0, c0, hv⟩ := hown.slice
    have hrun : (Builtin.append_ #[23, 23] o.type #[v, .slice none 0 0]).run Try.prog w = .ok v w := by
      rw [hv]
      have hc0 : d.length ≤ c0 := by
        rcases hown.2 with ⟨e, e0⟩ | ⟨g, cap, cur, e1, e2, e3, e4, _⟩
        · rw [hv] at e; injection e with _ q1 q2; omega
        · rw [hv] at e1; injection e1 with _ q1 q2; omega
      cases a0 with
      | none => simp [Builtin.append_, run_underlying Try.underlying23, sizeOf, typeInfo, h1, Builtin.lenOf, run_firstCells_none, hc0]
      | some a0 => simp [Builtin.append_, run_underlying Try.underlying23, sizeOf, typeInfo, h1, Builtin.lenOf, run_firstCells_none, storeCells, hc0]
    unfold Oper.wp execOp
    simp only [ho, resolve, invoke, builtin, Sem.run_bind, Sem.run_pure, Result.andThen_ok, List.map_toArray, List.map_cons, List.map_nil, hs, hx, hrun]
    exact h v w (by rw [List.append_nil]; exact hown) (Fr.refl _ _)
  · obtain ⟨v', w', hr, g2, g3, _⟩ := run_append_own (P := Try.prog) w N 23 o.type 5 i _ 1 1 Try.underlying23 h1 h2 h3 h4 rfl (by decide) v d.length (d.map B) hown ⟨b, off, none⟩ l.length c (l.map B) (by rw [List.length_map, Nat.mul_one]) (fun j u hu => by rw [Addr.add_mid]; exact hr j u hu) (one_By l) (by unfold maxLen; omega) (by omega) hN
    have g2' : OwnB N w' v' (d ++ l) := by unfold OwnB; rw [List.length_append, List.map_append]; exact g2
    unfold Oper.wp execOp
    simp only [ho, resolve, invoke, builtin, Sem.run_bind, Sem.run_pure, Result.andThen_ok, List.map_toArray, List.map_cons, List.map_nil, hs, hx, hr]
    exact h v' w' g2' (Fr.grown hown g3)
/-- Between the marks of a paste stands no 27. -/
theorem paste_safe (l : List UInt8) (j : Nat) (h1 : 1 ≤ j) (h2 : j + 6 < (mkA ++ clean l ++ mkZ).length) : (mkA ++ clean l ++ mkZ).getD j 0 ≠ 27 := by
  have hz : mkZ.length = 6 := rfl
  have ha : mkA.length = 6 := rfl
  rw [List.length_append, List.length_append, hz, ha] at h2
  rw [List.getD_eq_getElem?_getD, List.getElem?_append_left (by rw [List.length_append, ha]; omega)]
  by_cases hj : j < 6
  · rw [List.getElem?_append_left (by rw [ha]; omega)]
    rcases (show j = 1 ∨ j = 2 ∨ j = 3 ∨ j = 4 ∨ j = 5 by omega) with rfl | rfl | rfl | rfl | rfl <;> decide
  · rw [List.getElem?_append_right (by rw [ha]; omega), ha, List.getElem?_eq_getElem (by omega)]
    intro e
    exact clean_27 l (by rw [← e]; simp)
theorem badE_front {l : List Ev} (h : badE l = false) (k : Nat) : badE (l.take k) = false ∧ badE (l.drop k) = false := by
  unfold badE at *
  rw [List.any_eq_false] at *
  rw [List.any_eq_false]
  exact ⟨fun x hx => h x (List.mem_of_mem_take hx), fun x hx => h x (List.mem_of_mem_drop hx)⟩
theorem badE_parts {l : List Ev} (h : badE l = true) (k : Nat) : badE (l.take k) = true ∨ badE (l.drop k) = true := by
  unfold badE at *
  rw [← List.take_append_drop k l, List.any_append, Bool.or_eq_true] at h
  exact h
/-- Events in two parts: what All answers. -/
theorem allS_parts (s : Sc.Sn) (l : List Ev) (k : Nat) : ((allS s l).2 = 0 ∧ (allS s (l.take k)).2 = 0 ∧ (allS s (l.drop k)).2 = 0 ∧ (allS s (l.take k)).1 ++ (allS s (l.drop k)).1 = (allS s l).1) ∨ ((allS s l).2 = 2 ∧ (allS s l).1 = [] ∧ (((allS s (l.take k)).2 = 2) ∨ ((allS s (l.take k)).2 = 0 ∧ (allS s (l.drop k)).2 = 2))) := by
  unfold allS
  by_cases hm : Sc.mayN s = true
  · simp only [if_pos hm]
    unfold allF
    by_cases hb : badE l = true
    · simp only [if_pos hb]
      refine .inr ⟨trivial, trivial, ?_⟩
      by_cases h1 : badE (l.take k) = true
      · exact .inl (by rw [if_pos h1])
      · have h2 : badE (l.drop k) = true := by
          rcases badE_parts hb k with h | h
          · exact absurd h h1
          · exact h
        exact .inr ⟨by rw [if_neg h1], by rw [if_pos h2]⟩
    · have hb' : badE l = false := by simpa using hb
      obtain ⟨h1, h2⟩ := badE_front hb' k
      simp only [hb', h1, h2]
      exact .inl ⟨rfl, rfl, rfl, allK_app l s.arr s.pas k⟩
  · simp only [if_neg hm]
    exact .inr ⟨trivial, trivial, .inl trivial⟩
theorem allS_len (s : Sc.Sn) (l : List Ev) (hl : l.length ≤ 1048576) : (allS s l).1.length ≤ 5000000000 := by
  unfold allS allF
  split
  · split
    · simp
    · rename_i hb
      have hb' : badE l = false := by simpa using hb
      have := allK_len l s.arr s.pas l.length (Nat.le_refl _) (fun j hj => badE_get hb' hj)
      show (allK l s.arr s.pas l.length).length ≤ _
      omega
  · simp
end Go.Proofs.Ytepepoabbbjmgaa
