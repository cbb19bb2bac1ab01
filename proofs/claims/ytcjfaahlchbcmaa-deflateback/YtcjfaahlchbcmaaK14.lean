/- The finder's state; the drawn region of know. -/
import Derived.Test.YtcjfaahlchbcmaaK12
import Derived.Test.YtcjfaahlchbcmaaK13
import Derived.Test.YtcjfaahlchbcmaaK09
import Derived.Test.YtcjfaahlchbcmaaK06
import Derived.Deep.QuietTactic
import Derived.BigQuiet
import Derived.Deep.Cut
import Derived.Test.YtcjfaahlchbcmaaK11
namespace Go.Proofs.Ytcjfaahlchbcmaa
open Go.RowKit Go.BigFrame
set_option linter.unusedVariables false
set_option linter.unusedSimpArgs false
def regOf' (n : Nat) : Code → Option Code
  | .region m o b => if m = n then some (.region m o b) else none
  | .block _ c => regOf' n c
  | .seq a b => match regOf' n a with
    | some c => some c
    | none => regOf' n b
  | .loop c => regOf' n c
  | .scope c => regOf' n c
  | .cond _ a b => match regOf' n a with
    | some c => some c
    | none => regOf' n b
  | _ => none
structure F3 (N H0 : Nat) (w w' : World) : Prop where
  os : w'.os = w.os
  tape : w'.tape = w.tape
  output : w'.output = w.output
  size : w.heap.size ≤ w'.heap.size
  block : ∀ k, k < w.heap.size → (k < N ∨ ∀ c z, w.heap[k]? ≠ some (.cells c 3 z)) → w'.heap[k]? = w.heap[k]?
  hi : H0 ≤ w'.heap.size
structure F4 (N g : Nat) (w w' : World) : Prop where
  os : w'.os = w.os
  tape : w'.tape = w.tape
  output : w'.output = w.output
  size : w.heap.size ≤ w'.heap.size
  block : ∀ k, k < w.heap.size → k ≠ g → (k < N ∨ ∀ c z, w.heap[k]? ≠ some (.cells c 3 z)) → w'.heap[k]? = w.heap[k]?
theorem F3.refl (N : Nat) {H0 : Nat} {w : World} (h : H0 ≤ w.heap.size) : F3 N H0 w w := ⟨rfl, rfl, rfl, Nat.le_refl _, fun _ _ _ => rfl, h⟩
theorem F3.drew {N H0 : Nat} {w w' : World} (h : F3 N H0 w w') : F3 N H0 w w'.drew := ⟨h.os, h.tape, h.output, h.size, h.block, h.hi⟩
theorem F3.trans {N H0 : Nat} {a b c : World} (h : F3 N H0 a b) (k : F3 N 0 b c) : F3 N H0 a c :=
  ⟨k.os.trans h.os, k.tape.trans h.tape, k.output.trans h.output, Nat.le_trans h.size k.size, fun i hi hc => by
    have e := h.block i hi hc
    refine (k.block i (Nat.lt_of_lt_of_le hi h.size) ?_).trans e
    rcases hc with hc | hc
    · exact .inl hc
    · exact .inr (by rw [e]; exact hc), Nat.le_trans h.hi k.size⟩
theorem F3.of {N : Nat} {w w' : World} (h : Below w.heap.size w w') : F3 N 0 w w' := ⟨h.os, h.tape, h.output, h.size, fun k hk _ => h.block k hk, Nat.zero_le _⟩
theorem own_slice {N : Nat} {w : World} {v : Value} {d : List Int} (h : OwnI N w v d) : ∃ a c, v = .slice a d.length c := by
  rcases h.2 with ⟨e, e0⟩ | ⟨g, cap, cur, e1, _⟩
  · exact ⟨none, 0, by rw [e, e0]⟩
  · exact ⟨_, _, e1⟩
theorem own_cells {N : Nat} {w : World} {v : Value} {d : List Int} (h : OwnI N w v d) {q : Nat} (e : v.ownBlock = some q) : N ≤ q ∧ ∃ c, w.heap[q]? = some (.cells c 3 (0, 0)) := by
  rcases h.2 with ⟨e1, _⟩ | ⟨g, cap, cur, e1, e2, e3, _⟩
  · rw [e1] at e; cases e
  · rw [e1] at e
    simp [Value.ownBlock] at e
    subst e
    exact ⟨e2, cur, e3⟩
theorem own_row_ne {N : Nat} {w : World} {v : Value} {d : List Int} (h : OwnI N w v d) {q : Nat} (e : v.ownBlock = some q) {t : TypeId} {c : Array Value} (hr : Row w q t c) (ht : t ≠ 3) : False := by
  obtain ⟨_, c', h'⟩ := own_cells h e
  unfold Row at hr
  rw [h'] at hr
  simp at hr
  exact ht hr.2.symm
theorem own_map_ne {N : Nat} {w : World} {v : Value} {d : List Int} (h : OwnI N w v d) {q : Nat} (e : v.ownBlock = some q) {l : List UInt8} {K : Nat} (hr : Mx w q l K) : False := by
  obtain ⟨_, c', h'⟩ := own_cells h e
  obtain ⟨es, cl, h1, _⟩ := hr
  rw [h'] at h1
  cases h1
theorem F3.grown {N : Nat} {w w' : World} {v : Value} {d : List Int} (ho : OwnI N w v d) (g : w.grownBy w' v.ownBlock) : F3 N 0 w w' :=
  ⟨g.os, g.tape, g.output, g.size, fun k hk hc => g.block k hk (fun e => by
    obtain ⟨h1, c, h2⟩ := own_cells ho e.symm
    rcases hc with hc | hc
    · omega
    · exact hc _ _ h2), Nat.zero_le _⟩
theorem row_type_ne {w : World} {q : Nat} {t t' : TypeId} {c c' : Array Value} (h : Row w q t c) (h' : Row w q t' c') (ht : t ≠ t') : False := by
  unfold Row at h h'
  rw [h] at h'
  simp at h'
  exact ht h'.2
theorem row_map_ne {w : World} {q : Nat} {t : TypeId} {c : Array Value} (h : Row w q t c) {l : List UInt8} {K : Nat} (h' : Mx w q l K) : False := by
  obtain ⟨es, cl, h1, _⟩ := h'
  unfold Row at h
  rw [h] at h1
  cases h1
theorem OwnI.keep {N : Nat} {w w' : World} {v : Value} {d : List Int} (h : OwnI N w v d) (hk : ∀ (q : Nat) (c : Array Value), w.heap[q]? = some (Obj.cells c 3 (0, 0)) → w'.heap[q]? = w.heap[q]?) : OwnI N w' v d := by
  refine ⟨h.1, ?_⟩
  rcases h.2 with h2 | ⟨g, cap, cur, e1, e2, e3, e4⟩
  · exact .inl h2
  · exact .inr ⟨g, cap, cur, e1, e2, by rw [hk g cur e3]; exact e3, e4⟩
theorem OwnI.setRow {N : Nat} {w : World} {v : Value} {d : List Int} (h : OwnI N w v d) {p : Nat} {t : TypeId} {c : Array Value} (hr : Row w p t c) (ht : t ≠ 3) (k : Nat) (u : Value) : OwnI N (w.setCell ⟨p, k, none⟩ u) v d :=
  h.keep fun q cq hq => Below.heap_setCell _ _ _ _ (fun e => by
    have e' : q = p := e
    subst e'
    unfold Row at hr
    rw [hq] at hr
    simp at hr
    exact ht hr.2.symm)
theorem F3.set {N H0 : Nat} {w w' : World} (h : F3 N H0 w w') (g k : Nat) (u : Value) : F4 N g w (w'.setCell ⟨g, k, none⟩ u) := by
  have hb : Below g w' (w'.setCell ⟨g, k, none⟩ u) := (Below.refl g w').setCell (p := ⟨g, k, none⟩) (Nat.le_refl g) u
  refine ⟨hb.os.trans h.os, hb.tape.trans h.tape, hb.output.trans h.output, Nat.le_trans h.size hb.size, fun i hi hg hc => ?_⟩
  rw [← h.block i hi hc]
  exact Below.heap_setCell _ _ _ _ hg
theorem Try.size89 : (Try.prog.info? 89).map (·.size) = some 3 := by kernel_rfl
theorem wp_callE {P : Program} {Q : Exit → Act → World → Prop} {op : Oper} {a : Act} {w : World} {K : Act → World → Prop} (f : FuncId) (args : Array Value) (hrun : (execOp a.eval op).run P w = .ok (.enter f args) w) (R : Value → World → Prop)
    (hc : Calls P f args w (fun e w'' => ∃ v, e = .returned v ∧ R v w'')) (h : ∀ v w'', R v w'' → K (a.put op.dst v) w'') : op.wp P a w K Q := by
  unfold Oper.wp
  rw [hrun]
  exact hc.mono fun e w'' hh => by obtain ⟨v, rfl, hR⟩ := hh; exact h v w'' hR
theorem run_buildI (w : World) (n : Int) : (Instr.buildSlice 63 1 #[(0, .int .i64 n)]).run Try.prog w = .ok (.slice (some ⟨w.heap.size, 0, none⟩) 1 1) (w.alloc (.cells #[.int .i64 n] 3)) := by
  simp [go_sem, Instr.buildSlice]
theorem wp_buildI {op : Oper} {a : Act} {w : World} {K : Act → World → Prop} {Q : Exit → Act → World → Prop} (x : Operand) (ho : op.op = .buildSlice 63 1 #[(0, x)]) (n : Int) (hx : a.eval x = .int .i64 n)
    (h : K (a.put op.dst (.slice (some ⟨w.heap.size, 0, none⟩) 1 1)) (w.alloc (.cells #[.int .i64 n] 3))) : op.wp Try.prog a w K Q := by
  have hr := run_buildI w n
  unfold Oper.wp execOp
  simp only [ho, Sem.run_bind, List.map_toArray, List.map_cons, List.map_nil, hx, hr, Result.andThen_ok, Sem.run_pure]
  exact h
theorem wp_app_ints {op : Oper} {a : Act} {w : World} {K : Act → World → Prop} {Q : Exit → Act → World → Prop} (s x : Operand)
    (ho : op.op = .call { callee := .builtin .append, args := #[s, x], argTypes := #[63, 63] }) (N : Nat) (hN : N ≤ w.heap.size)
    (v : Value) (d : List Int) (hs : a.eval s = v) (hown : OwnI N w v d) (ad : Addr) (m c : Nat) (l : List Int) (hx : a.eval x = .slice (some ad) m c) (hm : l.length = m)
    (hc : ∀ j u, (l.map (Value.int .i64))[j]? = some u → w.cell? (ad.add j) = some u) (hmax : d.length + l.length ≤ 17592186044416)
    (h : ∀ v' w', OwnI N w' v' (d ++ l) → w.grownBy w' v.ownBlock → K (a.put op.dst v') w') : op.wp Try.prog a w K Q := by
  obtain ⟨i, h1, h2, h3, h4⟩ := Try.info3'
  obtain ⟨v', w', hr, g2, g3, _⟩ := run_append_own (P := Try.prog) w N 63 op.type 3 i _ 1 8 Try.underlying63 h1 h2 h3 h4 rfl (by decide) v d.length _ hown ad m c (l.map (Value.int .i64)) (by rw [List.length_map, hm, Nat.mul_one]) hc (one_Ii l) (by unfold maxLen; omega) (by omega) hN
  have g2' : OwnI N w' v' (d ++ l) := by unfold OwnI; rw [List.length_append, List.map_append, hm]; exact g2
  unfold Oper.wp execOp
  simp only [ho, resolve, invoke, builtin, Sem.run_bind, Sem.run_pure, Result.andThen_ok, List.map_toArray, List.map_cons, List.map_nil, hs, hx, hr]
  exact h v' w' g2' g3
set_option maxRecDepth 1000000 in
set_option maxHeartbeats 4000000 in
theorem knowReg (g m p5 N K : Nat) (vb va : Value) (x y z X : Int) (d : List Int) (l : List UInt8) (u1 u2 u3 u4 u6 u7 u8 u9 u10 u11 u12 u13 u14 u15 u16 u17 u18 u19 u20 u21 u22 u23 u24 u25 u26 u27 u28 u29 u30 u31 u32 u33 u34 u35 u36 : Value) (w : World) (hNH : N ≤ w.heap.size) (hr : Row w g 86 #[vb, .map (some m), va]) (h5 : Row w p5 89 #[.int .u8 x, .int .u8 y, .int .u8 z]) (hM : Mx w m l K) (hO : OwnI N w va d) (hd : d.length ≤ 65536) (hva : ∀ q, va.ownBlock = some q → q < w.heap.size)
    (hL : ∀ w1, Row w1 g 86 #[vb, .map (some m), va] → Mx w1 m l K → Calls Try.prog 44 #[.pointer (some ⟨g, 0, none⟩), .agg #[.int .u8 x, .int .u8 y, .int .u8 z]] w1 fun e w' => e = .returned (.int .i64 X) ∧ Below w1.heap.size w1 w') :
    Code.wp Try.prog ((Try.f43.body.bind (regOf' 4)).getD .skip) (fun e a' w' => e = .normal ∧ ∃ v19 v20 v21 v22 v23 v24 v25 v26 v27 v28 v29 v30 : Value, a' = ⟨List.toArray (.pointer (some ⟨g, 0, none⟩) :: u1 :: u2 :: u3 :: u4 :: .pointer (some ⟨p5, 0, none⟩) :: u6 :: u7 :: u8 :: u9 :: u10 :: u11 :: u12 :: u13 :: u14 :: u15 :: u16 :: u17 :: u18 :: v19 :: v20 :: v21 :: v22 :: v23 :: v24 :: v25 :: v26 :: v27 :: v28 :: v29 :: v30 :: u31 :: u32 :: u33 :: u34 :: u35 :: u36 :: []), []⟩ ∧ ∃ va', OwnI N w' va' (d ++ [X]) ∧ F4 N g w w' ∧ Row w' g 86 #[vb, .map (some m), va'] ∧ Row w' p5 89 #[.int .u8 x, .int .u8 y, .int .u8 z] ∧ Mx w' m l K) ⟨List.toArray (.pointer (some ⟨g, 0, none⟩) :: u1 :: u2 :: u3 :: u4 :: .pointer (some ⟨p5, 0, none⟩) :: u6 :: u7 :: u8 :: u9 :: u10 :: u11 :: u12 :: u13 :: u14 :: u15 :: u16 :: u17 :: u18 :: u19 :: u20 :: u21 :: u22 :: u23 :: u24 :: u25 :: u26 :: u27 :: u28 :: u29 :: u30 :: u31 :: u32 :: u33 :: u34 :: u35 :: u36 :: []), []⟩ w := by
  conv => arg 2; whnf
  have HL := Box'.mk hL
  refine wp_region_once 12 9 (by kernel_rfl) (by kernel_rfl) _ rfl (fun a b => Below a.heap.size a b) (fun a b => a.grownBy b va.ownBlock) (fun wa => F3 N w.heap.size w wa ∧ Row wa g 86 #[vb, .map (some m), va] ∧ Row wa p5 89 #[.int .u8 x, .int .u8 y, .int .u8 z] ∧ Mx wa m l K) (fun wa => OwnI N wa va d) (fun k w1 v => match k with
      | 0 => v = .pointer (some ⟨g, 0, none⟩)
      | 1 => v = .pointer (some ⟨g, 0, none⟩)
      | 2 => v = .pointer (some ⟨g, 0, none⟩)
      | 3 => v = .pointer (some ⟨g, 2, none⟩)
      | 4 => v = va
      | 5 => v = .pointer (some ⟨g, 0, none⟩)
      | 6 => v = .agg #[.int .u8 x, .int .u8 y, .int .u8 z]
      | 7 => v = .int .i64 X
      | 8 => ∃ q, v = .slice (some ⟨q, 0, none⟩) 1 1 ∧ w.heap.size ≤ q ∧ Row w1 q 3 #[.int .i64 X]
      | 9 => OwnI N w1 v (d ++ [X])
      | 10 => v = .pointer (some ⟨g, 0, none⟩)
      | 11 => v = .pointer (some ⟨g, 2, none⟩)
      | _ => True) ?_ ?_ ?_ ?_ ?_ ?_ ?_ ?_ ?_ ?_
  · intro a b' hb hC; exact ⟨hC.1.trans (F3.of hb), hC.2.1.below hb hC.2.1.lt, hC.2.2.1.below hb hC.2.2.1.lt, hC.2.2.2.below hb hC.2.2.2.lt⟩
  · intro a b' hC hb h; exact h.below hb
  · intro k v w1 w2 hC1 hb h
    match k, h with
    | 0, h => exact h
    | 1, h => exact h
    | 2, h => exact h
    | 3, h => exact h
    | 4, h => exact h
    | 5, h => exact h
    | 6, h => exact h
    | 7, h => exact h
    | 8, h => exact Exists.elim h fun q hq => ⟨q, hq.1, hq.2.1, hq.2.2.below hb hq.2.2.lt⟩
    | 9, h => exact OwnI.below h hb
    | 10, h => exact h
    | 11, h => exact h
    | k + 12, h => trivial
  · intro a b' hb hC hA; exact ⟨hC.1.trans (F3.grown hA hb), hC.2.1.same (hb.block _ hC.2.1.lt (fun e => own_row_ne hA e.symm hC.2.1 (by decide))), hC.2.2.1.same (hb.block _ hC.2.2.1.lt (fun e => own_row_ne hA e.symm hC.2.2.1 (by decide))), hC.2.2.2.same (hb.block _ hC.2.2.2.lt (fun e => own_map_ne hA e.symm hC.2.2.2))⟩
  · intro k v w1 w2 hne hC1 hA1 hb h
    match k, hne, h with
    | 0, _, h => exact h
    | 1, _, h => exact h
    | 2, _, h => exact h
    | 3, _, h => exact h
    | 4, _, h => exact h
    | 5, _, h => exact h
    | 6, _, h => exact h
    | 7, _, h => exact h
    | 8, _, h => exact Exists.elim h fun q hq => ⟨q, hq.1, hq.2.1, hq.2.2.same (hb.block q hq.2.2.lt (fun e => by have := (hva q e.symm); omega))⟩
    | 9, hne, h => exact absurd rfl hne
    | 10, _, h => exact h
    | 11, _, h => exact h
    | k + 12, _, h => trivial
  · exact ⟨(F3.refl _ (Nat.le_refl _)).drew, hr, h5, hM⟩
  · exact hO
  · refine ⟨?_, ?_, ?_, ?_, ?_, ?_, ?_, ?_, ?_, ?_, ?_, ?_, trivial⟩
    · intro hj f w1 hC hd KK hK
      clear hd
      simp only [List.take_succ_cons, List.take_zero, setAll, List.setIfInBounds_toArray, List.set_cons_succ, List.set_cons_zero, Nat.zero_add, Nat.reduceAdd] at hK ⊢
      refine wp_of_quiet rfl ?_
      go_big_quiet_step (fail)
      exact wpQuiet_nil (hK _ _ rfl (Below.refl _ _))
    · intro hj f w1 hC hd KK hK
      clear hd
      simp only [List.take_succ_cons, List.take_zero, setAll, List.setIfInBounds_toArray, List.set_cons_succ, List.set_cons_zero, Nat.zero_add, Nat.reduceAdd] at hK ⊢
      refine wp_of_quiet rfl ?_
      go_big_quiet_step (fail)
      exact wpQuiet_nil (hK _ _ rfl (Below.refl _ _))
    · intro hj f w1 hC hd KK hK
      have g1 : f 1 = _ := hd 1 (by kernel_rfl)
      clear hd
      simp only [List.take_succ_cons, List.take_zero, setAll, List.setIfInBounds_toArray, List.set_cons_succ, List.set_cons_zero, Nat.zero_add, Nat.reduceAdd, g1] at hK ⊢
      refine wp_of_quiet rfl ?_
      go_big_quiet_step (fail)
      exact wpQuiet_nil (hK _ _ rfl (Below.refl _ _))
    · intro hj f w1 hC hd KK hK
      have g2 : f 2 = _ := hd 2 (by kernel_rfl)
      clear hd
      simp only [List.take_succ_cons, List.take_zero, setAll, List.setIfInBounds_toArray, List.set_cons_succ, List.set_cons_zero, Nat.zero_add, Nat.reduceAdd, g2] at hK ⊢
      refine wp_of_quiet rfl ?_
      go_big_quiet_step (fail)
      exact wpQuiet_nil (hK _ _ rfl (Below.refl _ _))
    · intro hj f w1 hC hd KK hK
      have g3 : f 3 = _ := hd 3 (by kernel_rfl)
      clear hd
      simp only [List.take_succ_cons, List.take_zero, setAll, List.setIfInBounds_toArray, List.set_cons_succ, List.set_cons_zero, Nat.zero_add, Nat.reduceAdd, g3] at hK ⊢
      have cc : w1.cell? ⟨g, 2, none⟩ = some va := by rw [hC.2.1.cell]; rfl
      refine wp_of_quiet rfl ?_
      go_big_quiet_step (fail)
      exact wpQuiet_nil (hK _ _ rfl (Below.refl _ _))
    · intro hj f w1 hC hd KK hK
      clear hd
      simp only [List.take_succ_cons, List.take_zero, setAll, List.setIfInBounds_toArray, List.set_cons_succ, List.set_cons_zero, Nat.zero_add, Nat.reduceAdd] at hK ⊢
      refine wp_of_quiet rfl ?_
      go_big_quiet_step (fail)
      exact wpQuiet_nil (hK _ _ rfl (Below.refl _ _))
    · intro hj f w1 hC hd KK hK
      clear hd
      simp only [List.take_succ_cons, List.take_zero, setAll, List.setIfInBounds_toArray, List.set_cons_succ, List.set_cons_zero, Nat.zero_add, Nat.reduceAdd] at hK ⊢
      refine wp_load_row 89 _ rfl _ rfl _ _ hC.2.2.1 _ Try.underlying89 rfl 3 Try.size89 rfl ?_
      exact hK _ _ rfl (Below.refl _ _)
    · intro hj f w1 hC hd KK hK
      have g5 : f 5 = _ := hd 5 (by kernel_rfl)
      have g6 : f 6 = _ := hd 6 (by kernel_rfl)
      clear hd
      simp only [List.take_succ_cons, List.take_zero, setAll, List.setIfInBounds_toArray, List.set_cons_succ, List.set_cons_zero, Nat.zero_add, Nat.reduceAdd, g5, g6] at hK ⊢
      refine wp_callE 44 #[.pointer (some ⟨g, 0, none⟩), .agg #[.int .u8 x, .int .u8 y, .int .u8 z]] (by simp [go_sem]) (fun v w' => v = .int .i64 X ∧ Below w1.heap.size w1 w') ?_ ?_
      · exact ((HL.out w1 hC.2.1 hC.2.2.2).mono fun e w' h => ⟨_, h.1, rfl, h.2⟩)
      · rintro v w' ⟨rfl, hb⟩
        exact hK _ _ rfl hb
    · intro hj f w1 hC hd KK hK
      have g7 : f 7 = _ := hd 7 (by kernel_rfl)
      clear hd
      simp only [List.take_succ_cons, List.take_zero, setAll, List.setIfInBounds_toArray, List.set_cons_succ, List.set_cons_zero, Nat.zero_add, Nat.reduceAdd, g7] at hK ⊢
      refine wp_buildI _ rfl X rfl ?_
      exact hK _ _ ⟨_, rfl, hC.1.hi, Row.new _ _ _⟩ ((Below.refl _ _).alloc (Nat.le_refl _) _)
    · intro hj; exact absurd rfl hj
    · intro hj f w1 hC hd KK hK
      have g0 : f 0 = _ := hd 0 (by kernel_rfl)
      clear hd
      simp only [List.take_succ_cons, List.take_zero, setAll, List.setIfInBounds_toArray, List.set_cons_succ, List.set_cons_zero, Nat.zero_add, Nat.reduceAdd, g0] at hK ⊢
      refine wp_of_quiet rfl ?_
      go_big_quiet_step (fail)
      exact wpQuiet_nil (hK _ _ rfl (Below.refl _ _))
    · intro hj f w1 hC hd KK hK
      have g10 : f 10 = _ := hd 10 (by kernel_rfl)
      clear hd
      simp only [List.take_succ_cons, List.take_zero, setAll, List.setIfInBounds_toArray, List.set_cons_succ, List.set_cons_zero, Nat.zero_add, Nat.reduceAdd, g10] at hK ⊢
      refine wp_of_quiet rfl ?_
      go_big_quiet_step (fail)
      exact wpQuiet_nil (hK _ _ rfl (Below.refl _ _))
  · intro f w1 hC hA hd KK hK
    have g4 : f 4 = _ := hd 4 (by kernel_rfl)
    have x8 : ∃ q, (f 8) = .slice (some ⟨q, 0, none⟩) 1 1 ∧ w.heap.size ≤ q ∧ Row w1 q 3 #[.int .i64 X] := hd 8 (by kernel_rfl)
    clear hd
    cases x8 with | intro u8 y80 =>
    have g8 := y80.1
    have z80 := y80.2
    clear y80
    have p8 := z80.1
    have z81 := z80.2
    clear z80
    have q8 := z81
    clear z81
    simp only [List.take_succ_cons, List.take_zero, setAll, List.setIfInBounds_toArray, List.set_cons_succ, List.set_cons_zero, Nat.zero_add, Nat.reduceAdd, g4, g8] at hK ⊢
    refine wp_app_ints (.tmp 23) (.tmp 27) rfl N (Nat.le_trans hNH hC.1.hi) va d rfl hA _ 1 1 [X] rfl rfl (fun j u hu => by
        have e := q8.cell j
        rw [Addr.add_mid, Nat.zero_add, e]
        simpa using hu) (by simp; omega) ?_
    intro v' w' h1 h2
    exact hK _ _ h1 h2
  · intro f w1 hC hv
    have g0 : f 0 = _ := hv 0 (by decide)
    have g1 : f 1 = _ := hv 1 (by decide)
    have g2 : f 2 = _ := hv 2 (by decide)
    have g3 : f 3 = _ := hv 3 (by decide)
    have g4 : f 4 = _ := hv 4 (by decide)
    have g5 : f 5 = _ := hv 5 (by decide)
    have g6 : f 6 = _ := hv 6 (by decide)
    have g7 : f 7 = _ := hv 7 (by decide)
    have x8 : ∃ q, (f 8) = .slice (some ⟨q, 0, none⟩) 1 1 ∧ w.heap.size ≤ q ∧ Row w1 q 3 #[.int .i64 X] := hv 8 (by decide)
    have p9 : OwnI N w1 (f 9) (d ++ [X]) := hv 9 (by decide)
    have g10 : f 10 = _ := hv 10 (by decide)
    have g11 : f 11 = _ := hv 11 (by decide)
    cases x8 with | intro u8 y80 =>
    have g8 := y80.1
    have z80 := y80.2
    clear y80
    have p8 := z80.1
    have z81 := z80.2
    clear z80
    have q8 := z81
    clear z81
    simp only [List.take_succ_cons, List.take_zero, List.drop_succ_cons, List.drop_zero, setAll, List.setIfInBounds_toArray, List.set_cons_succ, List.set_cons_zero, Nat.zero_add, Nat.reduceAdd, g0, g1, g2, g3, g4, g5, g6, g7, g8, g10, g11]
    clear g0 g1 g2 g3 g4 g5 g6 g7 g8 g10 g11 hv
    clear q8 p8
    generalize f 9 = v9 at *
    have hr := hC.2.1
    have hC1 := hC.1
    have hC2 := hC.2.2
    have cc : w1.cell? ⟨g, 2, none⟩ = some va := by rw [hr.cell]; rfl
    have ff := hr.frozen 2
    obtain ⟨a9, c9, hv9⟩ := own_slice p9
    have P9 := Box'.mk p9
    rw [hv9] at P9 ⊢
    clear p9 hv9
    have hg5 : p5 ≠ g := fun e => by subst e; exact row_type_ne hC2.1 hr (by decide)
    have hgm : m ≠ g := fun e => by subst e; exact row_map_ne hr hC2.2
    rw [List.length_append, List.length_singleton] at P9 ⊢
    have HR := Box'.mk (hr.setCell 2 (.slice a9 (d.length + 1) c9))
    have H5 := Box'.mk (hC2.1.setOther ⟨g, 2, none⟩ (.slice a9 (d.length + 1) c9) hg5)
    have HM := Box'.mk (hC2.2.setCell ⟨g, 2, none⟩ (.slice a9 (d.length + 1) c9) hgm)
    have HF := Box'.mk (hC1.set g 2 (.slice a9 (d.length + 1) c9))
    have HO := Box'.mk (P9.out.setRow hr (by decide) 2 (.slice a9 (d.length + 1) c9))
    clear hr hC1 hC2 hC
    go_wp2_with fail
    exact ⟨_, HO.out, HF.out, HR.out, H5.out, HM.out⟩
def ahd (l : List UInt8) (K : Nat) : List Int := (List.range K).map fun p => lst l p p
theorem ahd_len (l : List UInt8) (K : Nat) : (ahd l K).length = K := by simp [ahd]
theorem ahd_snoc (l : List UInt8) (K : Nat) : ahd l (K + 1) = ahd l K ++ [lst l K K] := by simp [ahd, List.range_succ]
theorem ahd_get (l : List UInt8) (K p : Nat) (h : p < K) : (ahd l K).getD p 0 = lst l p p := by simp [ahd, h]
structure F5 (N g m : Nat) (w w' : World) : Prop where
  os : w'.os = w.os
  tape : w'.tape = w.tape
  output : w'.output = w.output
  size : w.heap.size ≤ w'.heap.size
  block : ∀ k, k < w.heap.size → k ≠ g → k ≠ m → (k < N ∨ ∀ c z, w.heap[k]? ≠ some (.cells c 3 z)) → w'.heap[k]? = w.heap[k]?
theorem F5.refl (N g m : Nat) (w : World) : F5 N g m w w := ⟨rfl, rfl, rfl, Nat.le_refl _, fun _ _ _ _ _ => rfl⟩
theorem F5.trans {N g m : Nat} {a b c : World} (h : F5 N g m a b) (k : F5 N g m b c) : F5 N g m a c :=
  ⟨k.os.trans h.os, k.tape.trans h.tape, k.output.trans h.output, Nat.le_trans h.size k.size, fun i hi hg hm hc => by
    have e := h.block i hi hg hm hc
    refine (k.block i (Nat.lt_of_lt_of_le hi h.size) hg hm ?_).trans e
    rcases hc with hc | hc
    · exact .inl hc
    · exact .inr (by rw [e]; exact hc)⟩
theorem F5.of {N g m : Nat} {w w' : World} (h : Below w.heap.size w w') : F5 N g m w w' := ⟨h.os, h.tape, h.output, h.size, fun k hk _ _ _ => h.block k hk⟩
theorem F5.of4 {N g m : Nat} {w w' : World} (h : F4 N g w w') : F5 N g m w w' := ⟨h.os, h.tape, h.output, h.size, fun k hk hg _ hc => h.block k hk hg hc⟩
theorem F5.drew {N g m : Nat} {w w' : World} (h : F5 N g m w w') : F5 N g m w w'.drew := ⟨h.os, h.tape, h.output, h.size, h.block⟩
theorem F5.row {N g m : Nat} {w w' : World} (h : F5 N g m w w') {b : Nat} {t : TypeId} {c : Array Value} (hr : Row w b t c) (ht : t ≠ 3) (hg : b ≠ g) (hm : b ≠ m) : Row w' b t c :=
  hr.same (h.block b hr.lt hg hm (.inr fun c' z e => by unfold Row at hr; rw [hr] at e; simp at e; exact ht e.2.1))
theorem F5.below {N g m : Nat} {w w' : World} (h : F5 N g m w w') (hg : N ≤ g) (hm : N ≤ m) (hN : N ≤ w.heap.size) : Below N w w' := ⟨h.os, h.tape, h.output, h.size, fun k hk => h.block k (by omega) (by omega) (by omega) (.inl hk)⟩
structure Fnd (N : Nat) (w : World) (g m : Nat) (vb va : Value) (l : List UInt8) (K : Nat) : Prop where
  row : Row w g 86 #[vb, .map (some m), va]
  mp : Mx w m l K
  own : OwnI N w va (ahd l K)
  hg : N ≤ g
  hm : N ≤ m
theorem Fnd.below {N : Nat} {w w' : World} {g m : Nat} {vb va : Value} {l : List UInt8} {K : Nat} (h : Fnd N w g m vb va l K) (hb : Below w.heap.size w w') : Fnd N w' g m vb va l K := ⟨h.row.below hb h.row.lt, h.mp.below hb h.mp.lt, h.own.below hb, h.hg, h.hm⟩
theorem Fnd.keep {N : Nat} {w w' : World} {g m : Nat} {vb va : Value} {l : List UInt8} {K : Nat} (h : Fnd N w g m vb va l K) (hk : ∀ q, q < w.heap.size → (∀ c, w.heap[q]? = some (Obj.cells c 3 (0, 0)) → w'.heap[q]? = w.heap[q]?)) (hg : w'.heap[g]? = w.heap[g]?) (hm : w'.heap[m]? = w.heap[m]?) : Fnd N w' g m vb va l K :=
  ⟨h.row.same hg, h.mp.same hm, h.own.keep fun q c hq => hk q (Array.getElem?_eq_some_iff.1 hq).1 c hq, h.hg, h.hm⟩
theorem results43 (T : Array Value) (w : World) : (results Try.f43 T).run Try.prog w = .ok (.tuple #[]) w := by
  unfold results
  simp [go_sem]
set_option maxRecDepth 100000 in
set_option maxHeartbeats 4000000 in
theorem know_any (N : Nat) (w : World) (g m bb o n c a K : Nat) (va : Value) (l : List UInt8) (hl : l.length = n) (hn : n ≤ 65536) (hK : K ≤ a) (ha : a + 3 ≤ n) (hNw : N ≤ w.heap.size) (hbb : bb < N) (hb : ∀ k, k < n → w.cell? ⟨bb, o + k, none⟩ = some (.int .u8 ((l.getD k 0).toNat : Int)))
    (h : Fnd N w g m (.slice (some ⟨bb, o, none⟩) n c) va l K) :
    Calls Try.prog 43 #[.pointer (some ⟨g, 0, none⟩), .int .i64 (a : Int)] w fun e w' => e = .returned (.tuple #[]) ∧ ∃ va', Fnd N w' g m (.slice (some ⟨bb, o, none⟩) n c) va' l a ∧ F5 N g m w w' := by
  have HB := Box'.mk hb
  have HF := Box'.mk h
  have HG := Box'.mk (And.intro h.hg h.hm)
  obtain ⟨sa, sc, hs⟩ := own_slice h.own
  rw [ahd_len] at hs
  have c2 : w.cell? ⟨g, 2, none⟩ = some (.slice sa K sc) := by rw [h.row.cell, hs]; rfl
  have HL := Box'.mk hl
  clear hb h hs hl
  go_enter Try.func43, Try.ntmps43
  go_wp2_with fail
  go_loopw [4] (fun i wr => ∃ (k : Nat) (va' : Value), K ≤ k ∧ k ≤ a ∧ i = .int .i64 (k : Int) ∧ Box' (Fnd N wr g m (.slice (some ⟨bb, o, none⟩) n c) va' l k) ∧ Box' (F5 N g m w wr)) (fun i _ => a - (intOf i).toNat)
  case atStart => exact ⟨K, va, Nat.le_refl _, hK, rfl, HF, ⟨F5.refl _ _ _ _⟩⟩
  case round =>
    clear HF c2
    obtain ⟨k, va', hKk, hka, rfl, HF, H5⟩ := hrel
    by_cases hlt : k < a
    · have hbw := H5.out.below HG.out.1 HG.out.2 hNw
      have hNr := Nat.le_trans hNw H5.out.size
      have HS := Box'.mk (startAt_any wr g bb o n c k l HF.out.row.lt (Nat.lt_of_lt_of_le hbb hNr) (by omega) hn (by rw [HF.out.row.cell]; rfl) (fun j hj => (hbw.cell (p := ⟨bb, o + j, none⟩) hbb).trans (HB.out j hj)))
      have HLo := Box'.mk (fun (w1 : World) (h1 : Row w1 g 86 #[.slice (some ⟨bb, o, none⟩) n c, .map (some m), va']) (h2 : Mx w1 m l k) => lastOf_is w1 g m k k l h1.lt (by rw [h1.cell]; rfl) h2)
      have HST : Box' (stA l k = .agg #[.int .u8 ((l.getD k 0).toNat : Int), .int .u8 ((l.getD (k + 1) 0).toNat : Int), .int .u8 ((l.getD (k + 2) 0).toNat : Int)]) := ⟨rfl⟩
      rw [HST.out] at HS HLo
      clear hbw
      generalize hx : ((l.getD k 0).toNat : Int) = x at *
      generalize hy : ((l.getD (k + 1) 0).toNat : Int) = y at *
      generalize hz : ((l.getD (k + 2) 0).toNat : Int) = z at *
      clear hx hy hz
      go_wp2_with fail
      refine HS.out.mono ?_
      rintro e w1 ⟨rfl, b1⟩
      obtain ⟨w2, hw2⟩ : ∃ w2, w1.alloc (.cells #[.int .u8 x, .int .u8 y, .int .u8 z] 89) = w2 := ⟨_, rfl⟩
      have b2 : Below w1.heap.size w1 w2 := by rw [← hw2]; exact (Below.refl _ _).alloc (Nat.le_refl _) _
      have r5 : Row w2 w1.heap.size 89 #[.int .u8 x, .int .u8 y, .int .u8 z] := by rw [← hw2]; exact Row.new _ _ _
      have F2 := Box'.mk ((HF.out.below b1).below b2)
      have H52 := Box'.mk ((H5.out.trans (F5.of b1)).trans (F5.of b2))
      have HW2 := Box'.mk hw2
      have R5 := Box'.mk r5
      have hN2 : N ≤ w2.heap.size := Nat.le_trans (Nat.le_trans hNr b1.size) b2.size
      clear HS b1 b2 r5 hw2 HF H5
      go_upto_region 4 with (fail)
      rw [HW2.out]
      clear HW2
      refine wp_mono (knowReg g m w1.heap.size N k _ va' x y z (lst l k k) (ahd l k) l _ _ _ _ _ _ _ _ _ _ _ _ _ _ _ _ _ _ _ _ _ _ _ _ _ _ _ _ _ _ _ _ _ _ _ w2 hN2 F2.out.row R5.out F2.out.mp F2.out.own (by rw [ahd_len]; omega) (fun q e => (OwnI.lt F2.out.own q e).2) HLo.out) ?_
      rintro e a' w3 ⟨rfl, v19, v20, v21, v22, v23, v24, v25, v26, v27, v28, v29, v30, rfl, va3, o3, f3, r3, q3, m3⟩
      rw [← ahd_snoc] at o3
      obtain ⟨w4, hup, m4, k4, b4⟩ := m3.drew.update
      rw [HST.out] at hup
      have cm : w3.cell? ⟨g, 1, none⟩ = some (.map (some m)) := by rw [r3.cell]; rfl
      have k0 : w3.cell? ⟨w1.heap.size, 0, none⟩ = some (.int .u8 x) := q3.cell 0
      have k1 : w3.cell? ⟨w1.heap.size, 1, none⟩ = some (.int .u8 y) := q3.cell 1
      have k2 : w3.cell? ⟨w1.heap.size, 2, none⟩ = some (.int .u8 z) := q3.cell 2
      have hgm : g ≠ m := fun e => by subst e; exact row_map_ne r3 m3
      have F3' : Box' (Fnd N w4 g m (.slice (some ⟨bb, o, none⟩) n c) va3 l (k + 1)) := ⟨⟨r3.same (k4 g hgm), m4, o3.keep (fun q cq hq => k4 q (fun e => by subst e; obtain ⟨es, cl, h1, _⟩ := m3; rw [hq] at h1; cases h1)), HG.out.1, HG.out.2⟩⟩
      have H54 : Box' (F5 N g m w w4) := ⟨(H52.out.trans (F5.of4 f3)).trans ⟨b4.os, b4.tape, b4.output, b4.size, fun q hq _ hm _ => k4 q hm⟩⟩
      have HUP := Box'.mk hup
      clear hup m4 k4 b4 o3 f3 r3 q3 m3 F2 H52 R5 HLo HST
      go_wp2_with fail
      refine wp_region_tail 6 (by kernel_rfl) (by kernel_rfl) ?_
      simp only [List.take_succ_cons, List.take_zero, List.drop_succ_cons, List.drop_zero]
      repeat (go_big_quiet_step (fail))
      refine wpQuiet_nil ?_
      go_wp2_with (first | (refine wpList_update rfl _ _ _ rfl _ HUP.out ?_) | fail)
      go_roundw
      case rel => exact ⟨k + 1, va3, by omega, by omega, by go_num, F3', H54⟩
      case measure => simp [intOf]; omega
    · obtain rfl : k = a := by omega
      go_wp2_with fail
      exact ⟨rfl, _, results43 _ _, rfl, va', HF.out, H5.out⟩
def lngS (l : List UInt8) (a M : Nat) : Nat → Int → Nat × Nat → Nat × Nat
  | 0, _, r => r
  | t + 1, pl, r => if pl ≠ -1 ∧ (a : Int) - pl ≤ 32768 ∧ r.1 < M then lngS l a M t (lst l pl.toNat pl.toNat) (if r.1 < alkF l pl.toNat a (M - 3) 3 then (alkF l pl.toNat a (M - 3) 3, a - pl.toNat) else r) else r
def lngM (n a : Nat) : Nat := min 258 (n - a)
def lngC (r : Nat × Nat) : Nat × Nat := if r.1 = 3 ∧ 4096 < r.2 then (0, 0) else r
def lngF (l : List UInt8) (a : Nat) : Nat × Nat := if l.length < a + 3 then (0, 0) else lngC (lngS l a (lngM l.length a) 128 (lst l a a) (0, 0))
def Pl (l : List UInt8) (a : Nat) (pl : Int) : Prop := pl = -1 ∨ ∃ p : Nat, pl = (p : Int) ∧ p < a ∧ stE l p a
theorem Pl.first (l : List UInt8) (a : Nat) : Pl l a (lst l a a) := by
  have h := lst_lt l a a
  rcases Int.lt_or_le (lst l a a) 0 with h1 | h1
  · exact .inl (by omega)
  · obtain ⟨p, hp⟩ : ∃ p : Nat, lst l a a = (p : Int) := ⟨(lst l a a).toNat, by omega⟩
    obtain ⟨h2, h3⟩ := lst_some hp
    exact .inr ⟨p, hp, h2, h3⟩
theorem Pl.next {l : List UInt8} {a p : Nat} (hp : p < a) (hs : stE l p a) : Pl l a (lst l p p) := by
  have h := lst_lt l p p
  rcases Int.lt_or_le (lst l p p) 0 with h1 | h1
  · exact .inl (by omega)
  · obtain ⟨q, hq⟩ : ∃ q : Nat, lst l p p = (q : Int) := ⟨(lst l p p).toNat, by omega⟩
    obtain ⟨h2, h3⟩ := lst_some hq
    exact .inr ⟨q, hq, by omega, h3.trans hs⟩
def NoP (l : List UInt8) (a : Nat) (r : Nat × Nat) : Prop := r = (0, 0) ∨ Piece l a r.1 r.2
theorem piece_of {l : List UInt8} {a p M : Nat} (hp : p < a) (hs : stE l p a) (hM : 3 ≤ M) (hM2 : M ≤ 258) (hf : a + M ≤ l.length) (hd : a - p ≤ 32768) : Piece l a (alkF l p a (M - 3) 3) (a - p) := by
  obtain ⟨h1, h2, h3⟩ := alk_ge l p a (M - 3) 3
  refine ⟨h1, by omega, by omega, hd, by omega, by omega, fun j hj => ?_⟩
  rw [show a - (a - p) + j = p + j by omega]
  rcases Nat.lt_or_ge j 3 with q | q
  · rcases (show j = 0 ∨ j = 1 ∨ j = 2 by omega) with rfl | rfl | rfl
    · exact hs.1
    · exact hs.2.1
    · exact hs.2.2
  · exact h3 j q hj
theorem lngS_no {l : List UInt8} {a M : Nat} (hM : 3 ≤ M) (hM2 : M ≤ 258) (hf : a + M ≤ l.length) : ∀ (t : Nat) (pl : Int) (r : Nat × Nat), Pl l a pl → NoP l a r → NoP l a (lngS l a M t pl r) := by
  intro t
  induction t with
  | zero => intro pl r _ h; exact h
  | succ t ih =>
    intro pl r hp h
    rw [lngS]
    split
    · rename_i hc
      rcases hp with hp | ⟨p, rfl, h1, h2⟩
      · exact absurd hp hc.1
      · rw [Int.toNat_natCast]
        refine ih _ _ (Pl.next h1 h2) ?_
        split
        · exact .inr (piece_of h1 h2 hM hM2 hf (by omega))
        · exact h
    · exact h
theorem lngF_no (l : List UInt8) (a : Nat) : NoP l a (lngF l a) := by
  unfold lngF
  split
  · exact .inl rfl
  · have h := lngS_no (l := l) (a := a) (M := lngM l.length a) (by unfold lngM; omega) (by unfold lngM; omega) (by unfold lngM; omega) 128 (lst l a a) (0, 0) (Pl.first l a) (.inl rfl)
    unfold lngC
    split
    · exact .inl rfl
    · exact h
theorem lngS_step {l : List UInt8} {a M t p : Nat} {r : Nat × Nat} (hd : a - p ≤ 32768) (hp : p < a) (hr : r.1 < M) : lngS l a M (t + 1) (p : Int) r = lngS l a M t (lst l p p) (if r.1 < alkF l p a (M - 3) 3 then (alkF l p a (M - 3) 3, a - p) else r) := by
  rw [lngS, if_pos ⟨by omega, by omega, hr⟩, Int.toNat_natCast]
theorem lngS_stop {l : List UInt8} {a M t : Nat} {pl : Int} {r : Nat × Nat} (h : t = 0 ∨ pl = -1 ∨ 32768 < (a : Int) - pl ∨ M ≤ r.1) : lngS l a M t pl r = r := by
  cases t with
  | zero => rfl
  | succ t =>
    rw [lngS, if_neg]
    rintro ⟨h1, h2, h3⟩
    rcases h with h | h | h | h
    · omega
    · exact h1 h
    · omega
    · omega
end Go.Proofs.Ytcjfaahlchbcmaa
