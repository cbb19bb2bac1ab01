/- Change. -/
import Derived.Test.YtnlladjkajmpoaaCb
import Derived.Test.YtnlladjkajmpoaaEq
import Derived.Laws.AppendOwnNone
namespace Go.Proofs.Ytnlladjkajmpoaa
open Go.RowKit Go.BigFrame
set_option linter.unusedVariables false
set_option linter.unusedSimpArgs false

theorem wpList_appI {ops : Array Oper} {rest : List Oper} {o : Oper} {a : Act} {w : World} {Q : Exit → Act → World → Prop} (hgd : o.guard = none) (s x : Operand)
    (ho : o.op = .call { callee := .builtin .append, args := #[s, x], argTypes := #[35, 35] }) (N M : Nat) (hN : N ≤ w.heap.size)
    (v : Value) (d : List Int) (hs : a.eval s = v) (hown : OwnI N w v d) (vx : Value) (l : List Int) (hx : a.eval x = vx) (hin : OwnI M w vx l) (hmax : d.length + l.length ≤ 17592186044416)
    (h : ∀ v' w', OwnI N w' v' (d ++ l) → Below N w w' → wpList Try.prog ops Q rest (a.put o.dst v') w') : wpList Try.prog ops Q (o :: rest) a w := by
  by_cases h0 : 0 < l.length
  · obtain ⟨g, c, rfl, hc⟩ := hin.cells h0
    exact wpList_append_ints' hgd s x ho N hN v d hs hown _ _ _ l hx rfl hc hmax h
  · have hl : l = [] := List.eq_nil_of_length_eq_zero (by omega)
    subst hl
    rcases hin.2 with ⟨e, _⟩ | ⟨g, cap, cur, e1, e2, e3, e4, e5, e6, e7⟩
    · subst e
      obtain ⟨i, h1, h2, h3, h4⟩ := Try.info3'
      refine wpList_append_own_none hgd s x 35 ho N 3 i 1 Try.underlying35 h1 v d.length (d.map (Value.int .i64)) hs hown hx ?_
      exact h v w (by rw [List.append_nil]; exact hown) (Below.refl _ _)
    · subst e1
      exact wpList_append_ints' hgd s x ho N hN v d hs hown _ _ _ [] hx rfl (fun j u hj => by simp at hj) hmax h
/-- A call whose answer is known up to what it stands for. -/
theorem wp_callE {P : Program} {Q : Exit → Act → World → Prop} {op : Oper} {a : Act} {w : World} {K : Act → World → Prop} (f : FuncId) (args : Array Value) (hrun : (execOp a.eval op).run P w = .ok (.enter f args) w) (R : Value → World → Prop)
    (hc : Calls P f args w (fun e w'' => ∃ v, e = .returned v ∧ R v w'')) (h : ∀ v w'', R v w'' → K (a.put op.dst v) w'') : op.wp P a w K Q := by
  unfold Oper.wp
  rw [hrun]
  exact hc.mono fun e w'' hh => by obtain ⟨v, rfl, hR⟩ := hh; exact h v w'' hR
set_option maxRecDepth 100000 in
theorem run_mk1 (w : World) (x : Int) : (Instr.buildSlice 35 1 #[(0, .int .i64 x)]).run Try.prog w = .ok (.slice (some ⟨w.heap.size, 0, none⟩) 1 1) (w.alloc (.cells #[.int .i64 x] 3)) := by
  simp [go_sem]
theorem wp_mk1 {op : Oper} {a : Act} {w : World} {K : Act → World → Prop} {Q : Exit → Act → World → Prop} (x : Int) (ho : op.op = .buildSlice 35 1 #[(0, .const (.int .i64 x))])
    (h : K (a.put op.dst (.slice (some ⟨w.heap.size, 0, none⟩) 1 1)) (w.alloc (.cells #[.int .i64 x] 3))) : op.wp Try.prog a w K Q := by
  unfold Oper.wp execOp
  simp only [ho, Sem.run_bind, List.map_toArray, List.map_cons, List.map_nil, Act.eval, run_mk1, Result.andThen_ok, Sem.run_pure]
  exact h
/-- What stands while a change is sought. -/
structure CQ (W : Nat) (w : World) (a b : St) (wr : World) : Prop where
  ra : Row wr W 24 (sA a)
  rb : Row wr (W + 1) 24 (sA b)
  be : Below W w wr
  sz : W + 2 ≤ wr.heap.size
theorem CQ.below {W : Nat} {w : World} {a b : St} {wr w' : World} (h : CQ W w a b wr) (hb : Below wr.heap.size wr w') : CQ W w a b w' :=
  ⟨h.ra.below hb h.ra.lt, h.rb.below hb h.rb.lt, h.be.trans (hb.mono (by have := h.sz; omega)), Nat.le_trans h.sz hb.size⟩
theorem CQ.low {W : Nat} {w : World} {a b : St} {wr w' : World} (h : CQ W w a b wr) (hb : Below (W + 2) wr w') : CQ W w a b w' :=
  ⟨h.ra.below hb (by omega), h.rb.below hb (by omega), h.be.trans (hb.mono (by omega)), Nat.le_trans h.sz hb.size⟩
theorem CQ.drew {W : Nat} {w : World} {a b : St} {wr : World} (h : CQ W w a b wr) : CQ W w a b wr.drew := ⟨h.ra.drew, h.rb.drew, h.be.drew, h.sz⟩
set_option maxRecDepth 100000 in
set_option maxHeartbeats 8000000 in
theorem change_any (a b : St) (w : World) : Calls Try.prog 20 #[.agg (sA a), .agg (sA b)] w fun e w' => ∃ v, e = .returned v ∧ OwnI w.heap.size w' v (chF a b) ∧ Below w.heap.size w w' := by
  have MA := Box'.mk (mayStyle_any a)
  have MB := Box'.mk (mayStyle_any b)
  have S24 := Box'.mk s24
  have U24 := Box'.mk Try.underlying24
  have C2 : Box' (CQ w.heap.size w a b ((w.alloc (.cells (sA a) 24)).alloc (.cells (sA b) 24))) := ⟨⟨(Row.new _ _ _).alloc _, Row.made _ _ _ _ _ rfl (by simp), ((Below.refl w.heap.size w).alloc (Nat.le_refl _) _).alloc (by simp) _, by simp⟩⟩
  go_enter Try.func20, Try.ntmps20
  go_upto_region 1 with (fail)
  generalize ((w.alloc (.cells (sA a) 24)).alloc (.cells (sA b) 24)) = w2 at *
  by_cases hab : a = b
  case pos =>
    have E : Box' (chF a b = []) := ⟨chF_none a b (.inl hab)⟩
    have D : Box' (stB a b = true) := ⟨stB_yes hab⟩
    clear hab MA MB
    go_wp2_with (first
      | (refine wpList_load_row rfl 24 (.tmp 2) rfl w.heap.size rfl 24 (sA a) C2.out.ra _ U24.out rfl 10 S24.out rfl ?_)
      | (refine wpList_load_row rfl 24 (.tmp 3) rfl (w.heap.size + 1) rfl 24 (sA b) C2.out.rb _ U24.out rfl 10 S24.out rfl ?_)
      | (refine wpList_eql rfl 24 (.tmp 7) (.tmp 8) rfl a b rfl rfl true D.out ?_))
    go_ret
    exact ⟨_, rfl, by rw [E.out]; exact OwnI.nil _ _, C2.out.be⟩
  case neg =>
    have D : Box' (stB a b = false) := ⟨stB_no hab⟩
    have HAB := Box'.mk hab
    clear hab
    have ca0 : w2.cell? ⟨w.heap.size, 0, none⟩ = some (.int .i64 a.fg) := C2.out.ra.cell 0
    have ca1 : w2.cell? ⟨w.heap.size, 1, none⟩ = some (.int .i64 a.bg) := C2.out.ra.cell 1
    have ca2 : w2.cell? ⟨w.heap.size, 2, none⟩ = some (.bool a.b1) := C2.out.ra.cell 2
    have ca3 : w2.cell? ⟨w.heap.size, 3, none⟩ = some (.bool a.b2) := C2.out.ra.cell 3
    have ca4 : w2.cell? ⟨w.heap.size, 4, none⟩ = some (.bool a.b3) := C2.out.ra.cell 4
    have ca5 : w2.cell? ⟨w.heap.size, 5, none⟩ = some (.bool a.b4) := C2.out.ra.cell 5
    have ca6 : w2.cell? ⟨w.heap.size, 6, none⟩ = some (.bool a.b5) := C2.out.ra.cell 6
    have ca7 : w2.cell? ⟨w.heap.size, 7, none⟩ = some (.bool a.b7) := C2.out.ra.cell 7
    have ca8 : w2.cell? ⟨w.heap.size, 8, none⟩ = some (.bool a.b8) := C2.out.ra.cell 8
    have ca9 : w2.cell? ⟨w.heap.size, 9, none⟩ = some (.bool a.b9) := C2.out.ra.cell 9
    cases ha : mayS a with
    | false =>
      have E : Box' (chF a b = []) := ⟨chF_none a b (.inr (.inl ha))⟩
      rw [ha] at MA
      clear ha
      go_wp2_with (first
        | (refine wpList_load_row rfl 24 (.tmp 2) rfl w.heap.size rfl 24 (sA a) C2.out.ra _ U24.out rfl 10 S24.out rfl ?_)
        | (refine wpList_load_row rfl 24 (.tmp 3) rfl (w.heap.size + 1) rfl 24 (sA b) C2.out.rb _ U24.out rfl 10 S24.out rfl ?_)
        | (refine wpList_eql rfl 24 (.tmp 7) (.tmp 8) rfl a b rfl rfl false D.out ?_))
      refine (MA.out _).mono ?_
      rintro e w3 ⟨rfl, hb3⟩
      have C3 := Box'.mk (C2.out.below hb3)
      clear hb3
      clear ca0 ca1 ca2 ca3 ca4 ca5 ca6 ca7 ca8 ca9 C2
      go_wp2_with fail
      go_ret
      exact ⟨_, rfl, by rw [E.out]; exact OwnI.nil _ _, C3.out.be⟩
    | true =>
      rw [ha] at MA
      go_wp2_with (first
        | (refine wpList_load_row rfl 24 (.tmp 2) rfl w.heap.size rfl 24 (sA a) C2.out.ra _ U24.out rfl 10 S24.out rfl ?_)
        | (refine wpList_load_row rfl 24 (.tmp 3) rfl (w.heap.size + 1) rfl 24 (sA b) C2.out.rb _ U24.out rfl 10 S24.out rfl ?_)
        | (refine wpList_eql rfl 24 (.tmp 7) (.tmp 8) rfl a b rfl rfl false D.out ?_))
      refine (MA.out _).mono ?_
      rintro e w3 ⟨rfl, hb3⟩
      have C3 := Box'.mk (C2.out.below hb3)
      clear hb3
      clear ca0 ca1 ca2 ca3 ca4 ca5 ca6 ca7 ca8 ca9 C2
      have cb0 : w3.cell? ⟨(w.heap.size + 1), 0, none⟩ = some (.int .i64 b.fg) := C3.out.rb.cell 0
      have cb1 : w3.cell? ⟨(w.heap.size + 1), 1, none⟩ = some (.int .i64 b.bg) := C3.out.rb.cell 1
      have cb2 : w3.cell? ⟨(w.heap.size + 1), 2, none⟩ = some (.bool b.b1) := C3.out.rb.cell 2
      have cb3 : w3.cell? ⟨(w.heap.size + 1), 3, none⟩ = some (.bool b.b2) := C3.out.rb.cell 3
      have cb4 : w3.cell? ⟨(w.heap.size + 1), 4, none⟩ = some (.bool b.b3) := C3.out.rb.cell 4
      have cb5 : w3.cell? ⟨(w.heap.size + 1), 5, none⟩ = some (.bool b.b4) := C3.out.rb.cell 5
      have cb6 : w3.cell? ⟨(w.heap.size + 1), 6, none⟩ = some (.bool b.b5) := C3.out.rb.cell 6
      have cb7 : w3.cell? ⟨(w.heap.size + 1), 7, none⟩ = some (.bool b.b7) := C3.out.rb.cell 7
      have cb8 : w3.cell? ⟨(w.heap.size + 1), 8, none⟩ = some (.bool b.b8) := C3.out.rb.cell 8
      have cb9 : w3.cell? ⟨(w.heap.size + 1), 9, none⟩ = some (.bool b.b9) := C3.out.rb.cell 9
      cases hb : mayS b with
      | false =>
        have E : Box' (chF a b = []) := ⟨chF_none a b (.inr (.inr hb))⟩
        rw [hb] at MB
        clear ha hb
        go_wp2_with fail
        refine (MB.out _).mono ?_
        rintro e w4 ⟨rfl, hb4⟩
        have C4 := Box'.mk (C3.out.below hb4)
        clear hb4 C3 cb0 cb1 cb2 cb3 cb4 cb5 cb6 cb7 cb8 cb9
        go_wp2_with fail
        go_ret
        exact ⟨_, rfl, by rw [E.out]; exact OwnI.nil _ _, C4.out.be⟩
      | true =>
        rw [hb] at MB
        have E : Box' (chF a b = if (0 :: stF pl b).length ≤ (stF a b).length then 0 :: stF pl b else stF a b) := ⟨if_neg (by rw [ha, hb]; intro h; rcases h with h | h | h; exact HAB.out ((stB_iff a b).1 h); cases h; cases h)⟩
        have ST := Box'.mk (steps_any a b hb)
        have SP := Box'.mk (steps_any pl b hb)
        have LA := Box'.mk (lookOf_any a)
        have LB := Box'.mk (lookOf_any b)
        have LP := Box'.mk (lookOf_any pl)
        have PL := Box'.mk plain_any
        have N1 := Box'.mk (stF_len a b)
        have N2 := Box'.mk (stF_len pl b)
        clear ha hb
        go_wp2_with fail
        refine (MB.out _).mono ?_
        rintro e w4 ⟨rfl, hb4⟩
        have C4 := Box'.mk (C3.out.below hb4)
        clear hb4 C3 MA MB HAB D cb0 cb1 cb2 cb3 cb4 cb5 cb6 cb7 cb8 cb9
        go_wp2_with fail
        refine wp_region_growg 4 (by kernel_rfl) 39 rfl (by kernel_rfl) (fun wa wb => Below wa.heap.size wa wb) (fun wa => CQ w.heap.size w a b wa) (fun kc wa v => match kc with
          | 0 => v = .agg (sA a)
          | 1 => v = .agg (lA a)
          | 2 => v = .agg (sA b)
          | 3 => v = .agg (lA b)
          | _ => True) ?_ ?_ ?_ ?_ ?_ ?_
        · intro i o' j b' hi hg wa v hC hV
          have hlt : i < 4 := by rcases Nat.lt_or_ge i 4 with q | q; exact q; rw [List.getElem?_eq_none (by simpa using q)] at hi; cases hi
          revert hi hg hV
          rcases (show i = 0 ∨ i = 1 ∨ i = 2 ∨ i = 3 by omega) with rfl | rfl | rfl | rfl <;>
            (intro hi hg hV; simp only [List.take_succ_cons, List.getElem?_cons_zero, List.getElem?_cons_succ, Option.some.injEq] at hi; subst hi; first | (cases hg; exact hV) | (cases hg))
        · intro wa wb hb q1; exact q1.below hb
        · intro kc v wa wb hC1 hb h
          match kc, h with
          | 0, h => exact h
          | 1, h => exact h
          | 2, h => exact h
          | 3, h => exact h
          | kc + 4, h => trivial
        · exact C4.out.drew
        · refine ⟨?_, ?_, ?_, ?_, trivial⟩
          · intro f wq hC hd KK hK
            clear hd
            have hR : Row wq w.heap.size 24 (sA a) := hC.ra
            have c0 : wq.cell? ⟨w.heap.size, 0, none⟩ = some (.int .i64 a.fg) := hR.cell 0
            have c1 : wq.cell? ⟨w.heap.size, 1, none⟩ = some (.int .i64 a.bg) := hR.cell 1
            have c2 : wq.cell? ⟨w.heap.size, 2, none⟩ = some (.bool a.b1) := hR.cell 2
            have c3 : wq.cell? ⟨w.heap.size, 3, none⟩ = some (.bool a.b2) := hR.cell 3
            have c4 : wq.cell? ⟨w.heap.size, 4, none⟩ = some (.bool a.b3) := hR.cell 4
            have c5 : wq.cell? ⟨w.heap.size, 5, none⟩ = some (.bool a.b4) := hR.cell 5
            have c6 : wq.cell? ⟨w.heap.size, 6, none⟩ = some (.bool a.b5) := hR.cell 6
            have c7 : wq.cell? ⟨w.heap.size, 7, none⟩ = some (.bool a.b7) := hR.cell 7
            have c8 : wq.cell? ⟨w.heap.size, 8, none⟩ = some (.bool a.b8) := hR.cell 8
            have c9 : wq.cell? ⟨w.heap.size, 9, none⟩ = some (.bool a.b9) := hR.cell 9
            clear hC hR
            simp only [List.take_succ_cons, List.take_zero, setAll, List.setIfInBounds_toArray, List.set_cons_succ, List.set_cons_zero, Nat.zero_add, Nat.reduceAdd] at hK ⊢
            refine wp_of_quiet rfl ?_
            go_big_quiet_step (fail)
            exact wpQuiet_nil (hK _ _ (rfl) (Below.refl _ _))
          · intro f wq hC hd KK hK
            have g0 : f 0 = .agg (sA a) := hd 0 (by kernel_rfl)
            clear hd
            simp only [List.take_succ_cons, List.take_zero, setAll, List.setIfInBounds_toArray, List.set_cons_succ, List.set_cons_zero, Nat.zero_add, Nat.reduceAdd, g0] at hK ⊢
            exact wp_call 28 #[.agg (sA a)] (by simp [go_sem]) _ _ (LA.out wq) (fun w' hb => hK _ _ rfl hb)
          · intro f wq hC hd KK hK
            clear hd
            have hR : Row wq (w.heap.size + 1) 24 (sA b) := hC.rb
            have c0 : wq.cell? ⟨(w.heap.size + 1), 0, none⟩ = some (.int .i64 b.fg) := hR.cell 0
            have c1 : wq.cell? ⟨(w.heap.size + 1), 1, none⟩ = some (.int .i64 b.bg) := hR.cell 1
            have c2 : wq.cell? ⟨(w.heap.size + 1), 2, none⟩ = some (.bool b.b1) := hR.cell 2
            have c3 : wq.cell? ⟨(w.heap.size + 1), 3, none⟩ = some (.bool b.b2) := hR.cell 3
            have c4 : wq.cell? ⟨(w.heap.size + 1), 4, none⟩ = some (.bool b.b3) := hR.cell 4
            have c5 : wq.cell? ⟨(w.heap.size + 1), 5, none⟩ = some (.bool b.b4) := hR.cell 5
            have c6 : wq.cell? ⟨(w.heap.size + 1), 6, none⟩ = some (.bool b.b5) := hR.cell 6
            have c7 : wq.cell? ⟨(w.heap.size + 1), 7, none⟩ = some (.bool b.b7) := hR.cell 7
            have c8 : wq.cell? ⟨(w.heap.size + 1), 8, none⟩ = some (.bool b.b8) := hR.cell 8
            have c9 : wq.cell? ⟨(w.heap.size + 1), 9, none⟩ = some (.bool b.b9) := hR.cell 9
            clear hC hR
            simp only [List.take_succ_cons, List.take_zero, setAll, List.setIfInBounds_toArray, List.set_cons_succ, List.set_cons_zero, Nat.zero_add, Nat.reduceAdd] at hK ⊢
            refine wp_of_quiet rfl ?_
            go_big_quiet_step (fail)
            exact wpQuiet_nil (hK _ _ (rfl) (Below.refl _ _))
          · intro f wq hC hd KK hK
            have g2 : f 2 = .agg (sA b) := hd 2 (by kernel_rfl)
            clear hd
            simp only [List.take_succ_cons, List.take_zero, setAll, List.setIfInBounds_toArray, List.set_cons_succ, List.set_cons_zero, Nat.zero_add, Nat.reduceAdd, g2] at hK ⊢
            exact wp_call 28 #[.agg (sA b)] (by simp [go_sem]) _ _ (LB.out wq) (fun w' hb => hK _ _ rfl hb)
        · intro f wz hC hv
          have p0 : f 0 = .agg (sA a) := hv 0 (by decide)
          have p1 : f 1 = .agg (lA a) := hv 1 (by decide)
          have p2 : f 2 = .agg (sA b) := hv 2 (by decide)
          have p3 : f 3 = .agg (lA b) := hv 3 (by decide)
          simp only [List.take_succ_cons, List.take_zero, List.drop_succ_cons, List.drop_zero, setAll, List.setIfInBounds_toArray, List.set_cons_succ, List.set_cons_zero, Nat.zero_add, Nat.reduceAdd, p0, p1, p2, p3]
          clear hv p0 p1 p2 p3
          have C5 := Box'.mk hC
          clear hC LA C4
          go_wp2_with fail
          refine (ST.out _).mono ?_
          rintro e w6 ⟨v6, rfl, o6, hb6⟩
          have C6 := Box'.mk (C5.out.below hb6)
          have O6 := Box'.mk (o6.down C5.out.sz)
          clear o6 hb6 C5 ST
          go_wp2_with fail
          refine wp_region_growg 6 (by kernel_rfl) 39 rfl (by kernel_rfl) (fun wa wb => Below wa.heap.size wa wb) (fun wa => Below w6.heap.size w6 wa) (fun kc wa v => match kc with
            | 0 => OwnI w6.heap.size wa v [0]
            | 1 => v = .agg (sA pl)
            | 2 => v = .agg (lA pl)
            | 3 => v = .agg (sA b)
            | 4 => v = .agg (lA b)
            | 5 => OwnI w6.heap.size wa v (stF pl b)
            | _ => True) ?_ ?_ ?_ ?_ ?_ ?_
          · intro i o' j b' hi hg wa v hC hV
            have hlt : i < 6 := by rcases Nat.lt_or_ge i 6 with q | q; exact q; rw [List.getElem?_eq_none (by simpa using q)] at hi; cases hi
            revert hi hg hV
            rcases (show i = 0 ∨ i = 1 ∨ i = 2 ∨ i = 3 ∨ i = 4 ∨ i = 5 by omega) with rfl | rfl | rfl | rfl | rfl | rfl <;>
              (intro hi hg hV; simp only [List.take_succ_cons, List.getElem?_cons_zero, List.getElem?_cons_succ, Option.some.injEq] at hi; subst hi; first | (cases hg; exact hV) | (cases hg))
          · intro wa wb hb q1; exact q1.trans (hb.mono q1.size)
          · intro kc v wa wb hC1 hb h
            match kc, h with
            | 0, h => exact OwnI.below h hb
            | 1, h => exact h
            | 2, h => exact h
            | 3, h => exact h
            | 4, h => exact h
            | 5, h => exact OwnI.below h hb
            | kc + 6, h => trivial
          · exact (Below.refl w6.heap.size w6).drew
          · refine ⟨?_, ?_, ?_, ?_, ?_, ?_, trivial⟩
            · intro f wq hC hd KK hK
              clear hd
              simp only [List.take_succ_cons, List.take_zero, setAll, List.setIfInBounds_toArray, List.set_cons_succ, List.set_cons_zero, Nat.zero_add, Nat.reduceAdd] at hK ⊢
              refine wp_mk1 0 rfl ?_
              exact hK _ _ ((OwnI.made wq [0] (by decide)).down hC.size) ((Below.refl _ _).alloc (Nat.le_refl _) _)
            · intro f wq hC hd KK hK
              clear hd
              simp only [List.take_succ_cons, List.take_zero, setAll, List.setIfInBounds_toArray, List.set_cons_succ, List.set_cons_zero, Nat.zero_add, Nat.reduceAdd] at hK ⊢
              exact wp_call 15 #[] (by simp [go_sem]) _ _ (PL.out wq) (fun w' hb => hK _ _ rfl hb)
            · intro f wq hC hd KK hK
              have g1 : f 1 = .agg (sA pl) := hd 1 (by kernel_rfl)
              clear hd
              simp only [List.take_succ_cons, List.take_zero, setAll, List.setIfInBounds_toArray, List.set_cons_succ, List.set_cons_zero, Nat.zero_add, Nat.reduceAdd, g1] at hK ⊢
              exact wp_call 28 #[.agg (sA pl)] (by simp [go_sem]) _ _ (LP.out wq) (fun w' hb => hK _ _ rfl hb)
            · intro f wq hC hd KK hK
              clear hd
              have hR : Row wq (w.heap.size + 1) 24 (sA b) := C6.out.rb.below hC C6.out.rb.lt
              have c0 : wq.cell? ⟨(w.heap.size + 1), 0, none⟩ = some (.int .i64 b.fg) := hR.cell 0
              have c1 : wq.cell? ⟨(w.heap.size + 1), 1, none⟩ = some (.int .i64 b.bg) := hR.cell 1
              have c2 : wq.cell? ⟨(w.heap.size + 1), 2, none⟩ = some (.bool b.b1) := hR.cell 2
              have c3 : wq.cell? ⟨(w.heap.size + 1), 3, none⟩ = some (.bool b.b2) := hR.cell 3
              have c4 : wq.cell? ⟨(w.heap.size + 1), 4, none⟩ = some (.bool b.b3) := hR.cell 4
              have c5 : wq.cell? ⟨(w.heap.size + 1), 5, none⟩ = some (.bool b.b4) := hR.cell 5
              have c6 : wq.cell? ⟨(w.heap.size + 1), 6, none⟩ = some (.bool b.b5) := hR.cell 6
              have c7 : wq.cell? ⟨(w.heap.size + 1), 7, none⟩ = some (.bool b.b7) := hR.cell 7
              have c8 : wq.cell? ⟨(w.heap.size + 1), 8, none⟩ = some (.bool b.b8) := hR.cell 8
              have c9 : wq.cell? ⟨(w.heap.size + 1), 9, none⟩ = some (.bool b.b9) := hR.cell 9
              clear hC hR
              simp only [List.take_succ_cons, List.take_zero, setAll, List.setIfInBounds_toArray, List.set_cons_succ, List.set_cons_zero, Nat.zero_add, Nat.reduceAdd] at hK ⊢
              refine wp_of_quiet rfl ?_
              go_big_quiet_step (fail)
              exact wpQuiet_nil (hK _ _ (rfl) (Below.refl _ _))
            · intro f wq hC hd KK hK
              have g3 : f 3 = .agg (sA b) := hd 3 (by kernel_rfl)
              clear hd
              simp only [List.take_succ_cons, List.take_zero, setAll, List.setIfInBounds_toArray, List.set_cons_succ, List.set_cons_zero, Nat.zero_add, Nat.reduceAdd, g3] at hK ⊢
              exact wp_call 28 #[.agg (sA b)] (by simp [go_sem]) _ _ (LB.out wq) (fun w' hb => hK _ _ rfl hb)
            · intro f wq hC hd KK hK
              have g2 : f 2 = .agg (lA pl) := hd 2 (by kernel_rfl)
              have g4 : f 4 = .agg (lA b) := hd 4 (by kernel_rfl)
              clear hd
              simp only [List.take_succ_cons, List.take_zero, setAll, List.setIfInBounds_toArray, List.set_cons_succ, List.set_cons_zero, Nat.zero_add, Nat.reduceAdd, g2, g4] at hK ⊢
              exact wp_callE 32 #[.agg (lA pl), .agg (lA b)] (by simp [go_sem]) (fun v w' => OwnI wq.heap.size w' v (stF pl b) ∧ Below wq.heap.size wq w') (SP.out wq) (fun v w' h => hK _ _ (h.1.down hC.size) h.2)
          · intro f wz hC hv
            have p0 : OwnI w6.heap.size wz (f 0) [0] := hv 0 (by decide)
            have p1 : f 1 = .agg (sA pl) := hv 1 (by decide)
            have p2 : f 2 = .agg (lA pl) := hv 2 (by decide)
            have p3 : f 3 = .agg (sA b) := hv 3 (by decide)
            have p4 : f 4 = .agg (lA b) := hv 4 (by decide)
            have p5 : OwnI w6.heap.size wz (f 5) (stF pl b) := hv 5 (by decide)
            simp only [List.take_succ_cons, List.take_zero, List.drop_succ_cons, List.drop_zero, setAll, List.setIfInBounds_toArray, List.set_cons_succ, List.set_cons_zero, Nat.zero_add, Nat.reduceAdd, p1, p2, p3, p4]
            clear hv p1 p2 p3 p4
            have B8 := Box'.mk hC
            have O8 := Box'.mk p0
            have Oc := Box'.mk p5
            clear hC p0 p5 PL LP LB SP
            generalize f 0 = v8 at *
            generalize f 5 = v9 at *
            have B9 := B8
            have Ob := O8
            clear B8 O8
            have hmx : [(0 : Int)].length + (stF pl b).length ≤ 17592186044416 := by have := N2.out; simp; omega
            go_upto_region 5 with ((refine wpList_appI rfl (.tmp 25) (.tmp 30) rfl w6.heap.size _ B9.out.size _ [0] rfl Ob.out _ (stF pl b) rfl Oc.out hmx ?_; intro va wb oa ba))
            have Bd := Box'.mk (B9.out.trans ba)
            have Oe : Box' (OwnI w.heap.size wb va (0 :: stF pl b)) := ⟨oa.down (by have := C6.out.sz; omega)⟩
            have Of : Box' (OwnI w.heap.size wb v6 (stF a b)) := ⟨(O6.out.below Bd.out).down (by omega)⟩
            have Bz : Box' (Below w.heap.size w wb) := ⟨C6.out.be.trans (Bd.out.mono C6.out.be.size)⟩
            clear oa ba B9 Ob Oc Bd O6 C6 hmx
            have L1 := N1.out
            have L2 := N2.out
            have L3 : (0 :: stF pl b).length ≤ 17 := by simp; omega
            clear N1 N2 L2
            generalize (0 :: stF pl b) = d1 at *
            generalize stF a b = d2 at *
            obtain ⟨a1, c1, rfl, -⟩ := Oe.out.slice
            obtain ⟨a2, c2, rfl, -⟩ := Of.out.slice
            by_cases hle : d1.length ≤ d2.length
            case pos =>
              have E2 : Box' (chF a b = d1) := ⟨by rw [E.out, if_pos hle]⟩
              go_wp2_with fail
              go_ret
              exact ⟨_, rfl, by rw [E2.out]; exact Oe.out, Bz.out⟩
            case neg =>
              have E2 : Box' (chF a b = d2) := ⟨by rw [E.out, if_neg hle]⟩
              go_wp2_with fail
              go_ret
              exact ⟨_, rfl, by rw [E2.out]; exact Of.out, Bz.out⟩
end Go.Proofs.Ytnlladjkajmpoaa
