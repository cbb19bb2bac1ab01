/- ClockAll walked. -/
import Derived.Test.YtmafghbhbahhcaaP
namespace Go.Proofs.Ytmafghbhbahhcaa
open Go.RowKit Go.BigFrame
set_option linter.unusedVariables false
set_option linter.unusedSimpArgs false

theorem wp_callE {P : Program} {Q : Exit → Act → World → Prop} {op : Oper} {a : Act} {w : World} {K : Act → World → Prop} (f : FuncId) (args : Array Value) (hrun : (execOp a.eval op).run P w = .ok (.enter f args) w) (R : Value → World → Prop)
    (hc : Calls P f args w (fun e w'' => ∃ v, e = .returned v ∧ R v w'')) (h : ∀ v w'', R v w'' → K (a.put op.dst v) w'') : op.wp P a w K Q := by
  unfold Oper.wp
  rw [hrun]
  exact hc.mono fun e w'' hh => by obtain ⟨v, rfl, hR⟩ := hh; exact h v w'' hR
theorem run_pick_op {P : Program} {op : Oper} {a : Act} (c x y : Operand) (ho : op.op = .pick c x y) (t : Bool) (hc : a.eval c = .bool t) (v : Value) (hv : (if t then a.eval x else a.eval y) = v) (w : World) : (execOp a.eval op).run P w = .ok (.value v) w := by
  unfold execOp
  subst hv
  cases t <;> simp [ho, hc, asBool]

theorem wp_run {P : Program} {op : Oper} {a : Act} {w : World} {K : Act → World → Prop} {Q : Exit → Act → World → Prop} (v : Value) (hrun : (execOp a.eval op).run P w = .ok (.value v) w) (h : K (a.put op.dst v) w) : op.wp P a w K Q := by
  unfold Oper.wp; rw [hrun]; exact h

set_option maxRecDepth 100000 in
set_option maxHeartbeats 8000000 in
theorem all_any (a : Bool) (m s x y : Int) (h1 : 0 ≤ x) (h2 : x ≤ 65535) (h3 : 0 ≤ y) (h4 : y ≤ 65535) (w : World) : Calls Try.prog 3 #[.agg #[.bool a, .int .i64 m, .int .i64 s], .int .u16 x, .int .u16 y] w fun e w' => e = .returned (.bool true) ∧ Below w.heap.size w w' := by
  have H1 := Box'.mk (fun w => sample_any a m s x h1 h2 w)
  have H2 := Box'.mk (fun w => rsample_any a m s x h1 h2 w)
  have H3 := Box'.mk (fun w => timeout_any a m s w)
  have H4 := Box'.mk (fun w => rtimeout_any a m s w)
  have H5 := Box'.mk (fun w => pace_any a m s w)
  have H6 := Box'.mk (fun w => rpace_any a m s w)
  have HM := Box'.mk (fun w => may_any a m s w)
  have HQ := Box'.mk (fun w => rmay_any a m s w)
  have HS := Box'.mk (fun w => since_any x y h1 h2 h3 h4 w)
  have HR := Box'.mk (fun w => refSince_any x y h1 h2 h3 h4 w)
  generalize Gf.smA a m s = A1 at *
  generalize Gf.smM a m s x = M1 at *
  generalize Gf.smS a m s x = S1 at *
  generalize Gf.erE a m s = E at *
  generalize Gf.tmO a m s = T at *
  generalize Gf.paO a m s = P at *
  generalize Gf.mayB a m s = MB at *
  generalize Gf.sinI x y = D at *
  go_enter Try.func3, Try.ntmps3
  go_wp2_with (fail)
  refine (H1.out _).mono ?_
  rintro e w1 ⟨rfl, b1⟩
  have r1 : Row w1 w.heap.size 23 #[.bool a, .int .i64 m, .int .i64 s] := (Row.made _ 23 _ _ _ rfl rfl).below b1 (by simp)
  have B1 := Box'.mk (((Below.refl w.heap.size w).alloc (Nat.le_refl _) (.cells #[.bool a, .int .i64 m, .int .i64 s] 23)).trans (b1.mono (by simp)))
  have c0 := r1.cell 0
  have c1 := r1.cell 1
  have c2 := r1.cell 2
  have hz1 := r1.lt
  have R1 := Box'.mk r1
  clear H1 b1 r1
  go_wp2_with (fail)
  refine (H2.out _).mono ?_
  rintro e w2 ⟨rfl, b2⟩
  have r2 := (R1.out.alloc (.cells #[.bool A1, .int .i64 M1, .int .i64 S1] 23)).below b2 (by simp; omega)
  have q2 : Row w2 w1.heap.size 23 #[.bool A1, .int .i64 M1, .int .i64 S1] := (Row.made _ 23 _ _ _ rfl rfl).below b2 (by simp)
  have B2 := Box'.mk ((B1.out.alloc B1.out.size (.cells #[.bool A1, .int .i64 M1, .int .i64 S1] 23)).trans (b2.mono (by have := B1.out.size; simp; omega)))
  have hz2 := q2.lt
  have hz3 := r2.lt
  have R2 := Box'.mk (And.intro (r2.alloc (.cells #[.bool A1, .int .i64 M1, .int .i64 S1] 23)) (And.intro (q2.alloc (.cells #[.bool A1, .int .i64 M1, .int .i64 S1] 23)) (Row.made w2 23 _ #[.bool A1, .int .i64 M1, .int .i64 S1] w2.heap.size rfl rfl)))
  have B3 := Box'.mk (B2.out.alloc B2.out.size (.cells #[.bool A1, .int .i64 M1, .int .i64 S1] 23))
  have d0 := r2.cell 0
  have d1 := r2.cell 1
  have d2 := r2.cell 2
  clear H2 b2 r2 q2 B1 R1 B2 c0 c1 c2
  go_wp2_with (fail)
  refine (H3.out _).mono ?_
  rintro e w3 ⟨rfl, b3⟩
  have R3 := Box'.mk (And.intro (R2.out.1.below b3 R2.out.1.lt) (And.intro (R2.out.2.1.below b3 R2.out.2.1.lt) (R2.out.2.2.below b3 R2.out.2.2.lt)))
  have B4 := Box'.mk (B3.out.trans (b3.mono B3.out.size))
  clear H3 b3 B3 R2 d0 d1 d2
  have d0 := R3.out.1.cell 0
  have d1 := R3.out.1.cell 1
  have d2 := R3.out.1.cell 2
  go_wp2_with (fail)
  refine (H4.out _).mono ?_
  rintro e w4 ⟨rfl, b4⟩
  have R4 := Box'.mk (And.intro (R3.out.1.below b4 R3.out.1.lt) (And.intro (R3.out.2.1.below b4 R3.out.2.1.lt) (R3.out.2.2.below b4 R3.out.2.2.lt)))
  have B5 := Box'.mk (B4.out.trans (b4.mono B4.out.size))
  clear H4 b4 B4 R3 d0 d1 d2
  have d0 := R4.out.1.cell 0
  have d1 := R4.out.1.cell 1
  have d2 := R4.out.1.cell 2
  go_wp2_with (fail)
  refine (H5.out _).mono ?_
  rintro e w5 ⟨rfl, b5⟩
  have R5 := Box'.mk (And.intro (R4.out.1.below b5 R4.out.1.lt) (And.intro (R4.out.2.1.below b5 R4.out.2.1.lt) (R4.out.2.2.below b5 R4.out.2.2.lt)))
  have B6 := Box'.mk (B5.out.trans (b5.mono B5.out.size))
  clear H5 b5 B5 R4 d0 d1 d2
  have d0 := R5.out.1.cell 0
  have d1 := R5.out.1.cell 1
  have d2 := R5.out.1.cell 2
  go_wp2_with (fail)
  refine (H6.out _).mono ?_
  rintro e w6 ⟨rfl, b6⟩
  have R6 := Box'.mk (And.intro (R5.out.1.below b6 R5.out.1.lt) (And.intro (R5.out.2.1.below b6 R5.out.2.1.lt) (R5.out.2.2.below b6 R5.out.2.2.lt)))
  have B7 := Box'.mk (B6.out.trans (b6.mono B6.out.size))
  clear H6 b6 B6 R5 d0 d1 d2
  have d0 := R6.out.1.cell 0
  have d1 := R6.out.1.cell 1
  have d2 := R6.out.1.cell 2
  go_wp2_with (fail)
  clear d0 d1 d2
  refine wp_region_growt 47 98 [3, 8, 13, 18, 23, 28, 35, 44] rfl (by kernel_rfl) (by kernel_rfl) (by kernel_rfl) (fun wa wb => Below wa.heap.size wa wb) (fun wa => Below w.heap.size w wa ∧ Row wa w.heap.size 23 #[.bool a, .int .i64 m, .int .i64 s] ∧ Row wa w1.heap.size 23 #[.bool A1, .int .i64 M1, .int .i64 S1] ∧ Row wa w2.heap.size 23 #[.bool A1, .int .i64 M1, .int .i64 S1]) (fun kc wa v => match kc with
    | 0 => v = .agg #[.bool A1, .int .i64 M1, .int .i64 S1]
    | 1 => v = .agg #[.bool A1, .int .i64 M1, .int .i64 S1]
    | 2 => v = .bool true
    | 3 => v = .bool true
    | 4 => v = .int .i64 E
    | 5 => v = .int .i64 E
    | 6 => v = .bool true
    | 7 => v = .bool true
    | 8 => v = .bool true
    | 9 => v = .int .i64 T
    | 10 => v = .int .i64 T
    | 11 => v = .bool true
    | 12 => v = .bool true
    | 13 => v = .bool true
    | 14 => v = .int .i64 E
    | 15 => v = .int .i64 E
    | 16 => v = .bool true
    | 17 => v = .bool true
    | 18 => v = .bool true
    | 19 => v = .int .i64 P
    | 20 => v = .int .i64 P
    | 21 => v = .bool true
    | 22 => v = .bool true
    | 23 => v = .bool true
    | 24 => v = .int .i64 E
    | 25 => v = .int .i64 E
    | 26 => v = .bool true
    | 27 => v = .bool true
    | 28 => v = .bool true
    | 29 => v = .agg #[.bool a, .int .i64 m, .int .i64 s]
    | 30 => v = .bool MB
    | 31 => v = .agg #[.bool a, .int .i64 m, .int .i64 s]
    | 32 => v = .bool MB
    | 33 => v = .bool true
    | 34 => v = .bool true
    | 35 => v = .bool true
    | 36 => v = .int .u16 x
    | 37 => v = .int .u16 y
    | 38 => v = .int .u16 D
    | 39 => v = .int .u16 x
    | 40 => v = .int .u16 y
    | 41 => v = .int .u16 D
    | 42 => v = .bool true
    | 43 => v = .bool true
    | 44 => v = .bool true
    | 45 => v = .bool true
    | 46 => v = .bool true
    | _ => True) ?_ ?_ ?_ ?_ ?_ ?_
  · intro j hj w3 v _ hv
    simp only [List.mem_cons, List.not_mem_nil, or_false] at hj
    rcases hj with rfl | rfl | rfl | rfl | rfl | rfl | rfl | rfl <;> exact hv
  · rintro wa wb hb ⟨q0, q1, q2, q3⟩
    exact ⟨q0.trans (hb.mono q0.size), q1.below hb q1.lt, q2.below hb q2.lt, q3.below hb q3.lt⟩
  · intro kc v wa wb hC1 hb h
    match kc, h with
    | 0, h => exact h
    | 1, h => exact h
    | 2, h => exact h
    | 3, h => exact h
    | 4, h => exact h
    | 5, h => exact h
    | 6, h => exact h
    | 7, h => exact h
    | 8, h => exact h
    | 9, h => exact h
    | 10, h => exact h
    | 11, h => exact h
    | 12, h => exact h
    | 13, h => exact h
    | 14, h => exact h
    | 15, h => exact h
    | 16, h => exact h
    | 17, h => exact h
    | 18, h => exact h
    | 19, h => exact h
    | 20, h => exact h
    | 21, h => exact h
    | 22, h => exact h
    | 23, h => exact h
    | 24, h => exact h
    | 25, h => exact h
    | 26, h => exact h
    | 27, h => exact h
    | 28, h => exact h
    | 29, h => exact h
    | 30, h => exact h
    | 31, h => exact h
    | 32, h => exact h
    | 33, h => exact h
    | 34, h => exact h
    | 35, h => exact h
    | 36, h => exact h
    | 37, h => exact h
    | 38, h => exact h
    | 39, h => exact h
    | 40, h => exact h
    | 41, h => exact h
    | 42, h => exact h
    | 43, h => exact h
    | 44, h => exact h
    | 45, h => exact h
    | 46, h => exact h
    | kc + 47, h => trivial
  · exact ⟨B7.out.drew, R6.out.1.drew, R6.out.2.1.drew, R6.out.2.2.drew⟩
  · refine ⟨?_, ?_, ?_, ?_, ?_, ?_, ?_, ?_, ?_, ?_, ?_, ?_, ?_, ?_, ?_, ?_, ?_, ?_, ?_, ?_, ?_, ?_, ?_, ?_, ?_, ?_, ?_, ?_, ?_, ?_, ?_, ?_, ?_, ?_, ?_, ?_, ?_, ?_, ?_, ?_, ?_, ?_, ?_, ?_, ?_, ?_, ?_, trivial⟩
    · intro f wq hC hd KK hK
      clear hd
      simp only [List.take_succ_cons, List.take_zero, setAll, List.setIfInBounds_toArray, List.set_cons_succ, List.set_cons_zero, Nat.zero_add, Nat.reduceAdd] at hK ⊢
      refine wp_unguard ?_
      refine wp_load_row 23 _ rfl _ rfl _ _ (hC.2.2.1) _ Try.underlying23 rfl 3 Try.info23 rfl ?_
      exact hK _ _ rfl (Below.refl _ _)
    · intro f wq hC hd KK hK
      clear hd
      simp only [List.take_succ_cons, List.take_zero, setAll, List.setIfInBounds_toArray, List.set_cons_succ, List.set_cons_zero, Nat.zero_add, Nat.reduceAdd] at hK ⊢
      refine wp_unguard ?_
      refine wp_load_row 23 _ rfl _ rfl _ _ (hC.2.2.2) _ Try.underlying23 rfl 3 Try.info23 rfl ?_
      exact hK _ _ rfl (Below.refl _ _)
    · intro f wq hC hd KK hK
      have g0 : f 0 = .agg #[.bool A1, .int .i64 M1, .int .i64 S1] := hd 0 (by kernel_rfl)
      have g1 : f 1 = .agg #[.bool A1, .int .i64 M1, .int .i64 S1] := hd 1 (by kernel_rfl)
      clear hd
      simp only [List.take_succ_cons, List.take_zero, setAll, List.setIfInBounds_toArray, List.set_cons_succ, List.set_cons_zero, Nat.zero_add, Nat.reduceAdd, g0, g1] at hK ⊢
      refine wp_unguard ?_
      refine wp_of_quiet rfl ?_
      go_big_quiet_step (fail)
      exact wpQuiet_nil (hK _ _ (by simp) (Below.refl _ _))
    · intro f wq hC hd KK hK
      have g2 : f 2 = .bool true := hd 2 (by kernel_rfl)
      clear hd
      simp only [List.take_succ_cons, List.take_zero, setAll, List.setIfInBounds_toArray, List.set_cons_succ, List.set_cons_zero, Nat.zero_add, Nat.reduceAdd, g2] at hK ⊢
      refine wp_unguard ?_
      refine wp_of_quiet rfl ?_
      go_big_quiet_step (fail)
      exact wpQuiet_nil (hK _ _ (rfl) (Below.refl _ _))
    · intro f wq hC hd KK hK
      clear hd
      simp only [List.take_succ_cons, List.take_zero, setAll, List.setIfInBounds_toArray, List.set_cons_succ, List.set_cons_zero, Nat.zero_add, Nat.reduceAdd] at hK ⊢
      refine wp_unguard ?_
      refine wp_of_quiet rfl ?_
      go_big_quiet_step (fail)
      exact wpQuiet_nil (hK _ _ (rfl) (Below.refl _ _))
    · intro f wq hC hd KK hK
      clear hd
      simp only [List.take_succ_cons, List.take_zero, setAll, List.setIfInBounds_toArray, List.set_cons_succ, List.set_cons_zero, Nat.zero_add, Nat.reduceAdd] at hK ⊢
      refine wp_unguard ?_
      refine wp_of_quiet rfl ?_
      go_big_quiet_step (fail)
      exact wpQuiet_nil (hK _ _ (rfl) (Below.refl _ _))
    · intro f wq hC hd KK hK
      have g4 : f 4 = .int .i64 E := hd 4 (by kernel_rfl)
      have g5 : f 5 = .int .i64 E := hd 5 (by kernel_rfl)
      clear hd
      simp only [List.take_succ_cons, List.take_zero, setAll, List.setIfInBounds_toArray, List.set_cons_succ, List.set_cons_zero, Nat.zero_add, Nat.reduceAdd, g4, g5] at hK ⊢
      refine wp_unguard ?_
      refine wp_of_quiet rfl ?_
      go_big_quiet_step (fail)
      exact wpQuiet_nil (hK _ _ (by simp) (Below.refl _ _))
    · intro f wq hC hd KK hK
      have g3 : f 3 = .bool true := hd 3 (by kernel_rfl)
      have g6 : f 6 = .bool true := hd 6 (by kernel_rfl)
      clear hd
      simp only [List.take_succ_cons, List.take_zero, setAll, List.setIfInBounds_toArray, List.set_cons_succ, List.set_cons_zero, Nat.zero_add, Nat.reduceAdd, g3, g6] at hK ⊢
      refine wp_unguard ?_
      exact wp_run _ (run_pick_op _ _ _ rfl true rfl _ rfl _) (hK _ _ rfl (Below.refl _ _))
    · intro f wq hC hd KK hK
      have g7 : f 7 = .bool true := hd 7 (by kernel_rfl)
      clear hd
      simp only [List.take_succ_cons, List.take_zero, setAll, List.setIfInBounds_toArray, List.set_cons_succ, List.set_cons_zero, Nat.zero_add, Nat.reduceAdd, g7] at hK ⊢
      refine wp_unguard ?_
      refine wp_of_quiet rfl ?_
      go_big_quiet_step (fail)
      exact wpQuiet_nil (hK _ _ (rfl) (Below.refl _ _))
    · intro f wq hC hd KK hK
      clear hd
      simp only [List.take_succ_cons, List.take_zero, setAll, List.setIfInBounds_toArray, List.set_cons_succ, List.set_cons_zero, Nat.zero_add, Nat.reduceAdd] at hK ⊢
      refine wp_unguard ?_
      refine wp_of_quiet rfl ?_
      go_big_quiet_step (fail)
      exact wpQuiet_nil (hK _ _ (rfl) (Below.refl _ _))
    · intro f wq hC hd KK hK
      clear hd
      simp only [List.take_succ_cons, List.take_zero, setAll, List.setIfInBounds_toArray, List.set_cons_succ, List.set_cons_zero, Nat.zero_add, Nat.reduceAdd] at hK ⊢
      refine wp_unguard ?_
      refine wp_of_quiet rfl ?_
      go_big_quiet_step (fail)
      exact wpQuiet_nil (hK _ _ (rfl) (Below.refl _ _))
    · intro f wq hC hd KK hK
      have g9 : f 9 = .int .i64 T := hd 9 (by kernel_rfl)
      have g10 : f 10 = .int .i64 T := hd 10 (by kernel_rfl)
      clear hd
      simp only [List.take_succ_cons, List.take_zero, setAll, List.setIfInBounds_toArray, List.set_cons_succ, List.set_cons_zero, Nat.zero_add, Nat.reduceAdd, g9, g10] at hK ⊢
      refine wp_unguard ?_
      refine wp_of_quiet rfl ?_
      go_big_quiet_step (fail)
      exact wpQuiet_nil (hK _ _ (by simp) (Below.refl _ _))
    · intro f wq hC hd KK hK
      have g8 : f 8 = .bool true := hd 8 (by kernel_rfl)
      have g11 : f 11 = .bool true := hd 11 (by kernel_rfl)
      clear hd
      simp only [List.take_succ_cons, List.take_zero, setAll, List.setIfInBounds_toArray, List.set_cons_succ, List.set_cons_zero, Nat.zero_add, Nat.reduceAdd, g8, g11] at hK ⊢
      refine wp_unguard ?_
      exact wp_run _ (run_pick_op _ _ _ rfl true rfl _ rfl _) (hK _ _ rfl (Below.refl _ _))
    · intro f wq hC hd KK hK
      have g12 : f 12 = .bool true := hd 12 (by kernel_rfl)
      clear hd
      simp only [List.take_succ_cons, List.take_zero, setAll, List.setIfInBounds_toArray, List.set_cons_succ, List.set_cons_zero, Nat.zero_add, Nat.reduceAdd, g12] at hK ⊢
      refine wp_unguard ?_
      refine wp_of_quiet rfl ?_
      go_big_quiet_step (fail)
      exact wpQuiet_nil (hK _ _ (rfl) (Below.refl _ _))
    · intro f wq hC hd KK hK
      clear hd
      simp only [List.take_succ_cons, List.take_zero, setAll, List.setIfInBounds_toArray, List.set_cons_succ, List.set_cons_zero, Nat.zero_add, Nat.reduceAdd] at hK ⊢
      refine wp_unguard ?_
      refine wp_of_quiet rfl ?_
      go_big_quiet_step (fail)
      exact wpQuiet_nil (hK _ _ (rfl) (Below.refl _ _))
    · intro f wq hC hd KK hK
      clear hd
      simp only [List.take_succ_cons, List.take_zero, setAll, List.setIfInBounds_toArray, List.set_cons_succ, List.set_cons_zero, Nat.zero_add, Nat.reduceAdd] at hK ⊢
      refine wp_unguard ?_
      refine wp_of_quiet rfl ?_
      go_big_quiet_step (fail)
      exact wpQuiet_nil (hK _ _ (rfl) (Below.refl _ _))
    · intro f wq hC hd KK hK
      have g14 : f 14 = .int .i64 E := hd 14 (by kernel_rfl)
      have g15 : f 15 = .int .i64 E := hd 15 (by kernel_rfl)
      clear hd
      simp only [List.take_succ_cons, List.take_zero, setAll, List.setIfInBounds_toArray, List.set_cons_succ, List.set_cons_zero, Nat.zero_add, Nat.reduceAdd, g14, g15] at hK ⊢
      refine wp_unguard ?_
      refine wp_of_quiet rfl ?_
      go_big_quiet_step (fail)
      exact wpQuiet_nil (hK _ _ (by simp) (Below.refl _ _))
    · intro f wq hC hd KK hK
      have g13 : f 13 = .bool true := hd 13 (by kernel_rfl)
      have g16 : f 16 = .bool true := hd 16 (by kernel_rfl)
      clear hd
      simp only [List.take_succ_cons, List.take_zero, setAll, List.setIfInBounds_toArray, List.set_cons_succ, List.set_cons_zero, Nat.zero_add, Nat.reduceAdd, g13, g16] at hK ⊢
      refine wp_unguard ?_
      exact wp_run _ (run_pick_op _ _ _ rfl true rfl _ rfl _) (hK _ _ rfl (Below.refl _ _))
    · intro f wq hC hd KK hK
      have g17 : f 17 = .bool true := hd 17 (by kernel_rfl)
      clear hd
      simp only [List.take_succ_cons, List.take_zero, setAll, List.setIfInBounds_toArray, List.set_cons_succ, List.set_cons_zero, Nat.zero_add, Nat.reduceAdd, g17] at hK ⊢
      refine wp_unguard ?_
      refine wp_of_quiet rfl ?_
      go_big_quiet_step (fail)
      exact wpQuiet_nil (hK _ _ (rfl) (Below.refl _ _))
    · intro f wq hC hd KK hK
      clear hd
      simp only [List.take_succ_cons, List.take_zero, setAll, List.setIfInBounds_toArray, List.set_cons_succ, List.set_cons_zero, Nat.zero_add, Nat.reduceAdd] at hK ⊢
      refine wp_unguard ?_
      refine wp_of_quiet rfl ?_
      go_big_quiet_step (fail)
      exact wpQuiet_nil (hK _ _ (rfl) (Below.refl _ _))
    · intro f wq hC hd KK hK
      clear hd
      simp only [List.take_succ_cons, List.take_zero, setAll, List.setIfInBounds_toArray, List.set_cons_succ, List.set_cons_zero, Nat.zero_add, Nat.reduceAdd] at hK ⊢
      refine wp_unguard ?_
      refine wp_of_quiet rfl ?_
      go_big_quiet_step (fail)
      exact wpQuiet_nil (hK _ _ (rfl) (Below.refl _ _))
    · intro f wq hC hd KK hK
      have g19 : f 19 = .int .i64 P := hd 19 (by kernel_rfl)
      have g20 : f 20 = .int .i64 P := hd 20 (by kernel_rfl)
      clear hd
      simp only [List.take_succ_cons, List.take_zero, setAll, List.setIfInBounds_toArray, List.set_cons_succ, List.set_cons_zero, Nat.zero_add, Nat.reduceAdd, g19, g20] at hK ⊢
      refine wp_unguard ?_
      refine wp_of_quiet rfl ?_
      go_big_quiet_step (fail)
      exact wpQuiet_nil (hK _ _ (by simp) (Below.refl _ _))
    · intro f wq hC hd KK hK
      have g18 : f 18 = .bool true := hd 18 (by kernel_rfl)
      have g21 : f 21 = .bool true := hd 21 (by kernel_rfl)
      clear hd
      simp only [List.take_succ_cons, List.take_zero, setAll, List.setIfInBounds_toArray, List.set_cons_succ, List.set_cons_zero, Nat.zero_add, Nat.reduceAdd, g18, g21] at hK ⊢
      refine wp_unguard ?_
      exact wp_run _ (run_pick_op _ _ _ rfl true rfl _ rfl _) (hK _ _ rfl (Below.refl _ _))
    · intro f wq hC hd KK hK
      have g22 : f 22 = .bool true := hd 22 (by kernel_rfl)
      clear hd
      simp only [List.take_succ_cons, List.take_zero, setAll, List.setIfInBounds_toArray, List.set_cons_succ, List.set_cons_zero, Nat.zero_add, Nat.reduceAdd, g22] at hK ⊢
      refine wp_unguard ?_
      refine wp_of_quiet rfl ?_
      go_big_quiet_step (fail)
      exact wpQuiet_nil (hK _ _ (rfl) (Below.refl _ _))
    · intro f wq hC hd KK hK
      clear hd
      simp only [List.take_succ_cons, List.take_zero, setAll, List.setIfInBounds_toArray, List.set_cons_succ, List.set_cons_zero, Nat.zero_add, Nat.reduceAdd] at hK ⊢
      refine wp_unguard ?_
      refine wp_of_quiet rfl ?_
      go_big_quiet_step (fail)
      exact wpQuiet_nil (hK _ _ (rfl) (Below.refl _ _))
    · intro f wq hC hd KK hK
      clear hd
      simp only [List.take_succ_cons, List.take_zero, setAll, List.setIfInBounds_toArray, List.set_cons_succ, List.set_cons_zero, Nat.zero_add, Nat.reduceAdd] at hK ⊢
      refine wp_unguard ?_
      refine wp_of_quiet rfl ?_
      go_big_quiet_step (fail)
      exact wpQuiet_nil (hK _ _ (rfl) (Below.refl _ _))
    · intro f wq hC hd KK hK
      have g24 : f 24 = .int .i64 E := hd 24 (by kernel_rfl)
      have g25 : f 25 = .int .i64 E := hd 25 (by kernel_rfl)
      clear hd
      simp only [List.take_succ_cons, List.take_zero, setAll, List.setIfInBounds_toArray, List.set_cons_succ, List.set_cons_zero, Nat.zero_add, Nat.reduceAdd, g24, g25] at hK ⊢
      refine wp_unguard ?_
      refine wp_of_quiet rfl ?_
      go_big_quiet_step (fail)
      exact wpQuiet_nil (hK _ _ (by simp) (Below.refl _ _))
    · intro f wq hC hd KK hK
      have g23 : f 23 = .bool true := hd 23 (by kernel_rfl)
      have g26 : f 26 = .bool true := hd 26 (by kernel_rfl)
      clear hd
      simp only [List.take_succ_cons, List.take_zero, setAll, List.setIfInBounds_toArray, List.set_cons_succ, List.set_cons_zero, Nat.zero_add, Nat.reduceAdd, g23, g26] at hK ⊢
      refine wp_unguard ?_
      exact wp_run _ (run_pick_op _ _ _ rfl true rfl _ rfl _) (hK _ _ rfl (Below.refl _ _))
    · intro f wq hC hd KK hK
      have g27 : f 27 = .bool true := hd 27 (by kernel_rfl)
      clear hd
      simp only [List.take_succ_cons, List.take_zero, setAll, List.setIfInBounds_toArray, List.set_cons_succ, List.set_cons_zero, Nat.zero_add, Nat.reduceAdd, g27] at hK ⊢
      refine wp_unguard ?_
      refine wp_of_quiet rfl ?_
      go_big_quiet_step (fail)
      exact wpQuiet_nil (hK _ _ (rfl) (Below.refl _ _))
    · intro f wq hC hd KK hK
      clear hd
      simp only [List.take_succ_cons, List.take_zero, setAll, List.setIfInBounds_toArray, List.set_cons_succ, List.set_cons_zero, Nat.zero_add, Nat.reduceAdd] at hK ⊢
      refine wp_unguard ?_
      refine wp_load_row 23 _ rfl _ rfl _ _ (hC.2.1) _ Try.underlying23 rfl 3 Try.info23 rfl ?_
      exact hK _ _ rfl (Below.refl _ _)
    · intro f wq hC hd KK hK
      have g29 : f 29 = .agg #[.bool a, .int .i64 m, .int .i64 s] := hd 29 (by kernel_rfl)
      clear hd
      simp only [List.take_succ_cons, List.take_zero, setAll, List.setIfInBounds_toArray, List.set_cons_succ, List.set_cons_zero, Nat.zero_add, Nat.reduceAdd, g29] at hK ⊢
      refine wp_unguard ?_
      refine wp_callE 13 #[.agg #[.bool a, .int .i64 m, .int .i64 s]] (by simp [go_sem]) (fun v w'' => v = .bool MB ∧ Below wq.heap.size wq w'') ?_ ?_
      · exact (HM.out wq).mono fun e w'' h => ⟨_, h.1, rfl, h.2⟩
      · rintro v w'' ⟨rfl, hb⟩
        exact hK _ _ rfl hb
    · intro f wq hC hd KK hK
      clear hd
      simp only [List.take_succ_cons, List.take_zero, setAll, List.setIfInBounds_toArray, List.set_cons_succ, List.set_cons_zero, Nat.zero_add, Nat.reduceAdd] at hK ⊢
      refine wp_unguard ?_
      refine wp_load_row 23 _ rfl _ rfl _ _ (hC.2.1) _ Try.underlying23 rfl 3 Try.info23 rfl ?_
      exact hK _ _ rfl (Below.refl _ _)
    · intro f wq hC hd KK hK
      have g31 : f 31 = .agg #[.bool a, .int .i64 m, .int .i64 s] := hd 31 (by kernel_rfl)
      clear hd
      simp only [List.take_succ_cons, List.take_zero, setAll, List.setIfInBounds_toArray, List.set_cons_succ, List.set_cons_zero, Nat.zero_add, Nat.reduceAdd, g31] at hK ⊢
      refine wp_unguard ?_
      refine wp_callE 14 #[.agg #[.bool a, .int .i64 m, .int .i64 s]] (by simp [go_sem]) (fun v w'' => v = .bool MB ∧ Below wq.heap.size wq w'') ?_ ?_
      · exact (HQ.out wq).mono fun e w'' h => ⟨_, h.1, rfl, h.2⟩
      · rintro v w'' ⟨rfl, hb⟩
        exact hK _ _ rfl hb
    · intro f wq hC hd KK hK
      have g30 : f 30 = .bool MB := hd 30 (by kernel_rfl)
      have g32 : f 32 = .bool MB := hd 32 (by kernel_rfl)
      clear hd
      simp only [List.take_succ_cons, List.take_zero, setAll, List.setIfInBounds_toArray, List.set_cons_succ, List.set_cons_zero, Nat.zero_add, Nat.reduceAdd, g30, g32] at hK ⊢
      refine wp_unguard ?_
      refine wp_of_quiet rfl ?_
      go_big_quiet_step (fail)
      exact wpQuiet_nil (hK _ _ (by simp) (Below.refl _ _))
    · intro f wq hC hd KK hK
      have g28 : f 28 = .bool true := hd 28 (by kernel_rfl)
      have g33 : f 33 = .bool true := hd 33 (by kernel_rfl)
      clear hd
      simp only [List.take_succ_cons, List.take_zero, setAll, List.setIfInBounds_toArray, List.set_cons_succ, List.set_cons_zero, Nat.zero_add, Nat.reduceAdd, g28, g33] at hK ⊢
      refine wp_unguard ?_
      exact wp_run _ (run_pick_op _ _ _ rfl true rfl _ rfl _) (hK _ _ rfl (Below.refl _ _))
    · intro f wq hC hd KK hK
      have g34 : f 34 = .bool true := hd 34 (by kernel_rfl)
      clear hd
      simp only [List.take_succ_cons, List.take_zero, setAll, List.setIfInBounds_toArray, List.set_cons_succ, List.set_cons_zero, Nat.zero_add, Nat.reduceAdd, g34] at hK ⊢
      refine wp_unguard ?_
      refine wp_of_quiet rfl ?_
      go_big_quiet_step (fail)
      exact wpQuiet_nil (hK _ _ (rfl) (Below.refl _ _))
    · intro f wq hC hd KK hK
      clear hd
      simp only [List.take_succ_cons, List.take_zero, setAll, List.setIfInBounds_toArray, List.set_cons_succ, List.set_cons_zero, Nat.zero_add, Nat.reduceAdd] at hK ⊢
      refine wp_unguard ?_
      refine wp_of_quiet rfl ?_
      go_big_quiet_step (fail)
      exact wpQuiet_nil (hK _ _ (rfl) (Below.refl _ _))
    · intro f wq hC hd KK hK
      clear hd
      simp only [List.take_succ_cons, List.take_zero, setAll, List.setIfInBounds_toArray, List.set_cons_succ, List.set_cons_zero, Nat.zero_add, Nat.reduceAdd] at hK ⊢
      refine wp_unguard ?_
      refine wp_of_quiet rfl ?_
      go_big_quiet_step (fail)
      exact wpQuiet_nil (hK _ _ (rfl) (Below.refl _ _))
    · intro f wq hC hd KK hK
      have g36 : f 36 = .int .u16 x := hd 36 (by kernel_rfl)
      have g37 : f 37 = .int .u16 y := hd 37 (by kernel_rfl)
      clear hd
      simp only [List.take_succ_cons, List.take_zero, setAll, List.setIfInBounds_toArray, List.set_cons_succ, List.set_cons_zero, Nat.zero_add, Nat.reduceAdd, g36, g37] at hK ⊢
      refine wp_unguard ?_
      refine wp_callE 15 #[.int .u16 x, .int .u16 y] (by simp [go_sem]) (fun v w'' => v = .int .u16 D ∧ Below wq.heap.size wq w'') ?_ ?_
      · exact (HS.out wq).mono fun e w'' h => ⟨_, h.1, rfl, by rw [h.2]; exact Below.refl _ _⟩
      · rintro v w'' ⟨rfl, hb⟩
        exact hK _ _ rfl hb
    · intro f wq hC hd KK hK
      clear hd
      simp only [List.take_succ_cons, List.take_zero, setAll, List.setIfInBounds_toArray, List.set_cons_succ, List.set_cons_zero, Nat.zero_add, Nat.reduceAdd] at hK ⊢
      refine wp_unguard ?_
      refine wp_of_quiet rfl ?_
      go_big_quiet_step (fail)
      exact wpQuiet_nil (hK _ _ (rfl) (Below.refl _ _))
    · intro f wq hC hd KK hK
      clear hd
      simp only [List.take_succ_cons, List.take_zero, setAll, List.setIfInBounds_toArray, List.set_cons_succ, List.set_cons_zero, Nat.zero_add, Nat.reduceAdd] at hK ⊢
      refine wp_unguard ?_
      refine wp_of_quiet rfl ?_
      go_big_quiet_step (fail)
      exact wpQuiet_nil (hK _ _ (rfl) (Below.refl _ _))
    · intro f wq hC hd KK hK
      have g39 : f 39 = .int .u16 x := hd 39 (by kernel_rfl)
      have g40 : f 40 = .int .u16 y := hd 40 (by kernel_rfl)
      clear hd
      simp only [List.take_succ_cons, List.take_zero, setAll, List.setIfInBounds_toArray, List.set_cons_succ, List.set_cons_zero, Nat.zero_add, Nat.reduceAdd, g39, g40] at hK ⊢
      refine wp_unguard ?_
      refine wp_callE 16 #[.int .u16 x, .int .u16 y] (by simp [go_sem]) (fun v w'' => v = .int .u16 D ∧ Below wq.heap.size wq w'') ?_ ?_
      · exact (HR.out wq).mono fun e w'' h => ⟨_, h.1, rfl, by rw [h.2]; exact Below.refl _ _⟩
      · rintro v w'' ⟨rfl, hb⟩
        exact hK _ _ rfl hb
    · intro f wq hC hd KK hK
      have g38 : f 38 = .int .u16 D := hd 38 (by kernel_rfl)
      have g41 : f 41 = .int .u16 D := hd 41 (by kernel_rfl)
      clear hd
      simp only [List.take_succ_cons, List.take_zero, setAll, List.setIfInBounds_toArray, List.set_cons_succ, List.set_cons_zero, Nat.zero_add, Nat.reduceAdd, g38, g41] at hK ⊢
      refine wp_unguard ?_
      refine wp_of_quiet rfl ?_
      go_big_quiet_step (fail)
      exact wpQuiet_nil (hK _ _ (by simp) (Below.refl _ _))
    · intro f wq hC hd KK hK
      have g35 : f 35 = .bool true := hd 35 (by kernel_rfl)
      have g42 : f 42 = .bool true := hd 42 (by kernel_rfl)
      clear hd
      simp only [List.take_succ_cons, List.take_zero, setAll, List.setIfInBounds_toArray, List.set_cons_succ, List.set_cons_zero, Nat.zero_add, Nat.reduceAdd, g35, g42] at hK ⊢
      refine wp_unguard ?_
      exact wp_run _ (run_pick_op _ _ _ rfl true rfl _ rfl _) (hK _ _ rfl (Below.refl _ _))
    · intro f wq hC hd KK hK
      have g43 : f 43 = .bool true := hd 43 (by kernel_rfl)
      clear hd
      simp only [List.take_succ_cons, List.take_zero, setAll, List.setIfInBounds_toArray, List.set_cons_succ, List.set_cons_zero, Nat.zero_add, Nat.reduceAdd, g43] at hK ⊢
      refine wp_unguard ?_
      refine wp_of_quiet rfl ?_
      go_big_quiet_step (fail)
      exact wpQuiet_nil (hK _ _ (rfl) (Below.refl _ _))
    · intro f wq hC hd KK hK
      clear hd
      simp only [List.take_succ_cons, List.take_zero, setAll, List.setIfInBounds_toArray, List.set_cons_succ, List.set_cons_zero, Nat.zero_add, Nat.reduceAdd] at hK ⊢
      refine wp_unguard ?_
      refine wp_callE 17 #[] (by simp [go_sem]) (fun v w'' => v = .bool true ∧ Below wq.heap.size wq w'') ?_ ?_
      · exact (anchored_any wq).mono fun e w'' h => ⟨_, h.1, rfl, h.2⟩
      · rintro v w'' ⟨rfl, hb⟩
        exact hK _ _ rfl hb
    · intro f wq hC hd KK hK
      have g44 : f 44 = .bool true := hd 44 (by kernel_rfl)
      have g45 : f 45 = .bool true := hd 45 (by kernel_rfl)
      clear hd
      simp only [List.take_succ_cons, List.take_zero, setAll, List.setIfInBounds_toArray, List.set_cons_succ, List.set_cons_zero, Nat.zero_add, Nat.reduceAdd, g44, g45] at hK ⊢
      refine wp_unguard ?_
      exact wp_run _ (run_pick_op _ _ _ rfl true rfl _ rfl _) (hK _ _ rfl (Below.refl _ _))
  · intro f w9 hC hv
    have p0 : f 0 = .agg #[.bool A1, .int .i64 M1, .int .i64 S1] := hv 0 (by decide)
    have p1 : f 1 = .agg #[.bool A1, .int .i64 M1, .int .i64 S1] := hv 1 (by decide)
    have p2 : f 2 = .bool true := hv 2 (by decide)
    have p3 : f 3 = .bool true := hv 3 (by decide)
    have p4 : f 4 = .int .i64 E := hv 4 (by decide)
    have p5 : f 5 = .int .i64 E := hv 5 (by decide)
    have p6 : f 6 = .bool true := hv 6 (by decide)
    have p7 : f 7 = .bool true := hv 7 (by decide)
    have p8 : f 8 = .bool true := hv 8 (by decide)
    have p9 : f 9 = .int .i64 T := hv 9 (by decide)
    have p10 : f 10 = .int .i64 T := hv 10 (by decide)
    have p11 : f 11 = .bool true := hv 11 (by decide)
    have p12 : f 12 = .bool true := hv 12 (by decide)
    have p13 : f 13 = .bool true := hv 13 (by decide)
    have p14 : f 14 = .int .i64 E := hv 14 (by decide)
    have p15 : f 15 = .int .i64 E := hv 15 (by decide)
    have p16 : f 16 = .bool true := hv 16 (by decide)
    have p17 : f 17 = .bool true := hv 17 (by decide)
    have p18 : f 18 = .bool true := hv 18 (by decide)
    have p19 : f 19 = .int .i64 P := hv 19 (by decide)
    have p20 : f 20 = .int .i64 P := hv 20 (by decide)
    have p21 : f 21 = .bool true := hv 21 (by decide)
    have p22 : f 22 = .bool true := hv 22 (by decide)
    have p23 : f 23 = .bool true := hv 23 (by decide)
    have p24 : f 24 = .int .i64 E := hv 24 (by decide)
    have p25 : f 25 = .int .i64 E := hv 25 (by decide)
    have p26 : f 26 = .bool true := hv 26 (by decide)
    have p27 : f 27 = .bool true := hv 27 (by decide)
    have p28 : f 28 = .bool true := hv 28 (by decide)
    have p29 : f 29 = .agg #[.bool a, .int .i64 m, .int .i64 s] := hv 29 (by decide)
    have p30 : f 30 = .bool MB := hv 30 (by decide)
    have p31 : f 31 = .agg #[.bool a, .int .i64 m, .int .i64 s] := hv 31 (by decide)
    have p32 : f 32 = .bool MB := hv 32 (by decide)
    have p33 : f 33 = .bool true := hv 33 (by decide)
    have p34 : f 34 = .bool true := hv 34 (by decide)
    have p35 : f 35 = .bool true := hv 35 (by decide)
    have p36 : f 36 = .int .u16 x := hv 36 (by decide)
    have p37 : f 37 = .int .u16 y := hv 37 (by decide)
    have p38 : f 38 = .int .u16 D := hv 38 (by decide)
    have p39 : f 39 = .int .u16 x := hv 39 (by decide)
    have p40 : f 40 = .int .u16 y := hv 40 (by decide)
    have p41 : f 41 = .int .u16 D := hv 41 (by decide)
    have p42 : f 42 = .bool true := hv 42 (by decide)
    have p43 : f 43 = .bool true := hv 43 (by decide)
    have p44 : f 44 = .bool true := hv 44 (by decide)
    have p45 : f 45 = .bool true := hv 45 (by decide)
    have p46 : f 46 = .bool true := hv 46 (by decide)
    simp only [List.take_succ_cons, List.take_zero, List.drop_succ_cons, List.drop_zero, setAll, List.setIfInBounds_toArray, List.set_cons_succ, List.set_cons_zero, Nat.zero_add, Nat.reduceAdd, p0, p1, p2, p3, p4, p5, p6, p7, p8, p9, p10, p11, p12, p13, p14, p15, p16, p17, p18, p19, p20, p21, p22, p23, p24, p25, p26, p27, p28, p29, p30, p31, p32, p33, p34, p35, p36, p37, p38, p39, p40, p41, p42, p43, p44, p45, p46]
    clear hv p0 p1 p2 p3 p4 p5 p6 p7 p8 p9 p10 p11 p12 p13 p14 p15 p16 p17 p18 p19 p20 p21 p22 p23 p24 p25 p26 p27 p28 p29 p30 p31 p32 p33 p34 p35 p36 p37 p38 p39 p40 p41 p42 p43 p44 p45 p46
    have BB := Box'.mk hC.1
    clear hC
    go_wp2
    go_ret
    exact ⟨rfl, BB.out⟩
end Go.Proofs.Ytmafghbhbahhcaa
