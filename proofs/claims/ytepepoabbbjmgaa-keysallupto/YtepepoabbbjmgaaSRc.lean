/- The reference's May, of all cells. -/
import Derived.Test.YtepepoabbbjmgaaSRb
import Derived.Test.YtepepoabbbjmgaaSEq
namespace Go.Proofs.Ytepepoabbbjmgaa.Sc
open Go.RowKit Go.BigFrame
set_option linter.unusedVariables false
set_option linter.unusedSimpArgs false
set_option maxRecDepth 100000
set_option maxHeartbeats 8000000
theorem guard22 : Try.prog.eqGuardType Try.prog.depth 70 = false := by kernel_rfl
theorem run_eql_marks_op {op : Oper} {a : Act} (ty : TypeId) (p q : Operand) (ho : op.op = .binOp .eql 70 p q ty) (x0 x1 x2 y0 y1 y2 : Int) (hx : a.eval p = .agg #[.int .i32 x0, .int .i32 x1, .int .i32 x2]) (hy : a.eval q = .agg #[.int .i32 y0, .int .i32 y1, .int .i32 y2]) (r : Bool) (hr : decide (x0 = y0 ∧ x1 = y1 ∧ x2 = y2) = r) (w : World) :
  (execOp a.eval op).run Try.prog w = .ok (.value (.bool r)) w := by
 unfold execOp
 simp only [ho, hx, hy, Sem.run_bind, run_eqGuard_agg w .eql 70 p q _ _ guard22, Result.andThen_ok, run_eql_struct, eqMs w 9998 x0 x1 x2 y0 y1 y2, hr, Sem.run_pure]
theorem wpList_eqMG {ops : Array Oper} {rest : List Oper} {op : Oper} {a : Act} {w : World} {Q : Exit → Act → World → Prop} (hw : Region.wanted op (yielded ops a.tmps) = true) (ty : TypeId) (p q : Operand) (ho : op.op = .binOp .eql 70 p q ty) (x0 x1 x2 y0 y1 y2 : Int) (hx : a.eval p = .agg #[.int .i32 x0, .int .i32 x1, .int .i32 x2]) (hy : a.eval q = .agg #[.int .i32 y0, .int .i32 y1, .int .i32 y2]) (r : Bool) (hr : decide (x0 = y0 ∧ x1 = y1 ∧ x2 = y2) = r)
  (h : wpList Try.prog ops Q rest (a.put op.dst (.bool r)) w) : wpList Try.prog ops Q (op :: rest) a w := by
 refine wpList_step fun K hK => ?_
 rw [if_pos hw]
 exact wp_val _ (run_eql_marks_op ty p q ho x0 x1 x2 y0 y1 y2 hx hy r hr w) (hK _ _ h)
theorem rmay_no (x : Cl) (hs : mayS x.st = false) (w : World) : Calls Try.prog 42 #[.agg (cA x)] w fun e w' => e = .returned (.bool false) ∧ Below w.heap.size w w' := by
 have MS := Box'.mk (refMayStyle_any x.st)
 rw [hs] at MS
 have RX := Box'.mk (Row.new w 72 (cA x))
 have BB := Box'.mk ((Below.refl w.heap.size w).alloc (Nat.le_refl _) (.cells (cA x) 72))
 go_enter Try.func42, Try.ntmps42
 go_upto_region 1 with (fail)
 generalize w.alloc (.cells (cA x) 72) = w1 at *
 obtain ⟨c0, c1, c2, c3, c4, c5, c6, c7, c8, c9, c10, c11, c12, c13, c14⟩ := RX.out.c15
 clear hs
 go_wp2_with fail
 refine (MS.out _).mono ?_
 rintro e w2 ⟨rfl, hb2⟩
 have R2 := Box'.mk (RX.out.below hb2 RX.out.lt)
 have B2 := Box'.mk (BB.out.trans (hb2.mono BB.out.size))
 clear hb2 BB MS RX c0 c1 c2 c3 c4 c5 c6 c7 c8 c9 c10 c11 c12 c13 c14
 have c4 : w2.cell? ⟨w.heap.size, 4, none⟩ = some (.int .u8 (x.wd : Int)) := R2.out.cell 4
 go_wp2_with fail
 go_ret
 exact ⟨rfl, B2.out⟩
theorem rmay_0 (x : Cl) (hs : mayS x.st = true) (h0 : (x.wd : Int) = 0) (w : World) : Calls Try.prog 42 #[.agg (cA x)] w fun e w' => e = .returned (.bool (decide (x.ch = 0 ∧ x.m0 = 0 ∧ x.m1 = 0 ∧ x.m2 = 0))) ∧ Below w.heap.size w w' := by
 have H0 := Box'.mk h0
 clear h0
 have MS := Box'.mk (refMayStyle_any x.st)
 rw [hs] at MS
 have RX := Box'.mk (Row.new w 72 (cA x))
 have BB := Box'.mk ((Below.refl w.heap.size w).alloc (Nat.le_refl _) (.cells (cA x) 72))
 go_enter Try.func42, Try.ntmps42
 go_upto_region 1 with (fail)
 generalize w.alloc (.cells (cA x) 72) = w1 at *
 obtain ⟨c0, c1, c2, c3, c4, c5, c6, c7, c8, c9, c10, c11, c12, c13, c14⟩ := RX.out.c15
 clear hs
 go_wp2_with fail
 refine (MS.out _).mono ?_
 rintro e w2 ⟨rfl, hb2⟩
 have R2 := Box'.mk (RX.out.below hb2 RX.out.lt)
 have B2 := Box'.mk (BB.out.trans (hb2.mono BB.out.size))
 clear hb2 BB MS RX c0 c1 c2 c3 c4 c5 c6 c7 c8 c9 c10 c11 c12 c13 c14
 have c4 : w2.cell? ⟨w.heap.size, 4, none⟩ = some (.int .u8 (x.wd : Int)) := R2.out.cell 4
 rw [H0.out] at c4
 obtain ⟨d0, d1, d2, d3⟩ := R2.out.c4
 by_cases hc : x.ch = 0
 ·have E : Box' (decide (x.ch = 0 ∧ x.m0 = 0 ∧ x.m1 = 0 ∧ x.m2 = 0) = decide (x.m0 = 0 ∧ x.m1 = 0 ∧ x.m2 = 0)) := ⟨decide_eq_decide.2 (by simp [hc])⟩
  rw [hc] at d0
  clear hc
  obtain ⟨r, hr⟩ : ∃ r, decide (x.m0 = 0 ∧ x.m1 = 0 ∧ x.m2 = 0) = r := ⟨_, rfl⟩
  have HR := Box'.mk hr
  rw [hr] at E
  clear hr
  go_wp2_with (first
   | (refine wpList_eqMG rfl 70 (.tmp 16) (.tmp 17) rfl x.m0 x.m1 x.m2 0 0 0 rfl rfl r HR.out ?_))
  go_ret
  exact ⟨by rw [E.out]; rfl, B2.out⟩
 ·have E : Box' (decide (x.ch = 0 ∧ x.m0 = 0 ∧ x.m1 = 0 ∧ x.m2 = 0) = false) := ⟨by simp [hc]⟩
  go_wp2_with fail
  go_ret
  exact ⟨by rw [E.out]; rfl, B2.out⟩
theorem rmay_3 (x : Cl) (hs : mayS x.st = true) (h0 : ¬ (x.wd : Int) = 0) (h3 : (2 : Int) < (x.wd : Int)) (w : World) : Calls Try.prog 42 #[.agg (cA x)] w fun e w' => e = .returned (.bool false) ∧ Below w.heap.size w w' := by
 have MS := Box'.mk (refMayStyle_any x.st)
 rw [hs] at MS
 have RX := Box'.mk (Row.new w 72 (cA x))
 have BB := Box'.mk ((Below.refl w.heap.size w).alloc (Nat.le_refl _) (.cells (cA x) 72))
 go_enter Try.func42, Try.ntmps42
 go_upto_region 1 with (fail)
 generalize w.alloc (.cells (cA x) 72) = w1 at *
 obtain ⟨c0, c1, c2, c3, c4, c5, c6, c7, c8, c9, c10, c11, c12, c13, c14⟩ := RX.out.c15
 clear hs
 go_wp2_with fail
 refine (MS.out _).mono ?_
 rintro e w2 ⟨rfl, hb2⟩
 have R2 := Box'.mk (RX.out.below hb2 RX.out.lt)
 have B2 := Box'.mk (BB.out.trans (hb2.mono BB.out.size))
 clear hb2 BB MS RX c0 c1 c2 c3 c4 c5 c6 c7 c8 c9 c10 c11 c12 c13 c14
 have c4 : w2.cell? ⟨w.heap.size, 4, none⟩ = some (.int .u8 (x.wd : Int)) := R2.out.cell 4
 go_wp2_with fail
 have g3 : decide ((2 : Int) < (x.wd : Int)) = true := decide_eq_true h3
 go_quiet (fail)
 go_wp2_with fail
 go_ret
 exact ⟨rfl, Below.drewN B2.out _⟩
theorem rmay_w (x : Cl) (hs : mayS x.st = true) (h0 : (x.wd : Int) = 1 ∨ (x.wd : Int) = 2) (w : World) : Calls Try.prog 42 #[.agg (cA x)] w fun e w' => e = .returned (.bool (if ofF x.ch = (x.wd : Int) then rmL [x.m0, x.m1, x.m2] else false)) ∧ Below w.heap.size w w' := by
 obtain h0 | h0 := h0
 all_goals (
 have OFF := Box'.mk refOf_any
 have OF := Box'.mk (refOf_any x.ch)
 obtain ⟨z, hz⟩ : ∃ z, ofF x.ch = z := ⟨_, rfl⟩
 rw [hz] at OF ⊢
 clear hz
 obtain ⟨R, hR⟩ : ∃ R, (if z = (x.wd : Int) then rmL [x.m0, x.m1, x.m2] else false) = R := ⟨_, rfl⟩
 have HQ := Box'.mk hR
 rw [hR]
 clear hR
 have H0 := Box'.mk h0
 clear h0
 have MS := Box'.mk (refMayStyle_any x.st)
 rw [hs] at MS
 have RX := Box'.mk (Row.new w 72 (cA x))
 have BB := Box'.mk ((Below.refl w.heap.size w).alloc (Nat.le_refl _) (.cells (cA x) 72))
 go_enter Try.func42, Try.ntmps42
 go_upto_region 1 with (fail)
 generalize w.alloc (.cells (cA x) 72) = w1 at *
 obtain ⟨c0, c1, c2, c3, c4, c5, c6, c7, c8, c9, c10, c11, c12, c13, c14⟩ := RX.out.c15
 clear hs
 go_wp2_with fail
 refine (MS.out _).mono ?_
 rintro e w2 ⟨rfl, hb2⟩
 have R2 := Box'.mk (RX.out.below hb2 RX.out.lt)
 have B2 := Box'.mk (BB.out.trans (hb2.mono BB.out.size))
 clear hb2 BB MS RX c0 c1 c2 c3 c4 c5 c6 c7 c8 c9 c10 c11 c12 c13 c14
 have c4 : w2.cell? ⟨w.heap.size, 4, none⟩ = some (.int .u8 (x.wd : Int)) := R2.out.cell 4
 rw [H0.out] at c4
 go_wp2_with fail
 have h0 := H0.out
 refine wp_region_growg 12 (by kernel_rfl) 58 rfl (by kernel_rfl) (fun wa wb => Below wa.heap.size wa wb) (fun wa => Row wa w.heap.size 72 (cA x) ∧ Below w.heap.size w wa) (fun kc wa v => v = (match kc with
  | 0 => .pointer (some ⟨w.heap.size, 4, none⟩)
  | 1 => .int .u8 (x.wd : Int)
  | 2 => .bool false
  | 3 => .bool false
  | 4 => .pointer (some ⟨w.heap.size, 0, none⟩)
  | 5 => .int .i32 x.ch
  | 6 => .int .i64 z
  | 7 => .pointer (some ⟨w.heap.size, 4, none⟩)
  | 8 => .int .u8 (x.wd : Int)
  | 9 => .int .i64 (x.wd : Int)
  | 10 => .bool (z != (x.wd : Int))
  | 11 => .bool (z != (x.wd : Int))
  | _ => undef)) ?_ ?_ ?_ ?_ ?_ ?_
 ·intro i o' j b' hi hg wa v hC hV
  have hlt : i < 12 := by rcases Nat.lt_or_ge i 12 with q | q; exact q; rw [List.getElem?_eq_none (by simpa using q)] at hi; cases hi
  revert hi hg hV
  rcases (show i = 0 ∨ i = 1 ∨ i = 2 ∨ i = 3 ∨ i = 4 ∨ i = 5 ∨ i = 6 ∨ i = 7 ∨ i = 8 ∨ i = 9 ∨ i = 10 ∨ i = 11 by omega) with rfl | rfl | rfl | rfl | rfl | rfl | rfl | rfl | rfl | rfl | rfl | rfl <;>
   (intro hi hg hV; simp only [tkS, List.getElem?_cons_zero, List.getElem?_cons_succ, Option.some.injEq] at hi; subst hi; first | (cases hg; exact hV) | (cases hg))
 ·rintro wa wb hb ⟨q1, q2⟩; exact ⟨q1.below hb q1.lt, q2.trans (hb.mono q2.size)⟩
 ·exact fun kc v wa wb hC1 hb h => h
 ·exact ⟨R2.out.drew, B2.out.drew⟩
 ·refine ⟨?_, ?_, ?_, ?_, ?_, ?_, ?_, ?_, ?_, ?_, ?_, ?_, trivial⟩
  all_goals intro f wq hC hd KK hK
  all_goals simp (disch := decide +kernel) only [tkS, tkZ, setAll, siB, stS, stZ, Nat.zero_add, Nat.reduceAdd, hd] at hK ⊢
  rotate_left 1
  ·
   have hR : Row wq w.heap.size 72 (cA x) := hC.1
   obtain ⟨c0, c1, c2, c3, c4, c5, c6, c7, c8, c9, c10, c11, c12, c13, c14⟩ := hR.c15
   clear hC hR
   refine wp_of_quiet rfl ?_
   go_big_quiet_step (fail)
   exact wpQuiet_nil (hK _ _ (by first | rfl | (rw [h0]; rfl) | (simp [h0]; done) | (simp; done)) bR)
  rotate_left 3
  ·
   have hR : Row wq w.heap.size 72 (cA x) := hC.1
   obtain ⟨c0, c1, c2, c3, c4, c5, c6, c7, c8, c9, c10, c11, c12, c13, c14⟩ := hR.c15
   clear hC hR
   refine wp_unguard ?_
   refine wp_of_quiet rfl ?_
   go_big_quiet_step (fail)
   exact wpQuiet_nil (hK _ _ (by first | rfl | (rw [h0]; rfl) | (simp [h0]; done) | (simp; done)) bR)
  ·
   refine wp_unguard ?_
   exact wp_call 52 #[.int .i32 x.ch] (by simp [go_sem]) _ _ (OF.out wq) (fun w' hb => hK _ _ rfl hb)
  rotate_left 1
  ·
   have hR : Row wq w.heap.size 72 (cA x) := hC.1
   obtain ⟨c0, c1, c2, c3, c4, c5, c6, c7, c8, c9, c10, c11, c12, c13, c14⟩ := hR.c15
   clear hC hR
   refine wp_unguard ?_
   refine wp_of_quiet rfl ?_
   go_big_quiet_step (fail)
   exact wpQuiet_nil (hK _ _ (by first | rfl | (rw [h0]; rfl) | (simp [h0]; done) | (simp; done)) bR)
  all_goals (try refine wp_unguard ?_; refine wp_of_quiet rfl ?_; go_big_quiet_step (fail); exact wpQuiet_nil (hK _ _ (by first | rfl | (rw [h0]; rfl) | (simp [h0]; done) | (simp; assumption) | (simp; omega) | simp) bR))
 ·intro f wz hC hv
  simp (disch := decide) only [tkS, tkZ, List.drop_succ_cons, List.drop_zero, setAll, siB, stS, stZ, Nat.zero_add, Nat.reduceAdd, hv]
  clear hv
  have R9 := Box'.mk hC.1
  have B9 := Box'.mk hC.2
  clear hC OF H0 h0
  by_cases ho : z = (x.wd : Int)
  case neg =>
   have E : Box' (R = false) := ⟨by rw [← HQ.out, if_neg ho]⟩
   have ho1 : (z != (x.wd : Int)) = true := by simpa using ho
   clear HQ
   go_wp2_with fail
   go_ret
   exact ⟨by rw [E.out]; rfl, B9.out⟩
  case pos =>
   have HR : Box' (rmL [x.m0, x.m1, x.m2] = R) := ⟨by rw [← HQ.out, if_pos ho]⟩
   have ho1 : (z != (x.wd : Int)) = false := by rw [ho]; simp
   clear HQ ho
   rw [ho1]
   go_wp2_with fail
   clear ho1
   go_loopw [3] (fun i wr => ∃ k : Nat, k ≤ 3 ∧ i = .int .i64 (k : Int) ∧ Box' (rmL ([x.m0, x.m1, x.m2].drop k) = R) ∧ Box' (Row wr w.heap.size 72 (cA x)) ∧ Box' (Below w.heap.size w wr)) (fun i _ => 3 - (intOf i).toNat)
   case atStart => exact ⟨0, by omega, rfl, HR, R9, B9⟩
   case round =>
    obtain ⟨k, hk, rfl, HM, RR, BB⟩ := hrel
    clear HR R9 B9
    have e1 : wr.cell? ⟨w.heap.size, 1, none⟩ = some (.int .i32 x.m0) := RR.out.cell 1
    have e2 : wr.cell? ⟨w.heap.size, 2, none⟩ = some (.int .i32 x.m1) := RR.out.cell 2
    have e3 : wr.cell? ⟨w.heap.size, 3, none⟩ = some (.int .i32 x.m2) := RR.out.cell 3
    obtain ⟨n0, hn0⟩ : ∃ n0, x.m0 = n0 := ⟨_, rfl⟩
    obtain ⟨n1, hn1⟩ : ∃ n1, x.m1 = n1 := ⟨_, rfl⟩
    obtain ⟨n2, hn2⟩ : ∃ n2, x.m2 = n2 := ⟨_, rfl⟩
    rw [hn0] at e1 HM
    rw [hn1] at e2 HM
    rw [hn2] at e3 HM
    have N0 := Box'.mk hn0
    have N1 := Box'.mk hn1
    have N2 := Box'.mk hn2
    clear hn0 hn1 hn2
    obtain rfl | rfl | rfl | rfl : k = 0 ∨ k = 1 ∨ k = 2 ∨ k = 3 := by omega
    ·have HS : Box' (rmL (n0 :: [n1, n2]) = R) := ⟨HM.out⟩
     have HE : Box' (rmL (n0 :: [n1, n2]) = if n0 = 0 then (if n1 = 0 then rmL [n1, n2] else false) else if ofF n0 = 0 then rmL [n1, n2] else false) := ⟨rfl⟩
     clear HM
     by_cases hz : n0 = 0
     case pos =>
      rw [hz] at e1
      by_cases hy : n1 = 0
      case pos =>
       have HN : Box' (rmL [n1, n2] = R) := ⟨by rw [← HS.out, HE.out, if_pos hz, if_pos hy]⟩
       rw [hy] at e2
       clear HS HE OFF hz hy
       go_wp2_with fail
       exact ⟨⟨1, by omega, rfl, ⟨by rw [N0.out, N1.out, N2.out]; exact HN.out⟩, RR, BB⟩, by simp [intOf]⟩
      case neg =>
       have HN : Box' (R = false) := ⟨by rw [← HS.out, HE.out, if_pos hz, if_neg hy]⟩
       have hy1 : (n1 != 0) = true := by simpa using hy
       clear HS HE OFF hz
       go_wp2_with fail
       go_ret
       exact ⟨by rw [HN.out]; rfl, BB.out⟩
     case neg =>
      have OM := Box'.mk (OFF.out n0)
      by_cases hy : ofF n0 = 0
      case pos =>
       have HN : Box' (rmL [n1, n2] = R) := ⟨by rw [← HS.out, HE.out, if_neg hz, if_pos hy]⟩
       rw [hy] at OM
       clear HS HE OFF hy
       go_wp2_with fail
       refine (OM.out _).mono ?_
       rintro e w3 ⟨rfl, hb3⟩
       have R3 := Box'.mk (RR.out.below hb3 RR.out.lt)
       have B3 := Box'.mk (BB.out.trans (hb3.mono BB.out.size))
       clear hb3 RR BB
       go_wp2_with fail
       exact ⟨⟨1, by omega, rfl, ⟨by rw [N0.out, N1.out, N2.out]; exact HN.out⟩, R3, B3⟩, by simp [intOf]⟩
      case neg =>
       have HN : Box' (R = false) := ⟨by rw [← HS.out, HE.out, if_neg hz, if_neg hy]⟩
       have hy1 : (ofF n0 != 0) = true := by simpa using hy
       generalize ofF n0 = v at *
       clear HS HE OFF
       go_wp2_with fail
       refine (OM.out _).mono ?_
       rintro e w3 ⟨rfl, hb3⟩
       have B3 := Box'.mk (BB.out.trans (hb3.mono BB.out.size))
       clear hb3 RR BB
       go_wp2_with fail
       go_ret
       exact ⟨by rw [HN.out]; rfl, B3.out⟩
    ·have HS : Box' (rmL (n1 :: [n2]) = R) := ⟨HM.out⟩
     have HE : Box' (rmL (n1 :: [n2]) = if n1 = 0 then (if n2 = 0 then rmL [n2] else false) else if ofF n1 = 0 then rmL [n2] else false) := ⟨rfl⟩
     clear HM
     by_cases hz : n1 = 0
     case pos =>
      rw [hz] at e2
      by_cases hy : n2 = 0
      case pos =>
       have HN : Box' (rmL [n2] = R) := ⟨by rw [← HS.out, HE.out, if_pos hz, if_pos hy]⟩
       rw [hy] at e3
       clear HS HE OFF hz hy
       go_wp2_with fail
       exact ⟨⟨2, by omega, rfl, ⟨by rw [N0.out, N1.out, N2.out]; exact HN.out⟩, RR, BB⟩, by simp [intOf]⟩
      case neg =>
       have HN : Box' (R = false) := ⟨by rw [← HS.out, HE.out, if_pos hz, if_neg hy]⟩
       have hy1 : (n2 != 0) = true := by simpa using hy
       clear HS HE OFF hz
       go_wp2_with fail
       go_ret
       exact ⟨by rw [HN.out]; rfl, BB.out⟩
     case neg =>
      have OM := Box'.mk (OFF.out n1)
      by_cases hy : ofF n1 = 0
      case pos =>
       have HN : Box' (rmL [n2] = R) := ⟨by rw [← HS.out, HE.out, if_neg hz, if_pos hy]⟩
       rw [hy] at OM
       clear HS HE OFF hy
       go_wp2_with fail
       refine (OM.out _).mono ?_
       rintro e w3 ⟨rfl, hb3⟩
       have R3 := Box'.mk (RR.out.below hb3 RR.out.lt)
       have B3 := Box'.mk (BB.out.trans (hb3.mono BB.out.size))
       clear hb3 RR BB
       go_wp2_with fail
       exact ⟨⟨2, by omega, rfl, ⟨by rw [N0.out, N1.out, N2.out]; exact HN.out⟩, R3, B3⟩, by simp [intOf]⟩
      case neg =>
       have HN : Box' (R = false) := ⟨by rw [← HS.out, HE.out, if_neg hz, if_neg hy]⟩
       have hy1 : (ofF n1 != 0) = true := by simpa using hy
       generalize ofF n1 = v at *
       clear HS HE OFF
       go_wp2_with fail
       refine (OM.out _).mono ?_
       rintro e w3 ⟨rfl, hb3⟩
       have B3 := Box'.mk (BB.out.trans (hb3.mono BB.out.size))
       clear hb3 RR BB
       go_wp2_with fail
       go_ret
       exact ⟨by rw [HN.out]; rfl, B3.out⟩
    ·have HS : Box' (rmL (n2 :: []) = R) := ⟨HM.out⟩
     have HE : Box' (rmL (n2 :: []) = if n2 = 0 then true else decide (ofF n2 = 0)) := ⟨rfl⟩
     clear HM
     by_cases hz : n2 = 0
     case pos =>
      have HN : Box' (rmL [] = R) := ⟨by rw [← HS.out, HE.out, if_pos hz]; rfl⟩
      rw [hz] at e3
      clear HS HE OFF hz
      go_wp2_with fail
      exact ⟨⟨3, by omega, rfl, ⟨by rw [N0.out, N1.out, N2.out]; exact HN.out⟩, RR, BB⟩, by simp [intOf]⟩
     case neg =>
      have OM := Box'.mk (OFF.out n2)
      by_cases hy : ofF n2 = 0
      case pos =>
       have HN : Box' (rmL [] = R) := ⟨by rw [← HS.out, HE.out, if_neg hz]; simp [hy, rmL]⟩
       rw [hy] at OM
       clear HS HE OFF hy
       go_wp2_with fail
       refine (OM.out _).mono ?_
       rintro e w3 ⟨rfl, hb3⟩
       have R3 := Box'.mk (RR.out.below hb3 RR.out.lt)
       have B3 := Box'.mk (BB.out.trans (hb3.mono BB.out.size))
       clear hb3 RR BB
       go_wp2_with fail
       exact ⟨⟨3, by omega, rfl, ⟨by rw [N0.out, N1.out, N2.out]; exact HN.out⟩, R3, B3⟩, by simp [intOf]⟩
      case neg =>
       have HN : Box' (R = false) := ⟨by rw [← HS.out, HE.out, if_neg hz]; simp [hy]⟩
       have hy1 : (ofF n2 != 0) = true := by simpa using hy
       generalize ofF n2 = v at *
       clear HS HE OFF
       go_wp2_with fail
       refine (OM.out _).mono ?_
       rintro e w3 ⟨rfl, hb3⟩
       have B3 := Box'.mk (BB.out.trans (hb3.mono BB.out.size))
       clear hb3 RR BB
       go_wp2_with fail
       go_ret
       exact ⟨by rw [HN.out]; rfl, B3.out⟩
    ·have HN : Box' (R = true) := ⟨HM.out.symm⟩
     clear HM OFF
     go_wp2_with fail
     go_ret
     exact ⟨by rw [HN.out]; rfl, BB.out⟩)
theorem refMay_any (x : Cl) (w : World) : Calls Try.prog 42 #[.agg (cA x)] w fun e w' => e = .returned (.bool (mayC x)) ∧ Below w.heap.size w w' := by
 cases hs : mayS x.st with
 | false =>
  rw [show mayC x = false by unfold mayC; rw [if_pos hs]]
  exact rmay_no x hs w
 | true =>
  have hs' : ¬ mayS x.st = false := by rw [hs]; simp
  by_cases h0 : x.wd = 0
  ·rw [show mayC x = decide (x.ch = 0 ∧ x.m0 = 0 ∧ x.m1 = 0 ∧ x.m2 = 0) by unfold mayC; rw [if_neg hs', if_pos h0]]
   exact rmay_0 x hs (by rw [h0]; rfl) w
  by_cases h3 : 2 < x.wd
  ·rw [show mayC x = false by unfold mayC; rw [if_neg hs', if_neg h0, if_pos h3]]
   exact rmay_3 x hs (by omega) (by omega) w
  have e : mayC x = if ofF x.ch = (x.wd : Int) then rmL [x.m0, x.m1, x.m2] else false := by unfold mayC; rw [if_neg hs', if_neg h0, if_neg h3, rm_mm]
  rw [e]
  exact rmay_w x hs (by omega) w
end Go.Proofs.Ytepepoabbbjmgaa.Sc
