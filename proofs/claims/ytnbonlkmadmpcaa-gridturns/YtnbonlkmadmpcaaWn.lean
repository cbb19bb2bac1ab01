/- Both Sames, of all grids. What GridFresh asks of Erase, Resize and Scroll. Each change answers alike, the program's and the reference's. -/
import Derived.Test.YtnbonlkmadmpcaaWm
import Derived.Test.YtnbonlkmadmpcaaUk
import Derived.Test.YtnbonlkmadmpcaaNr
namespace Go.Proofs.Ytnbonlkmadmpcaa
open Go.RowKit Go.BigFrame
set_option linter.unusedVariables false
set_option linter.unusedSimpArgs false
/-- Do both rows of cells hold the same? -/
def eqL (c d : List Cl) : Bool := decide (c.length = d.length) && (List.range c.length).all fun i => clB (cat c i) (cat d i)
theorem eqL_no {c d : List Cl} (h : ¬ c.length = d.length) : eqL c d = false := by unfold eqL; rw [decide_eq_false h]; rfl
theorem eqL_yes {c d : List Cl} (h : c.length = d.length) (h2 : ∀ i, i < c.length → clB (cat c i) (cat d i) = true) : eqL c d = true := by
 unfold eqL
 rw [decide_eq_true h, Bool.true_and, List.all_eq_true]
 exact fun i hi => h2 i (List.mem_range.1 hi)
theorem eqL_at {c d : List Cl} (i : Nat) (hi : i < c.length) (h2 : clB (cat c i) (cat d i) = false) : eqL c d = false := by
 unfold eqL
 cases e : (List.range c.length).all fun i => clB (cat c i) (cat d i) with
 | false => rw [Bool.and_false]
 | true =>
  rw [List.all_eq_true] at e
  have := e i (List.mem_range.2 hi)
  rw [h2] at this
  cases this
/-- Do both grids hold the same? -/
def samG (co ro : Int) (c : List Cl) (co' ro' : Int) (d : List Cl) : Bool := decide (co = co') && (decide (ro = ro') && eqL c d)
set_option maxRecDepth 100000 in
set_option maxHeartbeats 8000000 in
theorem rsame_n0 (co ro co' ro' : Int) (a1 a2 : Option Addr) (n m k1 k2 : Nat) (w : World) (h : ¬ co = co') :
  Calls Try.prog 9 #[.agg (gA co ro (.slice a1 n k1)), .agg (gA co' ro' (.slice a2 m k2))] w fun e w' => e = .returned (.bool false) ∧ Below w.heap.size w w' := by
 have F := Box'.mk (SaM.begin w (gA co ro (.slice a1 n k1)) (gA co' ro' (.slice a2 m k2)))
 have ne1 : (co != co') = true := by simpa using h
 clear h
 go_enter Try.func9, Try.ntmps9
 go_upto_region 1 with (fail)
 generalize ((w.alloc (.cells (gA co ro (.slice a1 n k1)) 24)).alloc (.cells (gA co' ro' (.slice a2 m k2)) 24)) = w1 at *
 have c0 : w1.cell? ⟨w.heap.size, 0, none⟩ = some (.int .i64 co) := F.out.rg.cell 0
 have c1 : w1.cell? ⟨w.heap.size, 1, none⟩ = some (.int .i64 ro) := F.out.rg.cell 1
 have c2 : w1.cell? ⟨w.heap.size, 2, none⟩ = some (.slice a1 n k1) := F.out.rg.cell 2
 have d0 : w1.cell? ⟨w.heap.size + 1, 0, none⟩ = some (.int .i64 co') := F.out.rh.cell 0
 have d1 : w1.cell? ⟨w.heap.size + 1, 1, none⟩ = some (.int .i64 ro') := F.out.rh.cell 1
 have d2 : w1.cell? ⟨w.heap.size + 1, 2, none⟩ = some (.slice a2 m k2) := F.out.rh.cell 2
 go_wp2_with fail
 go_ret
 exact ⟨rfl, F.out.be⟩
set_option maxRecDepth 100000 in
set_option maxHeartbeats 8000000 in
theorem rsame_n1 (co ro co' ro' : Int) (a1 a2 : Option Addr) (n m k1 k2 : Nat) (w : World) (h1 : co = co') (h : ¬ ro = ro') :
  Calls Try.prog 9 #[.agg (gA co ro (.slice a1 n k1)), .agg (gA co' ro' (.slice a2 m k2))] w fun e w' => e = .returned (.bool false) ∧ Below w.heap.size w w' := by
 have F := Box'.mk (SaM.begin w (gA co ro (.slice a1 n k1)) (gA co' ro' (.slice a2 m k2)))
 have ne1 : (co != co') = false := by simpa using h1
 have ne2 : (ro != ro') = true := by simpa using h
 clear h h1
 go_enter Try.func9, Try.ntmps9
 go_upto_region 1 with (fail)
 generalize ((w.alloc (.cells (gA co ro (.slice a1 n k1)) 24)).alloc (.cells (gA co' ro' (.slice a2 m k2)) 24)) = w1 at *
 have c0 : w1.cell? ⟨w.heap.size, 0, none⟩ = some (.int .i64 co) := F.out.rg.cell 0
 have c1 : w1.cell? ⟨w.heap.size, 1, none⟩ = some (.int .i64 ro) := F.out.rg.cell 1
 have c2 : w1.cell? ⟨w.heap.size, 2, none⟩ = some (.slice a1 n k1) := F.out.rg.cell 2
 have d0 : w1.cell? ⟨w.heap.size + 1, 0, none⟩ = some (.int .i64 co') := F.out.rh.cell 0
 have d1 : w1.cell? ⟨w.heap.size + 1, 1, none⟩ = some (.int .i64 ro') := F.out.rh.cell 1
 have d2 : w1.cell? ⟨w.heap.size + 1, 2, none⟩ = some (.slice a2 m k2) := F.out.rh.cell 2
 go_wp2_with fail
 go_ret
 exact ⟨rfl, F.out.be⟩
set_option maxRecDepth 100000 in
set_option maxHeartbeats 8000000 in
theorem rsame_n2 (co ro co' ro' : Int) (a1 a2 : Option Addr) (n m k1 k2 : Nat) (w : World) (h1 : co = co') (h2 : ro = ro') (h : ¬ n = m) :
  Calls Try.prog 9 #[.agg (gA co ro (.slice a1 n k1)), .agg (gA co' ro' (.slice a2 m k2))] w fun e w' => e = .returned (.bool false) ∧ Below w.heap.size w w' := by
 have F := Box'.mk (SaM.begin w (gA co ro (.slice a1 n k1)) (gA co' ro' (.slice a2 m k2)))
 have ne1 : (co != co') = false := by simpa using h1
 have ne2 : (ro != ro') = false := by simpa using h2
 have ne3 : ((n : Int) != (m : Int)) = true := by simp; omega
 have ne4 : ((n : Int) == (m : Int)) = false := by simp; omega
 clear h h1 h2
 go_enter Try.func9, Try.ntmps9
 go_upto_region 1 with (fail)
 generalize ((w.alloc (.cells (gA co ro (.slice a1 n k1)) 24)).alloc (.cells (gA co' ro' (.slice a2 m k2)) 24)) = w1 at *
 have c0 : w1.cell? ⟨w.heap.size, 0, none⟩ = some (.int .i64 co) := F.out.rg.cell 0
 have c1 : w1.cell? ⟨w.heap.size, 1, none⟩ = some (.int .i64 ro) := F.out.rg.cell 1
 have c2 : w1.cell? ⟨w.heap.size, 2, none⟩ = some (.slice a1 n k1) := F.out.rg.cell 2
 have d0 : w1.cell? ⟨w.heap.size + 1, 0, none⟩ = some (.int .i64 co') := F.out.rh.cell 0
 have d1 : w1.cell? ⟨w.heap.size + 1, 1, none⟩ = some (.int .i64 ro') := F.out.rh.cell 1
 have d2 : w1.cell? ⟨w.heap.size + 1, 2, none⟩ = some (.slice a2 m k2) := F.out.rh.cell 2
 go_wp2_with fail
 go_ret
 exact ⟨rfl, F.out.be⟩
set_option maxRecDepth 100000 in
set_option maxHeartbeats 8000000 in
theorem rsame_w (co ro : Int) (b1 o1 k1 b2 o2 k2 n : Nat) (c d : List Cl) (hc : c.length = n) (hd : d.length = n) (hn : n < 140737488355328) (w : World) (H1 : Box' (∀ i wx, i < n → Below w.heap.size w wx → wx.rangeAt b1 (o1 + i * 15) (cA (cat c i)).toList)) (H2 : Box' (∀ i wx, i < n → Below w.heap.size w wx → wx.rangeAt b2 (o2 + i * 15) (cA (cat d i)).toList)) :
  Calls Try.prog 9 #[.agg (gA co ro (.slice (some ⟨b1, o1, none⟩) n k1)), .agg (gA co ro (.slice (some ⟨b2, o2, none⟩) n k2))] w fun e w' => e = .returned (.bool (eqL c d)) ∧ Below w.heap.size w w' := by
 have F := Box'.mk (SaM.begin w (gA co ro (.slice (some ⟨b1, o1, none⟩) n k1)) (gA co ro (.slice (some ⟨b2, o2, none⟩) n k2)))
 have YES : Box' ((∀ i, i < n → clB (cat c i) (cat d i) = true) → eqL c d = true) := ⟨fun h => eqL_yes (by omega) (fun i hi => h i (by omega))⟩
 have NO : Box' (∀ i, i < n → clB (cat c i) (cat d i) = false → eqL c d = false) := ⟨fun i hi h => eqL_at i (by omega) h⟩
 have ne1 : (co != co) = false := by simp
 have ne2 : (ro != ro) = false := by simp
 clear hc hd
 go_enter Try.func9, Try.ntmps9
 go_upto_region 1 with (fail)
 generalize ((w.alloc (.cells (gA co ro (.slice (some ⟨b1, o1, none⟩) n k1)) 24)).alloc (.cells (gA co ro (.slice (some ⟨b2, o2, none⟩) n k2)) 24)) = w1 at *
 have c0 : w1.cell? ⟨w.heap.size, 0, none⟩ = some (.int .i64 co) := F.out.rg.cell 0
 have c1 : w1.cell? ⟨w.heap.size, 1, none⟩ = some (.int .i64 ro) := F.out.rg.cell 1
 have c2 : w1.cell? ⟨w.heap.size, 2, none⟩ = some (.slice (some ⟨b1, o1, none⟩) n k1) := F.out.rg.cell 2
 have d0 : w1.cell? ⟨w.heap.size + 1, 0, none⟩ = some (.int .i64 co) := F.out.rh.cell 0
 have d1 : w1.cell? ⟨w.heap.size + 1, 1, none⟩ = some (.int .i64 ro) := F.out.rh.cell 1
 have d2 : w1.cell? ⟨w.heap.size + 1, 2, none⟩ = some (.slice (some ⟨b2, o2, none⟩) n k2) := F.out.rh.cell 2
 go_wp2_with fail
 clear c0 c1 d0 d1 d2 c2
 go_loopw [5] (fun i wr => ∃ k : Nat, k ≤ n ∧ i = .int .i64 (k : Int) ∧ Box' (∀ j, j < k → clB (cat c j) (cat d j) = true) ∧ Box' (SaM w (gA co ro (.slice (some ⟨b1, o1, none⟩) n k1)) (gA co ro (.slice (some ⟨b2, o2, none⟩) n k2)) wr)) (fun i _ => n - (intOf i).toNat)
 case atStart => exact ⟨0, by omega, rfl, ⟨fun j hj => by omega⟩, F⟩
 case round =>
  obtain ⟨k, hk, rfl, AL, FF⟩ := hrel
  clear F
  have c2 : wr.cell? ⟨w.heap.size, 2, none⟩ = some (.slice (some ⟨b1, o1, none⟩) n k1) := FF.out.rg.cell 2
  by_cases hlt' : k < n
  case neg =>
   have E := Box'.mk (YES.out fun i hi => AL.out i (by omega))
   go_wp2_with fail
   go_ret
   exact ⟨by rw [E.out]; rfl, FF.out.be⟩
  case pos =>
   have RX := Box'.mk (fun wx hb => H1.out k wx hlt' hb)
   have RY := Box'.mk (fun wx hb => H2.out k wx hlt' hb)
   clear H1 H2
   cases he : clB (cat c k) (cat d k) with
   | true =>
    have EQ : Box' ((!clB (cat c k) (cat d k)) = false) := ⟨by rw [he]; rfl⟩
    have A2 : Box' (∀ j, j < k + 1 → clB (cat c j) (cat d j) = true) := ⟨fun j hj => by
     rcases Nat.lt_or_ge j k with q | q
     ·exact AL.out j q
     ·have e : j = k := by omega
      rw [e]; exact he⟩
    clear he
    go_upto_region 6 with (fail)
    refine wp_region_growg 11 (by kernel_rfl) 45 rfl (by kernel_rfl) (fun wa wb => Below wa.heap.size wa wb) (fun wa => SaM w (gA co ro (.slice (some ⟨b1, o1, none⟩) n k1)) (gA co ro (.slice (some ⟨b2, o2, none⟩) n k2)) wa) (fun kc wa v => match kc with
     | 0 => v = .pointer (some ⟨w.heap.size, 2, none⟩)
     | 1 => v = .slice (some ⟨b1, o1, none⟩) n k1
     | 2 => v = .int .i64 (k : Int)
     | 3 => v = .pointer (some ⟨b1, o1 + k * 15, none⟩)
     | 4 => v = .agg (cA (cat c k))
     | 5 => v = .pointer (some ⟨w.heap.size + 1, 2, none⟩)
     | 6 => v = .slice (some ⟨b2, o2, none⟩) n k2
     | 7 => v = .int .i64 (k : Int)
     | 8 => v = .pointer (some ⟨b2, o2 + k * 15, none⟩)
     | 9 => v = .agg (cA (cat d k))
     | 10 => v = .bool false
     | _ => True) ?_ ?_ ?_ ?_ ?_ ?_
    ·intro i o' j b' hi hg wa v hC hV
     have hlt : i < 11 := by rcases Nat.lt_or_ge i 11 with q | q; exact q; rw [List.getElem?_eq_none (by simpa using q)] at hi; cases hi
     revert hi hg hV
     rcases (show i = 0 ∨ i = 1 ∨ i = 2 ∨ i = 3 ∨ i = 4 ∨ i = 5 ∨ i = 6 ∨ i = 7 ∨ i = 8 ∨ i = 9 ∨ i = 10 by omega) with rfl | rfl | rfl | rfl | rfl | rfl | rfl | rfl | rfl | rfl | rfl <;>
      (intro hi hg hV; simp only [tkS, List.getElem?_cons_zero, List.getElem?_cons_succ, Option.some.injEq] at hi; subst hi; first | (cases hg; exact hV) | (cases hg))
    ·rintro wa wb hb q1; exact q1.below hb
    ·intro kc v wa wb hC1 hb h
     match kc, h with
     | 0, h => exact h
     | 1, h => exact h
     | 2, h => exact h
     | 3, h => exact h
     | 4, h => exact h
     | 5, h => exact h
     | 6, h => exact h
     | 7, h => exact h
     | 8, h => exact h
     | 9, h => exact h
     | 10, h => exact h
     | kc + 11, h => trivial
    ·exact FF.out.below (bR.drew)
    ·refine ⟨?_, ?_, ?_, ?_, ?_, ?_, ?_, ?_, ?_, ?_, ?_, trivial⟩
     ·intro f wq hC hd KK hK
      clear hd
      simp only [tkS, tkZ, setAll, siB, stS, stZ, Nat.zero_add, Nat.reduceAdd] at hK ⊢
      refine wp_of_quiet rfl ?_
      go_big_quiet_step (fail)
      exact wpQuiet_nil (hK _ _ (rfl) bR)
     ·intro f wq hC hd KK hK
      have g0 : f 0 = .pointer (some ⟨w.heap.size, 2, none⟩) := hd 0 (by kernel_rfl)
      clear hd
      have d2 : wq.cell? ⟨w.heap.size, 2, none⟩ = some (.slice (some ⟨b1, o1, none⟩) n k1) := hC.rg.cell 2
      clear hC
      simp only [tkS, tkZ, setAll, siB, stS, stZ, Nat.zero_add, Nat.reduceAdd, g0] at hK ⊢
      refine wp_of_quiet rfl ?_
      go_big_quiet_step (fail)
      exact wpQuiet_nil (hK _ _ (rfl) bR)
     ·intro f wq hC hd KK hK
      clear hd
      simp only [tkS, tkZ, setAll, siB, stS, stZ, Nat.zero_add, Nat.reduceAdd] at hK ⊢
      refine wp_of_quiet rfl ?_
      go_big_quiet_step (fail)
      exact wpQuiet_nil (hK _ _ (rfl) bR)
     ·intro f wq hC hd KK hK
      have g1 : f 1 = .slice (some ⟨b1, o1, none⟩) n k1 := hd 1 (by kernel_rfl)
      have g2 : f 2 = .int .i64 (k : Int) := hd 2 (by kernel_rfl)
      clear hd
      simp only [tkS, tkZ, setAll, siB, stS, stZ, Nat.zero_add, Nat.reduceAdd, g1, g2] at hK ⊢
      refine wp_of_quiet rfl ?_
      go_big_quiet_step (fail)
      exact wpQuiet_nil (hK _ _ (rfl) bR)
     ·intro f wq hC hd KK hK
      have g3 : f 3 = .pointer (some ⟨b1, o1 + k * 15, none⟩) := hd 3 (by kernel_rfl)
      clear hd
      simp only [tkS, tkZ, setAll, siB, stS, stZ, Nat.zero_add, Nat.reduceAdd, g3] at hK ⊢
      exact wp_load_cell (.tmp 37) rfl b1 (o1 + k * 15) (cat c k) rfl (RX.out wq hC.be) (hK _ _ rfl bR)
     ·intro f wq hC hd KK hK
      clear hd
      simp only [tkS, tkZ, setAll, siB, stS, stZ, Nat.zero_add, Nat.reduceAdd] at hK ⊢
      refine wp_of_quiet rfl ?_
      go_big_quiet_step (fail)
      exact wpQuiet_nil (hK _ _ (rfl) bR)
     ·intro f wq hC hd KK hK
      have g5 : f 5 = .pointer (some ⟨w.heap.size + 1, 2, none⟩) := hd 5 (by kernel_rfl)
      clear hd
      have d2 : wq.cell? ⟨w.heap.size + 1, 2, none⟩ = some (.slice (some ⟨b2, o2, none⟩) n k2) := hC.rh.cell 2
      clear hC
      simp only [tkS, tkZ, setAll, siB, stS, stZ, Nat.zero_add, Nat.reduceAdd, g5] at hK ⊢
      refine wp_of_quiet rfl ?_
      go_big_quiet_step (fail)
      exact wpQuiet_nil (hK _ _ (rfl) bR)
     ·intro f wq hC hd KK hK
      clear hd
      simp only [tkS, tkZ, setAll, siB, stS, stZ, Nat.zero_add, Nat.reduceAdd] at hK ⊢
      refine wp_of_quiet rfl ?_
      go_big_quiet_step (fail)
      exact wpQuiet_nil (hK _ _ (rfl) bR)
     ·intro f wq hC hd KK hK
      have g6 : f 6 = .slice (some ⟨b2, o2, none⟩) n k2 := hd 6 (by kernel_rfl)
      have g7 : f 7 = .int .i64 (k : Int) := hd 7 (by kernel_rfl)
      clear hd
      simp only [tkS, tkZ, setAll, siB, stS, stZ, Nat.zero_add, Nat.reduceAdd, g6, g7] at hK ⊢
      refine wp_of_quiet rfl ?_
      go_big_quiet_step (fail)
      exact wpQuiet_nil (hK _ _ (rfl) bR)
     ·intro f wq hC hd KK hK
      have g8 : f 8 = .pointer (some ⟨b2, o2 + k * 15, none⟩) := hd 8 (by kernel_rfl)
      clear hd
      simp only [tkS, tkZ, setAll, siB, stS, stZ, Nat.zero_add, Nat.reduceAdd, g8] at hK ⊢
      exact wp_load_cell (.tmp 42) rfl b2 (o2 + k * 15) (cat d k) rfl (RY.out wq hC.be) (hK _ _ rfl bR)
     ·intro f wq hC hd KK hK
      have g4 : f 4 = .agg (cA (cat c k)) := hd 4 (by kernel_rfl)
      have g9 : f 9 = .agg (cA (cat d k)) := hd 9 (by kernel_rfl)
      clear hd
      simp only [tkS, tkZ, setAll, siB, stS, stZ, Nat.zero_add, Nat.reduceAdd, g4, g9] at hK ⊢
      exact wp_val _ (run_neq_cell_op 49 (.tmp 38) (.tmp 43) rfl (cat c k) (cat d k) rfl rfl _ EQ.out _) (hK _ _ rfl bR)
    ·intro f wz hC hv
     have p0 : f 0 = .pointer (some ⟨w.heap.size, 2, none⟩) := hv 0 (by decide)
     have p1 : f 1 = .slice (some ⟨b1, o1, none⟩) n k1 := hv 1 (by decide)
     have p2 : f 2 = .int .i64 (k : Int) := hv 2 (by decide)
     have p3 : f 3 = .pointer (some ⟨b1, o1 + k * 15, none⟩) := hv 3 (by decide)
     have p4 : f 4 = .agg (cA (cat c k)) := hv 4 (by decide)
     have p5 : f 5 = .pointer (some ⟨w.heap.size + 1, 2, none⟩) := hv 5 (by decide)
     have p6 : f 6 = .slice (some ⟨b2, o2, none⟩) n k2 := hv 6 (by decide)
     have p7 : f 7 = .int .i64 (k : Int) := hv 7 (by decide)
     have p8 : f 8 = .pointer (some ⟨b2, o2 + k * 15, none⟩) := hv 8 (by decide)
     have p9 : f 9 = .agg (cA (cat d k)) := hv 9 (by decide)
     have p10 : f 10 = .bool false := hv 10 (by decide)
     simp only [tkS, tkZ, List.drop_succ_cons, List.drop_zero, setAll, siB, stS, stZ, Nat.zero_add, Nat.reduceAdd, p0, p1, p2, p3, p4, p5, p6, p7, p8, p9, p10]
     clear hv p0 p1 p2 p3 p4 p5 p6 p7 p8 p9 p10
     have F9 := Box'.mk hC
     clear hC
     go_wp2_with fail
     exact ⟨⟨k + 1, by omega, by go_num, A2, F9⟩, by simp [intOf]; omega⟩
   | false =>
    have EQ : Box' ((!clB (cat c k) (cat d k)) = true) := ⟨by rw [he]; rfl⟩
    have E := Box'.mk (NO.out k hlt' he)
    clear he
    go_upto_region 6 with (fail)
    refine wp_region_growg 11 (by kernel_rfl) 45 rfl (by kernel_rfl) (fun wa wb => Below wa.heap.size wa wb) (fun wa => SaM w (gA co ro (.slice (some ⟨b1, o1, none⟩) n k1)) (gA co ro (.slice (some ⟨b2, o2, none⟩) n k2)) wa) (fun kc wa v => match kc with
     | 0 => v = .pointer (some ⟨w.heap.size, 2, none⟩)
     | 1 => v = .slice (some ⟨b1, o1, none⟩) n k1
     | 2 => v = .int .i64 (k : Int)
     | 3 => v = .pointer (some ⟨b1, o1 + k * 15, none⟩)
     | 4 => v = .agg (cA (cat c k))
     | 5 => v = .pointer (some ⟨w.heap.size + 1, 2, none⟩)
     | 6 => v = .slice (some ⟨b2, o2, none⟩) n k2
     | 7 => v = .int .i64 (k : Int)
     | 8 => v = .pointer (some ⟨b2, o2 + k * 15, none⟩)
     | 9 => v = .agg (cA (cat d k))
     | 10 => v = .bool true
     | _ => True) ?_ ?_ ?_ ?_ ?_ ?_
    ·intro i o' j b' hi hg wa v hC hV
     have hlt : i < 11 := by rcases Nat.lt_or_ge i 11 with q | q; exact q; rw [List.getElem?_eq_none (by simpa using q)] at hi; cases hi
     revert hi hg hV
     rcases (show i = 0 ∨ i = 1 ∨ i = 2 ∨ i = 3 ∨ i = 4 ∨ i = 5 ∨ i = 6 ∨ i = 7 ∨ i = 8 ∨ i = 9 ∨ i = 10 by omega) with rfl | rfl | rfl | rfl | rfl | rfl | rfl | rfl | rfl | rfl | rfl <;>
      (intro hi hg hV; simp only [tkS, List.getElem?_cons_zero, List.getElem?_cons_succ, Option.some.injEq] at hi; subst hi; first | (cases hg; exact hV) | (cases hg))
    ·rintro wa wb hb q1; exact q1.below hb
    ·intro kc v wa wb hC1 hb h
     match kc, h with
     | 0, h => exact h
     | 1, h => exact h
     | 2, h => exact h
     | 3, h => exact h
     | 4, h => exact h
     | 5, h => exact h
     | 6, h => exact h
     | 7, h => exact h
     | 8, h => exact h
     | 9, h => exact h
     | 10, h => exact h
     | kc + 11, h => trivial
    ·exact FF.out.below (bR.drew)
    ·refine ⟨?_, ?_, ?_, ?_, ?_, ?_, ?_, ?_, ?_, ?_, ?_, trivial⟩
     ·intro f wq hC hd KK hK
      clear hd
      simp only [tkS, tkZ, setAll, siB, stS, stZ, Nat.zero_add, Nat.reduceAdd] at hK ⊢
      refine wp_of_quiet rfl ?_
      go_big_quiet_step (fail)
      exact wpQuiet_nil (hK _ _ (rfl) bR)
     ·intro f wq hC hd KK hK
      have g0 : f 0 = .pointer (some ⟨w.heap.size, 2, none⟩) := hd 0 (by kernel_rfl)
      clear hd
      have d2 : wq.cell? ⟨w.heap.size, 2, none⟩ = some (.slice (some ⟨b1, o1, none⟩) n k1) := hC.rg.cell 2
      clear hC
      simp only [tkS, tkZ, setAll, siB, stS, stZ, Nat.zero_add, Nat.reduceAdd, g0] at hK ⊢
      refine wp_of_quiet rfl ?_
      go_big_quiet_step (fail)
      exact wpQuiet_nil (hK _ _ (rfl) bR)
     ·intro f wq hC hd KK hK
      clear hd
      simp only [tkS, tkZ, setAll, siB, stS, stZ, Nat.zero_add, Nat.reduceAdd] at hK ⊢
      refine wp_of_quiet rfl ?_
      go_big_quiet_step (fail)
      exact wpQuiet_nil (hK _ _ (rfl) bR)
     ·intro f wq hC hd KK hK
      have g1 : f 1 = .slice (some ⟨b1, o1, none⟩) n k1 := hd 1 (by kernel_rfl)
      have g2 : f 2 = .int .i64 (k : Int) := hd 2 (by kernel_rfl)
      clear hd
      simp only [tkS, tkZ, setAll, siB, stS, stZ, Nat.zero_add, Nat.reduceAdd, g1, g2] at hK ⊢
      refine wp_of_quiet rfl ?_
      go_big_quiet_step (fail)
      exact wpQuiet_nil (hK _ _ (rfl) bR)
     ·intro f wq hC hd KK hK
      have g3 : f 3 = .pointer (some ⟨b1, o1 + k * 15, none⟩) := hd 3 (by kernel_rfl)
      clear hd
      simp only [tkS, tkZ, setAll, siB, stS, stZ, Nat.zero_add, Nat.reduceAdd, g3] at hK ⊢
      exact wp_load_cell (.tmp 37) rfl b1 (o1 + k * 15) (cat c k) rfl (RX.out wq hC.be) (hK _ _ rfl bR)
     ·intro f wq hC hd KK hK
      clear hd
      simp only [tkS, tkZ, setAll, siB, stS, stZ, Nat.zero_add, Nat.reduceAdd] at hK ⊢
      refine wp_of_quiet rfl ?_
      go_big_quiet_step (fail)
      exact wpQuiet_nil (hK _ _ (rfl) bR)
     ·intro f wq hC hd KK hK
      have g5 : f 5 = .pointer (some ⟨w.heap.size + 1, 2, none⟩) := hd 5 (by kernel_rfl)
      clear hd
      have d2 : wq.cell? ⟨w.heap.size + 1, 2, none⟩ = some (.slice (some ⟨b2, o2, none⟩) n k2) := hC.rh.cell 2
      clear hC
      simp only [tkS, tkZ, setAll, siB, stS, stZ, Nat.zero_add, Nat.reduceAdd, g5] at hK ⊢
      refine wp_of_quiet rfl ?_
      go_big_quiet_step (fail)
      exact wpQuiet_nil (hK _ _ (rfl) bR)
     ·intro f wq hC hd KK hK
      clear hd
      simp only [tkS, tkZ, setAll, siB, stS, stZ, Nat.zero_add, Nat.reduceAdd] at hK ⊢
      refine wp_of_quiet rfl ?_
      go_big_quiet_step (fail)
      exact wpQuiet_nil (hK _ _ (rfl) bR)
     ·intro f wq hC hd KK hK
      have g6 : f 6 = .slice (some ⟨b2, o2, none⟩) n k2 := hd 6 (by kernel_rfl)
      have g7 : f 7 = .int .i64 (k : Int) := hd 7 (by kernel_rfl)
      clear hd
      simp only [tkS, tkZ, setAll, siB, stS, stZ, Nat.zero_add, Nat.reduceAdd, g6, g7] at hK ⊢
      refine wp_of_quiet rfl ?_
      go_big_quiet_step (fail)
      exact wpQuiet_nil (hK _ _ (rfl) bR)
     ·intro f wq hC hd KK hK
      have g8 : f 8 = .pointer (some ⟨b2, o2 + k * 15, none⟩) := hd 8 (by kernel_rfl)
      clear hd
      simp only [tkS, tkZ, setAll, siB, stS, stZ, Nat.zero_add, Nat.reduceAdd, g8] at hK ⊢
      exact wp_load_cell (.tmp 42) rfl b2 (o2 + k * 15) (cat d k) rfl (RY.out wq hC.be) (hK _ _ rfl bR)
     ·intro f wq hC hd KK hK
      have g4 : f 4 = .agg (cA (cat c k)) := hd 4 (by kernel_rfl)
      have g9 : f 9 = .agg (cA (cat d k)) := hd 9 (by kernel_rfl)
      clear hd
      simp only [tkS, tkZ, setAll, siB, stS, stZ, Nat.zero_add, Nat.reduceAdd, g4, g9] at hK ⊢
      exact wp_val _ (run_neq_cell_op 49 (.tmp 38) (.tmp 43) rfl (cat c k) (cat d k) rfl rfl _ EQ.out _) (hK _ _ rfl bR)
    ·intro f wz hC hv
     have p0 : f 0 = .pointer (some ⟨w.heap.size, 2, none⟩) := hv 0 (by decide)
     have p1 : f 1 = .slice (some ⟨b1, o1, none⟩) n k1 := hv 1 (by decide)
     have p2 : f 2 = .int .i64 (k : Int) := hv 2 (by decide)
     have p3 : f 3 = .pointer (some ⟨b1, o1 + k * 15, none⟩) := hv 3 (by decide)
     have p4 : f 4 = .agg (cA (cat c k)) := hv 4 (by decide)
     have p5 : f 5 = .pointer (some ⟨w.heap.size + 1, 2, none⟩) := hv 5 (by decide)
     have p6 : f 6 = .slice (some ⟨b2, o2, none⟩) n k2 := hv 6 (by decide)
     have p7 : f 7 = .int .i64 (k : Int) := hv 7 (by decide)
     have p8 : f 8 = .pointer (some ⟨b2, o2 + k * 15, none⟩) := hv 8 (by decide)
     have p9 : f 9 = .agg (cA (cat d k)) := hv 9 (by decide)
     have p10 : f 10 = .bool true := hv 10 (by decide)
     simp only [tkS, tkZ, List.drop_succ_cons, List.drop_zero, setAll, siB, stS, stZ, Nat.zero_add, Nat.reduceAdd, p0, p1, p2, p3, p4, p5, p6, p7, p8, p9, p10]
     clear hv p0 p1 p2 p3 p4 p5 p6 p7 p8 p9 p10
     have F9 := Box'.mk hC
     clear hC
     go_wp2_with fail
     go_ret
     exact ⟨by rw [E.out]; rfl, F9.out.be⟩
theorem rsame_any (co ro co' ro' : Int) (v v' : Value) (c d : List Cl) (hn : c.length < 140737488355328) (w : World) (hv : Cls w.heap.size w v c) (hv' : Cls w.heap.size w v' d) :
  Calls Try.prog 9 #[.agg (gA co ro v), .agg (gA co' ro' v')] w fun e w' => e = .returned (.bool (samG co ro c co' ro' d)) ∧ Below w.heap.size w w' := by
 unfold samG
 by_cases h1 : co = co'
 case neg =>
  obtain ⟨a1, k1, rfl, _, _⟩ := hv
  obtain ⟨a2, k2, rfl, _, _⟩ := hv'
  rw [decide_eq_false h1]
  exact rsame_n0 co ro co' ro' a1 a2 _ _ k1 k2 w h1
 rw [decide_eq_true h1, Bool.true_and]
 by_cases h2 : ro = ro'
 case neg =>
  obtain ⟨a1, k1, rfl, _, _⟩ := hv
  obtain ⟨a2, k2, rfl, _, _⟩ := hv'
  rw [decide_eq_false h2]
  exact rsame_n1 co ro co' ro' a1 a2 _ _ k1 k2 w h1 h2
 rw [decide_eq_true h2, Bool.true_and]
 by_cases h3 : c.length = d.length
 case neg =>
  obtain ⟨a1, k1, rfl, _, _⟩ := hv
  obtain ⟨a2, k2, rfl, _, _⟩ := hv'
  rw [eqL_no h3]
  exact rsame_n2 co ro co' ro' a1 a2 _ _ k1 k2 w h1 h2 h3
 subst h1
 subst h2
 by_cases hl : 0 < c.length
 ·obtain ⟨b1, o1, k1, rfl, e1⟩ := cls_range (wx := w) hv hl
  obtain ⟨b2, o2, k2, rfl, e2⟩ := cls_range (wx := w) hv' (by omega)
  rw [← h3]
  exact rsame_w co ro b1 o1 k1 b2 o2 k2 c.length c d rfl h3.symm hn w ⟨e1⟩ ⟨fun i wx hi hb => e2 i wx (by omega) hb⟩
 ·obtain ⟨a1, k1, rfl, _, _⟩ := hv
  obtain ⟨a2, k2, rfl, _, _⟩ := hv'
  rw [eqL_yes h3 (fun i hi => by omega)]
  have e : c.length = 0 := by omega
  have e' : d.length = 0 := by omega
  rw [e, e']
  exact rsame_0 co ro a1 a2 k1 k2 w
set_option maxRecDepth 100000 in
set_option maxHeartbeats 8000000 in
theorem equal_no (a1 a2 : Option Addr) (n m k1 k2 : Nat) (w : World) (h : ¬ n = m) :
  Calls Try.prog 47 #[.slice a1 n k1, .slice a2 m k2] w fun e w' => e = .returned (.bool false) ∧ Below w.heap.size w w' := by
 have ne3 : ((n : Int) != (m : Int)) = true := by simp; omega
 have ne4 : ((n : Int) == (m : Int)) = false := by simp; omega
 clear h
 go_enter Try.func47, Try.ntmps47
 go_wp2_with fail
 go_ret
 exact ⟨rfl, Below.refl _ _⟩
set_option maxRecDepth 100000 in
set_option maxHeartbeats 8000000 in
theorem equal_0 (a1 a2 : Option Addr) (k1 k2 : Nat) (w : World) :
  Calls Try.prog 47 #[.slice a1 0 k1, .slice a2 0 k2] w fun e w' => e = .returned (.bool true) ∧ Below w.heap.size w w' := by
 go_enter Try.func47, Try.ntmps47
 go_wp2_with fail
 go_loopw [13] (fun i wr => i = .int .i64 0 ∧ Box' (Below w.heap.size w wr)) (fun _ _ => 0)
 case atStart => exact ⟨rfl, ⟨Below.refl _ _⟩⟩
 case round =>
  obtain ⟨rfl, FF⟩ := hrel
  go_wp2_with fail
  go_ret
  exact ⟨rfl, FF.out⟩
set_option maxRecDepth 100000 in
set_option maxHeartbeats 8000000 in
theorem equal_w (b1 o1 k1 b2 o2 k2 n : Nat) (c d : List Cl) (hc : c.length = n) (hd : d.length = n) (hn : n < 140737488355328) (w : World) (H1 : Box' (∀ i wx, i < n → Below w.heap.size w wx → wx.rangeAt b1 (o1 + i * 15) (cA (cat c i)).toList)) (H2 : Box' (∀ i wx, i < n → Below w.heap.size w wx → wx.rangeAt b2 (o2 + i * 15) (cA (cat d i)).toList)) :
  Calls Try.prog 47 #[.slice (some ⟨b1, o1, none⟩) n k1, .slice (some ⟨b2, o2, none⟩) n k2] w fun e w' => e = .returned (.bool (eqL c d)) ∧ Below w.heap.size w w' := by
 have YES : Box' ((∀ i, i < n → clB (cat c i) (cat d i) = true) → eqL c d = true) := ⟨fun h => eqL_yes (by omega) (fun i hi => h i (by omega))⟩
 have NO : Box' (∀ i, i < n → clB (cat c i) (cat d i) = false → eqL c d = false) := ⟨fun i hi h => eqL_at i (by omega) h⟩
 clear hc hd
 go_enter Try.func47, Try.ntmps47
 go_wp2_with fail
 go_loopw [13] (fun i wr => ∃ k : Nat, k ≤ n ∧ i = .int .i64 (k : Int) ∧ Box' (∀ j, j < k → clB (cat c j) (cat d j) = true) ∧ Box' (Below w.heap.size w wr)) (fun i _ => n - (intOf i).toNat)
 case atStart => exact ⟨0, by omega, rfl, ⟨fun j hj => by omega⟩, ⟨Below.refl _ _⟩⟩
 case round =>
  obtain ⟨k, hk, rfl, AL, FF⟩ := hrel
  by_cases hlt' : k < n
  case neg =>
   have E := Box'.mk (YES.out fun i hi => AL.out i (by omega))
   go_wp2_with fail
   go_ret
   exact ⟨by rw [E.out]; rfl, FF.out⟩
  case pos =>
   have RX := Box'.mk (fun wx hb => H1.out k wx hlt' hb)
   have RY := Box'.mk (fun wx hb => H2.out k wx hlt' hb)
   clear H1 H2
   cases he : clB (cat c k) (cat d k) with
   | true =>
    have EQ : Box' ((!clB (cat c k) (cat d k)) = false) := ⟨by rw [he]; rfl⟩
    have A2 : Box' (∀ j, j < k + 1 → clB (cat c j) (cat d j) = true) := ⟨fun j hj => by
     rcases Nat.lt_or_ge j k with q | q
     ·exact AL.out j q
     ·have e : j = k := by omega
      rw [e]; exact he⟩
    clear he
    go_upto_region 6 with (fail)
    refine wp_region_growg 9 (by kernel_rfl) 26 rfl (by kernel_rfl) (fun wa wb => Below wa.heap.size wa wb) (fun wa => Below w.heap.size w wa) (fun kc wa v => match kc with
     | 0 => v = .slice (some ⟨b1, o1, none⟩) n k1
     | 1 => v = .int .i64 (k : Int)
     | 2 => v = .pointer (some ⟨b1, o1 + k * 15, none⟩)
     | 3 => v = .agg (cA (cat c k))
     | 4 => v = .slice (some ⟨b2, o2, none⟩) n k2
     | 5 => v = .int .i64 (k : Int)
     | 6 => v = .pointer (some ⟨b2, o2 + k * 15, none⟩)
     | 7 => v = .agg (cA (cat d k))
     | 8 => v = .bool false
     | _ => True) ?_ ?_ ?_ ?_ ?_ ?_
    ·intro i o' j b' hi hg wa v hC hV
     have hlt : i < 9 := by rcases Nat.lt_or_ge i 9 with q | q; exact q; rw [List.getElem?_eq_none (by simpa using q)] at hi; cases hi
     revert hi hg hV
     rcases (show i = 0 ∨ i = 1 ∨ i = 2 ∨ i = 3 ∨ i = 4 ∨ i = 5 ∨ i = 6 ∨ i = 7 ∨ i = 8 by omega) with rfl | rfl | rfl | rfl | rfl | rfl | rfl | rfl | rfl <;>
      (intro hi hg hV; simp only [tkS, List.getElem?_cons_zero, List.getElem?_cons_succ, Option.some.injEq] at hi; subst hi; first | (cases hg; exact hV) | (cases hg))
    ·rintro wa wb hb q1; exact q1.trans (hb.mono q1.size)
    ·intro kc v wa wb hC1 hb h
     match kc, h with
     | 0, h => exact h
     | 1, h => exact h
     | 2, h => exact h
     | 3, h => exact h
     | 4, h => exact h
     | 5, h => exact h
     | 6, h => exact h
     | 7, h => exact h
     | 8, h => exact h
     | kc + 9, h => trivial
    ·exact FF.out.drew
    ·refine ⟨?_, ?_, ?_, ?_, ?_, ?_, ?_, ?_, ?_, trivial⟩
     ·intro f wq hC hd KK hK
      clear hd
      simp only [tkS, tkZ, setAll, siB, stS, stZ, Nat.zero_add, Nat.reduceAdd] at hK ⊢
      refine wp_of_quiet rfl ?_
      go_big_quiet_step (fail)
      exact wpQuiet_nil (hK _ _ (rfl) bR)
     ·intro f wq hC hd KK hK
      clear hd
      simp only [tkS, tkZ, setAll, siB, stS, stZ, Nat.zero_add, Nat.reduceAdd] at hK ⊢
      refine wp_of_quiet rfl ?_
      go_big_quiet_step (fail)
      exact wpQuiet_nil (hK _ _ (rfl) bR)
     ·intro f wq hC hd KK hK
      have g0 : f 0 = .slice (some ⟨b1, o1, none⟩) n k1 := hd 0 (by kernel_rfl)
      have g1 : f 1 = .int .i64 (k : Int) := hd 1 (by kernel_rfl)
      clear hd
      simp only [tkS, tkZ, setAll, siB, stS, stZ, Nat.zero_add, Nat.reduceAdd, g0, g1] at hK ⊢
      refine wp_of_quiet rfl ?_
      go_big_quiet_step (fail)
      exact wpQuiet_nil (hK _ _ (rfl) bR)
     ·intro f wq hC hd KK hK
      have g2 : f 2 = .pointer (some ⟨b1, o1 + k * 15, none⟩) := hd 2 (by kernel_rfl)
      clear hd
      simp only [tkS, tkZ, setAll, siB, stS, stZ, Nat.zero_add, Nat.reduceAdd, g2] at hK ⊢
      exact wp_load_cell (.tmp 18) rfl b1 (o1 + k * 15) (cat c k) rfl (RX.out wq hC) (hK _ _ rfl bR)
     ·intro f wq hC hd KK hK
      clear hd
      simp only [tkS, tkZ, setAll, siB, stS, stZ, Nat.zero_add, Nat.reduceAdd] at hK ⊢
      refine wp_of_quiet rfl ?_
      go_big_quiet_step (fail)
      exact wpQuiet_nil (hK _ _ (rfl) bR)
     ·intro f wq hC hd KK hK
      clear hd
      simp only [tkS, tkZ, setAll, siB, stS, stZ, Nat.zero_add, Nat.reduceAdd] at hK ⊢
      refine wp_of_quiet rfl ?_
      go_big_quiet_step (fail)
      exact wpQuiet_nil (hK _ _ (rfl) bR)
     ·intro f wq hC hd KK hK
      have g4 : f 4 = .slice (some ⟨b2, o2, none⟩) n k2 := hd 4 (by kernel_rfl)
      have g5 : f 5 = .int .i64 (k : Int) := hd 5 (by kernel_rfl)
      clear hd
      simp only [tkS, tkZ, setAll, siB, stS, stZ, Nat.zero_add, Nat.reduceAdd, g4, g5] at hK ⊢
      refine wp_of_quiet rfl ?_
      go_big_quiet_step (fail)
      exact wpQuiet_nil (hK _ _ (rfl) bR)
     ·intro f wq hC hd KK hK
      have g6 : f 6 = .pointer (some ⟨b2, o2 + k * 15, none⟩) := hd 6 (by kernel_rfl)
      clear hd
      simp only [tkS, tkZ, setAll, siB, stS, stZ, Nat.zero_add, Nat.reduceAdd, g6] at hK ⊢
      exact wp_load_cell (.tmp 22) rfl b2 (o2 + k * 15) (cat d k) rfl (RY.out wq hC) (hK _ _ rfl bR)
     ·intro f wq hC hd KK hK
      have g3 : f 3 = .agg (cA (cat c k)) := hd 3 (by kernel_rfl)
      have g7 : f 7 = .agg (cA (cat d k)) := hd 7 (by kernel_rfl)
      clear hd
      simp only [tkS, tkZ, setAll, siB, stS, stZ, Nat.zero_add, Nat.reduceAdd, g3, g7] at hK ⊢
      exact wp_val _ (run_neq_cell_op 49 (.tmp 19) (.tmp 23) rfl (cat c k) (cat d k) rfl rfl _ EQ.out _) (hK _ _ rfl bR)
    ·intro f wz hC hv
     have p0 : f 0 = .slice (some ⟨b1, o1, none⟩) n k1 := hv 0 (by decide)
     have p1 : f 1 = .int .i64 (k : Int) := hv 1 (by decide)
     have p2 : f 2 = .pointer (some ⟨b1, o1 + k * 15, none⟩) := hv 2 (by decide)
     have p3 : f 3 = .agg (cA (cat c k)) := hv 3 (by decide)
     have p4 : f 4 = .slice (some ⟨b2, o2, none⟩) n k2 := hv 4 (by decide)
     have p5 : f 5 = .int .i64 (k : Int) := hv 5 (by decide)
     have p6 : f 6 = .pointer (some ⟨b2, o2 + k * 15, none⟩) := hv 6 (by decide)
     have p7 : f 7 = .agg (cA (cat d k)) := hv 7 (by decide)
     have p8 : f 8 = .bool false := hv 8 (by decide)
     simp only [tkS, tkZ, List.drop_succ_cons, List.drop_zero, setAll, siB, stS, stZ, Nat.zero_add, Nat.reduceAdd, p0, p1, p2, p3, p4, p5, p6, p7, p8]
     clear hv p0 p1 p2 p3 p4 p5 p6 p7 p8
     have F9 := Box'.mk hC
     clear hC
     go_wp2_with fail
     exact ⟨⟨k + 1, by omega, by go_num, A2, F9⟩, by simp [intOf]; omega⟩
   | false =>
    have EQ : Box' ((!clB (cat c k) (cat d k)) = true) := ⟨by rw [he]; rfl⟩
    have E := Box'.mk (NO.out k hlt' he)
    clear he
    go_upto_region 6 with (fail)
    refine wp_region_growg 9 (by kernel_rfl) 26 rfl (by kernel_rfl) (fun wa wb => Below wa.heap.size wa wb) (fun wa => Below w.heap.size w wa) (fun kc wa v => match kc with
     | 0 => v = .slice (some ⟨b1, o1, none⟩) n k1
     | 1 => v = .int .i64 (k : Int)
     | 2 => v = .pointer (some ⟨b1, o1 + k * 15, none⟩)
     | 3 => v = .agg (cA (cat c k))
     | 4 => v = .slice (some ⟨b2, o2, none⟩) n k2
     | 5 => v = .int .i64 (k : Int)
     | 6 => v = .pointer (some ⟨b2, o2 + k * 15, none⟩)
     | 7 => v = .agg (cA (cat d k))
     | 8 => v = .bool true
     | _ => True) ?_ ?_ ?_ ?_ ?_ ?_
    ·intro i o' j b' hi hg wa v hC hV
     have hlt : i < 9 := by rcases Nat.lt_or_ge i 9 with q | q; exact q; rw [List.getElem?_eq_none (by simpa using q)] at hi; cases hi
     revert hi hg hV
     rcases (show i = 0 ∨ i = 1 ∨ i = 2 ∨ i = 3 ∨ i = 4 ∨ i = 5 ∨ i = 6 ∨ i = 7 ∨ i = 8 by omega) with rfl | rfl | rfl | rfl | rfl | rfl | rfl | rfl | rfl <;>
      (intro hi hg hV; simp only [tkS, List.getElem?_cons_zero, List.getElem?_cons_succ, Option.some.injEq] at hi; subst hi; first | (cases hg; exact hV) | (cases hg))
    ·rintro wa wb hb q1; exact q1.trans (hb.mono q1.size)
    ·intro kc v wa wb hC1 hb h
     match kc, h with
     | 0, h => exact h
     | 1, h => exact h
     | 2, h => exact h
     | 3, h => exact h
     | 4, h => exact h
     | 5, h => exact h
     | 6, h => exact h
     | 7, h => exact h
     | 8, h => exact h
     | kc + 9, h => trivial
    ·exact FF.out.drew
    ·refine ⟨?_, ?_, ?_, ?_, ?_, ?_, ?_, ?_, ?_, trivial⟩
     ·intro f wq hC hd KK hK
      clear hd
      simp only [tkS, tkZ, setAll, siB, stS, stZ, Nat.zero_add, Nat.reduceAdd] at hK ⊢
      refine wp_of_quiet rfl ?_
      go_big_quiet_step (fail)
      exact wpQuiet_nil (hK _ _ (rfl) bR)
     ·intro f wq hC hd KK hK
      clear hd
      simp only [tkS, tkZ, setAll, siB, stS, stZ, Nat.zero_add, Nat.reduceAdd] at hK ⊢
      refine wp_of_quiet rfl ?_
      go_big_quiet_step (fail)
      exact wpQuiet_nil (hK _ _ (rfl) bR)
     ·intro f wq hC hd KK hK
      have g0 : f 0 = .slice (some ⟨b1, o1, none⟩) n k1 := hd 0 (by kernel_rfl)
      have g1 : f 1 = .int .i64 (k : Int) := hd 1 (by kernel_rfl)
      clear hd
      simp only [tkS, tkZ, setAll, siB, stS, stZ, Nat.zero_add, Nat.reduceAdd, g0, g1] at hK ⊢
      refine wp_of_quiet rfl ?_
      go_big_quiet_step (fail)
      exact wpQuiet_nil (hK _ _ (rfl) bR)
     ·intro f wq hC hd KK hK
      have g2 : f 2 = .pointer (some ⟨b1, o1 + k * 15, none⟩) := hd 2 (by kernel_rfl)
      clear hd
      simp only [tkS, tkZ, setAll, siB, stS, stZ, Nat.zero_add, Nat.reduceAdd, g2] at hK ⊢
      exact wp_load_cell (.tmp 18) rfl b1 (o1 + k * 15) (cat c k) rfl (RX.out wq hC) (hK _ _ rfl bR)
     ·intro f wq hC hd KK hK
      clear hd
      simp only [tkS, tkZ, setAll, siB, stS, stZ, Nat.zero_add, Nat.reduceAdd] at hK ⊢
      refine wp_of_quiet rfl ?_
      go_big_quiet_step (fail)
      exact wpQuiet_nil (hK _ _ (rfl) bR)
     ·intro f wq hC hd KK hK
      clear hd
      simp only [tkS, tkZ, setAll, siB, stS, stZ, Nat.zero_add, Nat.reduceAdd] at hK ⊢
      refine wp_of_quiet rfl ?_
      go_big_quiet_step (fail)
      exact wpQuiet_nil (hK _ _ (rfl) bR)
     ·intro f wq hC hd KK hK
      have g4 : f 4 = .slice (some ⟨b2, o2, none⟩) n k2 := hd 4 (by kernel_rfl)
      have g5 : f 5 = .int .i64 (k : Int) := hd 5 (by kernel_rfl)
      clear hd
      simp only [tkS, tkZ, setAll, siB, stS, stZ, Nat.zero_add, Nat.reduceAdd, g4, g5] at hK ⊢
      refine wp_of_quiet rfl ?_
      go_big_quiet_step (fail)
      exact wpQuiet_nil (hK _ _ (rfl) bR)
     ·intro f wq hC hd KK hK
      have g6 : f 6 = .pointer (some ⟨b2, o2 + k * 15, none⟩) := hd 6 (by kernel_rfl)
      clear hd
      simp only [tkS, tkZ, setAll, siB, stS, stZ, Nat.zero_add, Nat.reduceAdd, g6] at hK ⊢
      exact wp_load_cell (.tmp 22) rfl b2 (o2 + k * 15) (cat d k) rfl (RY.out wq hC) (hK _ _ rfl bR)
     ·intro f wq hC hd KK hK
      have g3 : f 3 = .agg (cA (cat c k)) := hd 3 (by kernel_rfl)
      have g7 : f 7 = .agg (cA (cat d k)) := hd 7 (by kernel_rfl)
      clear hd
      simp only [tkS, tkZ, setAll, siB, stS, stZ, Nat.zero_add, Nat.reduceAdd, g3, g7] at hK ⊢
      exact wp_val _ (run_neq_cell_op 49 (.tmp 19) (.tmp 23) rfl (cat c k) (cat d k) rfl rfl _ EQ.out _) (hK _ _ rfl bR)
    ·intro f wz hC hv
     have p0 : f 0 = .slice (some ⟨b1, o1, none⟩) n k1 := hv 0 (by decide)
     have p1 : f 1 = .int .i64 (k : Int) := hv 1 (by decide)
     have p2 : f 2 = .pointer (some ⟨b1, o1 + k * 15, none⟩) := hv 2 (by decide)
     have p3 : f 3 = .agg (cA (cat c k)) := hv 3 (by decide)
     have p4 : f 4 = .slice (some ⟨b2, o2, none⟩) n k2 := hv 4 (by decide)
     have p5 : f 5 = .int .i64 (k : Int) := hv 5 (by decide)
     have p6 : f 6 = .pointer (some ⟨b2, o2 + k * 15, none⟩) := hv 6 (by decide)
     have p7 : f 7 = .agg (cA (cat d k)) := hv 7 (by decide)
     have p8 : f 8 = .bool true := hv 8 (by decide)
     simp only [tkS, tkZ, List.drop_succ_cons, List.drop_zero, setAll, siB, stS, stZ, Nat.zero_add, Nat.reduceAdd, p0, p1, p2, p3, p4, p5, p6, p7, p8]
     clear hv p0 p1 p2 p3 p4 p5 p6 p7 p8
     have F9 := Box'.mk hC
     clear hC
     go_wp2_with fail
     go_ret
     exact ⟨by rw [E.out]; rfl, F9.out⟩
theorem equal_any (v v' : Value) (c d : List Cl) (hn : c.length < 140737488355328) (w : World) (hv : Cls w.heap.size w v c) (hv' : Cls w.heap.size w v' d) :
  Calls Try.prog 47 #[v, v'] w fun e w' => e = .returned (.bool (eqL c d)) ∧ Below w.heap.size w w' := by
 by_cases h3 : c.length = d.length
 case neg =>
  obtain ⟨a1, k1, rfl, _, _⟩ := hv
  obtain ⟨a2, k2, rfl, _, _⟩ := hv'
  rw [eqL_no h3]
  exact equal_no a1 a2 _ _ k1 k2 w h3
 by_cases hl : 0 < c.length
 ·obtain ⟨b1, o1, k1, rfl, e1⟩ := cls_range (wx := w) hv hl
  obtain ⟨b2, o2, k2, rfl, e2⟩ := cls_range (wx := w) hv' (by omega)
  rw [← h3]
  exact equal_w b1 o1 k1 b2 o2 k2 c.length c d rfl h3.symm hn w ⟨e1⟩ ⟨fun i wx hi hb => e2 i wx (by omega) hb⟩
 ·obtain ⟨a1, k1, rfl, _, _⟩ := hv
  obtain ⟨a2, k2, rfl, _, _⟩ := hv'
  rw [eqL_yes h3 (fun i hi => by omega)]
  have e : c.length = 0 := by omega
  have e' : d.length = 0 := by omega
  rw [e, e']
  exact equal_0 a1 a2 k1 k2 w
set_option maxRecDepth 100000 in
set_option maxHeartbeats 8000000 in
theorem gsame_n0 (co ro co' ro' : Int) (a1 a2 : Option Addr) (k1 k2 : Nat) (c d : List Cl) (hn : c.length < 140737488355328) (w : World) (hv : Cls w.heap.size w (.slice a1 c.length k1) c) (hv' : Cls w.heap.size w (.slice a2 d.length k2) d) (h : ¬ co = co') :
  Calls Try.prog 22 #[.agg (gA co ro (.slice a1 c.length k1)), .agg (gA co' ro' (.slice a2 d.length k2))] w fun e w' => e = .returned (.bool (false)) ∧ Below w.heap.size w w' := by
 have F := Box'.mk (SaM.begin w (gA co ro (.slice a1 c.length k1)) (gA co' ro' (.slice a2 d.length k2)))
 have EQ : Box' (∀ wx, Below w.heap.size w wx → Calls Try.prog 47 #[.slice a1 c.length k1, .slice a2 d.length k2] wx fun e w' => e = .returned (.bool (eqL c d)) ∧ Below wx.heap.size wx w') := ⟨fun wx hb => equal_any _ _ c d hn wx ((hv.below hb (Nat.le_refl _)).up hb.size) ((hv'.below hb (Nat.le_refl _)).up hb.size)⟩
 clear hv hv' hn
 have ne1 : (co == co') = false := by simpa using h
 clear h
 go_enter Try.func22, Try.ntmps22
 go_upto_region 1 with (fail)
 generalize ((w.alloc (.cells (gA co ro (.slice a1 c.length k1)) 24)).alloc (.cells (gA co' ro' (.slice a2 d.length k2)) 24)) = w1 at *
 have c0 : w1.cell? ⟨w.heap.size, 0, none⟩ = some (.int .i64 co) := F.out.rg.cell 0
 have c1 : w1.cell? ⟨w.heap.size, 1, none⟩ = some (.int .i64 ro) := F.out.rg.cell 1
 have c2 : w1.cell? ⟨w.heap.size, 2, none⟩ = some (.slice a1 c.length k1) := F.out.rg.cell 2
 have d0 : w1.cell? ⟨w.heap.size + 1, 0, none⟩ = some (.int .i64 co') := F.out.rh.cell 0
 have d1 : w1.cell? ⟨w.heap.size + 1, 1, none⟩ = some (.int .i64 ro') := F.out.rh.cell 1
 have d2 : w1.cell? ⟨w.heap.size + 1, 2, none⟩ = some (.slice a2 d.length k2) := F.out.rh.cell 2
 go_wp2_with fail
 go_ret
 exact ⟨rfl, F.out.be⟩
set_option maxRecDepth 100000 in
set_option maxHeartbeats 8000000 in
theorem gsame_n1 (co ro co' ro' : Int) (a1 a2 : Option Addr) (k1 k2 : Nat) (c d : List Cl) (hn : c.length < 140737488355328) (w : World) (hv : Cls w.heap.size w (.slice a1 c.length k1) c) (hv' : Cls w.heap.size w (.slice a2 d.length k2) d) (h1 : (co == co') = true) (h : ¬ ro = ro') :
  Calls Try.prog 22 #[.agg (gA co ro (.slice a1 c.length k1)), .agg (gA co' ro' (.slice a2 d.length k2))] w fun e w' => e = .returned (.bool (false)) ∧ Below w.heap.size w w' := by
 have F := Box'.mk (SaM.begin w (gA co ro (.slice a1 c.length k1)) (gA co' ro' (.slice a2 d.length k2)))
 have EQ : Box' (∀ wx, Below w.heap.size w wx → Calls Try.prog 47 #[.slice a1 c.length k1, .slice a2 d.length k2] wx fun e w' => e = .returned (.bool (eqL c d)) ∧ Below wx.heap.size wx w') := ⟨fun wx hb => equal_any _ _ c d hn wx ((hv.below hb (Nat.le_refl _)).up hb.size) ((hv'.below hb (Nat.le_refl _)).up hb.size)⟩
 clear hv hv' hn
 have ne2 : (ro == ro') = false := by simpa using h
 clear h
 go_enter Try.func22, Try.ntmps22
 go_upto_region 1 with (fail)
 generalize ((w.alloc (.cells (gA co ro (.slice a1 c.length k1)) 24)).alloc (.cells (gA co' ro' (.slice a2 d.length k2)) 24)) = w1 at *
 have c0 : w1.cell? ⟨w.heap.size, 0, none⟩ = some (.int .i64 co) := F.out.rg.cell 0
 have c1 : w1.cell? ⟨w.heap.size, 1, none⟩ = some (.int .i64 ro) := F.out.rg.cell 1
 have c2 : w1.cell? ⟨w.heap.size, 2, none⟩ = some (.slice a1 c.length k1) := F.out.rg.cell 2
 have d0 : w1.cell? ⟨w.heap.size + 1, 0, none⟩ = some (.int .i64 co') := F.out.rh.cell 0
 have d1 : w1.cell? ⟨w.heap.size + 1, 1, none⟩ = some (.int .i64 ro') := F.out.rh.cell 1
 have d2 : w1.cell? ⟨w.heap.size + 1, 2, none⟩ = some (.slice a2 d.length k2) := F.out.rh.cell 2
 go_wp2_with fail
 go_ret
 exact ⟨rfl, F.out.be⟩
set_option maxRecDepth 100000 in
set_option maxHeartbeats 8000000 in
theorem gsame_w (co ro co' ro' : Int) (a1 a2 : Option Addr) (k1 k2 : Nat) (c d : List Cl) (hn : c.length < 140737488355328) (w : World) (hv : Cls w.heap.size w (.slice a1 c.length k1) c) (hv' : Cls w.heap.size w (.slice a2 d.length k2) d) (h1 : (co == co') = true) (h2 : (ro == ro') = true) :
  Calls Try.prog 22 #[.agg (gA co ro (.slice a1 c.length k1)), .agg (gA co' ro' (.slice a2 d.length k2))] w fun e w' => e = .returned (.bool (eqL c d)) ∧ Below w.heap.size w w' := by
 have F := Box'.mk (SaM.begin w (gA co ro (.slice a1 c.length k1)) (gA co' ro' (.slice a2 d.length k2)))
 have EQ : Box' (∀ wx, Below w.heap.size w wx → Calls Try.prog 47 #[.slice a1 c.length k1, .slice a2 d.length k2] wx fun e w' => e = .returned (.bool (eqL c d)) ∧ Below wx.heap.size wx w') := ⟨fun wx hb => equal_any _ _ c d hn wx ((hv.below hb (Nat.le_refl _)).up hb.size) ((hv'.below hb (Nat.le_refl _)).up hb.size)⟩
 clear hv hv' hn
 go_enter Try.func22, Try.ntmps22
 go_upto_region 1 with (fail)
 generalize ((w.alloc (.cells (gA co ro (.slice a1 c.length k1)) 24)).alloc (.cells (gA co' ro' (.slice a2 d.length k2)) 24)) = w1 at *
 have c0 : w1.cell? ⟨w.heap.size, 0, none⟩ = some (.int .i64 co) := F.out.rg.cell 0
 have c1 : w1.cell? ⟨w.heap.size, 1, none⟩ = some (.int .i64 ro) := F.out.rg.cell 1
 have c2 : w1.cell? ⟨w.heap.size, 2, none⟩ = some (.slice a1 c.length k1) := F.out.rg.cell 2
 have d0 : w1.cell? ⟨w.heap.size + 1, 0, none⟩ = some (.int .i64 co') := F.out.rh.cell 0
 have d1 : w1.cell? ⟨w.heap.size + 1, 1, none⟩ = some (.int .i64 ro') := F.out.rh.cell 1
 have d2 : w1.cell? ⟨w.heap.size + 1, 2, none⟩ = some (.slice a2 d.length k2) := F.out.rh.cell 2
 go_wp2_with fail
 refine (EQ.out _ F.out.be).mono ?_
 rintro e w2 ⟨rfl, hb⟩
 have B2 := Box'.mk (F.out.be.trans (hb.mono F.out.be.size))
 clear hb
 go_wp2_with fail
 go_ret
 exact ⟨rfl, B2.out⟩
theorem gsame_any (co ro co' ro' : Int) (v v' : Value) (c d : List Cl) (hn : c.length < 140737488355328) (w : World) (hv : Cls w.heap.size w v c) (hv' : Cls w.heap.size w v' d) :
  Calls Try.prog 22 #[.agg (gA co ro v), .agg (gA co' ro' v')] w fun e w' => e = .returned (.bool (samG co ro c co' ro' d)) ∧ Below w.heap.size w w' := by
 unfold samG
 obtain ⟨a1, k1, rfl, _⟩ := id hv
 obtain ⟨a2, k2, rfl, _⟩ := id hv'
 by_cases h1 : co = co'
 case neg =>
  rw [decide_eq_false h1]
  exact gsame_n0 co ro co' ro' a1 a2 k1 k2 c d hn w hv hv' h1
 rw [decide_eq_true h1, Bool.true_and]
 by_cases h2 : ro = ro'
 case neg =>
  rw [decide_eq_false h2]
  exact gsame_n1 co ro co' ro' a1 a2 k1 k2 c d hn w hv hv' (by simpa using h1) h2
 rw [decide_eq_true h2, Bool.true_and]
 exact gsame_w co ro co' ro' a1 a2 k1 k2 c d hn w hv hv' (by simpa using h1) (by simpa using h2)
end Go.Proofs.Ytnbonlkmadmpcaa
namespace Go.Proofs.Ytnbonlkmadmpcaa
open Go.RowKit Go.BigFrame
set_option linter.unusedVariables false
set_option linter.unusedSimpArgs false
theorem nat_in {n c : Int} (h : inN n c = true) : ∃ k : Nat, n = (k : Int) ∧ (k : Int) < c := by
 have h := of_decide_eq_true h
 exact ⟨n.toNat, by omega, by omega⟩
theorem fits_in {cols rows r : Nat} (h : r < rows) : r * cols + cols ≤ cols * rows := by
 have := Nat.mul_le_mul_right cols (show r + 1 ≤ rows by omega)
 rw [Nat.add_mul, Nat.mul_comm rows] at this
 omega
theorem small_in {cols rows : Nat} (h1 : cols ≤ 512) (h2 : rows ≤ 512) : cols * rows ≤ 262144 := Nat.mul_le_mul h1 h2
/-- What a call of Scroll answers: the size, the cells, the error. -/
def Sc (co ro : Int) (l : List Cl) (k : Int) (w' : World) (e : Ending) : Prop := ∃ v2, e = .returned (.tuple #[.agg (gA co ro v2), .int .i64 k]) ∧ Cls w'.heap.size w' v2 l
theorem sc_no {N : Nat} {w w' : World} {e : Ending} (h : e = .returned gErr ∧ Below N w w') : Sc 0 0 [] 2 w' e ∧ Below N w w' := ⟨⟨.slice none 0 0, h.1, ⟨none, 0, rfl, Nat.le_refl _, .inl rfl⟩⟩, h.2⟩
end Go.Proofs.Ytnbonlkmadmpcaa
namespace Go.Proofs.Ytnbonlkmadmpcaa
open Go.RowKit Go.BigFrame
set_option linter.unusedVariables false
set_option linter.unusedSimpArgs false
theorem RC.sc {w : World} {b : Nat} {l : List Cl} {sp : List Value} (h : RC w b l sp) (n cap : Nat) (hn : l.length = n) (hc : n ≤ cap) : Cls w.heap.size w (.slice (some ⟨b, 0, none⟩) n cap) l := by
 have := h.cls 0 n cap (by omega) hc
 rw [List.drop_zero, List.take_of_length_le (by omega), Nat.zero_mul] at this
 exact this
theorem bad_is {co ro : Int} {c : List Cl} {s : St} {n : Int} (hG : mayG co ro c = true) (hS : mayS s = true) (hn : inN n ro = true) : badF co ro c s n = false := by
 have h := of_decide_eq_true hn
 unfold badF
 rw [hG, hS, decide_eq_false (show ¬ n < 0 by omega), decide_eq_false (show ¬ ro ≤ n by omega)]
 rfl
theorem bad_in {co ro : Int} {c : List Cl} {s : St} {n : Int} (hn : inN n ro = false) : badF co ro c s n = true := by
 have h := of_decide_eq_false hn
 unfold badF
 by_cases h1 : n < 0
 ·rw [decide_eq_true h1]; simp
 ·rw [decide_eq_true (show ro ≤ n by omega)]; simp
theorem bad_G {co ro : Int} {c : List Cl} {s : St} {n : Int} (hG : mayG co ro c = false) : badF co ro c s n = true := by unfold badF; rw [hG]; rfl
theorem bad_S {co ro : Int} {c : List Cl} {s : St} {n : Int} (hS : mayS s = false) : badF co ro c s n = true := by unfold badF; rw [hS]; simp
theorem side_dest {n : Int} (h : sideF n = true) : ∃ k : Nat, n = (k : Int) ∧ 1 ≤ k ∧ k ≤ 512 := by
 have h := of_decide_eq_true h
 exact ⟨n.toNat, by omega, by omega, by omega⟩
/-- Two functions answer alike, where the cells of the grid that they are handed are c. -/
def Alike (f g : Nat) (args : Value → Array Value) (c : List Cl) : Prop := ∃ (c2 r2 : Int) (l : List Cl) (k : Int), l.length ≤ 262144 ∧
  (∀ v w, Cls w.heap.size w v c → Calls Try.prog f (args v) w fun e w' => Sc c2 r2 l k w' e ∧ Below w.heap.size w w') ∧
  (∀ v w, Cls w.heap.size w v c → Calls Try.prog g (args v) w fun e w' => Sc c2 r2 l k w' e ∧ Below w.heap.size w w')
theorem alike_no {f g : Nat} {args : Value → Array Value} {c : List Cl} (h1 : ∀ v w, Cls w.heap.size w v c → Calls Try.prog f (args v) w fun e w' => e = .returned gErr ∧ Below w.heap.size w w')
  (h2 : ∀ v w, Cls w.heap.size w v c → Calls Try.prog g (args v) w fun e w' => e = .returned gErr ∧ Below w.heap.size w w') : Alike f g args c :=
 ⟨0, 0, [], 2, by simp, fun v w hv => (h1 v w hv).mono fun _ _ => sc_no, fun v w hv => (h2 v w hv).mono fun _ _ => sc_no⟩
theorem alike_ok {f g : Nat} {args : Value → Array Value} {c : List Cl} (cols rows n : Nat) (l : List Cl) (hl : l.length = n) (hn : n ≤ 262144)
  (h1 : ∀ v w, Cls w.heap.size w v c → Calls Try.prog f (args v) w fun e w' => ∃ b, e = .returned (gOk (cols : Int) (rows : Int) (.slice (some ⟨b, 0, none⟩) n n)) ∧ w.heap.size ≤ b ∧ RC w' b l [] ∧ Below w.heap.size w w')
  (h2 : ∀ v w, Cls w.heap.size w v c → Calls Try.prog g (args v) w fun e w' => ∃ b cap sp, e = .returned (gOk (cols : Int) (rows : Int) (.slice (some ⟨b, 0, none⟩) n cap)) ∧ w.heap.size ≤ b ∧ n ≤ cap ∧ RC w' b l sp ∧ Below w.heap.size w w') : Alike f g args c := by
 refine ⟨cols, rows, l, 0, by omega, fun v w hv => (h1 v w hv).mono ?_, fun v w hv => (h2 v w hv).mono ?_⟩
 ·rintro e w' ⟨b, rfl, _, hrc, bel⟩
  exact ⟨⟨_, rfl, hrc.sc n n hl (Nat.le_refl _)⟩, bel⟩
 ·rintro e w' ⟨b, cap, sp, rfl, _, hcap, hrc, bel⟩
  exact ⟨⟨_, rfl, hrc.sc n cap hl hcap⟩, bel⟩
theorem new_alike (co ro : Int) (s : St) : Alike 7 8 (fun _ => #[.int .i64 co, .int .i64 ro, .agg (sA s)]) [] := by
 cases h : sideF co && sideF ro with
 | false => exact alike_no (fun v w _ => new_no0 co ro s w h) (fun v w _ => rnew_no co ro s w (by rw [h]; rfl))
 | true =>
 cases hS : mayS s with
 | false => exact alike_no (fun v w _ => new_no1 co ro s w h hS) (fun v w _ => rnew_no co ro s w (by rw [hS]; simp))
 | true =>
 rw [Bool.and_eq_true] at h
 obtain ⟨cols, rfl, a1, a2⟩ := side_dest h.1
 obtain ⟨rows, rfl, a3, a4⟩ := side_dest h.2
 exact alike_ok cols rows (cols * rows) (List.replicate (cols * rows) (bl s)) (by simp) (small_in a2 a4) (fun v w _ => new_ok cols rows s w a1 a2 a3 a4 hS) (fun v w _ => rnew_ok cols rows s w a1 a2 a3 a4 hS)
theorem erase_alike (co ro : Int) (c : List Cl) (row fr to : Int) (s : St) : Alike 12 13 (fun v => #[.agg (gA co ro v), .int .i64 row, .int .i64 fr, .int .i64 to, .agg (sA s)]) c := by
 cases hG : mayG co ro c with
 | false => exact alike_no (fun v w hv => erase_no0 co ro v c row fr to s w hv hG) (fun v w hv => rerase_no0 co ro v c row fr to s w hv (bad_G hG))
 | true =>
 cases hS : mayS s with
 | false => exact alike_no (fun v w hv => erase_no1 co ro v c row fr to s w hv hG hS) (fun v w hv => rerase_no0 co ro v c row fr to s w hv (bad_S hS))
 | true =>
 cases h2 : inN row ro with
 | false => exact alike_no (fun v w hv => erase_no2 co ro v c row fr to s w hv hG hS h2) (fun v w hv => rerase_no0 co ro v c row fr to s w hv (bad_in h2))
 | true =>
 have hB := bad_is hG hS h2
 by_cases h3 : 0 ≤ fr
 case neg => exact alike_no (fun v w hv => erase_no3 co ro v c row fr to s w hv hG hS h2 (by omega)) (fun v w hv => rerase_no1 co ro v c row fr to s w hv hB (by omega))
 by_cases h4 : fr ≤ to
 case neg => exact alike_no (fun v w hv => erase_no4 co ro v c row fr to s w hv hG hS h2 h3 (by omega)) (fun v w hv => rerase_no2 co ro v c row fr to s w hv hB h3 (by omega))
 by_cases h5 : to ≤ co
 case neg => exact alike_no (fun v w hv => erase_no5 co ro v c row fr to s w hv hG hS h2 h3 h4 (by omega)) (fun v w hv => rerase_no3 co ro v c row fr to s w hv hB h3 h4 (by omega))
 obtain ⟨cols, rows, rfl, rfl, p1, p2, p3, p4, hcl⟩ := mayG_dest hG
 obtain ⟨r, rfl, hr⟩ := nat_in h2
 obtain ⟨a, rfl⟩ : ∃ a : Nat, fr = (a : Int) := ⟨fr.toNat, by omega⟩
 obtain ⟨b, rfl⟩ : ∃ b : Nat, to = (b : Int) := ⟨to.toNat, by omega⟩
 have hr' : r < rows := by omega
 have hrl : (rowF c cols r).length = cols := rowF_len c cols r (by rw [hcl]; exact fits_in hr')
 have hwl : (erF (rowF c cols r) a b s).length = cols := by rw [erF_len _ _ _ _ (by omega) (by omega), hrl]
 have hle := small_in p2 p4
 exact alike_ok cols rows c.length (putRow c cols r (mnd (erF (rowF c cols r) a b s))) (putRow_len c cols r _ (by rw [mnd_len]; exact hwl) (by rw [hcl]; exact fits_in hr')) (by omega)
  (fun v w hv => erase_ok cols rows v c r a b s w hv hG hS hr' (by omega) (by omega)) (fun v w hv => rerase_ok cols rows v c r a b s w hv hG hS hr' (by omega) (by omega))
theorem shift_alike (co ro : Int) (c : List Cl) (row fr k : Int) (s : St) : Alike 14 15 (fun v => #[.agg (gA co ro v), .int .i64 row, .int .i64 fr, .int .i64 k, .agg (sA s)]) c := by
 cases hG : mayG co ro c with
 | false => exact alike_no (fun v w hv => shift_no0 co ro v c row fr k s w hv hG) (fun v w hv => rshift_no0 co ro v c row fr k s w hv (bad_G hG))
 | true =>
 cases hS : mayS s with
 | false => exact alike_no (fun v w hv => shift_no1 co ro v c row fr k s w hv hG hS) (fun v w hv => rshift_no0 co ro v c row fr k s w hv (bad_S hS))
 | true =>
 cases h2 : inN row ro with
 | false => exact alike_no (fun v w hv => shift_no2 co ro v c row fr k s w hv hG hS h2) (fun v w hv => rshift_no0 co ro v c row fr k s w hv (bad_in h2))
 | true =>
 have hB := bad_is hG hS h2
 cases h3 : inN fr co with
 | false =>
  have h3' := of_decide_eq_false h3
  refine alike_no (fun v w hv => shift_no3 co ro v c row fr k s w hv hG hS h2 h3) (fun v w hv => ?_)
  by_cases h4 : fr < 0
  ·exact rshift_no1 co ro v c row fr k s w hv hB h4
  ·exact rshift_no2 co ro v c row fr k s w hv hB (by omega) (by omega)
 | true =>
 obtain ⟨cols, rows, rfl, rfl, p1, p2, p3, p4, hcl⟩ := mayG_dest hG
 obtain ⟨r, rfl, hr⟩ := nat_in h2
 obtain ⟨a, rfl, ha⟩ := nat_in h3
 have hr' : r < rows := by omega
 have hrl : (rowF c cols r).length = cols := rowF_len c cols r (by rw [hcl]; exact fits_in hr')
 have hle := small_in p2 p4
 exact alike_ok cols rows c.length (putRow c cols r (mnd (shF (rowF c cols r) a k s))) (putRow_len c cols r _ (by rw [mnd_len, shF_len]; exact hrl) (by rw [hcl]; exact fits_in hr')) (by omega)
  (fun v w hv => shift_ok cols rows v c r a k s w hv hG hS hr' (by omega)) (fun v w hv => rshift_ok cols rows v c r a k s w hv hG hS hr' (by omega))
theorem scroll_alike (co ro : Int) (c : List Cl) (top bot k : Int) (s : St) : Alike 16 17 (fun v => #[.agg (gA co ro v), .int .i64 top, .int .i64 bot, .int .i64 k, .agg (sA s)]) c := by
 cases hG : mayG co ro c with
 | false => exact alike_no (fun v w hv => scroll_no0 co ro v c top bot k s w hv hG) (fun v w hv => rscroll_no0 co ro v c top bot k s w hv (bad_G hG))
 | true =>
 cases hS : mayS s with
 | false => exact alike_no (fun v w hv => scroll_no1 co ro v c top bot k s w hv hG hS) (fun v w hv => rscroll_no0 co ro v c top bot k s w hv (bad_S hS))
 | true =>
 by_cases h2 : 0 ≤ top
 case neg => exact alike_no (fun v w hv => scroll_no2 co ro v c top bot k s w hv hG hS (by omega)) (fun v w hv => rscroll_no0 co ro v c top bot k s w hv (bad_in (decide_eq_false (by omega))))
 by_cases h3 : top ≤ bot
 case neg =>
  refine alike_no (fun v w hv => scroll_no3 co ro v c top bot k s w hv hG hS h2 (by omega)) (fun v w hv => ?_)
  cases hB : badF co ro c s top with
  | true => exact rscroll_no0 co ro v c top bot k s w hv hB
  | false => exact rscroll_no1 co ro v c top bot k s w hv hB (by omega)
 by_cases h4 : bot < ro
 case neg =>
  refine alike_no (fun v w hv => scroll_no4 co ro v c top bot k s w hv hG hS h2 h3 (by omega)) (fun v w hv => ?_)
  cases hB : badF co ro c s top with
  | true => exact rscroll_no0 co ro v c top bot k s w hv hB
  | false => exact rscroll_no2 co ro v c top bot k s w hv hB h3 (by omega)
 obtain ⟨cols, rows, rfl, rfl, p1, p2, p3, p4, hcl⟩ := mayG_dest hG
 obtain ⟨a, rfl⟩ : ∃ a : Nat, top = (a : Int) := ⟨top.toNat, by omega⟩
 obtain ⟨b, rfl⟩ : ∃ b : Nat, bot = (b : Int) := ⟨bot.toNat, by omega⟩
 have hle := small_in p2 p4
 exact alike_ok cols rows c.length (scF c cols rows a b k s) (by rw [scF_len c cols rows a b k s hcl (by omega)]; exact hcl.symm) (by omega)
  (fun v w hv => scroll_ok cols rows v c a b k s w hv hG hS (by omega) (by omega)) (fun v w hv => rscroll_ok cols rows v c a b k s w hv hG hS (by omega) (by omega))
theorem resize_alike (co ro : Int) (c : List Cl) (cols' rows' : Int) (s : St) : Alike 18 19 (fun v => #[.agg (gA co ro v), .int .i64 cols', .int .i64 rows', .agg (sA s)]) c := by
 cases hG : mayG co ro c with
 | false => exact alike_no (fun v w hv => resize_no0 co ro v c cols' rows' s w hv hG) (fun v w hv => rresize_no0 co ro v c cols' rows' s w hv hG)
 | true =>
 cases hS : mayS s with
 | false => exact alike_no (fun v w hv => resize_no1 co ro v c cols' rows' s w hv hG hS) (fun v w hv => rresize_no1 co ro v c cols' rows' s w hv hG (by rw [hS]; simp))
 | true =>
 cases h : sideF cols' && sideF rows' with
 | false => exact alike_no (fun v w hv => resize_no2 co ro v c cols' rows' s w hv hG hS h) (fun v w hv => rresize_no1 co ro v c cols' rows' s w hv hG (by rw [h]; rfl))
 | true =>
 rw [Bool.and_eq_true] at h
 obtain ⟨cols, rows, rfl, rfl, p1, p2, p3, p4, hcl⟩ := mayG_dest hG
 obtain ⟨a, rfl, a1, a2⟩ := side_dest h.1
 obtain ⟨b, rfl, a3, a4⟩ := side_dest h.2
 obtain ⟨c', r', e1, e2, _, _, _, _, hl⟩ := mayG_dest (mayG_resize cols rows a b s c p1 p2 p3 p4 hcl hG hS a1 a2 a3 a4)
 obtain rfl : a = c' := by omega
 obtain rfl : b = r' := by omega
 exact alike_ok a b (a * b) (rzF c cols rows a b s) hl (small_in a2 a4) (fun v w hv => resize_ok cols rows v c a b s w hv hG hS a1 a2 a3 a4) (fun v w hv => rresize_ok cols rows v c a b s w hv hG hS a1 a2 a3 a4)
/-- Both Writes answer alike; the cells that are written stand too. -/
theorem write_alike (co ro : Int) (c : List Cl) (row col : Int) (s : St) (l : List Cl) (hn : l.length ≤ 140737488355328) : ∃ (c2 r2 : Int) (x : List Cl) (k : Int), x.length ≤ 262144 ∧
  (∀ v vl w, Cls w.heap.size w v c → Cls w.heap.size w vl l → Calls Try.prog 10 #[.agg (gA co ro v), .int .i64 row, .int .i64 col, .agg (sA s), vl] w fun e w' => Sc c2 r2 x k w' e ∧ Below w.heap.size w w') ∧
  (∀ v vl w, Cls w.heap.size w v c → Cls w.heap.size w vl l → Calls Try.prog 11 #[.agg (gA co ro v), .int .i64 row, .int .i64 col, .agg (sA s), vl] w fun e w' => Sc c2 r2 x k w' e ∧ Below w.heap.size w w') := by
 have no : (∀ v vl w, Cls w.heap.size w v c → Cls w.heap.size w vl l → Calls Try.prog 10 #[.agg (gA co ro v), .int .i64 row, .int .i64 col, .agg (sA s), vl] w fun e w' => e = .returned gErr ∧ Below w.heap.size w w') →
   (∀ v vl w, Cls w.heap.size w v c → Cls w.heap.size w vl l → Calls Try.prog 11 #[.agg (gA co ro v), .int .i64 row, .int .i64 col, .agg (sA s), vl] w fun e w' => e = .returned gErr ∧ Below w.heap.size w w') → _ := fun h1 h2 =>
  (⟨0, 0, [], 2, by simp, fun v vl w hv hl => (h1 v vl w hv hl).mono fun _ _ => sc_no, fun v vl w hv hl => (h2 v vl w hv hl).mono fun _ _ => sc_no⟩ : ∃ (c2 r2 : Int) (x : List Cl) (k : Int), x.length ≤ 262144 ∧
   (∀ v vl w, Cls w.heap.size w v c → Cls w.heap.size w vl l → Calls Try.prog 10 #[.agg (gA co ro v), .int .i64 row, .int .i64 col, .agg (sA s), vl] w fun e w' => Sc c2 r2 x k w' e ∧ Below w.heap.size w w') ∧
   (∀ v vl w, Cls w.heap.size w v c → Cls w.heap.size w vl l → Calls Try.prog 11 #[.agg (gA co ro v), .int .i64 row, .int .i64 col, .agg (sA s), vl] w fun e w' => Sc c2 r2 x k w' e ∧ Below w.heap.size w w'))
 cases hG : mayG co ro c with
 | false => exact no (fun v vl w hv hl => write_no0 co ro v c row col s vl l w hv hn hl hG) (fun v vl w hv hl => rwrite_no0 co ro v c row col s vl w hv (bad_G hG))
 | true =>
 cases hS : mayS s with
 | false => exact no (fun v vl w hv hl => write_no1 co ro v c row col s vl l w hv hn hl hG hS) (fun v vl w hv hl => rwrite_no0 co ro v c row col s vl w hv (bad_S hS))
 | true =>
 have rcol : inN row ro = true → inN col co = false → ∀ v vl w, Cls w.heap.size w v c → Calls Try.prog 11 #[.agg (gA co ro v), .int .i64 row, .int .i64 col, .agg (sA s), vl] w fun e w' => e = .returned gErr ∧ Below w.heap.size w w' := fun h2 h3 v vl w hv => by
  have h3' := of_decide_eq_false h3
  by_cases h4 : col < 0
  ·exact rwrite_no1 co ro v c row col s vl w hv (bad_is hG hS h2) h4
  ·exact rwrite_no2 co ro v c row col s vl w hv (bad_is hG hS h2) (by omega) (by omega)
 cases hL : l.all mayC with
 | false =>
  refine no (fun v vl w hv hl => write_no2 co ro v c row col s vl l w hv hn hl hG hS hL) (fun v vl w hv hl => ?_)
  cases h2 : inN row ro with
  | false => exact rwrite_no0 co ro v c row col s vl w hv (bad_in h2)
  | true =>
   cases h3 : inN col co with
   | false => exact rcol h2 h3 v vl w hv
   | true =>
    have h3' := of_decide_eq_true h3
    obtain ⟨al, cl, rfl, _⟩ := id hl
    exact rwrite_no3 co ro v c row col s al cl l w hv (bad_is hG hS h2) (by omega) (by omega) hn hl hL
 | true =>
 cases h2 : inN row ro with
 | false => exact no (fun v vl w hv hl => write_no3 co ro v c row col s vl l w hv hn hl hG hS hL h2) (fun v vl w hv hl => rwrite_no0 co ro v c row col s vl w hv (bad_in h2))
 | true =>
 cases h3 : inN col co with
 | false => exact no (fun v vl w hv hl => write_no4 co ro v c row col s vl l w hv hn hl hG hS hL h2 h3) (fun v vl w hv hl => rcol h2 h3 v vl w hv)
 | true =>
 obtain ⟨cols, rows, rfl, rfl, p1, p2, p3, p4, hcl⟩ := mayG_dest hG
 obtain ⟨r, rfl, hr⟩ := nat_in h2
 obtain ⟨a, rfl, ha⟩ := nat_in h3
 have hr' : r < rows := by omega
 have hrl : (rowF c cols r).length = cols := rowF_len c cols r (by rw [hcl]; exact fits_in hr')
 have hwl : (wrF (rowF c cols r) a l).length = cols := by rw [wrF_len _ _ _ (by omega), hrl]
 have hle := small_in p2 p4
 have hpl : (putRow c cols r (mnd (wrF (rowF c cols r) a l))).length = c.length := putRow_len c cols r _ (by rw [mnd_len]; exact hwl) (by rw [hcl]; exact fits_in hr')
 refine ⟨cols, rows, putRow c cols r (mnd (wrF (rowF c cols r) a l)), 0, by omega, fun v vl w hv hl => (write_ok cols rows v c r a s vl l w hv hG hS hn hl hL hr' (by omega)).mono ?_, fun v vl w hv hl => ?_⟩
 ·rintro e w' ⟨b, rfl, _, hrc, bel⟩
  exact ⟨⟨_, rfl, hrc.sc c.length c.length hpl (Nat.le_refl _)⟩, bel⟩
 ·obtain ⟨al, cl, rfl, _⟩ := id hl
  refine (rwrite_ok cols rows v c r a s al cl l w hv hG hS hr' (by omega) hn hl hL).mono ?_
  rintro e w' ⟨b, cap, sp, rfl, _, hcap, hrc, bel⟩
  exact ⟨⟨_, rfl, hrc.sc c.length cap hpl hcap⟩, bel⟩
end Go.Proofs.Ytnbonlkmadmpcaa
