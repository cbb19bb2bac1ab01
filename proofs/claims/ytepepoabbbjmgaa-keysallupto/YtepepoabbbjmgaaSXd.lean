/- The reference's Same, where both grids hold the same. The program's Same, of all grids. Drawn regions, walked once; which screens may be. -/
import Derived.BigQuiet
import Derived.Test.YtepepoabbbjmgaaSXb
import Derived.Test.YtepepoabbbjmgaaSRb
import Derived.Test.YtepepoabbbjmgaaSCa
import Derived.Test.YtepepoabbbjmgaaSQk
import Derived.Test.YtepepoabbbjmgaaSGw
import Derived.Test.YtepepoabbbjmgaaSNj
import Derived.Test.YtepepoabbbjmgaaSEq
import Derived.Test.YtepepoabbbjmgaaSRc
namespace Go.Proofs.Ytepepoabbbjmgaa.Sc
open Go.RowKit Go.BigFrame
set_option linter.unusedVariables false
set_option linter.unusedSimpArgs false
set_option maxRecDepth 100000
set_option maxHeartbeats 32000000
/-- Both grids stand. -/
structure SaM (w : World) (g h : Array Value) (wr : World) : Prop where
 rg : Row wr w.heap.size 39 g
 rh : Row wr (w.heap.size + 1) 39 h
 be : Below w.heap.size w wr
theorem SaM.begin (w : World) (g h : Array Value) : SaM w g h ((w.alloc (.cells g 39)).alloc (.cells h 39)) :=
 ⟨(Row.new _ _ _).alloc _, Row.made _ _ _ _ _ rfl (by simp), ((Below.refl w.heap.size w).alloc (Nat.le_refl _) _).alloc (by simp) _⟩
theorem SaM.below {w : World} {g h : Array Value} {wr w' : World} (q : SaM w g h wr) (hb : Below wr.heap.size wr w') : SaM w g h w' :=
 ⟨q.rg.below hb q.rg.lt, q.rh.below hb q.rh.lt, q.be.trans (hb.mono q.be.size)⟩
theorem cls_range {w wx : World} {v : Value} {c : List Cl} (hv : Cls w.heap.size w v c) (hl : 0 < c.length) : ∃ b o k, v = .slice (some ⟨b, o, none⟩) c.length k ∧ ∀ i wx, i < c.length → Below w.heap.size w wx → wx.rangeAt b (o + i * 15) (cA (cat c i)).toList := by
 obtain ⟨a, k, e, hk, hc⟩ := hv
 rcases hc with hc | ⟨b, o, rfl, hb, hc⟩
 ·rw [hc] at hl; simp at hl
 ·exact ⟨b, o, k, e, fun i wx hi hbe => rangeAt_cls (N := 0) (v := .bool true) (fun j hj => by rw [hbe.cell (p := ⟨b, o + i * 15 + j, none⟩) hb]; exact hc i hi j hj)⟩
/-- Do both rows of cells hold the same? -/
def eqL (c d : List Cl) : Bool := decide (c.length = d.length) && (List.range c.length).all fun i => clB (cat c i) (cat d i)
theorem eqL_no {c d : List Cl} (h : ¬ c.length = d.length) : eqL c d = false := by unfold eqL; rw [decide_eq_false h]; rfl
theorem eqL_yes {c d : List Cl} (h : c.length = d.length) (h2 : ∀ i, i < c.length → clB (cat c i) (cat d i) = true) : eqL c d = true := by
 unfold eqL
 rw [decide_eq_true h, Bool.true_and, List.all_eq_true]
 exact fun i hi => h2 i (List.mem_range.1 hi)
theorem eqL_at {c d : List Cl} (i : Nat) (hi : i < c.length) (h2 : clB (cat c i) (cat d i) = false) : eqL c d = false := by
 unfold eqL
 cases e : (List.range c.length).all fun i => clB (cat c i) (cat d i) with
 | false => rw [Bool.and_false]
 | true =>
  rw [List.all_eq_true] at e
  have := e i (List.mem_range.2 hi)
  rw [h2] at this
  cases this
/-- Do both grids hold the same? -/
def samG (co ro : Int) (c : List Cl) (co' ro' : Int) (d : List Cl) : Bool := decide (co = co') && (decide (ro = ro') && eqL c d)
theorem equal_no (a1 a2 : Option Addr) (n m k1 k2 : Nat) (w : World) (h : ¬ n = m) :
  Calls Try.prog 51 #[.slice a1 n k1, .slice a2 m k2] w fun e w' => e = .returned (.bool false) ∧ Below w.heap.size w w' := by
 have ne3 : ((n : Int) != (m : Int)) = true := by simp; omega
 have ne4 : ((n : Int) == (m : Int)) = false := by simp; omega
 clear h
 go_enter Try.func51, Try.ntmps51
 go_wp2_with fail
 go_ret
 exact ⟨rfl, Below.refl _ _⟩
theorem equal_0 (a1 a2 : Option Addr) (k1 k2 : Nat) (w : World) :
  Calls Try.prog 51 #[.slice a1 0 k1, .slice a2 0 k2] w fun e w' => e = .returned (.bool true) ∧ Below w.heap.size w w' := by
 go_enter Try.func51, Try.ntmps51
 go_wp2_with fail
 go_loopw [13] (fun i wr => i = .int .i64 0 ∧ Box' (Below w.heap.size w wr)) (fun _ _ => 0)
 case atStart => exact ⟨rfl, ⟨Below.refl _ _⟩⟩
 case round =>
  obtain ⟨rfl, FF⟩ := hrel
  go_wp2_with fail
  go_ret
  exact ⟨rfl, FF.out⟩
theorem equal_w (b1 o1 k1 b2 o2 k2 n : Nat) (c d : List Cl) (hc : c.length = n) (hd : d.length = n) (hn : n < 140737488355328) (w : World) (H1 : Box' (∀ i wx, i < n → Below w.heap.size w wx → wx.rangeAt b1 (o1 + i * 15) (cA (cat c i)).toList)) (H2 : Box' (∀ i wx, i < n → Below w.heap.size w wx → wx.rangeAt b2 (o2 + i * 15) (cA (cat d i)).toList)) :
  Calls Try.prog 51 #[.slice (some ⟨b1, o1, none⟩) n k1, .slice (some ⟨b2, o2, none⟩) n k2] w fun e w' => e = .returned (.bool (eqL c d)) ∧ Below w.heap.size w w' := by
 have YES : Box' ((∀ i, i < n → clB (cat c i) (cat d i) = true) → eqL c d = true) := ⟨fun h => eqL_yes (by omega) (fun i hi => h i (by omega))⟩
 have NO : Box' (∀ i, i < n → clB (cat c i) (cat d i) = false → eqL c d = false) := ⟨fun i hi h => eqL_at i (by omega) h⟩
 clear hc hd
 go_enter Try.func51, Try.ntmps51
 go_wp2_with fail
 go_loopw [13] (fun i wr => ∃ k : Nat, k ≤ n ∧ i = .int .i64 (k : Int) ∧ Box' (∀ j, j < k → clB (cat c j) (cat d j) = true) ∧ Box' (Below w.heap.size w wr)) (fun i _ => n - (intOf i).toNat)
 case atStart => exact ⟨0, by omega, rfl, ⟨fun j hj => by omega⟩, ⟨Below.refl _ _⟩⟩
 case round =>
  obtain ⟨k, hk, rfl, AL, FF⟩ := hrel
  by_cases hlt' : k < n
  case neg =>
   have E := Box'.mk (YES.out fun i hi => AL.out i (by omega))
   go_wp2_with fail
   go_ret
   exact ⟨by rw [E.out]; rfl, FF.out⟩
  case pos =>
   have RX := Box'.mk (fun wx hb => H1.out k wx hlt' hb)
   have RY := Box'.mk (fun wx hb => H2.out k wx hlt' hb)
   clear H1 H2
   cases he : clB (cat c k) (cat d k) with
   | true =>
    have EQ : Box' ((!clB (cat c k) (cat d k)) = false) := ⟨by rw [he]; rfl⟩
    have A2 : Box' (∀ j, j < k + 1 → clB (cat c j) (cat d j) = true) := ⟨fun j hj => by
     rcases Nat.lt_or_ge j k with q | q
     ·exact AL.out j q
     ·have e : j = k := by omega
      rw [e]; exact he⟩
    clear he
    go_upto_region 6 with (fail)
    refine wp_region_lex (fun wa => Below w.heap.size w wa) (by kernel_rfl) (by kernel_rfl) (FF.out.drew) ?_
    iterate 3 (go_big_quiet_want; go_big_quiet_op; first | go_big_quiet_on | (refine ⟨_, fun _ _ => rfl, ?_⟩; go_big_quiet_on))
    (go_big_quiet_want; refine qC_mid 72 (.tmp 18) rfl b1 (o1 + k * 15) (cA (cat c k)) _ Try.underlying72 rfl s26 rfl (fun wq hC => (RX.out wq hC)) ?_; simp only [Act.put, siB, stS, stZ]; go_big_quiet_on)
    iterate 3 (go_big_quiet_want; go_big_quiet_op; first | go_big_quiet_on | (refine ⟨_, fun _ _ => rfl, ?_⟩; go_big_quiet_on))
    (go_big_quiet_want; refine qC_mid 72 (.tmp 22) rfl b2 (o2 + k * 15) (cA (cat d k)) _ Try.underlying72 rfl s26 rfl (fun wq hC => (RY.out wq hC)) ?_; simp only [Act.put, siB, stS, stZ]; go_big_quiet_on)
    (go_big_quiet_want; refine qC_of (.bool false) (fun wq hC => (run_neq_cell_op 72 (.tmp 19) (.tmp 23) rfl (cat c k) (cat d k) rfl rfl _ EQ.out wq)) ?_; simp only [Act.put, siB, stS, stZ]; go_big_quiet_on)
    refine wpQuiet_nil ?_
    intro wz hC
    have F9 := Box'.mk hC
    clear hC
    go_wp2_with fail
    exact ⟨⟨k + 1, by omega, by go_num, A2, F9⟩, by simp [intOf]; omega⟩
   | false =>
    have EQ : Box' ((!clB (cat c k) (cat d k)) = true) := ⟨by rw [he]; rfl⟩
    have E := Box'.mk (NO.out k hlt' he)
    clear he
    go_upto_region 6 with (fail)
    refine wp_region_lex (fun wa => Below w.heap.size w wa) (by kernel_rfl) (by kernel_rfl) (FF.out.drew) ?_
    iterate 3 (go_big_quiet_want; go_big_quiet_op; first | go_big_quiet_on | (refine ⟨_, fun _ _ => rfl, ?_⟩; go_big_quiet_on))
    (go_big_quiet_want; refine qC_mid 72 (.tmp 18) rfl b1 (o1 + k * 15) (cA (cat c k)) _ Try.underlying72 rfl s26 rfl (fun wq hC => (RX.out wq hC)) ?_; simp only [Act.put, siB, stS, stZ]; go_big_quiet_on)
    iterate 3 (go_big_quiet_want; go_big_quiet_op; first | go_big_quiet_on | (refine ⟨_, fun _ _ => rfl, ?_⟩; go_big_quiet_on))
    (go_big_quiet_want; refine qC_mid 72 (.tmp 22) rfl b2 (o2 + k * 15) (cA (cat d k)) _ Try.underlying72 rfl s26 rfl (fun wq hC => (RY.out wq hC)) ?_; simp only [Act.put, siB, stS, stZ]; go_big_quiet_on)
    (go_big_quiet_want; refine qC_of (.bool true) (fun wq hC => (run_neq_cell_op 72 (.tmp 19) (.tmp 23) rfl (cat c k) (cat d k) rfl rfl _ EQ.out wq)) ?_; simp only [Act.put, siB, stS, stZ]; go_big_quiet_on)
    refine wpQuiet_nil ?_
    intro wz hC
    have F9 := Box'.mk hC
    clear hC
    go_wp2_with fail
    go_ret
    exact ⟨by rw [E.out]; rfl, F9.out⟩
theorem equal_any (v v' : Value) (c d : List Cl) (hn : c.length < 140737488355328) (w : World) (hv : Cls w.heap.size w v c) (hv' : Cls w.heap.size w v' d) :
  Calls Try.prog 51 #[v, v'] w fun e w' => e = .returned (.bool (eqL c d)) ∧ Below w.heap.size w w' := by
 by_cases h3 : c.length = d.length
 case neg =>
  obtain ⟨a1, k1, rfl, _, _⟩ := hv
  obtain ⟨a2, k2, rfl, _, _⟩ := hv'
  rw [eqL_no h3]
  exact equal_no a1 a2 _ _ k1 k2 w h3
 by_cases hl : 0 < c.length
 ·obtain ⟨b1, o1, k1, rfl, e1⟩ := cls_range (wx := w) hv hl
  obtain ⟨b2, o2, k2, rfl, e2⟩ := cls_range (wx := w) hv' (by omega)
  rw [← h3]
  exact equal_w b1 o1 k1 b2 o2 k2 c.length c d rfl h3.symm hn w ⟨e1⟩ ⟨fun i wx hi hb => e2 i wx (by omega) hb⟩
 ·obtain ⟨a1, k1, rfl, _, _⟩ := hv
  obtain ⟨a2, k2, rfl, _, _⟩ := hv'
  rw [eqL_yes h3 (fun i hi => by omega)]
  have e : c.length = 0 := by omega
  have e' : d.length = 0 := by omega
  rw [e, e']
  exact equal_0 a1 a2 k1 k2 w
theorem gsame_n0 (co ro co' ro' : Int) (a1 a2 : Option Addr) (k1 k2 : Nat) (c d : List Cl) (hn : c.length < 140737488355328) (w : World) (hv : Cls w.heap.size w (.slice a1 c.length k1) c) (hv' : Cls w.heap.size w (.slice a2 d.length k2) d) (h : ¬ co = co') :
  Calls Try.prog 40 #[.agg (gA co ro (.slice a1 c.length k1)), .agg (gA co' ro' (.slice a2 d.length k2))] w fun e w' => e = .returned (.bool (false)) ∧ Below w.heap.size w w' := by
 have F := Box'.mk (SaM.begin w (gA co ro (.slice a1 c.length k1)) (gA co' ro' (.slice a2 d.length k2)))
 have EQ : Box' (∀ wx, Below w.heap.size w wx → Calls Try.prog 51 #[.slice a1 c.length k1, .slice a2 d.length k2] wx fun e w' => e = .returned (.bool (eqL c d)) ∧ Below wx.heap.size wx w') := ⟨fun wx hb => equal_any _ _ c d hn wx ((hv.below hb (Nat.le_refl _)).up hb.size) ((hv'.below hb (Nat.le_refl _)).up hb.size)⟩
 clear hv hv' hn
 have ne1 : (co == co') = false := by simpa using h
 clear h
 go_enter Try.func40, Try.ntmps40
 go_upto_region 1 with (fail)
 generalize ((w.alloc (.cells (gA co ro (.slice a1 c.length k1)) 39)).alloc (.cells (gA co' ro' (.slice a2 d.length k2)) 39)) = w1 at *
 have c0 : w1.cell? ⟨w.heap.size, 0, none⟩ = some (.int .i64 co) := F.out.rg.cell 0
 have c1 : w1.cell? ⟨w.heap.size, 1, none⟩ = some (.int .i64 ro) := F.out.rg.cell 1
 have c2 : w1.cell? ⟨w.heap.size, 2, none⟩ = some (.slice a1 c.length k1) := F.out.rg.cell 2
 have d0 : w1.cell? ⟨w.heap.size + 1, 0, none⟩ = some (.int .i64 co') := F.out.rh.cell 0
 have d1 : w1.cell? ⟨w.heap.size + 1, 1, none⟩ = some (.int .i64 ro') := F.out.rh.cell 1
 have d2 : w1.cell? ⟨w.heap.size + 1, 2, none⟩ = some (.slice a2 d.length k2) := F.out.rh.cell 2
 go_wp2_with fail
 go_ret
 exact ⟨rfl, F.out.be⟩
theorem gsame_n1 (co ro co' ro' : Int) (a1 a2 : Option Addr) (k1 k2 : Nat) (c d : List Cl) (hn : c.length < 140737488355328) (w : World) (hv : Cls w.heap.size w (.slice a1 c.length k1) c) (hv' : Cls w.heap.size w (.slice a2 d.length k2) d) (h1 : (co == co') = true) (h : ¬ ro = ro') :
  Calls Try.prog 40 #[.agg (gA co ro (.slice a1 c.length k1)), .agg (gA co' ro' (.slice a2 d.length k2))] w fun e w' => e = .returned (.bool (false)) ∧ Below w.heap.size w w' := by
 have F := Box'.mk (SaM.begin w (gA co ro (.slice a1 c.length k1)) (gA co' ro' (.slice a2 d.length k2)))
 have EQ : Box' (∀ wx, Below w.heap.size w wx → Calls Try.prog 51 #[.slice a1 c.length k1, .slice a2 d.length k2] wx fun e w' => e = .returned (.bool (eqL c d)) ∧ Below wx.heap.size wx w') := ⟨fun wx hb => equal_any _ _ c d hn wx ((hv.below hb (Nat.le_refl _)).up hb.size) ((hv'.below hb (Nat.le_refl _)).up hb.size)⟩
 clear hv hv' hn
 have ne2 : (ro == ro') = false := by simpa using h
 clear h
 go_enter Try.func40, Try.ntmps40
 go_upto_region 1 with (fail)
 generalize ((w.alloc (.cells (gA co ro (.slice a1 c.length k1)) 39)).alloc (.cells (gA co' ro' (.slice a2 d.length k2)) 39)) = w1 at *
 have c0 : w1.cell? ⟨w.heap.size, 0, none⟩ = some (.int .i64 co) := F.out.rg.cell 0
 have c1 : w1.cell? ⟨w.heap.size, 1, none⟩ = some (.int .i64 ro) := F.out.rg.cell 1
 have c2 : w1.cell? ⟨w.heap.size, 2, none⟩ = some (.slice a1 c.length k1) := F.out.rg.cell 2
 have d0 : w1.cell? ⟨w.heap.size + 1, 0, none⟩ = some (.int .i64 co') := F.out.rh.cell 0
 have d1 : w1.cell? ⟨w.heap.size + 1, 1, none⟩ = some (.int .i64 ro') := F.out.rh.cell 1
 have d2 : w1.cell? ⟨w.heap.size + 1, 2, none⟩ = some (.slice a2 d.length k2) := F.out.rh.cell 2
 go_wp2_with fail
 go_ret
 exact ⟨rfl, F.out.be⟩
theorem gsame_w (co ro co' ro' : Int) (a1 a2 : Option Addr) (k1 k2 : Nat) (c d : List Cl) (hn : c.length < 140737488355328) (w : World) (hv : Cls w.heap.size w (.slice a1 c.length k1) c) (hv' : Cls w.heap.size w (.slice a2 d.length k2) d) (h1 : (co == co') = true) (h2 : (ro == ro') = true) :
  Calls Try.prog 40 #[.agg (gA co ro (.slice a1 c.length k1)), .agg (gA co' ro' (.slice a2 d.length k2))] w fun e w' => e = .returned (.bool (eqL c d)) ∧ Below w.heap.size w w' := by
 have F := Box'.mk (SaM.begin w (gA co ro (.slice a1 c.length k1)) (gA co' ro' (.slice a2 d.length k2)))
 have EQ : Box' (∀ wx, Below w.heap.size w wx → Calls Try.prog 51 #[.slice a1 c.length k1, .slice a2 d.length k2] wx fun e w' => e = .returned (.bool (eqL c d)) ∧ Below wx.heap.size wx w') := ⟨fun wx hb => equal_any _ _ c d hn wx ((hv.below hb (Nat.le_refl _)).up hb.size) ((hv'.below hb (Nat.le_refl _)).up hb.size)⟩
 clear hv hv' hn
 go_enter Try.func40, Try.ntmps40
 go_upto_region 1 with (fail)
 generalize ((w.alloc (.cells (gA co ro (.slice a1 c.length k1)) 39)).alloc (.cells (gA co' ro' (.slice a2 d.length k2)) 39)) = w1 at *
 have c0 : w1.cell? ⟨w.heap.size, 0, none⟩ = some (.int .i64 co) := F.out.rg.cell 0
 have c1 : w1.cell? ⟨w.heap.size, 1, none⟩ = some (.int .i64 ro) := F.out.rg.cell 1
 have c2 : w1.cell? ⟨w.heap.size, 2, none⟩ = some (.slice a1 c.length k1) := F.out.rg.cell 2
 have d0 : w1.cell? ⟨w.heap.size + 1, 0, none⟩ = some (.int .i64 co') := F.out.rh.cell 0
 have d1 : w1.cell? ⟨w.heap.size + 1, 1, none⟩ = some (.int .i64 ro') := F.out.rh.cell 1
 have d2 : w1.cell? ⟨w.heap.size + 1, 2, none⟩ = some (.slice a2 d.length k2) := F.out.rh.cell 2
 go_wp2_with fail
 refine (EQ.out _ F.out.be).mono ?_
 rintro e w2 ⟨rfl, hb⟩
 have B2 := Box'.mk (F.out.be.trans (hb.mono F.out.be.size))
 clear hb
 go_wp2_with fail
 go_ret
 exact ⟨rfl, B2.out⟩
theorem gsame_any (co ro co' ro' : Int) (v v' : Value) (c d : List Cl) (hn : c.length < 140737488355328) (w : World) (hv : Cls w.heap.size w v c) (hv' : Cls w.heap.size w v' d) :
  Calls Try.prog 40 #[.agg (gA co ro v), .agg (gA co' ro' v')] w fun e w' => e = .returned (.bool (samG co ro c co' ro' d)) ∧ Below w.heap.size w w' := by
 unfold samG
 obtain ⟨a1, k1, rfl, _⟩ := id hv
 obtain ⟨a2, k2, rfl, _⟩ := id hv'
 by_cases h1 : co = co'
 case neg =>
  rw [decide_eq_false h1]
  exact gsame_n0 co ro co' ro' a1 a2 k1 k2 c d hn w hv hv' h1
 rw [decide_eq_true h1, Bool.true_and]
 by_cases h2 : ro = ro'
 case neg =>
  rw [decide_eq_false h2]
  exact gsame_n1 co ro co' ro' a1 a2 k1 k2 c d hn w hv hv' (by simpa using h1) h2
 rw [decide_eq_true h2, Bool.true_and]
 exact gsame_w co ro co' ro' a1 a2 k1 k2 c d hn w hv hv' (by simpa using h1) (by simpa using h2)
section
variable {C : World → Prop} {op : Oper} {a : Act} {K : Act → Prop}
theorem qC_row32 (x : Operand) (ho : op.op = .load 47 x) (b : Nat) (t : TypeId) (c : Array Value) (hn : c.size = 44) (hx : a.eval x = .pointer (some ⟨b, 0, none⟩)) (hc : ∀ w, C w → Row w b t c) (hk : K (a.put op.dst (.agg c))) : op.quiet Try.prog a C K :=
 qC_of _ (fun w hw => by
  have hrun := run_loadVar_row (P := Try.prog) w b t 47 c (0, 0) _ (hc w hw) Try.underlying47 rfl (by rw [hn]; exact s32)
  unfold execOp
  simp only [ho, hx, Instr.loadAt, Instr.sureAddr, Sem.run_bind, Sem.run_pure, Result.andThen_ok, hrun]) hk
end
/-- The screen that came in stands in its box. -/
structure SnM (w : World) (s : Array Value) (wr : World) : Prop where
 r : Row wr w.heap.size 47 s
 be : Below w.heap.size w wr
theorem SnM.begin (w : World) (s : Array Value) : SnM w s (w.alloc (.cells s 47)) := ⟨Row.new _ _ _, (Below.refl w.heap.size w).alloc (Nat.le_refl _) _⟩
theorem SnM.below {w : World} {s : Array Value} {wr w' : World} (h : SnM w s wr) (hb : Below wr.heap.size wr w') : SnM w s w' := ⟨h.r.below hb h.r.lt, h.be.trans (hb.mono h.be.size)⟩
theorem SnM.drew {w : World} {s : Array Value} {wr : World} (h : SnM w s wr) : SnM w s wr.drew := h.below (bR.drew)
/-- May this be a screen's main grid? -/
def mnF (x : Sn) : Bool := if x.alt then decide (x.mn.co = x.g.co) && (decide (x.mn.ro = x.g.ro) && mayG x.mn.co x.mn.ro x.mn.c) else samG x.mn.co x.mn.ro x.mn.c 0 0 []
theorem mmain_0 (x : Sn) (vg vt vm vl : Value) (w : World) (hm : Cls w.heap.size w vm x.mn.c) (hn : x.mn.c.length < 140737488355328) (hA : x.alt = false) : Calls Try.prog 29 #[.agg (snA x vg vt vm vl)] w fun e w' => e = .returned (.bool (samG x.mn.co x.mn.ro x.mn.c 0 0 [])) ∧ Below w.heap.size w w' := by
 have F := Box'.mk (SnM.begin w (snA x vg vt vm vl))
 have SG : Box' (∀ wx, Below w.heap.size w wx → Calls Try.prog 40 #[.agg (gA x.mn.co x.mn.ro vm), .agg (gA 0 0 (.slice none 0 0))] wx fun e w' => e = .returned (.bool (samG x.mn.co x.mn.ro x.mn.c 0 0 [])) ∧ Below wx.heap.size wx w') := ⟨fun wx hb => gsame_any _ _ 0 0 _ _ x.mn.c [] hn wx ((hm.below hb (Nat.le_refl _)).up hb.size) ⟨none, 0, rfl, Nat.le_refl _, .inl rfl⟩⟩
 clear hm
 go_enter Try.func29, Try.ntmps29
 go_upto_region 1 with (fail)
 generalize (w.alloc (.cells (snA x vg vt vm vl) 47)) = w1 at *
 have c39 : w1.cell? ⟨w.heap.size, 39, none⟩ = some (.bool x.alt) := F.out.r.cell 39
 have g0 : w1.cell? ⟨w.heap.size, 0, none⟩ = some (.int .i64 x.g.co) := F.out.r.cell 0
 have g1 : w1.cell? ⟨w.heap.size, 1, none⟩ = some (.int .i64 x.g.ro) := F.out.r.cell 1
 have m0 : w1.cell? ⟨w.heap.size, 40, none⟩ = some (.int .i64 x.mn.co) := F.out.r.cell 40
 have m1 : w1.cell? ⟨w.heap.size, 41, none⟩ = some (.int .i64 x.mn.ro) := F.out.r.cell 41
 have m2 : w1.cell? ⟨w.heap.size, 42, none⟩ = some vm := F.out.r.cell 42
 rw [hA] at c39
 go_wp2_with fail
 refine (SG.out _ F.out.be).mono ?_
 rintro e w2 ⟨rfl, hb⟩
 have F2 := Box'.mk (F.out.be.trans (hb.mono F.out.be.size))
 clear hb
 go_wp2_with fail
 go_ret
 exact ⟨rfl, F2.out⟩
theorem mmain_1 (x : Sn) (vg vt vm vl : Value) (w : World) (hm : Cls w.heap.size w vm x.mn.c) (hn : x.mn.c.length < 140737488355328) (hA : x.alt = true) (h1 : ¬ x.mn.co = x.g.co) : Calls Try.prog 29 #[.agg (snA x vg vt vm vl)] w fun e w' => e = .returned (.bool false) ∧ Below w.heap.size w w' := by
 have F := Box'.mk (SnM.begin w (snA x vg vt vm vl))
 have n1 : (x.mn.co == x.g.co) = false := by simpa using h1
 clear h1
 go_enter Try.func29, Try.ntmps29
 go_upto_region 1 with (fail)
 generalize (w.alloc (.cells (snA x vg vt vm vl) 47)) = w1 at *
 have c39 : w1.cell? ⟨w.heap.size, 39, none⟩ = some (.bool x.alt) := F.out.r.cell 39
 have g0 : w1.cell? ⟨w.heap.size, 0, none⟩ = some (.int .i64 x.g.co) := F.out.r.cell 0
 have g1 : w1.cell? ⟨w.heap.size, 1, none⟩ = some (.int .i64 x.g.ro) := F.out.r.cell 1
 have m0 : w1.cell? ⟨w.heap.size, 40, none⟩ = some (.int .i64 x.mn.co) := F.out.r.cell 40
 have m1 : w1.cell? ⟨w.heap.size, 41, none⟩ = some (.int .i64 x.mn.ro) := F.out.r.cell 41
 have m2 : w1.cell? ⟨w.heap.size, 42, none⟩ = some vm := F.out.r.cell 42
 rw [hA] at c39
 go_wp2_with fail
 go_ret
 exact ⟨rfl, F.out.be⟩
theorem mmain_2 (x : Sn) (vg vt vm vl : Value) (w : World) (hm : Cls w.heap.size w vm x.mn.c) (hn : x.mn.c.length < 140737488355328) (hA : x.alt = true) (h1 : (x.mn.co == x.g.co) = true) (h2 : ¬ x.mn.ro = x.g.ro) : Calls Try.prog 29 #[.agg (snA x vg vt vm vl)] w fun e w' => e = .returned (.bool false) ∧ Below w.heap.size w w' := by
 have F := Box'.mk (SnM.begin w (snA x vg vt vm vl))
 have n2 : (x.mn.ro == x.g.ro) = false := by simpa using h2
 clear h2
 go_enter Try.func29, Try.ntmps29
 go_upto_region 1 with (fail)
 generalize (w.alloc (.cells (snA x vg vt vm vl) 47)) = w1 at *
 have c39 : w1.cell? ⟨w.heap.size, 39, none⟩ = some (.bool x.alt) := F.out.r.cell 39
 have g0 : w1.cell? ⟨w.heap.size, 0, none⟩ = some (.int .i64 x.g.co) := F.out.r.cell 0
 have g1 : w1.cell? ⟨w.heap.size, 1, none⟩ = some (.int .i64 x.g.ro) := F.out.r.cell 1
 have m0 : w1.cell? ⟨w.heap.size, 40, none⟩ = some (.int .i64 x.mn.co) := F.out.r.cell 40
 have m1 : w1.cell? ⟨w.heap.size, 41, none⟩ = some (.int .i64 x.mn.ro) := F.out.r.cell 41
 have m2 : w1.cell? ⟨w.heap.size, 42, none⟩ = some vm := F.out.r.cell 42
 rw [hA] at c39
 go_wp2_with fail
 go_ret
 exact ⟨rfl, F.out.be⟩
theorem mmain_3 (x : Sn) (vg vt vm vl : Value) (w : World) (hm : Cls w.heap.size w vm x.mn.c) (hn : x.mn.c.length < 140737488355328) (hA : x.alt = true) (h1 : (x.mn.co == x.g.co) = true) (h2 : (x.mn.ro == x.g.ro) = true) : Calls Try.prog 29 #[.agg (snA x vg vt vm vl)] w fun e w' => e = .returned (.bool (mayG x.mn.co x.mn.ro x.mn.c)) ∧ Below w.heap.size w w' := by
 have F := Box'.mk (SnM.begin w (snA x vg vt vm vl))
 have SG : Box' (∀ wx, Below w.heap.size w wx → Calls Try.prog 28 #[.agg (gA x.mn.co x.mn.ro vm)] wx fun e w' => e = .returned (.bool (mayG x.mn.co x.mn.ro x.mn.c)) ∧ Below wx.heap.size wx w') := ⟨fun wx hb => gmay_any _ _ _ x.mn.c wx ((hm.below hb (Nat.le_refl _)).up hb.size)⟩
 clear hm
 go_enter Try.func29, Try.ntmps29
 go_upto_region 1 with (fail)
 generalize (w.alloc (.cells (snA x vg vt vm vl) 47)) = w1 at *
 have c39 : w1.cell? ⟨w.heap.size, 39, none⟩ = some (.bool x.alt) := F.out.r.cell 39
 have g0 : w1.cell? ⟨w.heap.size, 0, none⟩ = some (.int .i64 x.g.co) := F.out.r.cell 0
 have g1 : w1.cell? ⟨w.heap.size, 1, none⟩ = some (.int .i64 x.g.ro) := F.out.r.cell 1
 have m0 : w1.cell? ⟨w.heap.size, 40, none⟩ = some (.int .i64 x.mn.co) := F.out.r.cell 40
 have m1 : w1.cell? ⟨w.heap.size, 41, none⟩ = some (.int .i64 x.mn.ro) := F.out.r.cell 41
 have m2 : w1.cell? ⟨w.heap.size, 42, none⟩ = some vm := F.out.r.cell 42
 rw [hA] at c39
 go_wp2_with fail
 refine (SG.out _ F.out.be).mono ?_
 rintro e w2 ⟨rfl, hb⟩
 have F2 := Box'.mk (F.out.be.trans (hb.mono F.out.be.size))
 clear hb
 go_wp2_with fail
 go_ret
 exact ⟨rfl, F2.out⟩
theorem mayMain_any (x : Sn) (vg vt vm vl : Value) (w : World) (hm : Cls w.heap.size w vm x.mn.c) (hn : x.mn.c.length < 140737488355328) : Calls Try.prog 29 #[.agg (snA x vg vt vm vl)] w fun e w' => e = .returned (.bool (mnF x)) ∧ Below w.heap.size w w' := by
 unfold mnF
 cases hA : x.alt with
 | false => exact mmain_0 x vg vt vm vl w hm hn hA
 | true =>
  by_cases h1 : x.mn.co = x.g.co
  case neg => rw [decide_eq_false h1]; exact mmain_1 x vg vt vm vl w hm hn hA h1
  by_cases h2 : x.mn.ro = x.g.ro
  case neg => rw [decide_eq_true h1, decide_eq_false h2]; exact mmain_2 x vg vt vm vl w hm hn hA (by simpa using h1) h2
  rw [decide_eq_true h1, decide_eq_true h2]
  exact mmain_3 x vg vt vm vl w hm hn hA (by simpa using h1) (by simpa using h2)
/-- May this be a screen? -/
def mayN (x : Sn) : Bool := curF x.g.co x.g.ro x.cur && (curF x.g.co x.g.ro x.sv && (inN x.bot x.g.ro && (decide (0 ≤ x.top) && (decide (x.top ≤ x.bot) && (tabF (-1) x.g.co x.tabs && (titF x.title && (mayG x.g.co x.g.ro x.g.c && mnF x)))))))
/-- The lists of a screen stand. -/
structure Li (N : Nat) (w : World) (x : Sn) (vg vt vm vl : Value) : Prop where
 g : Cls N w vg x.g.c
 t : Is N w vt x.tabs
 m : Cls N w vm x.mn.c
 l : Rs N w vl x.title
/-- No list is longer than any machine has room for; the width is a number. -/
structure Bo (x : Sn) : Prop where
 m : x.mn.c.length < 140737488355328
 g : x.g.c.length < 140737488355328
 t : x.tabs.length ≤ 140737488355328
 co : x.g.co ≤ 9223372036854775807
theorem Li.at {w wx : World} {x : Sn} {vg vt vm vl : Value} (h : Li w.heap.size w x vg vt vm vl) (hb : Below w.heap.size w wx) : Li wx.heap.size wx x vg vt vm vl :=
 ⟨(h.g.below hb (Nat.le_refl _)).up hb.size, (h.t.below hb (Nat.le_refl _)).upN hb.size, (h.m.below hb (Nat.le_refl _)).up hb.size, (h.l.below hb (Nat.le_refl _)).up hb.size⟩
theorem smay_any (x : Sn) (vg vt vm vl : Value) (w : World) (hl : Li w.heap.size w x vg vt vm vl) (hb : Bo x) : Calls Try.prog 19 #[.agg (snA x vg vt vm vl)] w fun e w' => e = .returned (.bool (mayN x)) ∧ Below w.heap.size w w' := by
 have F := Box'.mk (SnM.begin w (snA x vg vt vm vl))
 have T0 := Box'.mk (mayCursor_any x.g.co x.g.ro vg x.cur hb.co)
 have T1 := Box'.mk (mayCursor_any x.g.co x.g.ro vg x.sv hb.co)
 have T2 : Box' (∀ w, Calls Try.prog 25 #[.int .i64 x.bot, .int .i64 x.g.ro] w fun e w' => e = .returned (.bool (inN x.bot x.g.ro)) ∧ Below w.heap.size w w') := ⟨fun w => (sIsIn_any x.bot x.g.ro w).mono fun e w' h => ⟨h.1, h.2 ▸ Below.refl _ _⟩⟩
 have T5 : Box' (∀ wx, Below w.heap.size w wx → Calls Try.prog 26 #[vt, .int .i64 x.g.co] wx fun e w' => e = .returned (.bool (tabF (-1) x.g.co x.tabs)) ∧ Below wx.heap.size wx w') := ⟨fun wx h => mayTabs_any vt x.tabs x.g.co hb.t wx (hl.at h).t⟩
 have T6 : Box' (∀ wx, Below w.heap.size w wx → Calls Try.prog 27 #[vl] wx fun e w' => e = .returned (.bool (titF x.title)) ∧ Below wx.heap.size wx w') := ⟨fun wx h => mayTitle_any vl x.title wx (hl.at h).l⟩
 have T7 : Box' (∀ wx, Below w.heap.size w wx → Calls Try.prog 28 #[.agg (gA x.g.co x.g.ro vg)] wx fun e w' => e = .returned (.bool (mayG x.g.co x.g.ro x.g.c)) ∧ Below wx.heap.size wx w') := ⟨fun wx h => gmay_any _ _ vg x.g.c wx (hl.at h).g⟩
 have T8 : Box' (∀ wx, Below w.heap.size w wx → Calls Try.prog 29 #[.agg (snA x vg vt vm vl)] wx fun e w' => e = .returned (.bool (mnF x)) ∧ Below wx.heap.size wx w') := ⟨fun wx h => mayMain_any x vg vt vm vl wx (hl.at h).m hb.m⟩
 unfold mayN
 clear hl hb
 generalize mnF x = MN at T8 ⊢
 generalize curF x.g.co x.g.ro x.cur = b0 at T0 ⊢
 generalize curF x.g.co x.g.ro x.sv = b1 at T1 ⊢
 generalize inN x.bot x.g.ro = b2 at T2 ⊢
 generalize tabF (-1) x.g.co x.tabs = b5 at T5 ⊢
 generalize titF x.title = b6 at T6 ⊢
 generalize mayG x.g.co x.g.ro x.g.c = b7 at T7 ⊢
 obtain ⟨R, hR⟩ : ∃ R, R = (b0 && (b1 && (b2 && (decide (0 ≤ x.top) && (decide (x.top ≤ x.bot) && (b5 && (b6 && (b7 && MN)))))))) := ⟨_, rfl⟩
 rw [← hR]
 cases b0
 rotate_left
 cases b1
 rotate_left
 cases b2
 rotate_left
 by_cases h3 : 0 ≤ x.top
 by_cases h4 : x.top ≤ x.bot
 cases b5
 rotate_left
 cases b6
 rotate_left
 cases b7
 rotate_left
 all_goals
  simp only [*, Bool.false_and, Bool.true_and, decide_true, decide_false, decide_eq_true_eq, if_true, if_false] at hR
  subst hR
  go_enter Try.func19, Try.ntmps19
  go_upto_region 1 with (fail)
  generalize (w.alloc (.cells (snA x vg vt vm vl) 47)) = w1 at *
  refine wp_region_lex (fun wa => SnM w (snA x vg vt vm vl) wa) (by kernel_rfl) (by kernel_rfl) F.out.drew ?_
  iterate 1 first | go_big_quiet_skip | (go_big_quiet_want; go_big_quiet_op; first | go_big_quiet_on | (refine ⟨_, fun _ _ => rfl, ?_⟩; go_big_quiet_on))
  first | go_big_quiet_skip | (go_big_quiet_want; refine qC_mid 39 (.tmp 3) rfl w.heap.size 0 (gA x.g.co x.g.ro vg) _ Try.underlying39 rfl s24g rfl (fun w hw => sn_grid hw.r) ?_; simp only [Act.put, siB, stS, stZ]; go_big_quiet_on)
  first | go_big_quiet_skip | (go_big_quiet_want; refine qC_row32 (.tmp 1) rfl w.heap.size 47 (snA x vg vt vm vl) rfl rfl (fun w hw => hw.r) ?_; simp only [Act.put, siB, stS, stZ]; go_big_quiet_on)
  first | go_big_quiet_skip | (go_big_quiet_want; refine qC_call 24 #[.agg (snA x vg vt vm vl)] (.agg (svA x.cur)) (fun w => by simp [go_sem]) (fun w hw => (cursorOf_any x vg vt vm vl w).mono fun e w' h => ⟨h.1, hw.below h.2⟩) ?_; simp only [Act.put, siB, stS, stZ]; go_big_quiet_on)
  first | go_big_quiet_skip | (go_big_quiet_want; refine qC_call 23 #[.agg (gA x.g.co x.g.ro vg), .agg (svA x.cur)] (.bool _) (fun w => by simp [go_sem]) (fun w hw => (T0.out w).mono fun e w' h => ⟨h.1, hw.below h.2⟩) ?_; simp only [Act.put, siB, stS, stZ]; go_big_quiet_on)
  iterate 2 first | go_big_quiet_skip | (go_big_quiet_want; go_big_quiet_op; first | go_big_quiet_on | (refine ⟨_, fun _ _ => rfl, ?_⟩; go_big_quiet_on))
  first | go_big_quiet_skip | (go_big_quiet_want; refine qC_mid 39 (.tmp 9) rfl w.heap.size 0 (gA x.g.co x.g.ro vg) _ Try.underlying39 rfl s24g rfl (fun w hw => sn_grid hw.r) ?_; simp only [Act.put, siB, stS, stZ]; go_big_quiet_on)
  iterate 1 first | go_big_quiet_skip | (go_big_quiet_want; go_big_quiet_op; first | go_big_quiet_on | (refine ⟨_, fun _ _ => rfl, ?_⟩; go_big_quiet_on))
  first | go_big_quiet_skip | (go_big_quiet_want; refine qC_mid 44 (.tmp 11) rfl w.heap.size 25 (svA x.sv) _ Try.underlying44 rfl s29 rfl (fun w hw => sn_saved hw.r) ?_; simp only [Act.put, siB, stS, stZ]; go_big_quiet_on)
  first | go_big_quiet_skip | (go_big_quiet_want; refine qC_call 23 #[.agg (gA x.g.co x.g.ro vg), .agg (svA x.sv)] (.bool _) (fun w => by simp [go_sem]) (fun w hw => (T1.out w).mono fun e w' h => ⟨h.1, hw.below h.2⟩) ?_; simp only [Act.put, siB, stS, stZ]; go_big_quiet_on)
  iterate 3 first | go_big_quiet_skip | (go_big_quiet_want; go_big_quiet_op; first | go_big_quiet_on | (refine ⟨_, fun _ _ => rfl, ?_⟩; go_big_quiet_on))
  first | go_big_quiet_skip | (go_big_quiet_want; refine qC_load3 (.tmp 16) rfl w.heap.size 17 (.int .i64 x.bot) rfl (fun w hw => hw.r.cell 17) ?_; simp only [Act.put, siB, stS, stZ]; go_big_quiet_on)
  iterate 2 first | go_big_quiet_skip | (go_big_quiet_want; go_big_quiet_op; first | go_big_quiet_on | (refine ⟨_, fun _ _ => rfl, ?_⟩; go_big_quiet_on))
  first | go_big_quiet_skip | (go_big_quiet_want; refine qC_load3 (.tmp 19) rfl w.heap.size 1 (.int .i64 x.g.ro) rfl (fun w hw => hw.r.cell 1) ?_; simp only [Act.put, siB, stS, stZ]; go_big_quiet_on)
  first | go_big_quiet_skip | (go_big_quiet_want; refine qC_call 25 #[.int .i64 x.bot, .int .i64 x.g.ro] (.bool _) (fun w => by simp [go_sem]) (fun w hw => (T2.out w).mono fun e w' h => ⟨h.1, hw.below h.2⟩) ?_; simp only [Act.put, siB, stS, stZ]; go_big_quiet_on)
  iterate 3 first | go_big_quiet_skip | (go_big_quiet_want; go_big_quiet_op; first | go_big_quiet_on | (refine ⟨_, fun _ _ => rfl, ?_⟩; go_big_quiet_on))
  first | go_big_quiet_skip | (go_big_quiet_want; refine qC_load3 (.tmp 24) rfl w.heap.size 16 (.int .i64 x.top) rfl (fun w hw => hw.r.cell 16) ?_; simp only [Act.put, siB, stS, stZ]; go_big_quiet_on)
  iterate 4 first | go_big_quiet_skip | (go_big_quiet_want; go_big_quiet_op; first | go_big_quiet_on | (refine ⟨_, fun _ _ => rfl, ?_⟩; go_big_quiet_on))
  first | go_big_quiet_skip | (go_big_quiet_want; refine qC_load3 (.tmp 29) rfl w.heap.size 16 (.int .i64 x.top) rfl (fun w hw => hw.r.cell 16) ?_; simp only [Act.put, siB, stS, stZ]; go_big_quiet_on)
  iterate 1 first | go_big_quiet_skip | (go_big_quiet_want; go_big_quiet_op; first | go_big_quiet_on | (refine ⟨_, fun _ _ => rfl, ?_⟩; go_big_quiet_on))
  first | go_big_quiet_skip | (go_big_quiet_want; refine qC_load3 (.tmp 31) rfl w.heap.size 17 (.int .i64 x.bot) rfl (fun w hw => hw.r.cell 17) ?_; simp only [Act.put, siB, stS, stZ]; go_big_quiet_on)
  iterate 4 first | go_big_quiet_skip | (go_big_quiet_want; go_big_quiet_op; first | go_big_quiet_on | (refine ⟨_, fun _ _ => rfl, ?_⟩; go_big_quiet_on))
  first | go_big_quiet_skip | (go_big_quiet_want; refine qC_load27 (.tmp 36) rfl w.heap.size 18 vt rfl (fun w hw => hw.r.cell 18) ?_; simp only [Act.put, siB, stS, stZ]; go_big_quiet_on)
  iterate 2 first | go_big_quiet_skip | (go_big_quiet_want; go_big_quiet_op; first | go_big_quiet_on | (refine ⟨_, fun _ _ => rfl, ?_⟩; go_big_quiet_on))
  first | go_big_quiet_skip | (go_big_quiet_want; refine qC_load3 (.tmp 39) rfl w.heap.size 0 (.int .i64 x.g.co) rfl (fun w hw => hw.r.cell 0) ?_; simp only [Act.put, siB, stS, stZ]; go_big_quiet_on)
  first | go_big_quiet_skip | (go_big_quiet_want; refine qC_call 26 #[vt, .int .i64 x.g.co] (.bool _) (fun w => by simp [go_sem]) (fun w hw => (T5.out w hw.be).mono fun e w' h => ⟨h.1, hw.below h.2⟩) ?_; simp only [Act.put, siB, stS, stZ]; go_big_quiet_on)
  iterate 3 first | go_big_quiet_skip | (go_big_quiet_want; go_big_quiet_op; first | go_big_quiet_on | (refine ⟨_, fun _ _ => rfl, ?_⟩; go_big_quiet_on))
  first | go_big_quiet_skip | (go_big_quiet_want; refine qC_load30 (.tmp 44) rfl w.heap.size 43 vl rfl (fun w hw => hw.r.cell 43) ?_; simp only [Act.put, siB, stS, stZ]; go_big_quiet_on)
  first | go_big_quiet_skip | (go_big_quiet_want; refine qC_call 27 #[vl] (.bool _) (fun w => by simp [go_sem]) (fun w hw => (T6.out w hw.be).mono fun e w' h => ⟨h.1, hw.below h.2⟩) ?_; simp only [Act.put, siB, stS, stZ]; go_big_quiet_on)
  iterate 3 first | go_big_quiet_skip | (go_big_quiet_want; go_big_quiet_op; first | go_big_quiet_on | (refine ⟨_, fun _ _ => rfl, ?_⟩; go_big_quiet_on))
  first | go_big_quiet_skip | (go_big_quiet_want; refine qC_mid 39 (.tmp 49) rfl w.heap.size 0 (gA x.g.co x.g.ro vg) _ Try.underlying39 rfl s24g rfl (fun w hw => sn_grid hw.r) ?_; simp only [Act.put, siB, stS, stZ]; go_big_quiet_on)
  first | go_big_quiet_skip | (go_big_quiet_want; refine qC_call 28 #[.agg (gA x.g.co x.g.ro vg)] (.bool _) (fun w => by simp [go_sem]) (fun w hw => (T7.out w hw.be).mono fun e w' h => ⟨h.1, hw.below h.2⟩) ?_; simp only [Act.put, siB, stS, stZ]; go_big_quiet_on)
  iterate 2 first | go_big_quiet_skip | (go_big_quiet_want; go_big_quiet_op; first | go_big_quiet_on | (refine ⟨_, fun _ _ => rfl, ?_⟩; go_big_quiet_on))
  first | go_big_quiet_skip | (go_big_quiet_want; refine qC_row32 (.tmp 1) rfl w.heap.size 47 (snA x vg vt vm vl) rfl rfl (fun w hw => hw.r) ?_; simp only [Act.put, siB, stS, stZ]; go_big_quiet_on)
  first | go_big_quiet_skip | (go_big_quiet_want; refine qC_call 29 #[.agg (snA x vg vt vm vl)] (.bool _) (fun w => by simp [go_sem]) (fun w hw => (T8.out w hw.be).mono fun e w' h => ⟨h.1, hw.below h.2⟩) ?_; simp only [Act.put, siB, stS, stZ]; go_big_quiet_on)
  iterate 2 first | go_big_quiet_skip | (go_big_quiet_want; go_big_quiet_op; first | go_big_quiet_on | (refine ⟨_, fun _ _ => rfl, ?_⟩; go_big_quiet_on))
  refine wpQuiet_nil ?_
  intro wz hz
  have FZ := Box'.mk hz
  clear hz F
  go_wp2_with fail
  go_ret
  exact ⟨rfl, FZ.out.be⟩
end Go.Proofs.Ytepepoabbbjmgaa.Sc
