/- Styles compared as one. isFound: spans that rise, found by halving. The width of a number: the program's way and the reference's. Cells: Put, half. The cells of a style and of a cell, told at once. A region that draws its order, one of whose operations writes; what stood ahead of the writing is know -/
import Derived.Laws.StructEq
import Derived.BigRegion
import Derived.Test.YtepepoabbbjmgaaSGw
import Derived.Test.YtepepoabbbjmgaaSL
namespace Go.Proofs.Ytepepoabbbjmgaa.Sc
open Go.RowKit Go.BigFrame
set_option linter.unusedVariables false
set_option linter.unusedSimpArgs false
set_option maxRecDepth 100000
set_option maxHeartbeats 4000000
theorem fields24 : (Try.prog.fieldsOf 41).toList = [⟨ "Fg", 3, 0, false, "", "", 0⟩, ⟨ "Bg", 3, 1, false, "", "", 8⟩, ⟨ "Bold", 4, 2, false, "", "", 16⟩, ⟨ "Faint", 4, 3, false, "", "", 17⟩, ⟨ "Italic", 4, 4, false, "", "", 18⟩, ⟨ "Under", 4, 5, false, "", "", 19⟩, ⟨ "Blink", 4, 6, false, "", "", 20⟩, ⟨ "Inverse", 4, 7, false, "", "", 21⟩, ⟨ "Hidden", 4, 8, false, "", "", 22⟩, ⟨ "Struck", 4, 9, false, "", "", 23⟩] := by kernel_rfl
theorem run_part1 (w : World) (e : TypeId) (k : IntKind) (he : Try.prog.underlying e = some (.int k)) (c : Array Value) (i : Nat) (v : Value) (hc : c[i]? = some v) : (part e c i).run Try.prog w = .ok v w := by
 simp [part, isAgg, underlying, he, hc]
theorem run_partB (w : World) (e : TypeId) (he : Try.prog.underlying e = some .bool) (c : Array Value) (i : Nat) (v : Value) (hc : c[i]? = some v) : (part e c i).run Try.prog w = .ok v w := by
 simp [part, isAgg, underlying, he, hc]
theorem eqF_int (w : World) (d : Nat) (xs ys : Array Value) (nm tg pk : String) (hn : nm ≠ "_") (i bo : Nat) (em : Bool) (x y : Int) (hx : xs[i]? = some (.int .i64 x)) (hy : ys[i]? = some (.int .i64 y)) (fs : List Field) :
  (Op.eqFields (d + 1) xs ys (⟨nm, 3, i, em, tg, pk, bo⟩ :: fs)).run Try.prog w = if x = y then (Op.eqFields (d + 1) xs ys fs).run Try.prog w else .ok false w := by
 simp only [Op.eqFields, if_pos hn, Sem.run_bind, run_part1 w 3 .i64 Try.underlying3 _ _ _ hx, run_part1 w 3 .i64 Try.underlying3 _ _ _ hy, Result.andThen_ok, run_equalIn_int w d 3 .i64 .i64 x y Try.underlying3]
 by_cases h : x = y
 ·subst h; simp
 ·rw [beq_eq_false_iff_ne.2 h]; simp [h]
theorem eqF_bool (w : World) (d : Nat) (xs ys : Array Value) (nm tg pk : String) (hn : nm ≠ "_") (i bo : Nat) (em : Bool) (x y : Bool) (hx : xs[i]? = some (.bool x)) (hy : ys[i]? = some (.bool y)) (fs : List Field) :
  (Op.eqFields (d + 1) xs ys (⟨nm, 4, i, em, tg, pk, bo⟩ :: fs)).run Try.prog w = if x = y then (Op.eqFields (d + 1) xs ys fs).run Try.prog w else .ok false w := by
 simp only [Op.eqFields, if_pos hn, Sem.run_bind, run_partB w 4 Try.underlying4 _ _ _ hx, run_partB w 4 Try.underlying4 _ _ _ hy, Result.andThen_ok, run_equalIn_bool' w d 4 x y Try.underlying4]
 cases x <;> cases y <;> simp
theorem st_ext (s t : St) : stB s t = true ↔ s.fg = t.fg ∧ s.bg = t.bg ∧ s.b1 = t.b1 ∧ s.b2 = t.b2 ∧ s.b3 = t.b3 ∧ s.b4 = t.b4 ∧ s.b5 = t.b5 ∧ s.b7 = t.b7 ∧ s.b8 = t.b8 ∧ s.b9 = t.b9 := by
 rw [stB_iff]
 cases s; cases t; simp
theorem ite_dec {p q : Prop} [Decidable p] [Decidable q] (w : World) : (if p then (Result.ok (decide q) w : Result Bool) else .ok false w) = .ok (decide (p ∧ q)) w := by
 by_cases h : p <;> simp [h]
theorem run_eq_style (w : World) (d : Nat) (s t : St) : (Op.equalIn (d + 2) 41 (.agg (sA s)) (.agg (sA t))).run Try.prog w = .ok (stB s t) w := by
 rw [run_equalIn_struct w (d + 1) 41 _ _ (by kernel_rfl) (by kernel_rfl), fields24]
 rw [eqF_int w d _ _ _ _ _ (by decide) 0 _ _ s.fg t.fg rfl rfl, eqF_int w d _ _ _ _ _ (by decide) 1 _ _ s.bg t.bg rfl rfl]
 rw [eqF_bool w d _ _ _ _ _ (by decide) 2 _ _ s.b1 t.b1 rfl rfl, eqF_bool w d _ _ _ _ _ (by decide) 3 _ _ s.b2 t.b2 rfl rfl, eqF_bool w d _ _ _ _ _ (by decide) 4 _ _ s.b3 t.b3 rfl rfl, eqF_bool w d _ _ _ _ _ (by decide) 5 _ _ s.b4 t.b4 rfl rfl, eqF_bool w d _ _ _ _ _ (by decide) 6 _ _ s.b5 t.b5 rfl rfl, eqF_bool w d _ _ _ _ _ (by decide) 7 _ _ s.b7 t.b7 rfl rfl, eqF_bool w d _ _ _ _ _ (by decide) 8 _ _ s.b8 t.b8 rfl rfl, eqF_bool w d _ _ _ _ _ (by decide) 9 _ _ s.b9 t.b9 rfl rfl]
 have e : ∀ p : Prop, [Decidable p] → (if p then (Op.eqFields (d + 1) (sA s) (sA t) []).run Try.prog w else .ok false w) = .ok (decide p) w := by
  intro p _
  by_cases h : p <;> simp [h, Op.eqFields]
 rw [e]
 repeat rw [ite_dec]
 congr 1
 cases e : stB s t with
 | true => exact decide_eq_true ((st_ext s t).1 e)
 | false => exact decide_eq_false (fun h => by rw [(st_ext s t).2 h] at e; cases e)
theorem run_eql_style (w : World) (s t : St) : (binOp .eql 41 (.agg (sA s)) (.agg (sA t))).run Try.prog w = .ok (.bool (stB s t)) w := by
 rw [run_eql_struct, run_eq_style w 9998 s t]; rfl
theorem guard24 : Try.prog.eqGuardType Try.prog.depth 41 = false := by kernel_rfl
/-- The same as an operation. -/
theorem run_eql_op {op : Oper} {a : Act} (ty : TypeId) (x y : Operand) (ho : op.op = .binOp .eql 41 x y ty) (s t : St) (hx : a.eval x = .agg (sA s)) (hy : a.eval y = .agg (sA t)) (r : Bool) (hr : stB s t = r) (w : World) :
  (execOp a.eval op).run Try.prog w = .ok (.value (.bool r)) w := by
 unfold execOp
 simp only [ho, hx, hy, Sem.run_bind, run_eqGuard_agg w .eql 41 x y (sA s) (sA t) guard24, Result.andThen_ok, run_eql_style w s t, hr, Sem.run_pure]
theorem found_any (v : Value) (l : List (Int × Int)) (hl : l.length ≤ 1000000) (hr : Rises l) (c : Int) (w : World) (h : Sps w.heap.size w v l) :
  Calls Try.prog 56 #[v, .int .i32 c] w fun e w' => e = .returned (.bool (inF l c)) ∧ Below w.heap.size w w' := by
 obtain ⟨a, cp, rfl, hc, h3⟩ := h
 have hcl : ∀ k, k < l.length → ∃ b o, a = some ⟨b, o, none⟩ ∧ b < w.heap.size ∧ w.cell? ⟨b, o + k * 2, none⟩ = some (.int .i32 (l.getD k (0, 0)).1) ∧ w.cell? ⟨b, o + k * 2 + 1, none⟩ = some (.int .i32 (l.getD k (0, 0)).2) := by
  intro k hk
  rcases h3 with rfl | ⟨b, o, rfl, h5, h6⟩
  ·simp at hk
  exact ⟨b, o, rfl, h5, h6 k hk⟩
 have HCL := Box'.mk hcl
 have YES : Box' (∀ k, k < l.length → (l.getD k (0, 0)).1 ≤ c → c ≤ (l.getD k (0, 0)).2 → inF l c = true) := ⟨fun k hk h1 h2 => (in_iff l c).2 ⟨k, hk, h1, h2⟩⟩
 have NO : Box' ((∀ k, k < l.length → ¬ ((l.getD k (0, 0)).1 ≤ c ∧ c ≤ (l.getD k (0, 0)).2)) → inF l c = false) := ⟨in_none⟩
 have LO : Box' (∀ m, m < l.length → c < (l.getD m (0, 0)).1 → ∀ j, m ≤ j → j < l.length → c < (l.getD j (0, 0)).1) := ⟨fun m hm h j h1 h2 => by
  have := (hr.le (j - m) m (by omega)).1
  rw [show m + (j - m) = j by omega] at this
  omega⟩
 have HI : Box' (∀ m, m < l.length → (l.getD m (0, 0)).2 < c → ∀ j, j < m + 1 → (l.getD j (0, 0)).2 < c) := ⟨fun m hm h j h1 => by
  have := (hr.le (m - j) j (by omega)).2
  rw [show j + (m - j) = m by omega] at this
  omega⟩
 generalize hn : l.length = n at *
 clear hcl h3 hn hr
 go_enter Try.func56, Try.ntmps56
 go_wp2_with fail
 go_loopw [5, 6] (fun i j wr => ∃ lo hi : Nat, lo ≤ hi ∧ hi ≤ n ∧ i = .int .u64 (lo : Int) ∧ j = .int .u64 (hi : Int) ∧ Box' (∀ j, j < lo → (l.getD j (0, 0)).2 < c) ∧ Box' (∀ j, hi ≤ j → j < n → c < (l.getD j (0, 0)).1) ∧ Below w.heap.size w wr) (fun i j _ => (intOf j).toNat - (intOf i).toNat)
 case atStart => exact ⟨0, n, by omega, by omega, rfl, rfl, ⟨fun j hj => by omega⟩, ⟨fun j h1 h2 => by omega⟩, Below.refl _ _⟩
 case round =>
  obtain ⟨lo, hi, hlh, hhn, rfl, rfl, HL, HH, hbl⟩ := hrel
  by_cases hlt : lo < hi
  ·obtain ⟨m, hm⟩ : ∃ m, m = (lo + hi) / 2 := ⟨_, rfl⟩
   have hm1 : lo ≤ m := by omega
   have hm2 : m < hi := by omega
   have HMM : Box' (m = (lo + hi) / 2) := ⟨hm⟩
   have hmi : ((lo : Int) + (hi : Int)) / 2 = (m : Int) := by omega
   clear hm
   obtain ⟨b, o, rfl, hbw, c0, c1⟩ := HCL.out m (by omega)
   have YK := Box'.mk (YES.out m (by omega))
   have LK := Box'.mk (LO.out m (by omega))
   have HK := Box'.mk (HI.out m (by omega))
   obtain ⟨hc0, -⟩ := bcell hbl
   rw [← hc0 _ _ hbw] at c0 c1
   have hbs := hbl.size
   clear hc0
   generalize l.getD m (0, 0) = x at *
   obtain ⟨x0, x1⟩ := x
   simp only at c0 c1
   have bl2 : Box' (Below w.heap.size w (wr.alloc (.cells #[.int .i32 x0, .int .i32 x1] 86))) := ⟨hbl.alloc hbs _⟩
   by_cases h1 : c < x0
   ·have e := Box'.mk (LK.out h1)
    clear HCL YES NO YK HK LK hbl LO HI HH
    go_wp2_with fail
    refine ⟨⟨lo, m, by omega, by omega, rfl, rfl, HL, e, bl2.out⟩, by simp [intOf]; omega⟩
   ·by_cases h2 : c > x1
    ·have e := Box'.mk (HK.out h2)
     clear HCL YES NO YK HK LK hbl LO HI HL
     go_wp2_with fail
     refine ⟨⟨m + 1, hi, by omega, by omega, by go_num, rfl, e, HH, bl2.out⟩, by simp [intOf]; omega⟩
    ·have e := Box'.mk (YK.out (by omega) (by omega))
     clear HCL YES NO YK HK LK hbl LO HI HL HH
     go_wp2_with fail
     go_ret
     exact ⟨by rw [e.out]; rfl, bl2.out⟩
  ·obtain rfl : lo = hi := by omega
   have e := Box'.mk (NO.out (fun k hk h => by
    by_cases hkl : k < lo
    ·have := HL.out k hkl; omega
    ·have := HH.out k (by omega) hk; omega))
   clear HCL YES NO LO HI HL HH
   go_wp2_with fail
   go_ret
   exact ⟨by rw [e.out]; rfl, hbl⟩
theorem of_any (c : Int) (w : World) : Calls Try.prog 46 #[.int .i32 c] w fun e w' => e = .returned (.int .i64 (ofF c)) ∧ Below w.heap.size w w' := by
 have HW := Box'.mk (hasWidth_any c w)
 have i80 := Box'.mk info80
 have i82 := Box'.mk info82
 have s80 := Box'.mk (size_of_zero info80)
 have s82 := Box'.mk (size_of_zero info82)
 cases hh : hw c with
 | false =>
  rw [hh] at HW
  have e := Box'.mk (show ofF c = -1 by unfold ofF; rw [hh]; rfl)
  go_enter Try.func46, Try.ntmps46
  go_wp2_with fail
  refine HW.out.mono ?_
  rintro x w1 ⟨rfl, rfl⟩
  go_wp2_with fail
  go_ret
  exact ⟨by rw [e.out]; rfl, Below.refl _ _⟩
 | true =>
  rw [hh] at HW
  by_cases hc : c < 768
  ·have e := Box'.mk (of_low hh hc)
   go_enter Try.func46, Try.ntmps46
   go_wp2_with fail
   refine HW.out.mono ?_
   rintro x w1 ⟨rfl, rfl⟩
   go_wp2_with fail
   go_ret
   exact ⟨by rw [e.out]; rfl, Below.refl _ _⟩
  ·have e : Box' (ofF c = if inF zeroL c then 0 else if inF wideL c then 2 else 1) := ⟨by unfold ofF; rw [hh]; rfl⟩
   have ZT := Box'.mk (zeroTable_any w)
   obtain ⟨Z, hz⟩ : ∃ Z, Box' (spA zeroL = Z) := ⟨_, ⟨rfl⟩⟩
   obtain ⟨Y, hy⟩ : ∃ Y, Box' (spA wideL = Y) := ⟨_, ⟨rfl⟩⟩
   have oz := Box'.mk (spA_one zeroL)
   have oy := Box'.mk (spA_one wideL)
   have nz := Box'.mk zero_size
   have ny := Box'.mk wide_size
   rw [hz.out] at ZT oz nz
   rw [hy.out] at oy ny
   clear hh
   go_enter Try.func46, Try.ntmps46
   go_wp2_with fail
   refine HW.out.mono ?_
   rintro x w1 ⟨rfl, rfl⟩
   clear HW
   go_wp2_with fail
   refine ZT.out.mono ?_
   rintro x w2 ⟨rfl, hb2⟩
   clear ZT
   have B2 := Box'.mk hb2
   have R2 := Box'.mk (Row.new w2 87 (zs 52))
   have BA2 := Box'.mk ((Below.refl w2.heap.size w2).alloc (Nat.le_refl _) (.cells (zs 52) 87))
   clear hb2
   go_wp2_with (first
    | (refine wpList_alloc_row rfl 87 rfl (zs 52) 52 i80.out ?_)
    | (refine wpList_store_row rfl 87 (.tmp 3) (.tmp 10) rfl w2.heap.size rfl Z rfl 87 52 (R2.out.room (zs_size 52)) s80.out nz.out oz.out ?_))
   have R3 := Box'.mk (R2.out.setRow Z)
   have B3 : Box' (Below w1.heap.size w1 ((w2.alloc (.cells (zs 52) 87)).setRow w2.heap.size Z)) := ⟨below_setRow (B2.out.trans (BA2.out.mono B2.out.size)) B2.out.size _⟩
   have FZ : Box' (Calls Try.prog 56 #[.slice (some ⟨w2.heap.size, 0, none⟩) 26 26, .int .i32 c] ((w2.alloc (.cells (zs 52) 87)).setRow w2.heap.size Z) fun e w' => e = .returned (.bool (inF zeroL c)) ∧ Below ((w2.alloc (.cells (zs 52) 87)).setRow w2.heap.size Z).heap.size ((w2.alloc (.cells (zs 52) 87)).setRow w2.heap.size Z) w') := ⟨by
    refine found_any _ zeroL (by decide) rises_zero c _ ?_
    have r := R3.out
    rw [← hz.out] at r ⊢
    exact r.sps rfl⟩
   clear R2 R3 BA2 B2
   generalize ((w2.alloc (.cells (zs 52) 87)).setRow w2.heap.size Z) = w3 at *
   refine FZ.out.mono ?_
   rintro x w4 ⟨rfl, hb4⟩
   have B4 := Box'.mk (B3.out.trans (hb4.mono B3.out.size))
   clear FZ B3 hb4
   cases h1 : inF zeroL c with
   | true =>
    have e2 := Box'.mk (show ofF c = 0 by rw [e.out, h1]; rfl)
    clear h1 e
    go_wp2_with fail
    go_ret
    exact ⟨by rw [e2.out]; rfl, B4.out⟩
   | false =>
    have e2 : Box' (ofF c = if inF wideL c then 2 else 1) := ⟨by rw [e.out, h1]; rfl⟩
    clear h1 e
    have WT := Box'.mk (wideTable_any w4)
    rw [hy.out] at WT
    go_wp2_with fail
    refine WT.out.mono ?_
    rintro x w5 ⟨rfl, hb5⟩
    clear WT
    have B5 := Box'.mk (B4.out.trans (hb5.mono B4.out.size))
    have R5 := Box'.mk (Row.new w5 91 (zs 74))
    have BA5 := Box'.mk ((Below.refl w5.heap.size w5).alloc (Nat.le_refl _) (.cells (zs 74) 91))
    clear hb5 B4
    go_wp2_with (first
     | (refine wpList_alloc_row rfl 91 rfl (zs 74) 74 i82.out ?_)
     | (refine wpList_store_row rfl 91 (.tmp 4) (.tmp 14) rfl w5.heap.size rfl Y rfl 91 74 (R5.out.room (zs_size 74)) s82.out ny.out oy.out ?_))
    have R6 := Box'.mk (R5.out.setRow Y)
    have B6 : Box' (Below w1.heap.size w1 ((w5.alloc (.cells (zs 74) 91)).setRow w5.heap.size Y)) := ⟨below_setRow (B5.out.trans (BA5.out.mono B5.out.size)) B5.out.size _⟩
    have FY : Box' (Calls Try.prog 56 #[.slice (some ⟨w5.heap.size, 0, none⟩) 37 37, .int .i32 c] ((w5.alloc (.cells (zs 74) 91)).setRow w5.heap.size Y) fun e w' => e = .returned (.bool (inF wideL c)) ∧ Below ((w5.alloc (.cells (zs 74) 91)).setRow w5.heap.size Y).heap.size ((w5.alloc (.cells (zs 74) 91)).setRow w5.heap.size Y) w') := ⟨by
     refine found_any _ wideL (by decide) rises_wide c _ ?_
     have r := R6.out
     rw [← hy.out] at r ⊢
     exact r.sps rfl⟩
    clear R5 R6 BA5 B5
    generalize ((w5.alloc (.cells (zs 74) 91)).setRow w5.heap.size Y) = w6 at *
    refine FY.out.mono ?_
    rintro x w7 ⟨rfl, hb7⟩
    have B7 := Box'.mk (B6.out.trans (hb7.mono B6.out.size))
    clear FY B6 hb7
    cases h1 : inF wideL c with
    | true =>
     have e3 := Box'.mk (show ofF c = 2 by rw [e2.out, h1]; rfl)
     clear h1 e2
     go_wp2_with fail
     go_ret
     exact ⟨by rw [e3.out]; rfl, B7.out⟩
    | false =>
     have e3 := Box'.mk (show ofF c = 1 by rw [e2.out, h1]; rfl)
     clear h1 e2
     go_wp2_with fail
     go_ret
     exact ⟨by rw [e3.out]; rfl, B7.out⟩
structure Cl where
 ch : Int
 m0 : Int
 m1 : Int
 m2 : Int
 wd : Nat
 st : St
/-- The cells of a cell. -/
def cA (x : Cl) : Array Value := #[.int .i32 x.ch, .int .i32 x.m0, .int .i32 x.m1, .int .i32 x.m2, .int .u8 (x.wd : Int), .int .i64 x.st.fg, .int .i64 x.st.bg, .bool x.st.b1, .bool x.st.b2, .bool x.st.b3, .bool x.st.b4, .bool x.st.b5, .bool x.st.b7, .bool x.st.b8, .bool x.st.b9]
def hf (s : St) : Cl := ⟨0, 0, 0, 0, 0, s⟩
theorem results23 (tmps : Array Value) (b : Nat) (hx : tmps.getD 2 undef = .pointer (some ⟨b, 0, none⟩)) (w : World) (c : Array Value) (hr : Row w b 72 c) (hn : c.size = 15) : (results Try.f45 tmps).run Try.prog w = .ok (.agg c) w :=
 results_row (p := 2) (ty := 72) rfl tmps b hx 72 c hr _ Try.underlying72 rfl 15 s26 hn
theorem half_any (s : St) (w : World) : Calls Try.prog 45 #[.agg (sA s)] w fun e w' => e = .returned (.agg (cA (hf s))) ∧ Below w.heap.size w w' := by
 obtain ⟨fg, bg, y1, y2, y3, y4, y5, y7, y8, y9⟩ := s
 unfold sA cA hf
 simp only
 go_enter Try.func45, Try.ntmps45
 go_wp2_with fail
 exact bodyPost_ret (results23 _ (w.heap.size + 1) rfl _ _ (Row.made _ _ _ _ _ rfl (by simp)) rfl) rfl ⟨rfl, ((Below.refl w.heap.size w).alloc (Nat.le_refl _) _).alloc (by simp) _⟩
/-- The slice v has the cells l, in a block below N. -/
def Cls (N : Nat) (w : World) (v : Value) (l : List Cl) : Prop :=
 ∃ a c, v = .slice a l.length c ∧ l.length ≤ c ∧ (l = [] ∨ ∃ b o, a = some ⟨b, o, none⟩ ∧ b < N ∧
  ∀ k, k < l.length → ∀ j, j < 15 → w.cell? ⟨b, o + k * 15 + j, none⟩ = (cA (l.getD k (hf pl)))[j]?)
theorem Cls.below {N M : Nat} {w w' : World} {v : Value} {l : List Cl} (h : Cls N w v l) (hb : Below M w w') (hN : N ≤ M) : Cls N w' v l := by
 obtain ⟨a, c, h1, h2, h4⟩ := h
 refine ⟨a, c, h1, h2, ?_⟩
 rcases h4 with h4 | ⟨b, o, h5, h6, h7⟩
 ·exact .inl h4
 ·refine .inr ⟨b, o, h5, h6, fun k hk j hj => ?_⟩
  rw [hb.cell (p := ⟨b, o + k * 15 + j, none⟩) (by show b < M; omega)]
  exact h7 k hk j hj
theorem Cls.up {N M : Nat} {w : World} {v : Value} {l : List Cl} (h : Cls N w v l) (hN : N ≤ M) : Cls M w v l := by
 obtain ⟨a, c, h1, h2, h4⟩ := h
 refine ⟨a, c, h1, h2, ?_⟩
 rcases h4 with h4 | ⟨b, o, h5, h6, h7⟩
 ·exact .inl h4
 ·exact .inr ⟨b, o, h5, by omega, h7⟩
theorem Row.c4 {w : World} {b : Nat} {t : TypeId} {x : Cl} (h : Row w b t (cA x)) :
  w.cell? ⟨b, 0, none⟩ = some (.int .i32 x.ch) ∧ w.cell? ⟨b, 1, none⟩ = some (.int .i32 x.m0) ∧ w.cell? ⟨b, 2, none⟩ = some (.int .i32 x.m1) ∧ w.cell? ⟨b, 3, none⟩ = some (.int .i32 x.m2) :=
 ⟨h.cell 0, h.cell 1, h.cell 2, h.cell 3⟩
theorem Row.c15 {w : World} {b : Nat} {t : TypeId} {x : Cl} (h : Row w b t (cA x)) :
  w.cell? ⟨b, 0, none⟩ = some (.int .i32 x.ch) ∧ w.cell? ⟨b, 1, none⟩ = some (.int .i32 x.m0) ∧ w.cell? ⟨b, 2, none⟩ = some (.int .i32 x.m1) ∧ w.cell? ⟨b, 3, none⟩ = some (.int .i32 x.m2) ∧ w.cell? ⟨b, 4, none⟩ = some (.int .u8 (x.wd : Int)) ∧
  w.cell? ⟨b, 5, none⟩ = some (.int .i64 x.st.fg) ∧ w.cell? ⟨b, 6, none⟩ = some (.int .i64 x.st.bg) ∧ w.cell? ⟨b, 7, none⟩ = some (.bool x.st.b1) ∧ w.cell? ⟨b, 8, none⟩ = some (.bool x.st.b2) ∧ w.cell? ⟨b, 9, none⟩ = some (.bool x.st.b3) ∧
  w.cell? ⟨b, 10, none⟩ = some (.bool x.st.b4) ∧ w.cell? ⟨b, 11, none⟩ = some (.bool x.st.b5) ∧ w.cell? ⟨b, 12, none⟩ = some (.bool x.st.b7) ∧ w.cell? ⟨b, 13, none⟩ = some (.bool x.st.b8) ∧ w.cell? ⟨b, 14, none⟩ = some (.bool x.st.b9) :=
 ⟨h.cell 0, h.cell 1, h.cell 2, h.cell 3, h.cell 4, h.cell 5, h.cell 6, h.cell 7, h.cell 8, h.cell 9, h.cell 10, h.cell 11, h.cell 12, h.cell 13, h.cell 14⟩
section
variable {P : Program} {Q : Exit → Act → World → Prop}
end
theorem s21 : (Try.prog.info? 21).map (·.size) = some 1 := by kernel_rfl
theorem wpList_idx {ops : Array Oper} {rest : List Oper} {op : Oper} {a : Act} {w : World} {Q : Exit → Act → World → Prop} (hgd : op.guard = none) (x i : Operand) (ho : op.op = .index 70 x i) (c : Array Value) (k : Nat) (v : Value) (hx : a.eval x = .agg c) (hi : a.eval i = .int .i64 (k : Int)) (hk : k < 3) (hc : c[k]? = some v)
  (h : wpList Try.prog ops Q rest (a.put op.dst v) w) : wpList Try.prog ops Q (op :: rest) a w := by
 refine wpList_plain hgd fun K hK => ?_
 unfold Oper.wp execOp
 simp only [ho, hx, hi, Sem.run_bind, run_index_arr w 70 21 3 c k v .i64 .i32 Try.underlying70 Try.underlying21 s21 hk hc, Result.andThen_ok, Sem.run_pure]
 exact hK _ _ h
end Go.Proofs.Ytepepoabbbjmgaa.Sc
