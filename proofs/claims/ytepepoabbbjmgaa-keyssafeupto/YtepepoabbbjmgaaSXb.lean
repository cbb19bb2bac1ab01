/- A screen, its cells; what may be a cursor, tabulators, a title. What is kept of a cursor; which cursors may be. Which grids may be, as the reference asks: the refusals. The reference's Copy. -/
import Derived.Test.YtepepoabbbjmgaaSNg
import Derived.Test.YtepepoabbbjmgaaSNi
import Derived.Test.YtepepoabbbjmgaaSRc
import Derived.Test.YtepepoabbbjmgaaSCa
import Derived.Test.YtepepoabbbjmgaaSMb
import Derived.Test.YtepepoabbbjmgaaSNj
namespace Go.Proofs.Ytepepoabbbjmgaa.Sc
open Go.RowKit Go.BigFrame
set_option linter.unusedVariables false
set_option linter.unusedSimpArgs false
set_option maxRecDepth 100000
set_option maxHeartbeats 8000000
/-- What is kept of a cursor. -/
structure Sv where
 row : Int
 col : Int
 pend : Bool
 orig : Bool
 st : St
/-- A grid. -/
structure Gr where
 co : Int
 ro : Int
 c : List Cl
/-- A screen. -/
structure Sn where
 g : Gr
 cur : Sv
 top : Int
 bot : Int
 tabs : List Int
 wrap : Bool
 ins : Bool
 arr : Bool
 pas : Bool
 vis : Bool
 sv : Sv
 alt : Bool
 mn : Gr
 title : List Int
def svA (x : Sv) : Array Value := #[.int .i64 x.row, .int .i64 x.col, .bool x.pend, .bool x.orig, .int .i64 x.st.fg, .int .i64 x.st.bg, .bool x.st.b1, .bool x.st.b2, .bool x.st.b3, .bool x.st.b4, .bool x.st.b5, .bool x.st.b7, .bool x.st.b8, .bool x.st.b9]
/-- The cells of a screen, the values of its four lists among them. -/
def snA (x : Sn) (vg vt vm vl : Value) : Array Value := #[.int .i64 x.g.co, .int .i64 x.g.ro, vg, .int .i64 x.cur.row, .int .i64 x.cur.col, .bool x.cur.pend, .int .i64 x.cur.st.fg, .int .i64 x.cur.st.bg, .bool x.cur.st.b1, .bool x.cur.st.b2, .bool x.cur.st.b3, .bool x.cur.st.b4, .bool x.cur.st.b5, .bool x.cur.st.b7, .bool x.cur.st.b8, .bool x.cur.st.b9, .int .i64 x.top, .int .i64 x.bot, vt, .bool x.wrap, .bool x.cur.orig, .bool x.ins, .bool x.arr, .bool x.pas, .bool x.vis, .int .i64 x.sv.row, .int .i64 x.sv.col, .bool x.sv.pend, .bool x.sv.orig, .int .i64 x.sv.st.fg, .int .i64 x.sv.st.bg, .bool x.sv.st.b1, .bool x.sv.st.b2, .bool x.sv.st.b3, .bool x.sv.st.b4, .bool x.sv.st.b5, .bool x.sv.st.b7, .bool x.sv.st.b8, .bool x.sv.st.b9, .bool x.alt, .int .i64 x.mn.co, .int .i64 x.mn.ro, vm, vl]
/-- The slice v has the characters l, in a block below N. -/
def Rs (N : Nat) (w : World) (v : Value) (l : List Int) : Prop :=
 ∃ a c, v = .slice a l.length c ∧ l.length ≤ c ∧ (l = [] ∨ ∃ b o, a = some ⟨b, o, none⟩ ∧ b < N ∧
  ∀ k, k < l.length → w.cell? ⟨b, o + k, none⟩ = some (.int .i32 (l.getD k 0)))
theorem Rs.below {N M : Nat} {w w' : World} {v : Value} {l : List Int} (h : Rs N w v l) (hb : Below M w w') (hN : N ≤ M) : Rs N w' v l := by
 obtain ⟨a, c, h1, h2, h4⟩ := h
 refine ⟨a, c, h1, h2, ?_⟩
 rcases h4 with h4 | ⟨b, o, h5, h6, h7⟩
 ·exact .inl h4
 ·refine .inr ⟨b, o, h5, h6, fun k hk => ?_⟩
  rw [hb.cell (p := ⟨b, o + k, none⟩) (by show b < M; omega)]
  exact h7 k hk
theorem Rs.up {N M : Nat} {w : World} {v : Value} {l : List Int} (h : Rs N w v l) (hM : N ≤ M) : Rs M w v l := by
 obtain ⟨a, c, h1, h2, h4⟩ := h
 refine ⟨a, c, h1, h2, ?_⟩
 rcases h4 with h4 | ⟨b, o, h5, h6, h7⟩
 ·exact .inl h4
 ·exact .inr ⟨b, o, h5, by omega, h7⟩
theorem Is.upN {N M : Nat} {w : World} {v : Value} {l : List Int} (h : Is N w v l) (hM : N ≤ M) : Is M w v l := by
 obtain ⟨a, c, h1, h2, h4⟩ := h
 refine ⟨a, c, h1, h2, ?_⟩
 rcases h4 with h4 | ⟨b, o, h5, h6, h7⟩
 ·exact .inl h4
 ·exact .inr ⟨b, o, h5, by omega, h7⟩
theorem row_sub {w : World} {b : Nat} {t : TypeId} {c : Array Value} (h : Row w b t c) (o : Nat) (l : List Value) (hs : ∀ j, j < l.length → c[o + j]? = l[j]?) : w.rangeAt b o l := fun j v hv => by
 have hj := (List.getElem?_eq_some_iff.1 hv).1
 rw [h.cell, hs j hj]
 exact hv
theorem lt10 {P : Nat → Prop} (h0 : P 0) (h1 : P 1) (h2 : P 2) (h3 : P 3) (h4 : P 4) (h5 : P 5) (h6 : P 6) (h7 : P 7) (h8 : P 8) (h9 : P 9) : ∀ j, j < 10 → P j := by
 intro j hj
 rcases (show j = 0 ∨ j = 1 ∨ j = 2 ∨ j = 3 ∨ j = 4 ∨ j = 5 ∨ j = 6 ∨ j = 7 ∨ j = 8 ∨ j = 9 by omega) with rfl | rfl | rfl | rfl | rfl | rfl | rfl | rfl | rfl | rfl <;> assumption
theorem sn_grid {w : World} {b : Nat} {t : TypeId} {x : Sn} {vg vt vm vl : Value} (h : Row w b t (snA x vg vt vm vl)) : w.rangeAt b 0 (gA x.g.co x.g.ro vg).toList :=
 row_sub h 0 _ fun j hj => by
  rcases (show j = 0 ∨ j = 1 ∨ j = 2 by have : j < 3 := hj; omega) with rfl | rfl | rfl <;> rfl
theorem sn_main {w : World} {b : Nat} {t : TypeId} {x : Sn} {vg vt vm vl : Value} (h : Row w b t (snA x vg vt vm vl)) : w.rangeAt b 40 (gA x.mn.co x.mn.ro vm).toList :=
 row_sub h 40 _ fun j hj => by
  rcases (show j = 0 ∨ j = 1 ∨ j = 2 by have : j < 3 := hj; omega) with rfl | rfl | rfl <;> rfl
theorem sn_style {w : World} {b : Nat} {t : TypeId} {x : Sn} {vg vt vm vl : Value} (h : Row w b t (snA x vg vt vm vl)) : w.rangeAt b 6 (sA x.cur.st).toList :=
 row_sub h 6 _ fun j hj => lt10 (P := fun j => (snA x vg vt vm vl)[6 + j]? = (sA x.cur.st).toList[j]?) rfl rfl rfl rfl rfl rfl rfl rfl rfl rfl j hj
theorem sn_saved {w : World} {b : Nat} {t : TypeId} {x : Sn} {vg vt vm vl : Value} (h : Row w b t (snA x vg vt vm vl)) : w.rangeAt b 25 (svA x.sv).toList :=
 row_sub h 25 _ fun j hj => by
  rcases (show j = 0 ∨ j = 1 ∨ j = 2 ∨ j = 3 ∨ j = 4 ∨ j = 5 ∨ j = 6 ∨ j = 7 ∨ j = 8 ∨ j = 9 ∨ j = 10 ∨ j = 11 ∨ j = 12 ∨ j = 13 by have : j < 14 := hj; omega) with rfl | rfl | rfl | rfl | rfl | rfl | rfl | rfl | rfl | rfl | rfl | rfl | rfl | rfl <;> rfl
theorem s29 : (Try.prog.info? 44).map (·.size) = some 14 := by kernel_rfl
theorem s32 : (Try.prog.info? 47).map (·.size) = some 44 := by kernel_rfl
section
variable {ops : Array Oper} {rest : List Oper} {op : Oper} {a : Act} {w : World} {Q : Exit → Act → World → Prop}
theorem wp_load_gridM {K : Act → World → Prop} (x : Operand) (ho : op.op = .load 39 x) (b o : Nat) (co ro : Int) (v : Value) (hx : a.eval x = .pointer (some ⟨b, o, none⟩)) (hc : w.rangeAt b o (gA co ro v).toList) (h : K (a.put op.dst (.agg (gA co ro v))) w) : op.wp Try.prog a w K Q :=
 wp_load_mid 39 x ho b o hx (gA co ro v).toList _ hc Try.underlying39 rfl s24g h
theorem wpList_load_gridM (hgd : op.guard = none) (x : Operand) (ho : op.op = .load 39 x) (b o : Nat) (co ro : Int) (v : Value) (hx : a.eval x = .pointer (some ⟨b, o, none⟩)) (hc : w.rangeAt b o (gA co ro v).toList)
  (h : wpList Try.prog ops Q rest (a.put op.dst (.agg (gA co ro v))) w) : wpList Try.prog ops Q (op :: rest) a w :=
 wpList_plain hgd fun K hK => wp_load_gridM x ho b o co ro v hx hc (hK _ _ h)
end
theorem sIsIn_any (n c : Int) (w : World) : Calls Try.prog 25 #[.int .i64 n, .int .i64 c] w fun e w' => e = .returned (.bool (inN n c)) ∧ w' = w := by
 by_cases h1 : 0 ≤ n
 ·by_cases h2 : n < c
  ·have E : Box' (inN n c = true) := ⟨by unfold inN; simp; omega⟩
   go_enter Try.func25, Try.ntmps25
   go_wp2_with fail
   go_ret
   exact ⟨by rw [E.out]; rfl, rfl⟩
  ·have E : Box' (inN n c = false) := ⟨by unfold inN; simp; omega⟩
   go_enter Try.func25, Try.ntmps25
   go_wp2_with fail
   go_ret
   exact ⟨by rw [E.out]; rfl, rfl⟩
 ·have E : Box' (inN n c = false) := ⟨by unfold inN; simp; omega⟩
  go_enter Try.func25, Try.ntmps25
  go_wp2_with fail
  go_ret
  exact ⟨by rw [E.out]; rfl, rfl⟩
/-- Do numbers rise from one on, below another? -/
def tabF (ah cols : Int) : List Int → Bool
 | [] => true
 | c :: r => if c ≤ ah ∨ cols ≤ c then false else tabF c cols r
theorem tab_step (ah cols : Int) (l : List Int) (k : Nat) (hk : k < l.length) : tabF ah cols (l.drop k) = if l.getD k 0 ≤ ah ∨ cols ≤ l.getD k 0 then false else tabF (l.getD k 0) cols (l.drop (k + 1)) := by
 rw [List.drop_eq_getElem_cons hk, List.getD_eq_getElem?_getD, List.getElem?_eq_getElem hk]
 rfl
theorem mayTabs_any (v : Value) (l : List Int) (cols : Int) (hn : l.length ≤ 140737488355328) (w : World) (hv : Is w.heap.size w v l) : Calls Try.prog 26 #[v, .int .i64 cols] w fun e w' => e = .returned (.bool (tabF (-1) cols l)) ∧ Below w.heap.size w w' := by
 obtain ⟨a, cp, rfl, hcp, h3⟩ := hv
 have HC : Box' (∀ k, k < l.length → ∃ b o, a = some ⟨b, o, none⟩ ∧ ∀ wx, Below w.heap.size w wx → wx.cell? ⟨b, o + k, none⟩ = some (.int .i64 (l.getD k 0))) := ⟨fun k hk => by
  rcases h3 with h | ⟨b, o, e, hb, hc⟩
  ·rw [h] at hk; simp at hk
  ·exact ⟨b, o, e, fun wx hbe => by rw [hbe.cell (p := ⟨b, o + k, none⟩) hb]; exact hc k hk⟩⟩
 have TS := Box'.mk (fun ah => tab_step ah cols l)
 have T0 : Box' (tabF (-1) cols (l.drop 0) = tabF (-1) cols l) := ⟨by rw [List.drop_zero]⟩
 have TE : Box' (∀ ah, tabF ah cols (l.drop l.length) = true) := ⟨fun ah => by rw [List.drop_length]; rfl⟩
 clear h3
 generalize tabF (-1) cols l = R at *
 go_enter Try.func26, Try.ntmps26
 go_wp2_with fail
 go_loopw [5, 10] (fun d i wr => ∃ (k : Nat) (ah : Int), k ≤ l.length ∧ i = .int .i64 (k : Int) ∧ d = .int .i64 ah ∧ Box' (tabF ah cols (l.drop k) = R) ∧ Box' (Below w.heap.size w wr)) (fun _ i _ => l.length - (intOf i).toNat)
 case atStart => exact ⟨0, -1, by omega, rfl, rfl, T0, ⟨Below.refl _ _⟩⟩
 case round =>
  obtain ⟨k, ah, hk, rfl, rfl, TT, BB⟩ := hrel
  clear T0
  by_cases hlt : k < l.length
  case neg =>
   have e : k = l.length := by omega
   have E : Box' (R = true) := ⟨by rw [← TT.out, e]; exact TE.out ah⟩
   clear e TT
   go_wp2_with fail
   go_ret
   exact ⟨by rw [E.out]; rfl, BB.out⟩
  case pos =>
   obtain ⟨b, o, rfl, hc⟩ := HC.out k hlt
   have c0 := hc wr BB.out
   have S := TS.out ah k hlt
   rw [TT.out] at S
   generalize hz : l.getD k 0 = z at *
   clear hz hc
   by_cases q1 : z ≤ ah
   case pos =>
    have E : Box' (R = false) := ⟨by rw [S, if_pos (.inl q1)]⟩
    clear S TT
    go_wp2_with fail
    go_ret
    exact ⟨by rw [E.out]; rfl, BB.out⟩
   case neg =>
    by_cases q2 : cols ≤ z
    case pos =>
     have E : Box' (R = false) := ⟨by rw [S, if_pos (.inr q2)]⟩
     clear S TT
     go_wp2_with fail
     go_ret
     exact ⟨by rw [E.out]; rfl, BB.out⟩
    case neg =>
     have E : Box' (tabF z cols (l.drop (k + 1)) = R) := ⟨by rw [S, if_neg (by omega)]⟩
     clear S TT
     go_wp2_with fail
     exact ⟨⟨k + 1, z, by omega, by go_num, rfl, E, BB⟩, by simp [intOf]; omega⟩
def titF (l : List Int) : Bool := decide (l.length ≤ 256) && l.all fun c => decide (0 ≤ c)
theorem tit_long {l : List Int} (h : 256 < l.length) : titF l = false := by unfold titF; rw [decide_eq_false (by omega)]; rfl
theorem tit_yes {l : List Int} (h : l.length ≤ 256) (h2 : ∀ k, k < l.length → 0 ≤ l.getD k 0) : titF l = true := by
 unfold titF
 rw [decide_eq_true h, Bool.true_and, List.all_eq_true]
 intro x hx
 obtain ⟨i, hi, rfl⟩ := List.getElem_of_mem hx
 have := h2 i hi
 rw [List.getD_eq_getElem?_getD, List.getElem?_eq_getElem hi] at this
 exact decide_eq_true this
theorem tit_no {l : List Int} (k : Nat) (hk : k < l.length) (h2 : l.getD k 0 < 0) : titF l = false := by
 unfold titF
 cases e : l.all fun c => decide (0 ≤ c) with
 | false => rw [Bool.and_false]
 | true =>
  rw [List.all_eq_true] at e
  have h3 := of_decide_eq_true (e l[k] (List.getElem_mem hk))
  rw [List.getD_eq_getElem?_getD, List.getElem?_eq_getElem hk] at h2
  have : l[k] < 0 := h2
  omega
theorem mayTitle_any (v : Value) (l : List Int) (w : World) (hv : Rs w.heap.size w v l) : Calls Try.prog 27 #[v] w fun e w' => e = .returned (.bool (titF l)) ∧ Below w.heap.size w w' := by
 obtain ⟨a, cp, rfl, hcp, h3⟩ := hv
 by_cases hlong : 256 < l.length
 case pos =>
  rw [tit_long hlong]
  have h1 : (256 : Int) < (l.length : Int) := by omega
  clear h3
  go_enter Try.func27, Try.ntmps27
  go_wp2_with fail
  go_ret
  exact ⟨rfl, Below.refl _ _⟩
 case neg =>
  have h1 : ¬ (256 : Int) < (l.length : Int) := by omega
  have HC : Box' (∀ k, k < l.length → ∃ b o, a = some ⟨b, o, none⟩ ∧ ∀ wx, Below w.heap.size w wx → wx.cell? ⟨b, o + k, none⟩ = some (.int .i32 (l.getD k 0))) := ⟨fun k hk => by
   rcases h3 with h | ⟨b, o, e, hb, hc⟩
   ·rw [h] at hk; simp at hk
   ·exact ⟨b, o, e, fun wx hbe => by rw [hbe.cell (p := ⟨b, o + k, none⟩) hb]; exact hc k hk⟩⟩
  have YES : Box' ((∀ k, k < l.length → 0 ≤ l.getD k 0) → titF l = true) := ⟨fun h => tit_yes (by omega) h⟩
  have NO : Box' (∀ k, k < l.length → l.getD k 0 < 0 → titF l = false) := ⟨fun k hk h => tit_no k hk h⟩
  clear h3
  generalize titF l = R at *
  go_enter Try.func27, Try.ntmps27
  go_wp2_with fail
  go_loopw [10] (fun i wr => ∃ (k : Nat), k ≤ l.length ∧ i = .int .i64 (k : Int) ∧ Box' (∀ j, j < k → 0 ≤ l.getD j 0) ∧ Box' (Below w.heap.size w wr)) (fun i _ => l.length - (intOf i).toNat)
  case atStart => exact ⟨0, by omega, rfl, ⟨fun j hj => by omega⟩, ⟨Below.refl _ _⟩⟩
  case round =>
   obtain ⟨k, hk, rfl, AL, BB⟩ := hrel
   by_cases hlt : k < l.length
   case neg =>
    have E : Box' (R = true) := ⟨YES.out fun j hj => AL.out j (by omega)⟩
    go_wp2_with fail
    go_ret
    exact ⟨by rw [E.out]; rfl, BB.out⟩
   case pos =>
    obtain ⟨b, o, rfl, hc⟩ := HC.out k hlt
    have c0 := hc wr BB.out
    have NK := NO.out k hlt
    have A2 : 0 ≤ l.getD k 0 → Box' (∀ j, j < k + 1 → 0 ≤ l.getD j 0) := fun h => ⟨fun j hj => by
     rcases Nat.lt_or_ge j k with q | q
     ·exact AL.out j q
     ·have e : j = k := by omega
      rw [e]; exact h⟩
    clear AL hc
    generalize l.getD k 0 = z at *
    by_cases q1 : z < 0
    case pos =>
     have E := Box'.mk (NK q1)
     clear A2 NK
     go_wp2_with fail
     go_ret
     exact ⟨by rw [E.out]; rfl, BB.out⟩
    case neg =>
     have A3 := A2 (by omega)
     clear A2 NK
     go_wp2_with fail
     exact ⟨⟨k + 1, by omega, by go_num, A3, BB⟩, by simp [intOf]; omega⟩
theorem svA_one (x : Sv) : (svA x).all (·.oneCell') = true := by simp [svA, Value.oneCell']
theorem cursorOf_any (x : Sn) (vg vt vm vl : Value) (w : World) : Calls Try.prog 24 #[.agg (snA x vg vt vm vl)] w fun e w' => e = .returned (.agg (svA x.cur)) ∧ Below w.heap.size w w' := by
 have R1 := Box'.mk ((Row.new w 47 (snA x vg vt vm vl)).alloc (.cells #[.int .i64 0, .int .i64 0, .bool false, .bool false, .int .i64 0, .int .i64 0, .bool false, .bool false, .bool false, .bool false, .bool false, .bool false, .bool false, .bool false] 44))
 have RM : Box' (Room ((w.alloc (.cells (snA x vg vt vm vl) 47)).alloc (.cells #[.int .i64 0, .int .i64 0, .bool false, .bool false, .int .i64 0, .int .i64 0, .bool false, .bool false, .bool false, .bool false, .bool false, .bool false, .bool false, .bool false] 44)) (w.heap.size + 1) 44 14) := ⟨Room.made _ _ _ _ _ rfl (by simp)⟩
 have B1 : Box' (Below w.heap.size w ((w.alloc (.cells (snA x vg vt vm vl) 47)).alloc (.cells #[.int .i64 0, .int .i64 0, .bool false, .bool false, .int .i64 0, .int .i64 0, .bool false, .bool false, .bool false, .bool false, .bool false, .bool false, .bool false, .bool false] 44))) := ⟨((Below.refl w.heap.size w).alloc (Nat.le_refl _) _).alloc (by simp) _⟩
 have S29 := Box'.mk s29
 have O := Box'.mk (svA_one x.cur)
 go_enter Try.func24, Try.ntmps24
 go_upto_region 1 with (fail)
 generalize ((w.alloc (.cells (snA x vg vt vm vl) 47)).alloc (.cells #[.int .i64 0, .int .i64 0, .bool false, .bool false, .int .i64 0, .int .i64 0, .bool false, .bool false, .bool false, .bool false, .bool false, .bool false, .bool false, .bool false] 44)) = w1 at *
 have c3 : w1.cell? ⟨w.heap.size, 3, none⟩ = some (.int .i64 x.cur.row) := R1.out.cell 3
 have c4 : w1.cell? ⟨w.heap.size, 4, none⟩ = some (.int .i64 x.cur.col) := R1.out.cell 4
 have c5 : w1.cell? ⟨w.heap.size, 5, none⟩ = some (.bool x.cur.pend) := R1.out.cell 5
 have c20 : w1.cell? ⟨w.heap.size, 20, none⟩ = some (.bool x.cur.orig) := R1.out.cell 20
 have cs0 : w1.cell? ⟨w.heap.size, 6, none⟩ = some (.int .i64 x.cur.st.fg) := R1.out.cell 6
 have cs1 : w1.cell? ⟨w.heap.size, 7, none⟩ = some (.int .i64 x.cur.st.bg) := R1.out.cell 7
 have cs2 : w1.cell? ⟨w.heap.size, 8, none⟩ = some (.bool x.cur.st.b1) := R1.out.cell 8
 have cs3 : w1.cell? ⟨w.heap.size, 9, none⟩ = some (.bool x.cur.st.b2) := R1.out.cell 9
 have cs4 : w1.cell? ⟨w.heap.size, 10, none⟩ = some (.bool x.cur.st.b3) := R1.out.cell 10
 have cs5 : w1.cell? ⟨w.heap.size, 11, none⟩ = some (.bool x.cur.st.b4) := R1.out.cell 11
 have cs6 : w1.cell? ⟨w.heap.size, 12, none⟩ = some (.bool x.cur.st.b5) := R1.out.cell 12
 have cs7 : w1.cell? ⟨w.heap.size, 13, none⟩ = some (.bool x.cur.st.b7) := R1.out.cell 13
 have cs8 : w1.cell? ⟨w.heap.size, 14, none⟩ = some (.bool x.cur.st.b8) := R1.out.cell 14
 have cs9 : w1.cell? ⟨w.heap.size, 15, none⟩ = some (.bool x.cur.st.b9) := R1.out.cell 15
 go_wp2_with (first
  | (refine wpList_store_row rfl 44 (.tmp 2) (.tmp 13) rfl (w.heap.size + 1) rfl (svA x.cur) rfl 44 14 RM.out S29.out rfl O.out ?_))
 exact bodyPost_ret (results_row (p := 2) (ty := 44) (fn := Try.f24) rfl _ (w.heap.size + 1) rfl 44 _ (RM.out.setRow _) _ Try.underlying44 rfl 14 s29 rfl) rfl ⟨rfl, below_setRow B1.out (by omega) _⟩
/-- May a grid's screen have this cursor? -/
def curF (co ro : Int) (y : Sv) : Bool := inN y.row ro && (inN y.col co && ((!y.pend || decide (y.col = co - 1)) && mayS y.st))
structure CuM (w : World) (g y : Array Value) (wr : World) : Prop where
 rg : Row wr w.heap.size 39 g
 ry : Row wr (w.heap.size + 1) 44 y
 be : Below w.heap.size w wr
theorem CuM.begin (w : World) (g y : Array Value) : CuM w g y ((w.alloc (.cells g 39)).alloc (.cells y 44)) :=
 ⟨(Row.new _ _ _).alloc _, Row.made _ _ _ _ _ rfl (by simp), ((Below.refl w.heap.size w).alloc (Nat.le_refl _) _).alloc (by simp) _⟩
theorem mayC_hf (s : St) : mayC (hf s) = mayS s := by
 cases h : mayS s with
 | false => unfold mayC; rw [if_pos (show mayS (hf s).st = false from h)]
 | true =>
  unfold mayC
  rw [if_neg (show ¬ mayS (hf s).st = false by rw [show (hf s).st = s from rfl, h]; simp)]
  simp [hf]
theorem cur_0 (co ro : Int) (v : Value) (y : Sv) (w : World) (h1 : inN y.row ro = false) : Calls Try.prog 23 #[.agg (gA co ro v), .agg (svA y)] w fun e w' => e = .returned (.bool false) ∧ Below w.heap.size w w' := by
 have I1 := Box'.mk (sIsIn_any y.row ro)
 have I2 := Box'.mk (sIsIn_any y.col co)
 rw [h1] at I1
 clear h1
 have F := Box'.mk (CuM.begin w (gA co ro v) (svA y))
 go_enter Try.func23, Try.ntmps23
 go_upto_region 1 with (fail)
 generalize ((w.alloc (.cells (gA co ro v) 39)).alloc (.cells (svA y) 44)) = w1 at *
 have g0 : w1.cell? ⟨w.heap.size, 0, none⟩ = some (.int .i64 co) := F.out.rg.cell 0
 have g1 : w1.cell? ⟨w.heap.size, 1, none⟩ = some (.int .i64 ro) := F.out.rg.cell 1
 have y0 : w1.cell? ⟨w.heap.size + 1, 0, none⟩ = some (.int .i64 y.row) := F.out.ry.cell 0
 have y1 : w1.cell? ⟨w.heap.size + 1, 1, none⟩ = some (.int .i64 y.col) := F.out.ry.cell 1
 have y2 : w1.cell? ⟨w.heap.size + 1, 2, none⟩ = some (.bool y.pend) := F.out.ry.cell 2
 go_wp2_with fail
 refine (I1.out _).mono ?_
 rintro e w2 ⟨rfl, rfl⟩
 go_wp2_with fail
 go_ret
 exact ⟨rfl, F.out.be⟩
theorem cur_1 (co ro : Int) (v : Value) (y : Sv) (w : World) (h1 : inN y.row ro = true) (h2 : inN y.col co = false) : Calls Try.prog 23 #[.agg (gA co ro v), .agg (svA y)] w fun e w' => e = .returned (.bool false) ∧ Below w.heap.size w w' := by
 have I1 := Box'.mk (sIsIn_any y.row ro)
 have I2 := Box'.mk (sIsIn_any y.col co)
 rw [h1] at I1
 rw [h2] at I2
 clear h1 h2
 have F := Box'.mk (CuM.begin w (gA co ro v) (svA y))
 go_enter Try.func23, Try.ntmps23
 go_upto_region 1 with (fail)
 generalize ((w.alloc (.cells (gA co ro v) 39)).alloc (.cells (svA y) 44)) = w1 at *
 have g0 : w1.cell? ⟨w.heap.size, 0, none⟩ = some (.int .i64 co) := F.out.rg.cell 0
 have g1 : w1.cell? ⟨w.heap.size, 1, none⟩ = some (.int .i64 ro) := F.out.rg.cell 1
 have y0 : w1.cell? ⟨w.heap.size + 1, 0, none⟩ = some (.int .i64 y.row) := F.out.ry.cell 0
 have y1 : w1.cell? ⟨w.heap.size + 1, 1, none⟩ = some (.int .i64 y.col) := F.out.ry.cell 1
 have y2 : w1.cell? ⟨w.heap.size + 1, 2, none⟩ = some (.bool y.pend) := F.out.ry.cell 2
 go_wp2_with fail
 refine (I1.out _).mono ?_
 rintro e w2 ⟨rfl, rfl⟩
 go_wp2_with fail
 refine (I2.out _).mono ?_
 rintro e w2 ⟨rfl, rfl⟩
 go_wp2_with fail
 go_ret
 exact ⟨rfl, F.out.be⟩
theorem cur_2 (co ro : Int) (v : Value) (y : Sv) (w : World) (h1 : inN y.row ro = true) (h2 : inN y.col co = true) (h3 : y.pend = true) (h4 : ¬ y.col = co - 1) (hco : co ≤ 9223372036854775807) : Calls Try.prog 23 #[.agg (gA co ro v), .agg (svA y)] w fun e w' => e = .returned (.bool false) ∧ Below w.heap.size w w' := by
 have I1 := Box'.mk (sIsIn_any y.row ro)
 have I2 := Box'.mk (sIsIn_any y.col co)
 rw [h1] at I1
 have h5 := of_decide_eq_true h2
 have h6 : 0 < co := by omega
 rw [h2] at I2
 have n4 : (y.col != co - 1) = true := by simpa using h4
 clear h1 h2 h4
 have F := Box'.mk (CuM.begin w (gA co ro v) (svA y))
 go_enter Try.func23, Try.ntmps23
 go_upto_region 1 with (fail)
 generalize ((w.alloc (.cells (gA co ro v) 39)).alloc (.cells (svA y) 44)) = w1 at *
 have g0 : w1.cell? ⟨w.heap.size, 0, none⟩ = some (.int .i64 co) := F.out.rg.cell 0
 have g1 : w1.cell? ⟨w.heap.size, 1, none⟩ = some (.int .i64 ro) := F.out.rg.cell 1
 have y0 : w1.cell? ⟨w.heap.size + 1, 0, none⟩ = some (.int .i64 y.row) := F.out.ry.cell 0
 have y1 : w1.cell? ⟨w.heap.size + 1, 1, none⟩ = some (.int .i64 y.col) := F.out.ry.cell 1
 have y2 : w1.cell? ⟨w.heap.size + 1, 2, none⟩ = some (.bool y.pend) := F.out.ry.cell 2
 rw [h3] at y2
 go_wp2_with fail
 refine (I1.out _).mono ?_
 rintro e w2 ⟨rfl, rfl⟩
 go_wp2_with fail
 refine (I2.out _).mono ?_
 rintro e w2 ⟨rfl, rfl⟩
 go_wp2_with fail
 go_ret
 exact ⟨rfl, F.out.be⟩
theorem cur_3 (co ro : Int) (v : Value) (y : Sv) (w : World) (h1 : inN y.row ro = true) (h2 : inN y.col co = true) (h3 : y.pend = false) : Calls Try.prog 23 #[.agg (gA co ro v), .agg (svA y)] w fun e w' => e = .returned (.bool (mayS y.st)) ∧ Below w.heap.size w w' := by
 have I1 := Box'.mk (sIsIn_any y.row ro)
 have I2 := Box'.mk (sIsIn_any y.col co)
 rw [h1] at I1
 rw [h2] at I2
 have MC := Box'.mk (mayF_any (hf y.st))
 rw [mayC_hf] at MC
 clear h1 h2
 have F := Box'.mk (CuM.begin w (gA co ro v) (svA y))
 go_enter Try.func23, Try.ntmps23
 go_upto_region 1 with (fail)
 generalize ((w.alloc (.cells (gA co ro v) 39)).alloc (.cells (svA y) 44)) = w1 at *
 have g0 : w1.cell? ⟨w.heap.size, 0, none⟩ = some (.int .i64 co) := F.out.rg.cell 0
 have g1 : w1.cell? ⟨w.heap.size, 1, none⟩ = some (.int .i64 ro) := F.out.rg.cell 1
 have y0 : w1.cell? ⟨w.heap.size + 1, 0, none⟩ = some (.int .i64 y.row) := F.out.ry.cell 0
 have y1 : w1.cell? ⟨w.heap.size + 1, 1, none⟩ = some (.int .i64 y.col) := F.out.ry.cell 1
 have y2 : w1.cell? ⟨w.heap.size + 1, 2, none⟩ = some (.bool y.pend) := F.out.ry.cell 2
 rw [h3] at y2
 go_wp2_with fail
 refine (I1.out _).mono ?_
 rintro e w2 ⟨rfl, rfl⟩
 go_wp2_with fail
 refine (I2.out _).mono ?_
 rintro e w2 ⟨rfl, rfl⟩
 have cs0 : w2.cell? ⟨w.heap.size + 1, 4, none⟩ = some (.int .i64 y.st.fg) := F.out.ry.cell 4
 have cs1 : w2.cell? ⟨w.heap.size + 1, 5, none⟩ = some (.int .i64 y.st.bg) := F.out.ry.cell 5
 have cs2 : w2.cell? ⟨w.heap.size + 1, 6, none⟩ = some (.bool y.st.b1) := F.out.ry.cell 6
 have cs3 : w2.cell? ⟨w.heap.size + 1, 7, none⟩ = some (.bool y.st.b2) := F.out.ry.cell 7
 have cs4 : w2.cell? ⟨w.heap.size + 1, 8, none⟩ = some (.bool y.st.b3) := F.out.ry.cell 8
 have cs5 : w2.cell? ⟨w.heap.size + 1, 9, none⟩ = some (.bool y.st.b4) := F.out.ry.cell 9
 have cs6 : w2.cell? ⟨w.heap.size + 1, 10, none⟩ = some (.bool y.st.b5) := F.out.ry.cell 10
 have cs7 : w2.cell? ⟨w.heap.size + 1, 11, none⟩ = some (.bool y.st.b7) := F.out.ry.cell 11
 have cs8 : w2.cell? ⟨w.heap.size + 1, 12, none⟩ = some (.bool y.st.b8) := F.out.ry.cell 12
 have cs9 : w2.cell? ⟨w.heap.size + 1, 13, none⟩ = some (.bool y.st.b9) := F.out.ry.cell 13
 go_wp2_with fail
 refine (MC.out _).mono ?_
 rintro e w3 ⟨rfl, hb⟩
 have F2 := Box'.mk (F.out.be.trans (hb.mono F.out.be.size))
 clear hb
 go_wp2_with fail
 go_ret
 exact ⟨rfl, F2.out⟩
theorem cur_4 (co ro : Int) (v : Value) (y : Sv) (w : World) (h1 : inN y.row ro = true) (h2 : inN y.col co = true) (h3 : y.pend = true) (h4 : y.col = co - 1) (hco : co ≤ 9223372036854775807) : Calls Try.prog 23 #[.agg (gA co ro v), .agg (svA y)] w fun e w' => e = .returned (.bool (mayS y.st)) ∧ Below w.heap.size w w' := by
 have I1 := Box'.mk (sIsIn_any y.row ro)
 have I2 := Box'.mk (sIsIn_any y.col co)
 rw [h1] at I1
 have h5 := of_decide_eq_true h2
 have h6 : 0 < co := by omega
 rw [h2] at I2
 have n4 : (y.col != co - 1) = false := by simpa using h4
 have MC := Box'.mk (mayF_any (hf y.st))
 rw [mayC_hf] at MC
 clear h1 h2 h4
 have F := Box'.mk (CuM.begin w (gA co ro v) (svA y))
 go_enter Try.func23, Try.ntmps23
 go_upto_region 1 with (fail)
 generalize ((w.alloc (.cells (gA co ro v) 39)).alloc (.cells (svA y) 44)) = w1 at *
 have g0 : w1.cell? ⟨w.heap.size, 0, none⟩ = some (.int .i64 co) := F.out.rg.cell 0
 have g1 : w1.cell? ⟨w.heap.size, 1, none⟩ = some (.int .i64 ro) := F.out.rg.cell 1
 have y0 : w1.cell? ⟨w.heap.size + 1, 0, none⟩ = some (.int .i64 y.row) := F.out.ry.cell 0
 have y1 : w1.cell? ⟨w.heap.size + 1, 1, none⟩ = some (.int .i64 y.col) := F.out.ry.cell 1
 have y2 : w1.cell? ⟨w.heap.size + 1, 2, none⟩ = some (.bool y.pend) := F.out.ry.cell 2
 rw [h3] at y2
 go_wp2_with fail
 refine (I1.out _).mono ?_
 rintro e w2 ⟨rfl, rfl⟩
 go_wp2_with fail
 refine (I2.out _).mono ?_
 rintro e w2 ⟨rfl, rfl⟩
 have cs0 : w2.cell? ⟨w.heap.size + 1, 4, none⟩ = some (.int .i64 y.st.fg) := F.out.ry.cell 4
 have cs1 : w2.cell? ⟨w.heap.size + 1, 5, none⟩ = some (.int .i64 y.st.bg) := F.out.ry.cell 5
 have cs2 : w2.cell? ⟨w.heap.size + 1, 6, none⟩ = some (.bool y.st.b1) := F.out.ry.cell 6
 have cs3 : w2.cell? ⟨w.heap.size + 1, 7, none⟩ = some (.bool y.st.b2) := F.out.ry.cell 7
 have cs4 : w2.cell? ⟨w.heap.size + 1, 8, none⟩ = some (.bool y.st.b3) := F.out.ry.cell 8
 have cs5 : w2.cell? ⟨w.heap.size + 1, 9, none⟩ = some (.bool y.st.b4) := F.out.ry.cell 9
 have cs6 : w2.cell? ⟨w.heap.size + 1, 10, none⟩ = some (.bool y.st.b5) := F.out.ry.cell 10
 have cs7 : w2.cell? ⟨w.heap.size + 1, 11, none⟩ = some (.bool y.st.b7) := F.out.ry.cell 11
 have cs8 : w2.cell? ⟨w.heap.size + 1, 12, none⟩ = some (.bool y.st.b8) := F.out.ry.cell 12
 have cs9 : w2.cell? ⟨w.heap.size + 1, 13, none⟩ = some (.bool y.st.b9) := F.out.ry.cell 13
 go_wp2_with fail
 refine (MC.out _).mono ?_
 rintro e w3 ⟨rfl, hb⟩
 have F2 := Box'.mk (F.out.be.trans (hb.mono F.out.be.size))
 clear hb
 go_wp2_with fail
 go_ret
 exact ⟨rfl, F2.out⟩
theorem mayCursor_any (co ro : Int) (v : Value) (y : Sv) (hco : co ≤ 9223372036854775807) (w : World) : Calls Try.prog 23 #[.agg (gA co ro v), .agg (svA y)] w fun e w' => e = .returned (.bool (curF co ro y)) ∧ Below w.heap.size w w' := by
 unfold curF
 cases h1 : inN y.row ro with
 | false => exact cur_0 co ro v y w h1
 | true =>
  cases h2 : inN y.col co with
  | false => exact cur_1 co ro v y w h1 h2
  | true =>
   cases h3 : y.pend with
   | false => exact cur_3 co ro v y w h1 h2 h3
   | true =>
    by_cases h4 : y.col = co - 1
    ·rw [decide_eq_true h4]
     exact cur_4 co ro v y w h1 h2 h3 h4 hco
    ·rw [decide_eq_false h4]
     exact cur_2 co ro v y w h1 h2 h3 h4 hco
theorem run_neq_op {op : Oper} {a : Act} (ty : TypeId) (x y : Operand) (ho : op.op = .binOp .neq 41 x y ty) (s t : St) (hx : a.eval x = .agg (sA s)) (hy : a.eval y = .agg (sA t)) (r : Bool) (hr : (!stB s t) = r) (w : World) :
  (execOp a.eval op).run Try.prog w = .ok (.value (.bool r)) w := by
 unfold execOp
 simp only [ho, hx, hy, Sem.run_bind, run_eqGuard_agg w .neq 41 x y (sA s) (sA t) guard24, Result.andThen_ok, run_neq_struct, run_eq_style w 9998 s t, hr, Sem.run_pure]
/-- The grid that came in stands, and the cells behind it. -/
structure GrM (w : World) (g : Array Value) (wr : World) : Prop where
 rg : Row wr w.heap.size 39 g
 be : Below w.heap.size w wr
theorem GrM.begin (w : World) (g : Array Value) : GrM w g (w.alloc (.cells g 39)) := ⟨Row.new _ _ _, (Below.refl w.heap.size w).alloc (Nat.le_refl _) _⟩
theorem GrM.below {w : World} {g : Array Value} {wr w' : World} (h : GrM w g wr) (hb : Below wr.heap.size wr w') : GrM w g w' := ⟨h.rg.below hb h.rg.lt, h.be.trans (hb.mono h.be.size)⟩
theorem GrM.drew {w : World} {g : Array Value} {wr : World} (h : GrM w g wr) : GrM w g wr.drew := h.below (bR.drew)
theorem rmayg_1 (co ro : Int) (v : Value) (h : sideF co = false) (w : World) : Calls Try.prog 30 #[.agg (gA co ro v)] w fun e w' => e = .returned (.bool false) ∧ Below w.heap.size w w' := by
 have MS := Box'.mk (side_any co)
 rw [h] at MS
 have F := Box'.mk (GrM.begin w (gA co ro v))
 clear h
 go_enter Try.func30, Try.ntmps30
 go_upto_region 1 with (fail)
 generalize (w.alloc (.cells (gA co ro v) 39)) = w1 at *
 have c0 : w1.cell? ⟨w.heap.size, 0, none⟩ = some (.int .i64 co) := F.out.rg.cell 0
 go_wp2_with fail
 refine (MS.out _).mono ?_
 rintro e w2 ⟨rfl, rfl⟩
 go_wp2_with fail
 go_ret
 exact ⟨rfl, F.out.be⟩
theorem rmayg_2 (co ro : Int) (v : Value) (h : sideF co = true) (h2 : sideF ro = false) (w : World) : Calls Try.prog 30 #[.agg (gA co ro v)] w fun e w' => e = .returned (.bool false) ∧ Below w.heap.size w w' := by
 have MS := Box'.mk (side_any co)
 rw [h] at MS
 have MT := Box'.mk (side_any ro)
 rw [h2] at MT
 have F := Box'.mk (GrM.begin w (gA co ro v))
 clear h h2
 go_enter Try.func30, Try.ntmps30
 go_upto_region 1 with (fail)
 generalize (w.alloc (.cells (gA co ro v) 39)) = w1 at *
 have c0 : w1.cell? ⟨w.heap.size, 0, none⟩ = some (.int .i64 co) := F.out.rg.cell 0
 have c1 : w1.cell? ⟨w.heap.size, 1, none⟩ = some (.int .i64 ro) := F.out.rg.cell 1
 go_wp2_with fail
 refine (MS.out _).mono ?_
 rintro e w2 ⟨rfl, rfl⟩
 go_wp2_with fail
 refine (MT.out _).mono ?_
 rintro e w2 ⟨rfl, rfl⟩
 go_wp2_with fail
 go_ret
 exact ⟨rfl, F.out.be⟩
theorem rmayg_3 (cols rows : Nat) (a : Option Addr) (n cp : Nat) (h1 : 1 ≤ cols) (h2 : cols ≤ 512) (h3 : 1 ≤ rows) (h4 : rows ≤ 512) (hne : ¬ n = cols * rows) (w : World) : Calls Try.prog 30 #[.agg (gA (cols : Int) (rows : Int) (.slice a n cp))] w fun e w' => e = .returned (.bool false) ∧ Below w.heap.size w w' := by
 have MS := Box'.mk (side_any (cols : Int))
 rw [side_of h1 h2] at MS
 have MT := Box'.mk (side_any (rows : Int))
 rw [side_of h3 h4] at MT
 have hle : cols * rows ≤ 512 * 512 := Nat.mul_le_mul h2 h4
 have F := Box'.mk (GrM.begin w (gA (cols : Int) (rows : Int) (.slice a n cp)))
 have q1 : (cols : Int) * (rows : Int) ≤ 262144 := by rw [← Int.natCast_mul]; omega
 have q2 : 0 ≤ (cols : Int) * (rows : Int) := by rw [← Int.natCast_mul]; omega
 have q3 : ((n : Int) != (cols : Int) * (rows : Int)) = true := by rw [← Int.natCast_mul]; simp; omega
 clear hne hle
 go_enter Try.func30, Try.ntmps30
 go_upto_region 1 with (fail)
 generalize (w.alloc (.cells (gA (cols : Int) (rows : Int) (.slice a n cp)) 39)) = w1 at *
 have c0 : w1.cell? ⟨w.heap.size, 0, none⟩ = some (.int .i64 (cols : Int)) := F.out.rg.cell 0
 have c1 : w1.cell? ⟨w.heap.size, 1, none⟩ = some (.int .i64 (rows : Int)) := F.out.rg.cell 1
 have c2 : w1.cell? ⟨w.heap.size, 2, none⟩ = some (.slice a n cp) := F.out.rg.cell 2
 go_wp2_with fail
 refine (MS.out _).mono ?_
 rintro e w2 ⟨rfl, rfl⟩
 go_wp2_with fail
 refine (MT.out _).mono ?_
 rintro e w2 ⟨rfl, rfl⟩
 go_wp2_with fail
 go_ret
 exact ⟨rfl, F.out.be⟩
end Go.Proofs.Ytepepoabbbjmgaa.Sc
