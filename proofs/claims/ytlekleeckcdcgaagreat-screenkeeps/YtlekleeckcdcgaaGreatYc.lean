/- Cells are written into the cursor's row. The next row begins; a mode is set. The next tabulator. Control characters; Control. What deeds do to some rows of a grid, told of the whole grid; what may be may be behind each. What deeds do to a screen; what may be may be behind each. -/
import Derived.Test.YtlekleeckcdcgaaGreatXx
namespace Go.Proofs.YtlekleeckcdcgaaGreat
open Go.RowKit Go.BigFrame
set_option linter.unusedVariables false
set_option linter.unusedSimpArgs false
set_option maxRecDepth 100000
set_option maxHeartbeats 8000000
/-- The cursor's row with the cells l from the column col on. -/
def wtF (x : Sn) (col : Int) (l : List Cl) : Sn := clS x (lay x.g.c (x.cur.row.toNat * x.g.co.toNat) (putRow (subR x.g.c x.g.co.toNat x.cur.row.toNat 0) x.g.co.toNat 0 (mnd (wrF (rowF (subR x.g.c x.g.co.toNat x.cur.row.toNat 0) x.g.co.toNat 0) col.toNat l))))
theorem bWrite_any (N : Nat) (w : World) (p : Nat) (x : Sn) (vg vt vm vl : Value) (h : Bd N w p x vg vt vm vl) (m : Mm x) (hG : mayG x.g.co x.g.ro x.g.c = true) (hS : mayS x.cur.st = true) (col : Int) (lv : Value) (l : List Cl) (hc1 : 0 ≤ col) (hc2 : col < x.g.co) (hvl : Cls w.heap.size w lv l) (hl0 : l.length ≤ 1000000) (hL : l.all mayC = true) :
  Calls Tryz.prog 167 #[.pointer (some ⟨p, 0, none⟩), .int .i64 col, lv] w fun e w' => (∃ v, e = .returned v) ∧ Bd N w' p (wtF x col l) vg vt vm vl ∧ Below N w w' := by
 obtain ⟨cols, rows, ec, er, p1, p2, p3, p4, hl⟩ := mayG_dest hG
 obtain ⟨T, eT⟩ := Int.eq_ofNat_of_zero_le m.w1
 obtain ⟨F, rfl⟩ := Int.eq_ofNat_of_zero_le hc1
 have hTk : T + 0 < rows := by have := m.w2; omega
 have hF : F < cols := by omega
 have hpos : 0 < x.g.c.length := by rw [hl]; exact Nat.mul_pos p1 p3
 obtain ⟨b, cap, sp, rfl, hNb, hcap, hrc⟩ := h.own.g.row hpos
 have hfit := sub_fit (cols := cols) hTk
 have hsl := subR_len x.g.c cols rows T 0 hl hTk
 have hG' := hG
 rw [ec, er] at hG'
 have hGs := mayG_sub x.g.c cols rows T 0 hG' hTk
 have hm : (T + 1) * cols = T * cols + cols := by rw [Nat.add_mul, Nat.one_mul]
 have h01 : (0 + 1) * cols = cols := by rw [Nat.zero_add, Nat.one_mul]
 rw [h01] at hfit hsl
 have RW : ∀ wa, Bd N wa p x (.slice (some ⟨b, 0, none⟩) x.g.c.length cap) vt vm vl → Calls Tryz.prog 166 #[.pointer (some ⟨p, 0, none⟩), .int .i64 x.cur.row, .int .i64 x.cur.row] wa fun e w' => e = .returned (.agg (gA (cols : Int) 1 (.slice (some ⟨b, T * cols * 15, none⟩) cols cols))) ∧ Below wa.heap.size wa w' := fun wa ha => by
  have q := bRows_any N wa p x b 0 x.g.c.length cap vt vm vl ha cols T T ec p1 p2 (by omega) (by omega) (by rw [hm]; omega)
  rw [hm, Nat.add_sub_cancel_left, Nat.zero_add, show (T : Int) - (T : Int) + 1 = 1 by omega] at q
  rw [eT]
  exact q
 have hrl : (rowF (subR x.g.c cols T 0) cols 0).length = cols := rowF_len _ cols 0 (by rw [hsl]; omega)
 have hml : (mnd (wrF (rowF (subR x.g.c cols T 0) cols 0) F l)).length = cols := by rw [mnd_len, wrF_len _ F l (by rw [hrl]; omega), hrl]
 have hsc : (putRow (subR x.g.c cols T 0) cols 0 (mnd (wrF (rowF (subR x.g.c cols T 0) cols 0) F l))).length = cols := by rw [putRow_len _ cols 0 _ hml (by rw [hsl]; omega), hsl]
 have WK := bWrite_walk N w p x b cap vt vm vl h sp hrc hNb cols (T * cols) cols (F : Int) lv _ hsc (by rw [hl]; exact hfit) RW (fun wa hbw ha => by
  have hv := ha.cls (T * cols) cols cols (by rw [hl]; exact hfit) (Nat.le_refl _)
  have es : (List.take cols (List.drop (T * cols) x.g.c)) = subR x.g.c cols T 0 := by unfold subR; rw [h01]
  rw [es] at hv
  refine (write_ok cols 1 _ (subR x.g.c cols T 0) 0 F x.cur.st lv l wa hv hGs hS (by omega) ((hvl.below hbw (Nat.le_refl _)).up hbw.size) hL (Nat.zero_lt_one) hF).mono ?_
  rintro e w' ⟨g, rfl, hg, hr, hb⟩
  rw [hsl]
  exact ⟨_, rfl, g, rfl, hg, hr, hb⟩)
 have E : wtF x (F : Int) l = clS x (lay x.g.c (T * cols) (putRow (subR x.g.c cols T 0) cols 0 (mnd (wrF (rowF (subR x.g.c cols T 0) cols 0) F l)))) := by
  unfold wtF
  rw [ec, eT]
  rfl
 rw [E]
 exact WK
theorem bWrap_any (N : Nat) (w : World) (p : Nat) (x : Sn) (vg vt vm vl : Value) (h : Bd N w p x vg vt vm vl) (m : Mm x) (hG : mayG x.g.co x.g.ro x.g.c = true) (hS : mayS x.cur.st = true) :
  Calls Tryz.prog 169 #[.pointer (some ⟨p, 0, none⟩)] w fun e w' => (∃ v, e = .returned v) ∧ Bd N w' p (fdF (c0F x)) vg vt vm vl ∧ Below N w w' := by
 have cc : w.cell? ⟨p, 4, none⟩ = some (.int .i64 x.cur.col) := h.box.cell 4
 have ff := h.box.frozen 4
 have B4 : Box' (Bd N (w.setCell ⟨p, 4, none⟩ (.int .i64 0)) p (c0F x) vg vt vm vl) := ⟨h.setCell _ 4 _ rfl rfl rfl rfl rfl⟩
 have T4 : Box' (Below N w (w.setCell ⟨p, 4, none⟩ (.int .i64 0))) := ⟨((Tc.refl p w).setCell 4 _).below h.hp (Nat.le_trans h.hp (Nat.le_of_lt h.lt))⟩
 have M : Box' (Mm (c0F x)) := ⟨⟨m.c1, m.c2, m.r1, m.r2, m.t1, m.t2, m.b2, m.w1, m.w2, by show (0 : Int) ≤ 0; omega, by show (0 : Int) < x.g.co; exact m.c1⟩⟩
 have FD := Box'.mk (bFeed_any N _ p (c0F x) vg vt vm vl B4.out M.out hG hS)
 clear h hG hS m M
 go_enter Tryz.func169, Tryz.ntmps169
 go_upto_region 1 with (fail)
 clear cc ff
 generalize (w.setCell ⟨p, 4, none⟩ (.int .i64 0)) = w1 at *
 go_wp2_with fail
 refine FD.out.mono ?_
 rintro e w2 ⟨⟨v, rfl⟩, k1, k2⟩
 have K1 := Box'.mk k1
 have K2 := Box'.mk (T4.out.trans k2)
 clear k1 k2 FD T4 B4
 go_wp2_with fail
 exact bodyPost_end (results_none rfl _ _) rfl ⟨⟨_, rfl⟩, K1.out, K2.out⟩
def moF (x : Sn) (n : Int) (on : Bool) : Sn := if n = 4 then { x with ins := on } else x
theorem bMode_any (N : Nat) (w : World) (p : Nat) (x : Sn) (vg vt vm vl : Value) (h : Bd N w p x vg vt vm vl) (n : Int) (on : Bool) :
  Calls Tryz.prog 92 #[.pointer (some ⟨p, 0, none⟩), .int .i64 n, .bool on] w fun e w' => (∃ v, e = .returned v) ∧ Bd N w' p (moF x n on) vg vt vm vl ∧ Below N w w' := by
 unfold moF
 by_cases hn : n = 4
 ·rw [if_pos hn]
  subst hn
  have cc : w.cell? ⟨p, 21, none⟩ = some (.bool x.ins) := h.box.cell 21
  have ff := h.box.frozen 21
  have B4 : Box' (Bd N (w.setCell ⟨p, 21, none⟩ (.bool on)) p { x with ins := on } vg vt vm vl) := ⟨h.setCell _ 21 _ rfl rfl rfl rfl rfl⟩
  have T4 : Box' (Below N w (w.setCell ⟨p, 21, none⟩ (.bool on))) := ⟨((Tc.refl p w).setCell 21 _).below h.hp (Nat.le_trans h.hp (Nat.le_of_lt h.lt))⟩
  clear h
  go_enter Tryz.func92, Tryz.ntmps92
  go_wp2_with fail
  exact bodyPost_end (results_none rfl _ _) rfl ⟨⟨_, rfl⟩, B4.out, T4.out⟩
 ·rw [if_neg hn]
  have BB := Box'.mk h
  clear h
  go_enter Tryz.func92, Tryz.ntmps92
  go_wp2_with fail
  exact bodyPost_end (results_none rfl _ _) rfl ⟨⟨_, rfl⟩, BB.out, Below.refl _ _⟩
/-- The first number above col, or last. -/
def ntF (col last : Int) : List Int → Int
 | [] => last
 | c :: r => if col < c then c else ntF col last r
theorem nt_step (col last : Int) (l : List Int) (k : Nat) (hk : k < l.length) : ntF col last (l.drop k) = if col < l.getD k 0 then l.getD k 0 else ntF col last (l.drop (k + 1)) := by
 rw [List.drop_eq_getElem_cons hk, List.getD_eq_getElem?_getD, List.getElem?_eq_getElem hk]
 rfl
theorem OwnN.cells {N : Nat} {w : World} {v : Value} {l : List Int} (h : OwnN N w v l) : ∃ a c, v = .slice a l.length c ∧ l.length ≤ c ∧ ∀ k, k < l.length → ∃ b, a = some ⟨b, 0, none⟩ ∧ b < w.heap.size ∧ w.cell? ⟨b, k, none⟩ = some (.int .i64 (l.getD k 0)) := by
 rcases h.2 with ⟨e1, e2⟩ | ⟨g, cap, cur, e1, e2, e3, e4, e5, e6, e7⟩
 ·exact ⟨none, 0, by rw [e2]; exact e1, by omega, fun k hk => by omega⟩
 ·refine ⟨some ⟨g, 0, none⟩, cap, e1, e4, fun k hk => ⟨g, rfl, (Array.getElem?_eq_some_iff.1 e3).1, ?_⟩⟩
  have hr : Row w g 3 cur := e3
  have hq : w.cell? ⟨g, k, none⟩ = cur[k]? := hr.cell k
  rw [hq]
  have h7 : (cur.toList.take (l.length * 1))[k]? = (l.map (Value.int .i64))[k]? := by rw [e7]
  rw [List.getElem?_take, if_pos (by omega), List.getElem?_map, List.getElem?_eq_getElem hk, Array.getElem?_toList] at h7
  rw [h7, List.getD_eq_getElem?_getD, List.getElem?_eq_getElem hk]
  rfl
theorem nextTab_any (N : Nat) (w : World) (p : Nat) (x : Sn) (vg vt vm vl : Value) (h : Bd N w p x vg vt vm vl) (m : Mm x) (hn : x.tabs.length ≤ 1000000) :
  Calls Tryz.prog 129 #[.pointer (some ⟨p, 0, none⟩)] w fun e w' => e = .returned (.int .i64 (ntF x.cur.col (x.g.co - 1) x.tabs)) ∧ Below w.heap.size w w' := by
 obtain ⟨a, cp, rfl, hcp, h3⟩ := h.own.t.cells
 have HC : Box' (∀ k, k < x.tabs.length → ∃ b, a = some ⟨b, 0, none⟩ ∧ ∀ wx, Below w.heap.size w wx → wx.cell? ⟨b, k, none⟩ = some (.int .i64 (x.tabs.getD k 0))) := ⟨fun k hk => by
  obtain ⟨b, e, hb, hc⟩ := h3 k hk
  exact ⟨b, e, fun wx hbe => by rw [hbe.cell (p := ⟨b, k, none⟩) hb]; exact hc⟩⟩
 have LC : Box' (∀ wx, Below w.heap.size w wx → Calls Tryz.prog 134 #[.pointer (some ⟨p, 0, none⟩)] wx fun e w' => e = .returned (.int .i64 (x.g.co - 1)) ∧ w' = wx) := ⟨fun wx hw => lastCol_any N wx p x _ _ _ _ (h.below hw) m.c1 m.c2⟩
 have BX := Box'.mk h
 have c18 : w.cell? ⟨p, 18, none⟩ = some (.slice a x.tabs.length cp) := h.box.cell 18
 have TS := Box'.mk (nt_step x.cur.col (x.g.co - 1) x.tabs)
 have T0 : Box' (ntF x.cur.col (x.g.co - 1) (x.tabs.drop 0) = ntF x.cur.col (x.g.co - 1) x.tabs) := ⟨by rw [List.drop_zero]⟩
 have TE : Box' (ntF x.cur.col (x.g.co - 1) (x.tabs.drop x.tabs.length) = x.g.co - 1) := ⟨by rw [List.drop_length]; rfl⟩
 clear h3 h
 generalize ntF x.cur.col (x.g.co - 1) x.tabs = R at *
 go_enter Tryz.func129, Tryz.ntmps129
 go_wp2_with fail
 go_loopw [10] (fun i wr => ∃ (k : Nat), k ≤ x.tabs.length ∧ i = .int .i64 (k : Int) ∧ Box' (ntF x.cur.col (x.g.co - 1) (x.tabs.drop k) = R) ∧ Box' (Below w.heap.size w wr)) (fun i _ => x.tabs.length - (intOf i).toNat)
 case atStart => exact ⟨0, by omega, rfl, T0, ⟨Below.refl _ _⟩⟩
 case round =>
  obtain ⟨k, hk, rfl, TT, BB⟩ := hrel
  clear T0 c18
  by_cases hlt : k < x.tabs.length
  case neg =>
   have e : k = x.tabs.length := by omega
   have E : Box' (R = x.g.co - 1) := ⟨by rw [← TT.out, e]; exact TE.out⟩
   clear e TT
   go_wp2_with fail
   refine (LC.out _ BB.out).mono ?_
   rintro e w2 ⟨rfl, rfl⟩
   go_wp2_with fail
   go_ret
   exact ⟨by rw [E.out]; rfl, BB.out⟩
  case pos =>
   obtain ⟨b, rfl, hc⟩ := HC.out k hlt
   have c0 := hc wr BB.out
   have c4 : wr.cell? ⟨p, 4, none⟩ = some (.int .i64 x.cur.col) := (BX.out.below BB.out).box.cell 4
   have S := TS.out k hlt
   rw [TT.out] at S
   generalize hz : x.tabs.getD k 0 = z at *
   clear hz hc
   by_cases q1 : x.cur.col < z
   case pos =>
    have E : Box' (R = z) := ⟨by rw [S, if_pos q1]⟩
    clear S TT
    go_wp2_with fail
    go_ret
    exact ⟨by rw [E.out]; rfl, BB.out⟩
   case neg =>
    have E : Box' (ntF x.cur.col (x.g.co - 1) (x.tabs.drop (k + 1)) = R) := ⟨by rw [S, if_neg q1]⟩
    clear S TT
    go_wp2_with fail
    exact ⟨⟨k + 1, by omega, by go_num, E, BB⟩, by simp [intOf]; omega⟩
def coS (x : Sn) (v : Int) : Sn := { x with cur := { x.cur with col := v } }
/-- What a control character does. -/
def ctF (x : Sn) (c : Int) : Sn := if c = 8 then npF (coS x (if x.cur.col ≤ 0 then 0 else x.cur.col - 1)) else if c = 9 then npF (coS x (ntF x.cur.col (x.g.co - 1) x.tabs)) else if c = 10 ∨ c = 11 ∨ c = 12 then npF (fdF x) else if c = 13 then npF (coS x 0) else if c = 141 then npF (fbF x) else x
theorem bCtl_8a (N : Nat) (w : World) (p : Nat) (x : Sn) (vg vt vm vl : Value) (h : Bd N w p x vg vt vm vl) (m : Mm x) (hG : mayG x.g.co x.g.ro x.g.c = true) (hS : mayS x.cur.st = true) (hn : x.tabs.length ≤ 1000000) (h1 : x.cur.col ≤ 0) :
  Calls Tryz.prog 75 #[.pointer (some ⟨p, 0, none⟩), .int .i32 8] w fun e w' => (∃ v, e = .returned v) ∧ Bd N w' p (npF (coS x (0))) vg vt vm vl ∧ Below N w w' := by
 have l1 := m.l1
 have l2 := m.l2
 have c2 := m.c2
 have cc : w.cell? ⟨p, 4, none⟩ = some (.int .i64 x.cur.col) := h.box.cell 4
 have ff := h.box.frozen 4
 have B4 : Box' (Bd N (w.setCell ⟨p, 4, none⟩ (.int .i64 (0))) p (coS x (0)) vg vt vm vl) := ⟨h.setCell _ 4 _ rfl rfl rfl rfl rfl⟩
 have T4 : Box' (Below N w (w.setCell ⟨p, 4, none⟩ (.int .i64 (0)))) := ⟨(((Tc.refl p w).setCell 4 _).below h.hp (Nat.le_trans h.hp (Nat.le_of_lt h.lt)))⟩
 clear h hG hS
 go_enter Tryz.func75, Tryz.ntmps75
 go_upto_region 13 with (fail)
 clear cc ff
 generalize (w.setCell ⟨p, 4, none⟩ (.int .i64 (0))) = w1 at *
 have cz : w1.cell? ⟨p, 5, none⟩ = some (.bool _) := B4.out.box.cell 5
 have fz := B4.out.box.frozen 5
 have B9 : Box' (Bd N (w1.setCell ⟨p, 5, none⟩ (.bool false)) p (npF (coS x (0))) vg vt vm vl) := ⟨B4.out.setCell _ 5 _ rfl rfl rfl rfl rfl⟩
 have T9 : Box' (Below N w (w1.setCell ⟨p, 5, none⟩ (.bool false))) := ⟨T4.out.trans (((Tc.refl p w1).setCell 5 _).below B4.out.hp (Nat.le_trans B4.out.hp (Nat.le_of_lt B4.out.lt)))⟩
 clear B4 T4
 go_wp2_with fail
 exact bodyPost_end (results_none rfl _ _) rfl ⟨⟨_, rfl⟩, B9.out, T9.out⟩
theorem bCtl_8b (N : Nat) (w : World) (p : Nat) (x : Sn) (vg vt vm vl : Value) (h : Bd N w p x vg vt vm vl) (m : Mm x) (hG : mayG x.g.co x.g.ro x.g.c = true) (hS : mayS x.cur.st = true) (hn : x.tabs.length ≤ 1000000) (h1 : 0 < x.cur.col) :
  Calls Tryz.prog 75 #[.pointer (some ⟨p, 0, none⟩), .int .i32 8] w fun e w' => (∃ v, e = .returned v) ∧ Bd N w' p (npF (coS x (x.cur.col - 1))) vg vt vm vl ∧ Below N w w' := by
 have l1 := m.l1
 have l2 := m.l2
 have c2 := m.c2
 have cc : w.cell? ⟨p, 4, none⟩ = some (.int .i64 x.cur.col) := h.box.cell 4
 have ff := h.box.frozen 4
 have B4 : Box' (Bd N (w.setCell ⟨p, 4, none⟩ (.int .i64 (x.cur.col - 1))) p (coS x (x.cur.col - 1)) vg vt vm vl) := ⟨h.setCell _ 4 _ rfl rfl rfl rfl rfl⟩
 have T4 : Box' (Below N w (w.setCell ⟨p, 4, none⟩ (.int .i64 (x.cur.col - 1)))) := ⟨(((Tc.refl p w).setCell 4 _).below h.hp (Nat.le_trans h.hp (Nat.le_of_lt h.lt)))⟩
 clear h hG hS
 go_enter Tryz.func75, Tryz.ntmps75
 go_upto_region 13 with (fail)
 clear cc ff
 generalize (w.setCell ⟨p, 4, none⟩ (.int .i64 (x.cur.col - 1))) = w1 at *
 have cz : w1.cell? ⟨p, 5, none⟩ = some (.bool _) := B4.out.box.cell 5
 have fz := B4.out.box.frozen 5
 have B9 : Box' (Bd N (w1.setCell ⟨p, 5, none⟩ (.bool false)) p (npF (coS x (x.cur.col - 1))) vg vt vm vl) := ⟨B4.out.setCell _ 5 _ rfl rfl rfl rfl rfl⟩
 have T9 : Box' (Below N w (w1.setCell ⟨p, 5, none⟩ (.bool false))) := ⟨T4.out.trans (((Tc.refl p w1).setCell 5 _).below B4.out.hp (Nat.le_trans B4.out.hp (Nat.le_of_lt B4.out.lt)))⟩
 clear B4 T4
 go_wp2_with fail
 exact bodyPost_end (results_none rfl _ _) rfl ⟨⟨_, rfl⟩, B9.out, T9.out⟩
theorem bCtl_13 (N : Nat) (w : World) (p : Nat) (x : Sn) (vg vt vm vl : Value) (h : Bd N w p x vg vt vm vl) (m : Mm x) (hG : mayG x.g.co x.g.ro x.g.c = true) (hS : mayS x.cur.st = true) (hn : x.tabs.length ≤ 1000000)  :
  Calls Tryz.prog 75 #[.pointer (some ⟨p, 0, none⟩), .int .i32 13] w fun e w' => (∃ v, e = .returned v) ∧ Bd N w' p (npF (coS x (0))) vg vt vm vl ∧ Below N w w' := by
 have cc : w.cell? ⟨p, 4, none⟩ = some (.int .i64 x.cur.col) := h.box.cell 4
 have ff := h.box.frozen 4
 have B4 : Box' (Bd N (w.setCell ⟨p, 4, none⟩ (.int .i64 (0))) p (coS x (0)) vg vt vm vl) := ⟨h.setCell _ 4 _ rfl rfl rfl rfl rfl⟩
 have T4 : Box' (Below N w (w.setCell ⟨p, 4, none⟩ (.int .i64 (0)))) := ⟨(((Tc.refl p w).setCell 4 _).below h.hp (Nat.le_trans h.hp (Nat.le_of_lt h.lt)))⟩
 clear h hG hS
 go_enter Tryz.func75, Tryz.ntmps75
 go_upto_region 13 with (fail)
 clear cc ff
 generalize (w.setCell ⟨p, 4, none⟩ (.int .i64 (0))) = w1 at *
 have cz : w1.cell? ⟨p, 5, none⟩ = some (.bool _) := B4.out.box.cell 5
 have fz := B4.out.box.frozen 5
 have B9 : Box' (Bd N (w1.setCell ⟨p, 5, none⟩ (.bool false)) p (npF (coS x (0))) vg vt vm vl) := ⟨B4.out.setCell _ 5 _ rfl rfl rfl rfl rfl⟩
 have T9 : Box' (Below N w (w1.setCell ⟨p, 5, none⟩ (.bool false))) := ⟨T4.out.trans (((Tc.refl p w1).setCell 5 _).below B4.out.hp (Nat.le_trans B4.out.hp (Nat.le_of_lt B4.out.lt)))⟩
 clear B4 T4
 go_wp2_with fail
 exact bodyPost_end (results_none rfl _ _) rfl ⟨⟨_, rfl⟩, B9.out, T9.out⟩
theorem bCtl_10 (N : Nat) (w : World) (p : Nat) (x : Sn) (vg vt vm vl : Value) (h : Bd N w p x vg vt vm vl) (m : Mm x) (hG : mayG x.g.co x.g.ro x.g.c = true) (hS : mayS x.cur.st = true) (hn : x.tabs.length ≤ 1000000)  :
  Calls Tryz.prog 75 #[.pointer (some ⟨p, 0, none⟩), .int .i32 10] w fun e w' => (∃ v, e = .returned v) ∧ Bd N w' p (npF (fdF x)) vg vt vm vl ∧ Below N w w' := by
 have CL := Box'.mk (bFeed_any N w p x vg vt vm vl h m hG hS)
 clear h hG hS
 go_enter Tryz.func75, Tryz.ntmps75
 go_wp2_with fail
 refine CL.out.mono ?_
 rintro e w1 ⟨⟨v, rfl⟩, k1, k2⟩
 have B4 := Box'.mk k1
 have T4 := Box'.mk k2
 clear k1 k2 CL
 have cz : w1.cell? ⟨p, 5, none⟩ = some (.bool _) := B4.out.box.cell 5
 have fz := B4.out.box.frozen 5
 have B9 : Box' (Bd N (w1.setCell ⟨p, 5, none⟩ (.bool false)) p (npF (fdF x)) vg vt vm vl) := ⟨B4.out.setCell _ 5 _ rfl rfl rfl rfl rfl⟩
 have T9 : Box' (Below N w (w1.setCell ⟨p, 5, none⟩ (.bool false))) := ⟨T4.out.trans (((Tc.refl p w1).setCell 5 _).below B4.out.hp (Nat.le_trans B4.out.hp (Nat.le_of_lt B4.out.lt)))⟩
 clear B4 T4
 go_wp2_with fail
 exact bodyPost_end (results_none rfl _ _) rfl ⟨⟨_, rfl⟩, B9.out, T9.out⟩
theorem bCtl_11 (N : Nat) (w : World) (p : Nat) (x : Sn) (vg vt vm vl : Value) (h : Bd N w p x vg vt vm vl) (m : Mm x) (hG : mayG x.g.co x.g.ro x.g.c = true) (hS : mayS x.cur.st = true) (hn : x.tabs.length ≤ 1000000)  :
  Calls Tryz.prog 75 #[.pointer (some ⟨p, 0, none⟩), .int .i32 11] w fun e w' => (∃ v, e = .returned v) ∧ Bd N w' p (npF (fdF x)) vg vt vm vl ∧ Below N w w' := by
 have CL := Box'.mk (bFeed_any N w p x vg vt vm vl h m hG hS)
 clear h hG hS
 go_enter Tryz.func75, Tryz.ntmps75
 go_wp2_with fail
 refine CL.out.mono ?_
 rintro e w1 ⟨⟨v, rfl⟩, k1, k2⟩
 have B4 := Box'.mk k1
 have T4 := Box'.mk k2
 clear k1 k2 CL
 have cz : w1.cell? ⟨p, 5, none⟩ = some (.bool _) := B4.out.box.cell 5
 have fz := B4.out.box.frozen 5
 have B9 : Box' (Bd N (w1.setCell ⟨p, 5, none⟩ (.bool false)) p (npF (fdF x)) vg vt vm vl) := ⟨B4.out.setCell _ 5 _ rfl rfl rfl rfl rfl⟩
 have T9 : Box' (Below N w (w1.setCell ⟨p, 5, none⟩ (.bool false))) := ⟨T4.out.trans (((Tc.refl p w1).setCell 5 _).below B4.out.hp (Nat.le_trans B4.out.hp (Nat.le_of_lt B4.out.lt)))⟩
 clear B4 T4
 go_wp2_with fail
 exact bodyPost_end (results_none rfl _ _) rfl ⟨⟨_, rfl⟩, B9.out, T9.out⟩
theorem bCtl_12 (N : Nat) (w : World) (p : Nat) (x : Sn) (vg vt vm vl : Value) (h : Bd N w p x vg vt vm vl) (m : Mm x) (hG : mayG x.g.co x.g.ro x.g.c = true) (hS : mayS x.cur.st = true) (hn : x.tabs.length ≤ 1000000)  :
  Calls Tryz.prog 75 #[.pointer (some ⟨p, 0, none⟩), .int .i32 12] w fun e w' => (∃ v, e = .returned v) ∧ Bd N w' p (npF (fdF x)) vg vt vm vl ∧ Below N w w' := by
 have CL := Box'.mk (bFeed_any N w p x vg vt vm vl h m hG hS)
 clear h hG hS
 go_enter Tryz.func75, Tryz.ntmps75
 go_wp2_with fail
 refine CL.out.mono ?_
 rintro e w1 ⟨⟨v, rfl⟩, k1, k2⟩
 have B4 := Box'.mk k1
 have T4 := Box'.mk k2
 clear k1 k2 CL
 have cz : w1.cell? ⟨p, 5, none⟩ = some (.bool _) := B4.out.box.cell 5
 have fz := B4.out.box.frozen 5
 have B9 : Box' (Bd N (w1.setCell ⟨p, 5, none⟩ (.bool false)) p (npF (fdF x)) vg vt vm vl) := ⟨B4.out.setCell _ 5 _ rfl rfl rfl rfl rfl⟩
 have T9 : Box' (Below N w (w1.setCell ⟨p, 5, none⟩ (.bool false))) := ⟨T4.out.trans (((Tc.refl p w1).setCell 5 _).below B4.out.hp (Nat.le_trans B4.out.hp (Nat.le_of_lt B4.out.lt)))⟩
 clear B4 T4
 go_wp2_with fail
 exact bodyPost_end (results_none rfl _ _) rfl ⟨⟨_, rfl⟩, B9.out, T9.out⟩
theorem bCtl_141 (N : Nat) (w : World) (p : Nat) (x : Sn) (vg vt vm vl : Value) (h : Bd N w p x vg vt vm vl) (m : Mm x) (hG : mayG x.g.co x.g.ro x.g.c = true) (hS : mayS x.cur.st = true) (hn : x.tabs.length ≤ 1000000)  :
  Calls Tryz.prog 75 #[.pointer (some ⟨p, 0, none⟩), .int .i32 141] w fun e w' => (∃ v, e = .returned v) ∧ Bd N w' p (npF (fbF x)) vg vt vm vl ∧ Below N w w' := by
 have CL := Box'.mk (bBack_any N w p x vg vt vm vl h m hG hS)
 clear h hG hS
 go_enter Tryz.func75, Tryz.ntmps75
 go_wp2_with fail
 refine CL.out.mono ?_
 rintro e w1 ⟨⟨v, rfl⟩, k1, k2⟩
 have B4 := Box'.mk k1
 have T4 := Box'.mk k2
 clear k1 k2 CL
 have cz : w1.cell? ⟨p, 5, none⟩ = some (.bool _) := B4.out.box.cell 5
 have fz := B4.out.box.frozen 5
 have B9 : Box' (Bd N (w1.setCell ⟨p, 5, none⟩ (.bool false)) p (npF (fbF x)) vg vt vm vl) := ⟨B4.out.setCell _ 5 _ rfl rfl rfl rfl rfl⟩
 have T9 : Box' (Below N w (w1.setCell ⟨p, 5, none⟩ (.bool false))) := ⟨T4.out.trans (((Tc.refl p w1).setCell 5 _).below B4.out.hp (Nat.le_trans B4.out.hp (Nat.le_of_lt B4.out.lt)))⟩
 clear B4 T4
 go_wp2_with fail
 exact bodyPost_end (results_none rfl _ _) rfl ⟨⟨_, rfl⟩, B9.out, T9.out⟩
theorem bCtl_9 (N : Nat) (w : World) (p : Nat) (x : Sn) (vg vt vm vl : Value) (h : Bd N w p x vg vt vm vl) (m : Mm x) (hG : mayG x.g.co x.g.ro x.g.c = true) (hS : mayS x.cur.st = true) (hn : x.tabs.length ≤ 1000000)  :
  Calls Tryz.prog 75 #[.pointer (some ⟨p, 0, none⟩), .int .i32 9] w fun e w' => (∃ v, e = .returned v) ∧ Bd N w' p (npF (coS x (ntF x.cur.col (x.g.co - 1) x.tabs))) vg vt vm vl ∧ Below N w w' := by
 have CL := Box'.mk (nextTab_any N w p x vg vt vm vl h m hn)
 have BB := Box'.mk h
 clear h hG hS
 go_enter Tryz.func75, Tryz.ntmps75
 generalize ntF x.cur.col (x.g.co - 1) x.tabs = V at *
 go_wp2_with fail
 refine CL.out.mono ?_
 rintro e w0 ⟨rfl, k1⟩
 have BC := Box'.mk (BB.out.below k1)
 have TC : Box' (Below N w w0) := ⟨k1.mono (Nat.le_trans BB.out.hp (Nat.le_of_lt BB.out.lt))⟩
 have cc : w0.cell? ⟨p, 4, none⟩ = some (.int .i64 x.cur.col) := BC.out.box.cell 4
 have ff := BC.out.box.frozen 4
 have B4 : Box' (Bd N (w0.setCell ⟨p, 4, none⟩ (.int .i64 (V))) p (coS x (V)) vg vt vm vl) := ⟨BC.out.setCell _ 4 _ rfl rfl rfl rfl rfl⟩
 have T4 : Box' (Below N w (w0.setCell ⟨p, 4, none⟩ (.int .i64 (V)))) := ⟨TC.out.trans (((Tc.refl p w0).setCell 4 _).below BC.out.hp (Nat.le_trans BC.out.hp (Nat.le_of_lt BC.out.lt)))⟩
 clear CL k1 BB
 go_upto_region 13 with (fail)
 clear cc ff BC TC
 generalize (w0.setCell ⟨p, 4, none⟩ (.int .i64 V)) = w1 at *
 have cz : w1.cell? ⟨p, 5, none⟩ = some (.bool _) := B4.out.box.cell 5
 have fz := B4.out.box.frozen 5
 have B9 : Box' (Bd N (w1.setCell ⟨p, 5, none⟩ (.bool false)) p (npF (coS x V)) vg vt vm vl) := ⟨B4.out.setCell _ 5 _ rfl rfl rfl rfl rfl⟩
 have T9 : Box' (Below N w (w1.setCell ⟨p, 5, none⟩ (.bool false))) := ⟨T4.out.trans (((Tc.refl p w1).setCell 5 _).below B4.out.hp (Nat.le_trans B4.out.hp (Nat.le_of_lt B4.out.lt)))⟩
 clear B4 T4
 go_wp2_with fail
 exact bodyPost_end (results_none rfl _ _) rfl ⟨⟨_, rfl⟩, B9.out, T9.out⟩
theorem bCtl_no (N : Nat) (w : World) (p : Nat) (x : Sn) (vg vt vm vl : Value) (h : Bd N w p x vg vt vm vl) (m : Mm x) (hG : mayG x.g.co x.g.ro x.g.c = true) (hS : mayS x.cur.st = true) (hn : x.tabs.length ≤ 1000000) (c : Int) (h1 : ¬ c = 8) (h2 : ¬ c = 9) (h3 : ¬ c = 10) (h4 : ¬ c = 11) (h5 : ¬ c = 12) (h6 : ¬ c = 13) (h7 : ¬ c = 141) :
  Calls Tryz.prog 75 #[.pointer (some ⟨p, 0, none⟩), .int .i32 c] w fun e w' => (∃ v, e = .returned v) ∧ Bd N w' p (x) vg vt vm vl ∧ Below N w w' := by
 have BB := Box'.mk h
 clear h hG hS
 go_enter Tryz.func75, Tryz.ntmps75
 go_wp2_with fail
 exact bodyPost_ret (results_none rfl _ _) rfl ⟨⟨_, rfl⟩, BB.out, Below.refl _ _⟩
theorem bCtl_any (N : Nat) (w : World) (p : Nat) (x : Sn) (vg vt vm vl : Value) (h : Bd N w p x vg vt vm vl) (m : Mm x) (hG : mayG x.g.co x.g.ro x.g.c = true) (hS : mayS x.cur.st = true) (hn : x.tabs.length ≤ 1000000) (c : Int) :
  Calls Tryz.prog 75 #[.pointer (some ⟨p, 0, none⟩), .int .i32 c] w fun e w' => (∃ v, e = .returned v) ∧ Bd N w' p (ctF x c) vg vt vm vl ∧ Below N w w' := by
 unfold ctF
 by_cases h1 : c = 8
 ·rw [if_pos h1]; subst h1
  by_cases q : x.cur.col ≤ 0
  ·rw [if_pos q]; exact bCtl_8a N w p x vg vt vm vl h m hG hS hn q
  ·rw [if_neg q]; exact bCtl_8b N w p x vg vt vm vl h m hG hS hn (by omega)
 rw [if_neg h1]
 by_cases h2 : c = 9
 ·rw [if_pos h2]; subst h2; exact bCtl_9 N w p x vg vt vm vl h m hG hS hn
 rw [if_neg h2]
 by_cases h3 : c = 10
 ·rw [if_pos (.inl h3)]; subst h3; exact bCtl_10 N w p x vg vt vm vl h m hG hS hn
 by_cases h4 : c = 11
 ·rw [if_pos (.inr (.inl h4))]; subst h4; exact bCtl_11 N w p x vg vt vm vl h m hG hS hn
 by_cases h5 : c = 12
 ·rw [if_pos (.inr (.inr h5))]; subst h5; exact bCtl_12 N w p x vg vt vm vl h m hG hS hn
 rw [if_neg (by omega)]
 by_cases h6 : c = 13
 ·rw [if_pos h6]; subst h6; exact bCtl_13 N w p x vg vt vm vl h m hG hS hn
 rw [if_neg h6]
 by_cases h7 : c = 141
 ·rw [if_pos h7]; subst h7; exact bCtl_141 N w p x vg vt vm vl h m hG hS hn
 rw [if_neg h7]
 exact bCtl_no N w p x vg vt vm vl h m hG hS hn c h1 h2 h3 h4 h5 h6 h7
theorem ctl1_any (N : Nat) (w : World) (p : Nat) (x : Sn) (vg vt vm vl : Value) (h : Bd N w p x vg vt vm vl) (hN : mayN x = true) (c : Nat) (n : Int) (hr : Row w c 21 #[.int .i32 n]) :
  Calls Tryz.prog 74 #[.pointer (some ⟨p, 0, none⟩), .pointer (some ⟨c, 0, none⟩)] w fun e w' => (∃ v, e = .returned v) ∧ Bd N w' p (ctF x n) vg vt vm vl ∧ Below N w w' := by
 have c0 : w.cell? ⟨c, 0, none⟩ = some (.int .i32 n) := hr.cell 0
 have PL := Box'.mk (bCtl_any N w p x vg vt vm vl h (may_Mm hN) (may_G hN) (may_S hN) (may_short hN).2.2.1 n)
 clear h hr hN
 go_enter Tryz.func74, Tryz.ntmps74
 go_wp2_with fail
 refine PL.out.mono ?_
 rintro e w2 ⟨⟨v, rfl⟩, h2, h3⟩
 have H2 := Box'.mk h2
 have H3 := Box'.mk h3
 clear h2 h3 c0
 go_wp2_with fail
 exact bodyPost_end (results_none rfl _ _) rfl ⟨⟨_, rfl⟩, H2.out, H3.out⟩
theorem Control_dr (x : Sn) (vg vt vm vl : Value) (n : Int) (w : World) (hl : Li w.heap.size w x vg vt vm vl) (hb : Bo x) :
  Calls Tryz.prog 22 #[.agg (snA x vg vt vm vl), .int .i32 n] w fun e w' => DR w.heap.size w' e (if mayN x then some (ctF x n) else none) ∧ Below w.heap.size w w' := by
 have DO : Box' (∀ wx, Below w.heap.size w wx → w.heap.size + 3 ≤ wx.heap.size → Row wx (w.heap.size + 1) 21 #[.int .i32 n] → Calls Tryz.prog 67 #[.agg (snA x vg vt vm vl), .func (.func 74) #[] #[.pointer (some ⟨w.heap.size + 1, 0, none⟩)]] wx fun e w' => DR wx.heap.size w' e (if mayN x then some (ctF x n) else none) ∧ Below wx.heap.size wx w') := ⟨fun wx hbe hsz r0 => by
  cases hN : mayN x with
  | false => exact do1_no x vg vt vm vl 74 (.pointer (some ⟨w.heap.size + 1, 0, none⟩)) wx (hl.at hbe) hb hN
  | true =>
   exact do1_ok x (ctF x n) vg vt vm vl 74 (.pointer (some ⟨w.heap.size + 1, 0, none⟩)) wx (hl.at hbe) hb hN (fun _ _ => rfl) (fun wy p vg vt vm vl hby bd hp => by
   have r0 := r0.below hby (by omega)
   refine (ctl1_any (wx.heap.size + 2) wy p x vg vt vm vl bd hN (w.heap.size + 1) n r0).mono ?_
   rintro e w' ⟨h1, h2, h3⟩
   exact ⟨h1, ⟨_, _, _, _, h2⟩, h3⟩)⟩
 have F := Box'.mk (Wr1.begin w (snA x vg vt vm vl) 21 (.int .i32 n))
 have U32 := Box'.mk Tryz.underlying32
 have S32 := Box'.mk s32
 clear hl hb
 generalize (if mayN x then some (ctF x n) else none) = r at *
 go_enter Tryz.func22, Tryz.ntmps22
 go_upto_region 1 with (fail)
 generalize (((w.alloc (.cells (snA x vg vt vm vl) 32)).alloc (.cells #[.int .i32 n] 21)).alloc (.cells z32 32)) = w1 at *
 have hz := F.out.sz
 go_wp2_with (first
  | (refine wpList_load_row rfl 32 (.tmp 2) rfl w.heap.size rfl 32 (snA x vg vt vm vl) F.out.r _ U32.out rfl 44 S32.out rfl ?_))
 refine (DO.out _ F.out.be (by omega) F.out.c0).mono ?_
 rintro e w2 ⟨hd, hb⟩
 obtain ⟨y, yg, yt, ym, yl, er, rfl, ho, hs⟩ := (hd.dn (show w.heap.size ≤ w1.heap.size by omega)).out
 have RR := Box'.mk (F.out.rr.below hb (by omega))
 have BE : Box' (Below w.heap.size w w2) := ⟨F.out.be.trans (hb.mono F.out.be.size)⟩
 have OO := Box'.mk ho
 have HS := Box'.mk hs
 clear hd hb ho hs F DO
 go_wp2_with (first
  | (refine wpList_store_row rfl 32 (.tmp 4) (.tmp 9) rfl (w.heap.size + 2) rfl (snA y yg yt ym yl) rfl 32 44 RR.out S32.out rfl OO.out ?_))
 exact bodyPost_ret (results_sn rfl _ (w.heap.size + 2) rfl _ rfl _ _ (RR.out.setRow _) rfl) rfl ⟨HS.out _ _ RR.out, below_setRow BE.out (by omega) _⟩
theorem Control_no (x : Sn) (vg vt vm vl : Value) (n : Int) (w : World) (hl : Li w.heap.size w x vg vt vm vl) (hb : Bo x) (hN : mayN x = false) :
  Calls Tryz.prog 22 #[.agg (snA x vg vt vm vl), .int .i32 n] w fun e w' => e = .returned sErr ∧ Below w.heap.size w w' := (Control_dr x vg vt vm vl n w hl hb).mono fun e w' q => by
 rw [hN] at q; exact q
theorem Control_ok (x : Sn) (vg vt vm vl : Value) (n : Int) (w : World) (hl : Li w.heap.size w x vg vt vm vl) (hb : Bo x) (hN : mayN x = true) :
  Calls Tryz.prog 22 #[.agg (snA x vg vt vm vl), .int .i32 n] w fun e w' => ScR w.heap.size w' e (ctF x n) ∧ Below w.heap.size w w' := (Control_dr x vg vt vm vl n w hl hb).mono fun e w' q => by
 rw [hN] at q; exact q
theorem put_sub (c : List Cl) (cols n : Nat) (R : List Cl) : putRow (subR c cols n 0) cols 0 R = R := by
 unfold putRow subR
 rw [Nat.zero_mul, tkZ, List.nil_append, Nat.zero_add, Nat.zero_add, Nat.one_mul, List.drop_of_length_le (by rw [List.length_take]; omega), List.append_nil]
theorem lay_one (c : List Cl) (cols n : Nat) (R : List Cl) (hR : R.length = cols) : lay c (n * cols) (putRow (subR c cols n 0) cols 0 R) = putRow c cols n R := by
 rw [put_sub, Nat.mul_comm n, lay_put _ _ _ _ hR]
theorem row_one (c : List Cl) (cols n : Nat) : rowF (subR c cols n 0) cols 0 = rowF c cols n := by
 rw [subR_row c cols n 0 0 (by omega), Nat.add_zero]
/-- Rows that are rolled for themselves and laid back are rolled in the grid. -/
theorem lay_scroll (c : List Cl) (cols rows T k : Nat) (b : Int) (s : St) (hc : 1 ≤ cols) (hl : c.length = cols * rows) (h : T + k < rows) :
  lay c (T * cols) (scF (subR c cols T k) cols (k + 1) 0 k b s) = scF c cols rows T (T + k) b s := by
 have hsl := subR_len c cols rows T k hl h
 have hsl' : (subR c cols T k).length = cols * (k + 1) := by rw [hsl, Nat.mul_comm]
 have hsc : (scF (subR c cols T k) cols (k + 1) 0 k b s).length = (k + 1) * cols := by rw [scF_len _ cols (k + 1) 0 k b s hsl' (by omega), Nat.mul_comm]
 have hfit := sub_fit (cols := cols) h
 refine grid_ext _ _ cols rows hc (by rw [lay_len _ _ _ (by rw [hsc, hl]; exact hfit), hl]) (scF_len c cols rows T (T + k) b s hl h) fun n hn j hj => ?_
 rw [scF_cat c cols rows T (T + k) b s hl h n hn j hj, cat_lay _ _ _ (by rw [hsc, hl]; exact hfit), hsc]
 by_cases ht : T ≤ n
 ·rw [if_neg (by have := (row_ge (a := n) (b := T) hj).2 ht; omega)]
  by_cases hb : n ≤ T + k
  ·have hin : n * cols + j < T * cols + (k + 1) * cols := by rw [← Nat.add_mul]; exact (row_lt hj).2 (by omega)
   obtain ⟨i, rfl⟩ : ∃ i, n = T + i := ⟨n - T, by omega⟩
   have hidx : (T + i) * cols + j - T * cols = i * cols + j := by rw [Nat.add_mul]; omega
   rw [if_pos hin, if_pos ⟨ht, hb⟩, hidx, scF_cat _ cols (k + 1) 0 k b s hsl' (by omega) i (by omega) j hj, if_pos ⟨Nat.zero_le _, by omega⟩]
   by_cases hy : 0 ≤ (i : Int) + b ∧ (i : Int) + b ≤ (k : Int)
   ·rw [if_pos ⟨by omega, by omega⟩, if_pos ⟨by omega, by omega⟩, ← cat_row _ cols _ j hj, subR_row c cols T k _ (by omega), cat_row _ cols _ j hj]
    congr 2
    congr 1
    omega
   ·rw [if_neg (by omega), if_neg (by omega)]
  ·have hout : ¬ n * cols + j < T * cols + (k + 1) * cols := by rw [← Nat.add_mul, row_lt hj]; omega
   rw [if_neg hout, if_neg (by omega)]
 ·rw [if_pos ((row_lt hj).2 (by omega)), if_neg (by omega)]
/-- A grid of a screen that may be. -/
structure Gd (x : Sn) (cols rows : Nat) : Prop where
 ec : x.g.co = (cols : Int)
 er : x.g.ro = (rows : Int)
 c1 : 1 ≤ cols
 c2 : cols ≤ 512
 r1 : 1 ≤ rows
 r2 : rows ≤ 512
 hl : x.g.c.length = cols * rows
 G : mayG (cols : Int) (rows : Int) x.g.c = true
theorem gd_of {x : Sn} (h : mayG x.g.co x.g.ro x.g.c = true) : ∃ cols rows, Gd x cols rows := by
 obtain ⟨cols, rows, ec, er, p1, p2, p3, p4, hl⟩ := mayG_dest h
 exact ⟨cols, rows, ec, er, p1, p2, p3, p4, hl, by rw [← ec, ← er]; exact h⟩
theorem Gd.row {x : Sn} {cols rows : Nat} (g : Gd x cols rows) (n : Nat) (hn : n < rows) : (rowF x.g.c cols n).length = cols := rowF_len _ _ _ (by rw [g.hl]; exact fits hn)
theorem Gd.rowM {x : Sn} {cols rows : Nat} (g : Gd x cols rows) (n : Nat) (hn : n < rows) : ∀ y ∈ rowF x.g.c cols n, mayC y = true := row_may cols rows _ g.c1 g.c2 g.r1 g.r2 g.hl g.G n hn
theorem Gd.put {x : Sn} {cols rows : Nat} (g : Gd x cols rows) (n : Nat) (hn : n < rows) (r : List Cl) (hr : r.length = cols) (hm : ∀ y ∈ r, mayC y = true) : mayG x.g.co x.g.ro (putRow x.g.c cols n (mnd r)) = true := by
 rw [g.ec, g.er]; exact mayG_put cols rows n _ r g.c1 g.c2 g.r1 g.r2 g.hl g.G hn hr hm
/-- What blF, sfF, wtF, rlF do, told of the whole grid. -/
theorem bl_eq {x : Sn} {cols rows : Nat} (g : Gd x cols rows) (row fr to : Nat) (h1 : row < rows) (h2 : fr ≤ to) (h3 : to ≤ cols) :
  blF x (row : Int) (fr : Int) (to : Int) = clS x (putRow x.g.c cols row (mnd (erF (rowF x.g.c cols row) fr to x.cur.st))) := by
 unfold blF
 rw [g.ec, Int.toNat_natCast, Int.toNat_natCast, Int.toNat_natCast, Int.toNat_natCast, row_one, lay_one]
 rw [mnd_len, erF_len _ _ _ _ h2 (by rw [g.row row h1]; exact h3), g.row row h1]
theorem sf_eq {x : Sn} {cols rows : Nat} (g : Gd x cols rows) (row col : Nat) (er : x.cur.row = (row : Int)) (ec : x.cur.col = (col : Int)) (h1 : row < rows) (by0 : Int) :
  sfF x by0 = clS x (putRow x.g.c cols row (mnd (shF (rowF x.g.c cols row) col by0 x.cur.st))) := by
 unfold sfF
 rw [g.ec, er, ec, Int.toNat_natCast, Int.toNat_natCast, Int.toNat_natCast, row_one, lay_one]
 rw [mnd_len, shF_len, g.row row h1]
theorem wt_eq {x : Sn} {cols rows : Nat} (g : Gd x cols rows) (row col : Nat) (er : x.cur.row = (row : Int)) (h1 : row < rows) (h2 : col < cols) (l : List Cl) :
  wtF x (col : Int) l = clS x (putRow x.g.c cols row (mnd (wrF (rowF x.g.c cols row) col l))) := by
 unfold wtF
 rw [g.ec, er, Int.toNat_natCast, Int.toNat_natCast, Int.toNat_natCast, row_one, lay_one]
 rw [mnd_len, wrF_len _ _ _ (by rw [g.row row h1]; omega), g.row row h1]
theorem rl_eq {x : Sn} {cols rows : Nat} (g : Gd x cols rows) (top bot : Nat) (h1 : top ≤ bot) (h2 : bot < rows) (by0 : Int) :
  rlF x (top : Int) (bot : Int) by0 = clS x (scF x.g.c cols rows top bot by0 x.cur.st) := by
 obtain ⟨k, rfl⟩ : ∃ k, bot = top + k := ⟨bot - top, by omega⟩
 unfold rlF
 rw [g.ec, Int.toNat_natCast, Int.toNat_natCast, show (((top + k : Nat) : Int) - (top : Int)).toNat = k by omega, lay_scroll _ cols rows top k by0 _ g.c1 g.hl h2]
theorem mayG_bl {x : Sn} (hG : mayG x.g.co x.g.ro x.g.c = true) (hS : mayS x.cur.st = true) (row fr to : Int) (h1 : 0 ≤ row) (h2 : row < x.g.ro) (h3 : 0 ≤ fr) (h4 : fr ≤ to) (h5 : to ≤ x.g.co) : mayG x.g.co x.g.ro (blF x row fr to).g.c = true := by
 obtain ⟨cols, rows, g⟩ := gd_of hG
 have e1 := g.ec
 have e2 := g.er
 obtain ⟨a, rfl⟩ := Int.eq_ofNat_of_zero_le h1
 obtain ⟨b, rfl⟩ := Int.eq_ofNat_of_zero_le h3
 obtain ⟨d, rfl⟩ := Int.eq_ofNat_of_zero_le (show 0 ≤ to by omega)
 rw [bl_eq g a b d (by omega) (by omega) (by omega)]
 exact g.put a (by omega) _ (by rw [erF_len _ _ _ _ (by omega) (by rw [g.row a (by omega)]; omega), g.row a (by omega)]) (erF_may _ _ _ _ (g.rowM a (by omega)) hS)
theorem mayG_sf {x : Sn} (hG : mayG x.g.co x.g.ro x.g.c = true) (hS : mayS x.cur.st = true) (m : Mm x) (by0 : Int) : mayG x.g.co x.g.ro (sfF x by0).g.c = true := by
 obtain ⟨cols, rows, g⟩ := gd_of hG
 have e1 := g.ec
 have e2 := g.er
 have m1 := m.w1
 have m2 := m.w2
 have m3 := m.l1
 have m4 := m.l2
 obtain ⟨a, ea⟩ := Int.eq_ofNat_of_zero_le m1
 obtain ⟨b, eb⟩ := Int.eq_ofNat_of_zero_le m3
 rw [sf_eq g a b ea eb (by omega)]
 exact g.put a (by omega) _ (by rw [shF_len, g.row a (by omega)]) (shF_may _ _ _ _ (g.rowM a (by omega)) hS)
theorem mayG_wt {x : Sn} (hG : mayG x.g.co x.g.ro x.g.c = true) (m : Mm x) (col : Int) (h1 : 0 ≤ col) (h2 : col < x.g.co) (l : List Cl) (hL : l.all mayC = true) : mayG x.g.co x.g.ro (wtF x col l).g.c = true := by
 obtain ⟨cols, rows, g⟩ := gd_of hG
 have e1 := g.ec
 have e2 := g.er
 have m1 := m.w1
 have m2 := m.w2
 obtain ⟨a, ea⟩ := Int.eq_ofNat_of_zero_le m1
 obtain ⟨b, rfl⟩ := Int.eq_ofNat_of_zero_le h1
 rw [wt_eq g a b ea (by omega) (by omega)]
 exact g.put a (by omega) _ (by rw [wrF_len _ _ _ (by rw [g.row a (by omega)]; omega), g.row a (by omega)]) (wrF_may _ _ _ (g.rowM a (by omega)) (List.all_eq_true.1 hL))
theorem mayG_rl {x : Sn} (hG : mayG x.g.co x.g.ro x.g.c = true) (hS : mayS x.cur.st = true) (top bot by0 : Int) (h1 : 0 ≤ top) (h2 : top ≤ bot) (h3 : bot < x.g.ro) : mayG x.g.co x.g.ro (rlF x top bot by0).g.c = true := by
 obtain ⟨cols, rows, g⟩ := gd_of hG
 have e1 := g.ec
 have e2 := g.er
 obtain ⟨a, rfl⟩ := Int.eq_ofNat_of_zero_le h1
 obtain ⟨b, rfl⟩ := Int.eq_ofNat_of_zero_le (show 0 ≤ bot by omega)
 rw [rl_eq g a b (by omega) (by omega)]
 show mayG x.g.co x.g.ro (scF x.g.c cols rows a b by0 x.cur.st) = true
 rw [e1, e2]
 exact mayG_scroll cols rows a b by0 _ _ g.c1 g.c2 g.r1 g.r2 g.hl g.G hS (by omega)
theorem curF_iff (co ro : Int) (y : Sv) : curF co ro y = true ↔ 0 ≤ y.row ∧ y.row < ro ∧ 0 ≤ y.col ∧ y.col < co ∧ (y.pend = true → y.col = co - 1) ∧ mayS y.st = true := by
 unfold curF inN
 simp only [Bool.and_eq_true, Bool.or_eq_true, Bool.not_eq_true', decide_eq_true_eq]
 constructor
 ·rintro ⟨⟨a1, a2⟩, ⟨a3, a4⟩, a5, a6⟩
  refine ⟨a1, a2, a3, a4, fun h => ?_, a6⟩
  rcases a5 with q | q
  ·rw [q] at h; cases h
  ·exact q
 ·rintro ⟨a1, a2, a3, a4, a5, a6⟩
  refine ⟨⟨a1, a2⟩, ⟨a3, a4⟩, ?_, a6⟩
  cases hp : y.pend with
  | false => exact .inl rfl
  | true => exact .inr (a5 hp)
/-- What a screen that may be keeps to. -/
structure Ma (x : Sn) : Prop where
 cur : curF x.g.co x.g.ro x.cur = true
 sv : curF x.g.co x.g.ro x.sv = true
 bot : 0 ≤ x.bot ∧ x.bot < x.g.ro
 t1 : 0 ≤ x.top
 t2 : x.top ≤ x.bot
 tab : tabF (-1) x.g.co x.tabs = true
 tit : titF x.title = true
 g : mayG x.g.co x.g.ro x.g.c = true
 mn : mnF x = true
theorem Ma.of {x : Sn} (h : mayN x = true) : Ma x := by
 unfold mayN at h
 simp only [Bool.and_eq_true] at h
 obtain ⟨h0, h1, h2, h3, h4, h5, h6, h7, h8⟩ := h
 exact ⟨h0, h1, of_decide_eq_true h2, of_decide_eq_true h3, of_decide_eq_true h4, h5, h6, h7, h8⟩
theorem Ma.may {x : Sn} (h : Ma x) : mayN x = true := by
 unfold mayN
 simp only [Bool.and_eq_true]
 exact ⟨h.cur, h.sv, decide_eq_true h.bot, decide_eq_true h.t1, decide_eq_true h.t2, h.tab, h.tit, h.g, h.mn⟩
theorem may_cl {x : Sn} (h : mayN x = true) (c : List Cl) (hg : mayG x.g.co x.g.ro c = true) : mayN (clS x c) = true :=
 have m := Ma.of h
 Ma.may ⟨m.cur, m.sv, m.bot, m.t1, m.t2, m.tab, m.tit, hg, m.mn⟩
theorem may_cur {x : Sn} (h : mayN x = true) (y : Sv) (hy : curF x.g.co x.g.ro y = true) : mayN { x with cur := y } = true :=
 have m := Ma.of h
 Ma.may ⟨hy, m.sv, m.bot, m.t1, m.t2, m.tab, m.tit, m.g, m.mn⟩
theorem may_at {x : Sn} (h : mayN x = true) (row col : Int) (h1 : 0 ≤ row) (h2 : row < x.g.ro) (h3 : 0 ≤ col) (h4 : col < x.g.co) : mayN (atF x row col) = true :=
 may_cur h _ ((curF_iff _ _ _).2 ⟨h1, h2, h3, h4, fun q => (by cases q), may_S h⟩)
theorem may_rw {x : Sn} (h : mayN x = true) (row : Int) (h1 : 0 ≤ row) (h2 : row < x.g.ro) : mayN (rwF x row) = true := by
 obtain ⟨a1, a2, a3, a4, a5, a6⟩ := (curF_iff _ _ _).1 (Ma.of h).cur
 exact may_cur h _ ((curF_iff _ _ _).2 ⟨h1, h2, a3, a4, a5, a6⟩)
theorem may_np {x : Sn} (h : mayN x = true) : mayN (npF x) = true := by
 obtain ⟨a1, a2, a3, a4, a5, a6⟩ := (curF_iff _ _ _).1 (Ma.of h).cur
 exact may_cur h _ ((curF_iff _ _ _).2 ⟨a1, a2, a3, a4, fun q => (by cases q), a6⟩)
theorem may_rl {x : Sn} (h : mayN x = true) (top bot by0 : Int) (h1 : 0 ≤ top) (h2 : top ≤ bot) (h3 : bot < x.g.ro) : mayN (rlF x top bot by0) = true :=
 may_cl h _ (mayG_rl (may_G h) (may_S h) top bot by0 h1 h2 h3)
theorem may_bl {x : Sn} (h : mayN x = true) (row fr to : Int) (h1 : 0 ≤ row) (h2 : row < x.g.ro) (h3 : 0 ≤ fr) (h4 : fr ≤ to) (h5 : to ≤ x.g.co) : mayN (blF x row fr to) = true :=
 may_cl h _ (mayG_bl (may_G h) (may_S h) row fr to h1 h2 h3 h4 h5)
theorem may_sf {x : Sn} (h : mayN x = true) (by0 : Int) : mayN (sfF x by0) = true :=
 may_cl h _ (mayG_sf (may_G h) (may_S h) (may_Mm h) by0)
theorem may_wt {x : Sn} (h : mayN x = true) (col : Int) (h1 : 0 ≤ col) (h2 : col < x.g.co) (l : List Cl) (hL : l.all mayC = true) : mayN (wtF x col l) = true :=
 may_cl h _ (mayG_wt (may_G h) (may_Mm h) col h1 h2 l hL)
/-- Keep. -/
theorem may_ke {x : Sn} (h : mayN x = true) (back : Bool) : mayN (keF x back) = true := by
 have m := Ma.of h
 cases back with
 | true => exact Ma.may ⟨m.sv, m.sv, m.bot, m.t1, m.t2, m.tab, m.tit, m.g, m.mn⟩
 | false => exact Ma.may ⟨m.cur, m.cur, m.bot, m.t1, m.t2, m.tab, m.tit, m.g, m.mn⟩
/-- Place, Move, Region. -/
theorem may_pl {x : Sn} (h : mayN x = true) (row col : Int) : mayN (plF x row col) = true := by
 have m := may_Mm h
 have := m.c1; have := m.r1; have := m.t1; have := m.t2; have := m.b2
 have w1 := wiF_ge x.top row x.top x.bot (by omega)
 have w2 := wiF_le x.top row x.top x.bot (by omega)
 have w3 := wiF_ge 0 col 0 (x.g.co - 1) (by omega)
 have w4 := wiF_le 0 col 0 (x.g.co - 1) (by omega)
 have w5 := wiF_ge 0 row 0 (x.g.ro - 1) (by omega)
 have w6 := wiF_le 0 row 0 (x.g.ro - 1) (by omega)
 unfold plF
 split
 ·exact may_at h _ _ (by omega) (by omega) (by omega) (by omega)
 ·exact may_at h _ _ (by omega) (by omega) (by omega) (by omega)
theorem may_mv {x : Sn} (h : mayN x = true) (down right : Int) : mayN (mvF x down right) = true := by
 have m := may_Mm h
 have := m.c1; have := m.r1; have := m.t1; have := m.t2; have := m.b2; have := m.w1; have := m.w2
 have w3 := wiF_ge x.cur.col right 0 (x.g.co - 1) (by omega)
 have w4 := wiF_le x.cur.col right 0 (x.g.co - 1) (by omega)
 obtain ⟨lo, hl⟩ : ∃ lo, lo = (if x.top ≤ x.cur.row then x.top else 0) := ⟨_, rfl⟩
 obtain ⟨hi, hh⟩ : ∃ hi, hi = (if x.cur.row ≤ x.bot then x.bot else x.g.ro - 1) := ⟨_, rfl⟩
 have a1 : 0 ≤ lo := by rw [hl]; split <;> omega
 have a2 : hi < x.g.ro := by rw [hh]; split <;> omega
 have a3 : lo ≤ hi := by rw [hl, hh]; split <;> split <;> omega
 have w1 := wiF_ge x.cur.row down lo hi a3
 have w2 := wiF_le x.cur.row down lo hi a3
 unfold mvF
 rw [← hl, ← hh]
 exact may_at h _ _ (by omega) (by omega) (by omega) (by omega)
theorem may_rg {x : Sn} (h : mayN x = true) (t b : Int) : mayN (rgF x t b) = true := by
 have m := Ma.of h
 unfold rgF
 split
 ·exact h
 ·split
  ·exact h
  ·split
   ·exact h
   ·exact may_pl (x := tbF x t b) (Ma.may (x := tbF x t b) ⟨m.cur, m.sv, ⟨by show 0 ≤ b; omega, by show b < x.g.ro; omega⟩, by show 0 ≤ t; omega, by show t ≤ b; omega, m.tab, m.tit, m.g, m.mn⟩) 0 0
/-- Scroll, Wipe, Lines, Chars. -/
theorem may_sl {x : Sn} (h : mayN x = true) (n : Int) : mayN (slF x n) = true := by
 have m := may_Mm h
 exact may_np (may_rl h _ _ n m.t1 m.t2 m.b2)
theorem may_wp {x : Sn} (h : mayN x = true) (n : Int) : mayN (wpF x n) = true := by
 have m := may_Mm h
 have := m.l1; have := m.l2
 exact may_np (may_bl h _ _ _ m.w1 m.w2 m.l1 (wiF_ge _ n _ _ (by omega)) (wiF_le _ n _ _ (by omega)))
theorem may_li {x : Sn} (h : mayN x = true) (n : Int) : mayN (liF x n) = true := by
 have m := may_Mm h
 unfold liF
 split
 ·exact h
 ·split
  ·exact h
  ·exact may_at (may_rl h x.cur.row x.bot (-(neF n)) m.w1 (by omega) m.b2) x.cur.row 0 m.w1 m.w2 (Int.le_refl _) m.c1
theorem may_ch {x : Sn} (h : mayN x = true) (n : Int) : mayN (chF' x n) = true := may_np (may_sf h n)
/-- Control. -/
theorem may_fd {x : Sn} (h : mayN x = true) : mayN (fdF x) = true := by
 have m := may_Mm h
 have := m.w1
 unfold fdF
 split
 ·exact may_rl h _ _ 1 m.t1 m.t2 m.b2
 ·split
  ·exact may_rw h _ (by omega) (by omega)
  ·exact h
theorem may_fb {x : Sn} (h : mayN x = true) : mayN (fbF x) = true := by
 have m := may_Mm h
 have := m.w2
 unfold fbF
 split
 ·exact may_rl h _ _ (-1) m.t1 m.t2 m.b2
 ·split
  ·exact may_rw h _ (by omega) (by omega)
  ·exact h
theorem tab_in : ∀ (l : List Int) (ah cols : Int), tabF ah cols l = true → ∀ c ∈ l, ah < c ∧ c < cols
 | [], ah, cols, h, c, hc => by cases hc
 | t :: r, ah, cols, h, c, hc => by
  unfold tabF at h
  split at h
  ·cases h
  ·rcases List.mem_cons.1 hc with rfl | q
   ·omega
   ·have := tab_in r t cols h c q
    omega
theorem nt_in (col last : Int) : ∀ l : List Int, ntF col last l = last ∨ ntF col last l ∈ l
 | [] => .inl rfl
 | t :: r => by
  unfold ntF
  split
  ·exact .inr (List.mem_cons_self)
  ·rcases nt_in col last r with q | q
   ·exact .inl q
   ·exact .inr (List.mem_cons_of_mem _ q)
theorem may_ct {x : Sn} (h : mayN x = true) (c : Int) : mayN (ctF x c) = true := by
 have m := may_Mm h
 have := m.l1; have := m.l2; have := m.c1
 unfold ctF
 split
 ·exact may_at h x.cur.row (if x.cur.col ≤ 0 then 0 else x.cur.col - 1) m.w1 m.w2 (by split <;> omega) (by split <;> omega)
 ·split
  ·refine may_at h x.cur.row (ntF x.cur.col (x.g.co - 1) x.tabs) m.w1 m.w2 ?_ ?_ <;>
   (rcases nt_in x.cur.col (x.g.co - 1) x.tabs with q | q; omega; have := tab_in _ _ _ (Ma.of h).tab _ q; omega)
  ·split
   ·exact may_np (may_fd h)
   ·split
    ·exact may_at h x.cur.row 0 m.w1 m.w2 (Int.le_refl _) m.c1
    ·split
     ·exact may_np (may_fb h)
     ·exact h
/-- Rows all of whose cells become blanks: n of them from top on. -/
def blR (x : Sn) (top : Int) : Nat → Sn
 | 0 => x
 | n + 1 => blF (blR x top n) (top + (n : Int)) 0 x.g.co
theorem blR_same (x : Sn) (top : Int) : ∀ n, ∃ c, blR x top n = clS x c
 | 0 => ⟨x.g.c, rfl⟩
 | n + 1 => by
  obtain ⟨c, e⟩ := blR_same x top n
  unfold blR
  rw [e]
  exact ⟨_, rfl⟩
theorem may_blR {x : Sn} (h : mayN x = true) (top : Int) (h1 : 0 ≤ top) : ∀ n : Nat, top + (n : Int) ≤ x.g.ro → mayN (blR x top n) = true
 | 0, _ => h
 | n + 1, hn => by
  have ih := may_blR h top h1 n (by omega)
  obtain ⟨c, e⟩ := blR_same x top n
  have m := may_Mm h
  have := m.c1
  unfold blR
  refine may_bl ih _ _ _ (by omega) ?_ (Int.le_refl _) (by omega) ?_
  ·rw [e]; show top + (n : Int) < x.g.ro; omega
  ·rw [e]; exact Int.le_refl _
/-- Erase: the cursor's row from a column up to another one, and, with lines, the rows from top to bot. -/
def erS (x : Sn) (fr to top bot : Int) (lines : Bool) : Sn :=
 if lines then blR (blF (npF x) x.cur.row fr to) top (bot - top + 1).toNat else blF (npF x) x.cur.row fr to
def eaF (x : Sn) (lines : Bool) (kind : Int) : Sn :=
 if kind = 0 then erS x x.cur.col x.g.co (x.cur.row + 1) (x.g.ro - 1) lines
 else if kind = 1 then erS x 0 (x.cur.col + 1) 0 (x.cur.row - 1) lines
 else if kind = 2 then erS x 0 x.g.co 0 (x.g.ro - 1) lines else npF x
theorem may_er {x : Sn} (h : mayN x = true) (fr to top bot : Int) (lines : Bool) (h1 : 0 ≤ fr) (h2 : fr ≤ to) (h3 : to ≤ x.g.co) (h4 : 0 ≤ top) (h5 : top ≤ x.g.ro) (h6 : bot < x.g.ro) : mayN (erS x fr to top bot lines) = true := by
 have m := may_Mm h
 have b := may_bl (may_np h) x.cur.row fr to m.w1 m.w2 h1 h2 h3
 unfold erS
 split
 ·refine may_blR b top h4 _ ?_
  show top + (((bot - top + 1).toNat : Nat) : Int) ≤ x.g.ro
  omega
 ·exact b
theorem may_ea {x : Sn} (h : mayN x = true) (lines : Bool) (kind : Int) : mayN (eaF x lines kind) = true := by
 have m := may_Mm h
 have := m.l1; have := m.l2; have := m.c1; have := m.w1; have := m.w2; have := m.r1
 unfold eaF
 split
 ·exact may_er h _ _ _ _ lines (by omega) (by omega) (by omega) (by omega) (by omega) (by omega)
 ·split
  ·exact may_er h _ _ _ _ lines (by omega) (by omega) (by omega) (by omega) (by omega) (by omega)
  ·split
   ·exact may_er h _ _ _ _ lines (by omega) (by omega) (by omega) (by omega) (by omega) (by omega)
   ·exact may_np h
/-- Tabulators: how many stand ahead of a column; one put in; one taken away. -/
def lwT (c : Int) : List Int → Nat
 | [] => 0
 | t :: r => if t < c then lwT c r + 1 else 0
def inT (c : Int) : List Int → List Int
 | [] => [c]
 | t :: r => if t < c then t :: inT c r else if t = c then t :: r else c :: t :: r
def ouT (c : Int) : List Int → List Int
 | [] => []
 | t :: r => if t < c then t :: ouT c r else if t = c then r else t :: r
theorem lwT_le (c : Int) : ∀ l, lwT c l ≤ l.length
 | [] => Nat.le_refl _
 | t :: r => by
  unfold lwT
  have := lwT_le c r
  split
  ·simp; omega
  ·exact Nat.zero_le _
theorem inT_is (c : Int) : ∀ l, l[lwT c l]? ≠ some c → inT c l = l.take (lwT c l) ++ c :: l.drop (lwT c l)
 | [], _ => rfl
 | t :: r, h => by
  unfold inT lwT
  unfold lwT at h
  by_cases q : t < c
  ·rw [if_pos q] at h ⊢
   rw [if_pos q, inT_is c r (by simpa using h)]
   rfl
  ·rw [if_neg q] at h ⊢
   rw [if_neg q, if_neg (by intro e; exact h (by simp [e]))]
   rfl
theorem inT_has (c : Int) : ∀ l, l[lwT c l]? = some c → inT c l = l
 | [], h => by simp at h
 | t :: r, h => by
  unfold inT
  unfold lwT at h
  by_cases q : t < c
  ·rw [if_pos q] at h ⊢
   rw [inT_has c r (by simpa using h)]
  ·rw [if_neg q] at h ⊢
   rw [if_pos (by simpa using h)]
theorem ouT_is (c : Int) : ∀ l, l[lwT c l]? = some c → ouT c l = l.take (lwT c l) ++ l.drop (lwT c l + 1)
 | [], h => by simp at h
 | t :: r, h => by
  unfold ouT lwT
  unfold lwT at h
  by_cases q : t < c
  ·rw [if_pos q] at h ⊢
   rw [if_pos q, ouT_is c r (by simpa using h)]
   rfl
  ·rw [if_neg q] at h ⊢
   rw [if_neg q, if_pos (by simpa using h)]
   rfl
theorem ouT_not (c : Int) : ∀ l, l[lwT c l]? ≠ some c → ouT c l = l
 | [], _ => rfl
 | t :: r, h => by
  unfold ouT
  unfold lwT at h
  by_cases q : t < c
  ·rw [if_pos q] at h ⊢
   rw [ouT_not c r (by simpa using h)]
  ·rw [if_neg q] at h ⊢
   rw [if_neg (by intro e; exact h (by simp [e]))]
theorem tab_down {ah t cols : Int} : ∀ {l : List Int}, tabF t cols l = true → ah ≤ t → tabF ah cols l = true
 | [], _, _ => rfl
 | u :: r, h, q => by
  unfold tabF at h ⊢
  split at h
  ·cases h
  ·rw [if_neg (by omega)]; exact h
theorem tab_inT (c : Int) : ∀ (l : List Int) (ah cols : Int), tabF ah cols l = true → ah < c → c < cols → tabF ah cols (inT c l) = true
 | [], ah, cols, _, h1, h2 => by
  unfold inT tabF
  rw [if_neg (by omega)]
  rfl
 | t :: r, ah, cols, h, h1, h2 => by
  unfold tabF at h
  split at h
  ·cases h
  ·rename_i q
   unfold inT
   split
   ·unfold tabF
    rw [if_neg q]
    exact tab_inT c r t cols h (by omega) h2
   ·split
    ·unfold tabF
     rw [if_neg q]
     exact h
    ·unfold tabF
     rw [if_neg (by omega)]
     unfold tabF
     rw [if_neg (by omega)]
     exact h
theorem tab_ouT (c : Int) : ∀ (l : List Int) (ah cols : Int), tabF ah cols l = true → tabF ah cols (ouT c l) = true
 | [], ah, cols, _ => rfl
 | t :: r, ah, cols, h => by
  have h' := h
  unfold tabF at h
  split at h
  ·cases h
  ·rename_i q
   unfold ouT
   split
   ·unfold tabF
    rw [if_neg q]
    exact tab_ouT c r t cols h
   ·split
    ·exact tab_down h (by omega)
    ·exact h'
def tgF (x : Sn) (kind : Int) : Sn := if kind = 0 then { x with tabs := inT x.cur.col x.tabs } else if kind = 1 then { x with tabs := ouT x.cur.col x.tabs } else if kind = 2 then { x with tabs := [] } else x
theorem may_tabs {x : Sn} (h : mayN x = true) (l : List Int) (hl : tabF (-1) x.g.co l = true) : mayN { x with tabs := l } = true :=
 have m := Ma.of h
 Ma.may ⟨m.cur, m.sv, m.bot, m.t1, m.t2, hl, m.tit, m.g, m.mn⟩
theorem may_tg {x : Sn} (h : mayN x = true) (kind : Int) : mayN (tgF x kind) = true := by
 have m := may_Mm h
 have := m.l1; have := m.l2
 unfold tgF
 split
 ·exact may_tabs h _ (tab_inT _ _ _ _ (Ma.of h).tab (by omega) (by omega))
 ·split
  ·exact may_tabs h _ (tab_ouT _ _ _ _ (Ma.of h).tab)
  ·split
   ·exact may_tabs h _ rfl
   ·exact h
/-- The other grid, or the main one again. -/
def alF (x : Sn) (on : Bool) : Sn := if x.alt then (if on then x else { x with g := x.mn, mn := ⟨0, 0, []⟩, alt := false }) else (if on then { x with mn := x.g, g := ⟨x.g.co, x.g.ro, List.replicate (x.g.co.toNat * x.g.ro.toNat) (bl x.cur.st)⟩, alt := true } else x)
theorem may_al {x : Sn} (h : mayN x = true) (on : Bool) : mayN (alF x on) = true := by
 have m := Ma.of h
 unfold alF
 cases ha : x.alt with
 | true =>
  cases on with
  | true => rw [if_pos rfl, if_pos rfl]; exact h
  | false =>
   rw [if_pos rfl, if_neg (by decide)]
   have q := m.mn
   unfold mnF at q
   rw [ha, if_pos rfl] at q
   simp only [Bool.and_eq_true, decide_eq_true_eq] at q
   obtain ⟨q1, q2, q3⟩ := q
   refine Ma.may ⟨?_, ?_, ?_, m.t1, m.t2, ?_, m.tit, q3, rfl⟩
   ·show curF x.mn.co x.mn.ro x.cur = true; rw [q1, q2]; exact m.cur
   ·show curF x.mn.co x.mn.ro x.sv = true; rw [q1, q2]; exact m.sv
   ·show 0 ≤ x.bot ∧ x.bot < x.mn.ro; rw [q2]; exact m.bot
   ·show tabF (-1) x.mn.co x.tabs = true; rw [q1]; exact m.tab
 | false =>
  cases on with
  | false => rw [if_neg (by decide), if_neg (by decide)]; exact h
  | true =>
   rw [if_neg (by decide), if_pos rfl]
   obtain ⟨cols, rows, g⟩ := gd_of m.g
   refine Ma.may ⟨m.cur, m.sv, m.bot, m.t1, m.t2, m.tab, m.tit, ?_, ?_⟩
   ·show mayG x.g.co x.g.ro (List.replicate (x.g.co.toNat * x.g.ro.toNat) (bl x.cur.st)) = true
    rw [g.ec, g.er, Int.toNat_natCast, Int.toNat_natCast]
    exact mayG_new cols rows _ g.c1 g.c2 g.r1 g.r2 (may_S h)
   ·show (if true = true then decide (x.g.co = x.g.co) && (decide (x.g.ro = x.g.ro) && mayG x.g.co x.g.ro x.g.c) else _) = true
    rw [if_pos rfl, m.g]
    simp
/-- Modes. -/
def pmF (x : Sn) (n : Int) (on : Bool) : Sn :=
 if n = 1 then { x with arr := on } else if n = 6 then plF { x with cur := { x.cur with orig := on } } 0 0 else if n = 7 then { x with wrap := on } else if n = 25 then { x with vis := on }
 else if n = 47 ∨ n = 1047 then alF x on else if n = 1049 then (if on then alF (keF x false) true else if x.alt then keF (alF x false) true else x) else if n = 2004 then { x with pas := on } else x
def mdF (x : Sn) (priv : Bool) (n : Int) (on : Bool) : Sn := if priv then pmF x n on else moF x n on
theorem may_pm {x : Sn} (h : mayN x = true) (n : Int) (on : Bool) : mayN (pmF x n on) = true := by
 have m := Ma.of h
 unfold pmF
 split
 ·exact Ma.may ⟨m.cur, m.sv, m.bot, m.t1, m.t2, m.tab, m.tit, m.g, m.mn⟩
 ·split
  ·exact may_pl (may_cur h { x.cur with orig := on } ((curF_iff _ _ _).2 ((curF_iff _ _ x.cur).1 m.cur))) 0 0
  ·split
   ·exact Ma.may ⟨m.cur, m.sv, m.bot, m.t1, m.t2, m.tab, m.tit, m.g, m.mn⟩
   ·split
    ·exact Ma.may ⟨m.cur, m.sv, m.bot, m.t1, m.t2, m.tab, m.tit, m.g, m.mn⟩
    ·split
     ·exact may_al h on
     ·split
      ·split
       ·exact may_al (may_ke h false) true
       ·split
        ·exact may_ke (may_al h false) true
        ·exact h
      ·split
       ·exact Ma.may ⟨m.cur, m.sv, m.bot, m.t1, m.t2, m.tab, m.tit, m.g, m.mn⟩
       ·exact h
theorem may_md {x : Sn} (h : mayN x = true) (priv : Bool) (n : Int) (on : Bool) : mayN (mdF x priv n on) = true := by
 have m := Ma.of h
 unfold mdF
 split
 ·exact may_pm h n on
 ·unfold moF
  split
  ·exact Ma.may ⟨m.cur, m.sv, m.bot, m.t1, m.t2, m.tab, m.tit, m.g, m.mn⟩
  ·exact h
end Go.Proofs.YtlekleeckcdcgaaGreat
