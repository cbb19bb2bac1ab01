/- The cursor is moved. -/
import Derived.Test.YtlekleeckcdcgaaGreatXh
namespace Go.Proofs.YtlekleeckcdcgaaGreat
open Go.RowKit Go.BigFrame
set_option linter.unusedVariables false
set_option linter.unusedSimpArgs false
set_option maxHeartbeats 8000000
set_option maxRecDepth 100000
/-- The row is set, the column perhaps. -/
def mvS (x : Sn) (Z Y : Int) (b : Bool) : Sn := bif b then rcF x Z Y else rwF x Z
theorem mvCol {N : Nat} {p : Nat} {x : Sn} {vg vt vm vl : Value} (m : Mm x) (Z Y : Int) (b : Bool) (w : World) (h : Bd N w p (mvS x Z Y b) vg vt vm vl) : Calls Tryz.prog 134 #[.pointer (some ⟨p, 0, none⟩)] w fun e w' => e = .returned (.int .i64 (x.g.co - 1)) ∧ w' = w := by
 cases b
 ·exact lastCol_any N w p (rwF x Z) vg vt vm vl h m.c1 m.c2
 ·exact lastCol_any N w p (rcF x Z Y) vg vt vm vl h m.c1 m.c2
theorem bMove_any (N : Nat) (w : World) (p : Nat) (x : Sn) (vg vt vm vl : Value) (h : Bd N w p x vg vt vm vl) (m : Mm x) (down right : Int) :
  Calls Tryz.prog 77 #[.pointer (some ⟨p, 0, none⟩), .int .i64 down, .int .i64 right] w fun e w' => (∃ v, e = .returned v) ∧ Bd N w' p (mvF x down right) vg vt vm vl ∧ Tc p w w' := by
 unfold mvF
 have LR := Box'.mk (lastRow_any N w p x vg vt vm vl h m.r1 m.r2)
 have WR : Box' (∀ (lo hi : Int) (wx : World), lo = (if x.top ≤ x.cur.row then x.top else 0) → hi = (if x.cur.row ≤ x.bot then x.bot else x.g.ro - 1) → Calls Tryz.prog 133 #[.int .i64 x.cur.row, .int .i64 down, .int .i64 lo, .int .i64 hi] wx fun e w' => e = .returned (.int .i64 (wiF x.cur.row down (if x.top ≤ x.cur.row then x.top else 0) (if x.cur.row ≤ x.bot then x.bot else x.g.ro - 1))) ∧ w' = wx) := ⟨fun lo hi wx e1 e2 => by
  rw [← e1, ← e2]
  refine within_any x.cur.row down lo hi m.w1 (by have := m.w2; have := m.r2; omega) ?_ wx
  have := m.t1; have := m.t2; have := m.b2; have := m.r1
  rw [e1, e2]; split <;> split <;> omega⟩
 have WC := Box'.mk (within_any x.cur.col right 0 (x.g.co - 1) m.l1 (by have := m.l2; have := m.c2; omega) (by have := m.c1; omega))
 have BB := Box'.mk h
 have TT := Box'.mk (Tc.refl p w)
 have c3 : w.cell? ⟨p, 3, none⟩ = some (.int .i64 x.cur.row) := h.box.cell 3
 have c16 : w.cell? ⟨p, 16, none⟩ = some (.int .i64 x.top) := h.box.cell 16
 have c17 : w.cell? ⟨p, 17, none⟩ = some (.int .i64 x.bot) := h.box.cell 17
 clear h
 generalize wiF x.cur.row down (if x.top ≤ x.cur.row then x.top else 0) (if x.cur.row ≤ x.bot then x.bot else x.g.ro - 1) = Z at *
 generalize wiF x.cur.col right 0 (x.g.co - 1) = Y at *
 go_enter Tryz.func77, Tryz.ntmps77
 go_wp2_with fail
 refine LR.out.mono ?_
 rintro e w2 ⟨rfl, rfl⟩
 go_wp2_with fail
 refine wp_region_walk 9 (by kernel_rfl) (by kernel_rfl) (fun D f wa => (Bd N wa p x vg vt vm vl ∧ Tc p w2 wa) ∧ ∀ i, D i = true → (fun kc => kc == 999) i = false → f i = (fun kc => match kc with
   | 0 => .pointer (some ⟨p, 0, none⟩)
   | 1 => .pointer (some ⟨p, 0, none⟩)
   | 2 => .pointer (some ⟨p, 3, none⟩)
   | 3 => .int .i64 x.cur.row
   | 4 => .pointer (some ⟨p, 0, none⟩)
   | 5 => .pointer (some ⟨p, 0, none⟩)
   | 6 => .pointer (some ⟨p, 16, none⟩)
   | 7 => .int .i64 x.top
   | 8 => .bool (decide (x.top ≤ x.cur.row))
   | _ => undef) i) ?_ ?_ ?_
 ·exact fun f => ⟨⟨BB.out.below (bR.drew), TT.out.drew⟩, fun i h => by cases h⟩
 ·refine ⟨?_, ?_, ?_, ?_, ?_, ?_, ?_, ?_, ?_, trivial⟩
  all_goals intro D f wq hJ hD hd KK hK
  all_goals have G := fun j h h2 => hJ.2 j (hd j h) h2
  all_goals have cq0 : wq.cell? ⟨p, 3, none⟩ = some (.int .i64 x.cur.row) := hJ.1.1.box.cell 3
  all_goals have cq1 : wq.cell? ⟨p, 16, none⟩ = some (.int .i64 x.top) := hJ.1.1.box.cell 16
  all_goals simp (disch := decide +kernel) only [tkS, tkZ, setAll, siB, stS, stZ, Nat.zero_add, Nat.reduceAdd, G] at hK ⊢
  rotate_left 8
  ·
   refine wp_of_quiet rfl ?_
   go_big_quiet_step (fail)
   exact wpQuiet_nil (hK _ _ ⟨hJ.1, vals_upd hJ.2 (.inr (by first | rfl | simp))⟩)
  all_goals (refine wp_of_quiet rfl ?_; go_big_quiet_step (fail); exact wpQuiet_nil (hK _ _ ⟨hJ.1, vals_upd hJ.2 (.inr rfl)⟩))
 ·intro D f wz hD hJ
  have hW := hJ.1
  have P := fun j h h2 => hJ.2 j (hD j h) h2
  clear hJ hD
  simp (disch := decide) only [tkS, tkZ, List.drop_succ_cons, List.drop_zero, setAll, siB, stS, stZ, Nat.zero_add, Nat.reduceAdd, P]
  clear P
  have BB := Box'.mk hW.1
  have TT := Box'.mk hW.2
  clear hW
  clear c16 c17 c3
  have c3 : wz.cell? ⟨p, 3, none⟩ = some (.int .i64 x.cur.row) := BB.out.box.cell 3
  have c16 : wz.cell? ⟨p, 16, none⟩ = some (.int .i64 x.top) := BB.out.box.cell 16
  have c17 : wz.cell? ⟨p, 17, none⟩ = some (.int .i64 x.bot) := BB.out.box.cell 17
  by_cases h1 : x.top ≤ x.cur.row
  all_goals (
  first | rw [decide_eq_true h1] | rw [decide_eq_false h1]
  have H1 := Box'.mk h1
  clear h1
  go_wp2_with fail
  refine wp_region_walk 9 (by kernel_rfl) (by kernel_rfl) (fun D f wa => (Bd N wa p x vg vt vm vl ∧ Tc p w2 wa) ∧ ∀ i, D i = true → (fun kc => kc == 999) i = false → f i = (fun kc => match kc with
    | 0 => .pointer (some ⟨p, 0, none⟩)
    | 1 => .pointer (some ⟨p, 0, none⟩)
    | 2 => .pointer (some ⟨p, 3, none⟩)
    | 3 => .int .i64 x.cur.row
    | 4 => .pointer (some ⟨p, 0, none⟩)
    | 5 => .pointer (some ⟨p, 0, none⟩)
    | 6 => .pointer (some ⟨p, 17, none⟩)
    | 7 => .int .i64 x.bot
    | 8 => .bool (decide (x.cur.row ≤ x.bot))
    | _ => undef) i) ?_ ?_ ?_
  ·exact fun f => ⟨⟨BB.out.below (bR.drew), TT.out.drew⟩, fun i h => by cases h⟩
  ·refine ⟨?_, ?_, ?_, ?_, ?_, ?_, ?_, ?_, ?_, trivial⟩
   all_goals intro D f wq hJ hD hd KK hK
   all_goals have G := fun j h h2 => hJ.2 j (hd j h) h2
   all_goals have cq0 : wq.cell? ⟨p, 3, none⟩ = some (.int .i64 x.cur.row) := hJ.1.1.box.cell 3
   all_goals have cq1 : wq.cell? ⟨p, 17, none⟩ = some (.int .i64 x.bot) := hJ.1.1.box.cell 17
   all_goals simp (disch := decide +kernel) only [tkS, tkZ, setAll, siB, stS, stZ, Nat.zero_add, Nat.reduceAdd, G] at hK ⊢
   rotate_left 8
   ·
    refine wp_of_quiet rfl ?_
    go_big_quiet_step (fail)
    exact wpQuiet_nil (hK _ _ ⟨hJ.1, vals_upd hJ.2 (.inr (by first | rfl | simp))⟩)
   all_goals (refine wp_of_quiet rfl ?_; go_big_quiet_step (fail); exact wpQuiet_nil (hK _ _ ⟨hJ.1, vals_upd hJ.2 (.inr rfl)⟩))
  ·intro D f wz hD hJ
   have hW := hJ.1
   have P := fun j h h2 => hJ.2 j (hD j h) h2
   clear hJ hD
   simp (disch := decide) only [tkS, tkZ, List.drop_succ_cons, List.drop_zero, setAll, siB, stS, stZ, Nat.zero_add, Nat.reduceAdd, P]
   clear P
   have BB := Box'.mk hW.1
   have TT := Box'.mk hW.2
   clear hW
   clear c16 c17 c3
   have c3 : wz.cell? ⟨p, 3, none⟩ = some (.int .i64 x.cur.row) := BB.out.box.cell 3
   have c17 : wz.cell? ⟨p, 17, none⟩ = some (.int .i64 x.bot) := BB.out.box.cell 17
   by_cases h2 : x.cur.row ≤ x.bot
   all_goals (
   first | rw [decide_eq_true h2] | rw [decide_eq_false h2]
   have H2 := Box'.mk h2
   clear h2
   go_wp2_with fail
   refine (WR.out _ _ _ (by first | rw [if_pos H1.out] | rw [if_neg (by have := H1.out; omega)]) (by first | rw [if_pos H2.out] | rw [if_neg (by have := H2.out; omega)])).mono ?_
   rintro e w3 ⟨rfl, rfl⟩
   have cc : w3.cell? ⟨p, 3, none⟩ = some (.int .i64 x.cur.row) := BB.out.box.cell 3
   have ff := BB.out.box.frozen 3
   have B2 : Box' (Bd N (w3.setCell ⟨p, 3, none⟩ (.int .i64 Z)) p (mvS x Z Y false) vg vt vm vl) := ⟨BB.out.setCell _ 3 _ rfl rfl rfl rfl rfl⟩
   have T2 : Box' (Tc p w2 (w3.setCell ⟨p, 3, none⟩ (.int .i64 Z))) := ⟨TT.out.setCell 3 _⟩
   clear BB TT
   go_upto_region 6 with (fail)
   clear cc ff c3
   generalize (w3.setCell ⟨p, 3, none⟩ (.int .i64 Z)) = w4 at *
   refine wp_region_walk 12 (by kernel_rfl) (by kernel_rfl) (fun D f wa => ((Bd N wa p (mvS x Z Y (D 11)) vg vt vm vl ∧ Tc p w2 wa) ∧ (D 11 = true → D 4 = true)) ∧ ∀ i, D i = true → (fun kc => kc == 11) i = false → f i = (fun kc => match kc with
     | 0 => .pointer (some ⟨p, 0, none⟩)
     | 1 => .pointer (some ⟨p, 0, none⟩)
     | 2 => .pointer (some ⟨p, 0, none⟩)
     | 3 => .pointer (some ⟨p, 4, none⟩)
     | 4 => .int .i64 x.cur.col
     | 5 => .int .i64 right
     | 6 => .pointer (some ⟨p, 0, none⟩)
     | 7 => .int .i64 (x.g.co - 1)
     | 8 => .int .i64 Y
     | 9 => .pointer (some ⟨p, 0, none⟩)
     | 10 => .pointer (some ⟨p, 4, none⟩)
     | _ => undef) i) ?_ ?_ ?_
   ·exact fun f => ⟨⟨⟨B2.out.below (bR.drew), T2.out.drew⟩, fun h => by cases h⟩, fun i h => by cases h⟩
   ·refine ⟨?_, ?_, ?_, ?_, ?_, ?_, ?_, ?_, ?_, ?_, ?_, ?_, trivial⟩
    all_goals intro D f wq hJ hD hd KK hK
    all_goals have G := fun j h h2 => hJ.2 j (hd j h) h2
    all_goals simp (disch := decide +kernel) only [tkS, tkZ, setAll, siB, stS, stZ, Nat.zero_add, Nat.reduceAdd, G] at hK ⊢
    rotate_left 4
    ·
     have hn : D 11 = false := by
      cases hh : D 11 with
      | false => rfl
      | true => exact absurd (hJ.1.2 hh) (by rw [hD]; decide)
     have hb := hJ.1.1.1
     rw [hn] at hb
     have cq : wq.cell? ⟨p, 4, none⟩ = some (.int .i64 x.cur.col) := hb.box.cell 4
     refine wp_of_quiet rfl ?_
     go_big_quiet_step (fail)
     exact wpQuiet_nil (hK _ _ ⟨⟨hJ.1.1, fun _ => rfl⟩, vals_upd hJ.2 (.inr rfl)⟩)
    rotate_left 2
    ·
     refine wp_call 134 #[.pointer (some ⟨p, 0, none⟩)] (by simp [go_sem]) (.int .i64 (x.g.co - 1)) (fun w'' => w'' = wq) (mvCol m Z Y (D 11) wq hJ.1.1.1) ?_
     rintro _ rfl
     exact hK _ _ ⟨hJ.1, vals_upd hJ.2 (.inr rfl)⟩
    ·
     refine wp_call 133 #[.int .i64 x.cur.col, .int .i64 right, .int .i64 0, .int .i64 (x.g.co - 1)] (by simp [go_sem]) (.int .i64 Y) (fun w'' => w'' = wq) (WC.out wq) ?_
     rintro _ rfl
     exact hK _ _ ⟨hJ.1, vals_upd hJ.2 (.inr rfl)⟩
    rotate_left 2
    ·
     have hn : D 11 = false := hD
     have hb := hJ.1.1.1
     rw [hn] at hb
     refine wp_store3 (.tmp 57) (.tmp 55) rfl p 4 Y _ rfl rfl (hb.box.cell 4) (hb.box.frozen 4) (hK _ _ ⟨⟨⟨?_, hJ.1.1.2.setCell 4 _⟩, fun _ => hd 4 (by kernel_rfl)⟩, vals_upd hJ.2 (.inl rfl)⟩)
     exact hb.setCell _ 4 _ rfl rfl rfl rfl rfl
    all_goals (refine wp_of_quiet rfl ?_; go_big_quiet_step (fail); exact wpQuiet_nil (hK _ _ ⟨hJ.1, vals_upd hJ.2 (.inr rfl)⟩))
   ·intro D f wz hD hJ
    have hW := hJ.1
    rw [hD 11 (by decide)] at hW
    have P := fun j h h2 => hJ.2 j (hD j h) h2
    clear hJ hD
    simp (disch := decide) only [tkS, tkZ, List.drop_succ_cons, List.drop_zero, setAll, siB, stS, stZ, Nat.zero_add, Nat.reduceAdd, P]
    clear P
    have B3 := Box'.mk hW.1.1
    have T3 := Box'.mk hW.1.2
    clear hW
    have cc : wz.cell? ⟨p, 5, none⟩ = some (.bool x.cur.pend) := B3.out.box.cell 5
    have ff := B3.out.box.frozen 5
    have B4 : Box' (Bd N (wz.setCell ⟨p, 5, none⟩ (.bool false)) p (atF x Z Y) vg vt vm vl) := ⟨B3.out.setCell _ 5 _ rfl rfl rfl rfl rfl⟩
    have T4 : Box' (Tc p w2 (wz.setCell ⟨p, 5, none⟩ (.bool false))) := ⟨T3.out.setCell 5 _⟩
    clear B3 T3
    go_wp2_with fail
    exact bodyPost_end (results_none rfl _ _) rfl ⟨⟨_, rfl⟩, B4.out, T4.out⟩))
theorem move1_any (N : Nat) (w : World) (p : Nat) (x : Sn) (vg vt vm vl : Value) (h : Bd N w p x vg vt vm vl) (m : Mm x) (c d : Nat) (row col : Int) (hr : Row w c 3 #[.int .i64 row]) (hc : Row w d 3 #[.int .i64 col]) :
  Calls Tryz.prog 76 #[.pointer (some ⟨p, 0, none⟩), .pointer (some ⟨c, 0, none⟩), .pointer (some ⟨d, 0, none⟩)] w fun e w' => (∃ v, e = .returned v) ∧ Bd N w' p (mvF x row col) vg vt vm vl ∧ Tc p w w' := by
 have c0 : w.cell? ⟨c, 0, none⟩ = some (.int .i64 row) := hr.cell 0
 have c1 : w.cell? ⟨d, 0, none⟩ = some (.int .i64 col) := hc.cell 0
 have PL := Box'.mk (bMove_any N w p x vg vt vm vl h m row col)
 clear h hr hc
 go_enter Tryz.func76, Tryz.ntmps76
 go_wp2_with fail
 refine PL.out.mono ?_
 rintro e w2 ⟨⟨v, rfl⟩, h2, h3⟩
 have H2 := Box'.mk h2
 have H3 := Box'.mk h3
 clear h2 h3 c0 c1
 go_wp2_with fail
 exact bodyPost_end (results_none rfl _ _) rfl ⟨⟨_, rfl⟩, H2.out, H3.out⟩
theorem Move_dr (x : Sn) (vg vt vm vl : Value) (row col : Int) (w : World) (hl : Li w.heap.size w x vg vt vm vl) (hb : Bo x) :
  Calls Tryz.prog 23 #[.agg (snA x vg vt vm vl), .int .i64 row, .int .i64 col] w fun e w' => DR w.heap.size w' e (if mayN x then some (mvF x row col) else none) ∧ Below w.heap.size w w' := by
 have DO : Box' (∀ wx, Below w.heap.size w wx → w.heap.size + 4 ≤ wx.heap.size → Row wx (w.heap.size + 1) 3 #[.int .i64 row] → Row wx (w.heap.size + 2) 3 #[.int .i64 col] → Calls Tryz.prog 67 #[.agg (snA x vg vt vm vl), .func (.func 76) #[] #[.pointer (some ⟨w.heap.size + 1, 0, none⟩), .pointer (some ⟨w.heap.size + 2, 0, none⟩)]] wx fun e w' => DR wx.heap.size w' e (if mayN x then some (mvF x row col) else none) ∧ Below wx.heap.size wx w') := ⟨fun wx hbe hsz r0 r1 => by
  cases hN : mayN x with
  | false => exact do2_no x vg vt vm vl 76 (.pointer (some ⟨w.heap.size + 1, 0, none⟩)) (.pointer (some ⟨w.heap.size + 2, 0, none⟩)) wx (hl.at hbe) hb hN
  | true =>
   exact do2_ok x (mvF x row col) vg vt vm vl 76 (.pointer (some ⟨w.heap.size + 1, 0, none⟩)) (.pointer (some ⟨w.heap.size + 2, 0, none⟩)) wx (hl.at hbe) hb hN (fun _ _ => rfl) (fun wy p vg vt vm vl hby bd hp => by
   have r0 := r0.below hby (by omega)
   have r1 := r1.below hby (by omega)
   refine (move1_any (wx.heap.size + 2) wy p x vg vt vm vl bd (may_Mm hN) (w.heap.size + 1) (w.heap.size + 2) row col r0 r1).mono ?_
   rintro e w' ⟨h1, h2, h3⟩
   exact ⟨h1, ⟨_, _, _, _, h2⟩, h3.below (by omega) (by have := bd.lt; omega)⟩)⟩
 have F := Box'.mk (Wr2.begin w (snA x vg vt vm vl) 3 (.int .i64 row) 3 (.int .i64 col))
 have U32 := Box'.mk Tryz.underlying32
 have S32 := Box'.mk s32
 clear hl hb
 generalize (if mayN x then some (mvF x row col) else none) = r at *
 go_enter Tryz.func23, Tryz.ntmps23
 go_upto_region 1 with (fail)
 generalize ((((w.alloc (.cells (snA x vg vt vm vl) 32)).alloc (.cells #[.int .i64 row] 3)).alloc (.cells #[.int .i64 col] 3)).alloc (.cells z32 32)) = w1 at *
 have hz := F.out.sz
 go_wp2_with (first
  | (refine wpList_load_row rfl 32 (.tmp 3) rfl w.heap.size rfl 32 (snA x vg vt vm vl) F.out.r _ U32.out rfl 44 S32.out rfl ?_))
 refine (DO.out _ F.out.be (by omega) F.out.c0 F.out.c1).mono ?_
 rintro e w2 ⟨hd, hb⟩
 obtain ⟨y, yg, yt, ym, yl, er, rfl, ho, hs⟩ := (hd.dn (show w.heap.size ≤ w1.heap.size by omega)).out
 have RR := Box'.mk (F.out.rr.below hb (by omega))
 have BE : Box' (Below w.heap.size w w2) := ⟨F.out.be.trans (hb.mono F.out.be.size)⟩
 have OO := Box'.mk ho
 have HS := Box'.mk hs
 clear hd hb ho hs F DO
 go_wp2_with (first
  | (refine wpList_store_row rfl 32 (.tmp 6) (.tmp 11) rfl (w.heap.size + 3) rfl (snA y yg yt ym yl) rfl 32 44 RR.out S32.out rfl OO.out ?_))
 exact bodyPost_ret (results_sn rfl _ (w.heap.size + 3) rfl _ rfl _ _ (RR.out.setRow _) rfl) rfl ⟨HS.out _ _ RR.out, below_setRow BE.out (by omega) _⟩
theorem Move_no (x : Sn) (vg vt vm vl : Value) (row col : Int) (w : World) (hl : Li w.heap.size w x vg vt vm vl) (hb : Bo x) (hN : mayN x = false) :
  Calls Tryz.prog 23 #[.agg (snA x vg vt vm vl), .int .i64 row, .int .i64 col] w fun e w' => e = .returned sErr ∧ Below w.heap.size w w' := (Move_dr x vg vt vm vl row col w hl hb).mono fun e w' q => by
 rw [hN] at q; exact q
theorem Move_ok (x : Sn) (vg vt vm vl : Value) (row col : Int) (w : World) (hl : Li w.heap.size w x vg vt vm vl) (hb : Bo x) (hN : mayN x = true) :
  Calls Tryz.prog 23 #[.agg (snA x vg vt vm vl), .int .i64 row, .int .i64 col] w fun e w' => ScR w.heap.size w' e (mvF x row col) ∧ Below w.heap.size w w' := (Move_dr x vg vt vm vl row col w hl hb).mono fun e w' q => by
 rw [hN] at q; exact q
end Go.Proofs.YtlekleeckcdcgaaGreat
