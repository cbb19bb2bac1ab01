/- Lines are put in; Lines. The cells from the cursor on are moved. The cells from the cursor on are moved; Chars. -/
import Derived.Test.YtlekleeckcdcgaaGreatXs
namespace Go.Proofs.YtlekleeckcdcgaaGreat
open Go.RowKit Go.BigFrame
set_option linter.unusedVariables false
set_option linter.unusedSimpArgs false
set_option maxRecDepth 100000
set_option maxHeartbeats 8000000
/-- The cursor at the row's begin. -/
def c0F (x : Sn) : Sn := { x with cur := { x.cur with col := 0 } }
def liF (x : Sn) (n : Int) : Sn := if x.cur.row < x.top then x else if x.bot < x.cur.row then x else npF (c0F (rlF x x.cur.row x.bot (-(neF n))))
structure LiC (N : Nat) (w : World) (p : Nat) (x : Sn) (vg vt vm vl : Value) (wq : World) : Prop where
 bd : Bd N wq p x vg vt vm vl
 be : Below N w wq
theorem bLines_a (N : Nat) (w : World) (p : Nat) (x : Sn) (vg vt vm vl : Value) (h : Bd N w p x vg vt vm vl) (m : Mm x) (hG : mayG x.g.co x.g.ro x.g.c = true) (hS : mayS x.cur.st = true) (n : Int) (h1 : x.cur.row < x.top) :
  Calls Tryz.prog 83 #[.pointer (some ⟨p, 0, none⟩), .int .i64 n] w fun e w' => (∃ v, e = .returned v) ∧ Bd N w' p (x) vg vt vm vl ∧ Below N w w' := by
 have BB := Box'.mk h
 have n1 := neF_lo n
 have n2 := neF_hi n
 clear h hG hS
 go_enter Tryz.func83, Tryz.ntmps83
 go_wp2_with fail
 refine wp_region_lex (LiC N w p x vg vt vm vl) (by kernel_rfl) (by kernel_rfl) ⟨BB.out.below (bR.drew), bR.drew⟩ ?_
 iterate 3 (go_big_quiet_want; go_big_quiet_op; first | go_big_quiet_on | (refine ⟨_, fun _ _ => rfl, ?_⟩; go_big_quiet_on))
 go_big_quiet_want
 refine qC_load3 (.tmp 6) rfl p 3 (.int .i64 x.cur.row) rfl (fun wq hq => hq.bd.box.cell 3) ?_
 simp only [Act.put, siB, stS, stZ]
 go_big_quiet_on
 iterate 3 (go_big_quiet_want; go_big_quiet_op; first | go_big_quiet_on | (refine ⟨_, fun _ _ => rfl, ?_⟩; go_big_quiet_on))
 go_big_quiet_want
 refine qC_load3 (.tmp 10) rfl p 16 (.int .i64 x.top) rfl (fun wq hq => hq.bd.box.cell 16) ?_
 simp only [Act.put, siB, stS, stZ]
 go_big_quiet_on
 go_big_quiet_want
 refine qC_of (.bool true) (fun wq hq => by unfold execOp; simp [go_sem] <;> omega) ?_
 simp only [Act.put, siB, stS, stZ]
 go_big_quiet_on
 (go_big_quiet_want; go_big_quiet_op; first | go_big_quiet_on | (refine ⟨_, fun _ _ => rfl, ?_⟩; go_big_quiet_on))
 iterate 9 go_big_quiet_skip
 (go_big_quiet_want; go_big_quiet_op; first | go_big_quiet_on | (refine ⟨_, fun _ _ => rfl, ?_⟩; go_big_quiet_on))
 refine wpQuiet_nil ?_
 rintro wz ⟨hz, hy⟩
 go_wp2_with fail
 exact bodyPost_ret (results_none rfl _ _) rfl ⟨⟨_, rfl⟩, hz, hy⟩
theorem bLines_b (N : Nat) (w : World) (p : Nat) (x : Sn) (vg vt vm vl : Value) (h : Bd N w p x vg vt vm vl) (m : Mm x) (hG : mayG x.g.co x.g.ro x.g.c = true) (hS : mayS x.cur.st = true) (n : Int) (h1 : x.top ≤ x.cur.row) (h2 : x.bot < x.cur.row) :
  Calls Tryz.prog 83 #[.pointer (some ⟨p, 0, none⟩), .int .i64 n] w fun e w' => (∃ v, e = .returned v) ∧ Bd N w' p (x) vg vt vm vl ∧ Below N w w' := by
 have BB := Box'.mk h
 have n1 := neF_lo n
 have n2 := neF_hi n
 clear h hG hS
 go_enter Tryz.func83, Tryz.ntmps83
 go_wp2_with fail
 refine wp_region_lex (LiC N w p x vg vt vm vl) (by kernel_rfl) (by kernel_rfl) ⟨BB.out.below (bR.drew), bR.drew⟩ ?_
 iterate 3 (go_big_quiet_want; go_big_quiet_op; first | go_big_quiet_on | (refine ⟨_, fun _ _ => rfl, ?_⟩; go_big_quiet_on))
 go_big_quiet_want
 refine qC_load3 (.tmp 6) rfl p 3 (.int .i64 x.cur.row) rfl (fun wq hq => hq.bd.box.cell 3) ?_
 simp only [Act.put, siB, stS, stZ]
 go_big_quiet_on
 iterate 3 (go_big_quiet_want; go_big_quiet_op; first | go_big_quiet_on | (refine ⟨_, fun _ _ => rfl, ?_⟩; go_big_quiet_on))
 go_big_quiet_want
 refine qC_load3 (.tmp 10) rfl p 16 (.int .i64 x.top) rfl (fun wq hq => hq.bd.box.cell 16) ?_
 simp only [Act.put, siB, stS, stZ]
 go_big_quiet_on
 go_big_quiet_want
 refine qC_of (.bool false) (fun wq hq => by unfold execOp; simp [go_sem] <;> omega) ?_
 simp only [Act.put, siB, stS, stZ]
 go_big_quiet_on
 iterate 4 (go_big_quiet_want; go_big_quiet_op; first | go_big_quiet_on | (refine ⟨_, fun _ _ => rfl, ?_⟩; go_big_quiet_on))
 go_big_quiet_want
 refine qC_load3 (.tmp 16) rfl p 3 (.int .i64 x.cur.row) rfl (fun wq hq => hq.bd.box.cell 3) ?_
 simp only [Act.put, siB, stS, stZ]
 go_big_quiet_on
 iterate 3 (go_big_quiet_want; go_big_quiet_op; first | go_big_quiet_on | (refine ⟨_, fun _ _ => rfl, ?_⟩; go_big_quiet_on))
 go_big_quiet_want
 refine qC_load3 (.tmp 20) rfl p 17 (.int .i64 x.bot) rfl (fun wq hq => hq.bd.box.cell 17) ?_
 simp only [Act.put, siB, stS, stZ]
 go_big_quiet_on
 go_big_quiet_want
 refine qC_of (.bool true) (fun wq hq => by unfold execOp; simp [go_sem] <;> omega) ?_
 simp only [Act.put, siB, stS, stZ]
 go_big_quiet_on
 (go_big_quiet_want; go_big_quiet_op; first | go_big_quiet_on | (refine ⟨_, fun _ _ => rfl, ?_⟩; go_big_quiet_on))
 refine wpQuiet_nil ?_
 rintro wz ⟨hz, hy⟩
 go_wp2_with fail
 exact bodyPost_ret (results_none rfl _ _) rfl ⟨⟨_, rfl⟩, hz, hy⟩
theorem bLines_c (N : Nat) (w : World) (p : Nat) (x : Sn) (vg vt vm vl : Value) (h : Bd N w p x vg vt vm vl) (m : Mm x) (hG : mayG x.g.co x.g.ro x.g.c = true) (hS : mayS x.cur.st = true) (n : Int) (h1 : x.top ≤ x.cur.row) (h2 : x.cur.row ≤ x.bot) :
  Calls Tryz.prog 83 #[.pointer (some ⟨p, 0, none⟩), .int .i64 n] w fun e w' => (∃ v, e = .returned v) ∧ Bd N w' p (npF (c0F (rlF x x.cur.row x.bot (-(neF n))))) vg vt vm vl ∧ Below N w w' := by
 have RL : Box' (∀ wq, Bd N wq p x vg vt vm vl → Calls Tryz.prog 136 #[.pointer (some ⟨p, 0, none⟩), .int .i64 x.cur.row, .int .i64 x.bot, .int .i64 (-(neF n))] wq fun e w' => (∃ v, e = .returned v) ∧ Bd N w' p (rlF x x.cur.row x.bot (-(neF n))) vg vt vm vl ∧ Below N wq w') := ⟨fun wq hb => bRoll_any N wq p x vg vt vm vl hb hG hS x.cur.row x.bot _ m.w1 (by omega) m.b2⟩
 have BB := Box'.mk h
 have n1 := neF_lo n
 have n2 := neF_hi n
 clear h hG hS
 go_enter Tryz.func83, Tryz.ntmps83
 go_wp2_with fail
 refine wp_region_lex (LiC N w p x vg vt vm vl) (by kernel_rfl) (by kernel_rfl) ⟨BB.out.below (bR.drew), bR.drew⟩ ?_
 iterate 3 (go_big_quiet_want; go_big_quiet_op; first | go_big_quiet_on | (refine ⟨_, fun _ _ => rfl, ?_⟩; go_big_quiet_on))
 go_big_quiet_want
 refine qC_load3 (.tmp 6) rfl p 3 (.int .i64 x.cur.row) rfl (fun wq hq => hq.bd.box.cell 3) ?_
 simp only [Act.put, siB, stS, stZ]
 go_big_quiet_on
 iterate 3 (go_big_quiet_want; go_big_quiet_op; first | go_big_quiet_on | (refine ⟨_, fun _ _ => rfl, ?_⟩; go_big_quiet_on))
 go_big_quiet_want
 refine qC_load3 (.tmp 10) rfl p 16 (.int .i64 x.top) rfl (fun wq hq => hq.bd.box.cell 16) ?_
 simp only [Act.put, siB, stS, stZ]
 go_big_quiet_on
 go_big_quiet_want
 refine qC_of (.bool false) (fun wq hq => by unfold execOp; simp [go_sem] <;> omega) ?_
 simp only [Act.put, siB, stS, stZ]
 go_big_quiet_on
 iterate 4 (go_big_quiet_want; go_big_quiet_op; first | go_big_quiet_on | (refine ⟨_, fun _ _ => rfl, ?_⟩; go_big_quiet_on))
 go_big_quiet_want
 refine qC_load3 (.tmp 16) rfl p 3 (.int .i64 x.cur.row) rfl (fun wq hq => hq.bd.box.cell 3) ?_
 simp only [Act.put, siB, stS, stZ]
 go_big_quiet_on
 iterate 3 (go_big_quiet_want; go_big_quiet_op; first | go_big_quiet_on | (refine ⟨_, fun _ _ => rfl, ?_⟩; go_big_quiet_on))
 go_big_quiet_want
 refine qC_load3 (.tmp 20) rfl p 17 (.int .i64 x.bot) rfl (fun wq hq => hq.bd.box.cell 17) ?_
 simp only [Act.put, siB, stS, stZ]
 go_big_quiet_on
 go_big_quiet_want
 refine qC_of (.bool false) (fun wq hq => by unfold execOp; simp [go_sem] <;> omega) ?_
 simp only [Act.put, siB, stS, stZ]
 go_big_quiet_on
 (go_big_quiet_want; go_big_quiet_op; first | go_big_quiet_on | (refine ⟨_, fun _ _ => rfl, ?_⟩; go_big_quiet_on))
 refine wpQuiet_nil ?_
 rintro wy ⟨hz, hy⟩
 have BY := Box'.mk (And.intro hz hy)
 clear hz hy BB
 go_wp2_with fail
 refine wp_region_walk 14 (by kernel_rfl) (by kernel_rfl) (fun D f wa => (Bd N wa p (bif (D 13) then rlF x x.cur.row x.bot (-(neF n)) else x) vg vt vm vl ∧ Below N w wa) ∧ ∀ i, D i = true → (fun kc => kc == 13) i = false → f i = (fun kc => match kc with
   | 0 => .pointer (some ⟨p, 0, none⟩)
   | 1 => .pointer (some ⟨p, 0, none⟩)
   | 2 => .pointer (some ⟨p, 0, none⟩)
   | 3 => .pointer (some ⟨p, 3, none⟩)
   | 4 => .int .i64 x.cur.row
   | 5 => .pointer (some ⟨p, 0, none⟩)
   | 6 => .pointer (some ⟨p, 0, none⟩)
   | 7 => .pointer (some ⟨p, 17, none⟩)
   | 8 => .int .i64 x.bot
   | 9 => .int .i64 n
   | 10 => .int .i16 (neF n)
   | 11 => .int .i64 (neF n)
   | 12 => .int .i64 (-(neF n))
   | _ => undef) i) ?_ ?_ ?_
 ·exact fun f => ⟨⟨BY.out.1.below (bR.drew), BY.out.2.drew⟩, fun i h => by cases h⟩
 ·refine ⟨?a0, ?a1, ?a2, ?a3, ?a4, ?a5, ?a6, ?a7, ?a8, ?a9, ?a10, ?a11, ?a12, ?a13, trivial⟩
  all_goals intro D f wq hJ hD hd KK hK
  all_goals have G := fun j h h2 => hJ.2 j (hd j h) h2
  all_goals have cq0 : wq.cell? ⟨p, 3, none⟩ = some (.int .i64 x.cur.row) := (hJ.1.1.box.cell 3).trans (by cases D 13 <;> rfl)
  all_goals have cq1 : wq.cell? ⟨p, 17, none⟩ = some (.int .i64 x.bot) := (hJ.1.1.box.cell 17).trans (by cases D 13 <;> rfl)
  all_goals simp (disch := decide +kernel) only [tkS, tkZ, setAll, siB, stS, stZ, Nat.zero_add, Nat.reduceAdd, G] at hK ⊢
  case a10 =>
   refine wp_call 137 #[.int .i64 n] (by simp [go_sem]) (.int .i16 (neF n)) (fun w'' => w'' = wq) (near_any n wq) ?_
   rintro _ rfl
   exact hK _ _ ⟨hJ.1, vals_upd hJ.2 (.inr rfl)⟩
  case a13 =>
   have hn : D 13 = false := hD
   have hb := hJ.1.1
   rw [hn] at hb
   refine wp_callR 136 #[.pointer (some ⟨p, 0, none⟩), .int .i64 x.cur.row, .int .i64 x.bot, .int .i64 (-(neF n))] (by simp [go_sem]) (fun v w'' => Bd N w'' p (rlF x x.cur.row x.bot (-(neF n))) vg vt vm vl ∧ Below N wq w'') ((RL.out wq hb).mono ?_) ?_
   ·rintro e w'' ⟨⟨v, rfl⟩, k1, k2⟩
    exact ⟨v, rfl, k1, k2⟩
   ·rintro v w'' ⟨k1, k2⟩
    exact hK _ _ ⟨⟨k1, hJ.1.2.trans k2⟩, vals_upd hJ.2 (.inl rfl)⟩
  all_goals (refine wp_of_quiet rfl ?_; go_big_quiet_step (fail); exact wpQuiet_nil (hK _ _ ⟨hJ.1, vals_upd hJ.2 (.inr rfl)⟩))
 ·intro D f wz hD hJ
  have hW := hJ.1
  rw [hD 13 (by decide)] at hW
  have P := fun j h h2 => hJ.2 j (hD j h) h2
  clear hJ hD
  simp (disch := decide) only [tkS, tkZ, List.drop_succ_cons, List.drop_zero, setAll, siB, stS, stZ, Nat.zero_add, Nat.reduceAdd, P]
  clear P
  have B3 := Box'.mk hW.1
  have T3 := Box'.mk hW.2
  clear hW
  have cc : wz.cell? ⟨p, 4, none⟩ = some (.int .i64 x.cur.col) := B3.out.box.cell 4
  have ff := B3.out.box.frozen 4
  have B4 : Box' (Bd N (wz.setCell ⟨p, 4, none⟩ (.int .i64 0)) p (c0F (rlF x x.cur.row x.bot (-(neF n)))) vg vt vm vl) := ⟨B3.out.setCell _ 4 _ rfl rfl rfl rfl rfl⟩
  have dd : (wz.setCell ⟨p, 4, none⟩ (.int .i64 0)).cell? ⟨p, 5, none⟩ = some (.bool x.cur.pend) := B4.out.box.cell 5
  have fg := B4.out.box.frozen 5
  have B5 : Box' (Bd N ((wz.setCell ⟨p, 4, none⟩ (.int .i64 0)).setCell ⟨p, 5, none⟩ (.bool false)) p (npF (c0F (rlF x x.cur.row x.bot (-(neF n))))) vg vt vm vl) := ⟨B4.out.setCell _ 5 _ rfl rfl rfl rfl rfl⟩
  have T5 : Box' (Below N w ((wz.setCell ⟨p, 4, none⟩ (.int .i64 0)).setCell ⟨p, 5, none⟩ (.bool false))) := ⟨T3.out.trans ((((Tc.refl p wz).setCell 4 _).setCell 5 _).below B3.out.hp (Nat.le_trans B3.out.hp (Nat.le_of_lt B3.out.lt)))⟩
  clear B3 T3 B4
  go_wp2_with fail
  exact bodyPost_end (results_none rfl _ _) rfl ⟨⟨_, rfl⟩, B5.out, T5.out⟩
theorem bLines_any (N : Nat) (w : World) (p : Nat) (x : Sn) (vg vt vm vl : Value) (h : Bd N w p x vg vt vm vl) (m : Mm x) (hG : mayG x.g.co x.g.ro x.g.c = true) (hS : mayS x.cur.st = true) (n : Int) :
  Calls Tryz.prog 83 #[.pointer (some ⟨p, 0, none⟩), .int .i64 n] w fun e w' => (∃ v, e = .returned v) ∧ Bd N w' p (liF x n) vg vt vm vl ∧ Below N w w' := by
 unfold liF
 by_cases h1 : x.cur.row < x.top
 ·rw [if_pos h1]; exact bLines_a N w p x vg vt vm vl h m hG hS n h1
 ·rw [if_neg h1]
  by_cases h2 : x.bot < x.cur.row
  ·rw [if_pos h2]; exact bLines_b N w p x vg vt vm vl h m hG hS n (Int.not_lt.1 h1) h2
  ·rw [if_neg h2]; exact bLines_c N w p x vg vt vm vl h m hG hS n (Int.not_lt.1 h1) (Int.not_lt.1 h2)
theorem lines1_any (N : Nat) (w : World) (p : Nat) (x : Sn) (vg vt vm vl : Value) (h : Bd N w p x vg vt vm vl) (hN : mayN x = true) (c : Nat) (n : Int) (hr : Row w c 3 #[.int .i64 n]) :
  Calls Tryz.prog 82 #[.pointer (some ⟨p, 0, none⟩), .pointer (some ⟨c, 0, none⟩)] w fun e w' => (∃ v, e = .returned v) ∧ Bd N w' p (liF x n) vg vt vm vl ∧ Below N w w' := by
 have c0 : w.cell? ⟨c, 0, none⟩ = some (.int .i64 n) := hr.cell 0
 have PL := Box'.mk (bLines_any N w p x vg vt vm vl h (may_Mm hN) (may_G hN) (may_S hN) n)
 clear h hr hN
 go_enter Tryz.func82, Tryz.ntmps82
 go_wp2_with fail
 refine PL.out.mono ?_
 rintro e w2 ⟨⟨v, rfl⟩, h2, h3⟩
 have H2 := Box'.mk h2
 have H3 := Box'.mk h3
 clear h2 h3 c0
 go_wp2_with fail
 exact bodyPost_end (results_none rfl _ _) rfl ⟨⟨_, rfl⟩, H2.out, H3.out⟩
theorem Lines_dr (x : Sn) (vg vt vm vl : Value) (n : Int) (w : World) (hl : Li w.heap.size w x vg vt vm vl) (hb : Bo x) :
  Calls Tryz.prog 26 #[.agg (snA x vg vt vm vl), .int .i64 n] w fun e w' => DR w.heap.size w' e (if mayN x then some (liF x n) else none) ∧ Below w.heap.size w w' := by
 have DO : Box' (∀ wx, Below w.heap.size w wx → w.heap.size + 3 ≤ wx.heap.size → Row wx (w.heap.size + 1) 3 #[.int .i64 n] → Calls Tryz.prog 67 #[.agg (snA x vg vt vm vl), .func (.func 82) #[] #[.pointer (some ⟨w.heap.size + 1, 0, none⟩)]] wx fun e w' => DR wx.heap.size w' e (if mayN x then some (liF x n) else none) ∧ Below wx.heap.size wx w') := ⟨fun wx hbe hsz r0 => by
  cases hN : mayN x with
  | false => exact do1_no x vg vt vm vl 82 (.pointer (some ⟨w.heap.size + 1, 0, none⟩)) wx (hl.at hbe) hb hN
  | true =>
   exact do1_ok x (liF x n) vg vt vm vl 82 (.pointer (some ⟨w.heap.size + 1, 0, none⟩)) wx (hl.at hbe) hb hN (fun _ _ => rfl) (fun wy p vg vt vm vl hby bd hp => by
   have r0 := r0.below hby (by omega)
   refine (lines1_any (wx.heap.size + 2) wy p x vg vt vm vl bd hN (w.heap.size + 1) n r0).mono ?_
   rintro e w' ⟨h1, h2, h3⟩
   exact ⟨h1, ⟨_, _, _, _, h2⟩, h3⟩)⟩
 have F := Box'.mk (Wr1.begin w (snA x vg vt vm vl) 3 (.int .i64 n))
 have U32 := Box'.mk Tryz.underlying32
 have S32 := Box'.mk s32
 clear hl hb
 generalize (if mayN x then some (liF x n) else none) = r at *
 go_enter Tryz.func26, Tryz.ntmps26
 go_upto_region 1 with (fail)
 generalize (((w.alloc (.cells (snA x vg vt vm vl) 32)).alloc (.cells #[.int .i64 n] 3)).alloc (.cells z32 32)) = w1 at *
 have hz := F.out.sz
 go_wp2_with (first
  | (refine wpList_load_row rfl 32 (.tmp 2) rfl w.heap.size rfl 32 (snA x vg vt vm vl) F.out.r _ U32.out rfl 44 S32.out rfl ?_))
 refine (DO.out _ F.out.be (by omega) F.out.c0).mono ?_
 rintro e w2 ⟨hd, hb⟩
 obtain ⟨y, yg, yt, ym, yl, er, rfl, ho, hs⟩ := (hd.dn (show w.heap.size ≤ w1.heap.size by omega)).out
 have RR := Box'.mk (F.out.rr.below hb (by omega))
 have BE : Box' (Below w.heap.size w w2) := ⟨F.out.be.trans (hb.mono F.out.be.size)⟩
 have OO := Box'.mk ho
 have HS := Box'.mk hs
 clear hd hb ho hs F DO
 go_wp2_with (first
  | (refine wpList_store_row rfl 32 (.tmp 4) (.tmp 9) rfl (w.heap.size + 2) rfl (snA y yg yt ym yl) rfl 32 44 RR.out S32.out rfl OO.out ?_))
 exact bodyPost_ret (results_sn rfl _ (w.heap.size + 2) rfl _ rfl _ _ (RR.out.setRow _) rfl) rfl ⟨HS.out _ _ RR.out, below_setRow BE.out (by omega) _⟩
theorem Lines_no (x : Sn) (vg vt vm vl : Value) (n : Int) (w : World) (hl : Li w.heap.size w x vg vt vm vl) (hb : Bo x) (hN : mayN x = false) :
  Calls Tryz.prog 26 #[.agg (snA x vg vt vm vl), .int .i64 n] w fun e w' => e = .returned sErr ∧ Below w.heap.size w w' := (Lines_dr x vg vt vm vl n w hl hb).mono fun e w' q => by
 rw [hN] at q; exact q
theorem Lines_ok (x : Sn) (vg vt vm vl : Value) (n : Int) (w : World) (hl : Li w.heap.size w x vg vt vm vl) (hb : Bo x) (hN : mayN x = true) :
  Calls Tryz.prog 26 #[.agg (snA x vg vt vm vl), .int .i64 n] w fun e w' => ScR w.heap.size w' e (liF x n) ∧ Below w.heap.size w w' := (Lines_dr x vg vt vm vl n w hl hb).mono fun e w' q => by
 rw [hN] at q; exact q
/-- What stands while the operations from c0 on make a box with the grid V in it. -/
structure BoJ (w : World) (c0 : Nat) (V : Array Value) (D : Nat → Bool) (f : Nat → Value) (wa : World) : Prop where
 be : Below w.heap.size w wa
 k0 : D c0 = true → f c0 = .agg V
 k1 : D (c0 + 1) = true → ∃ q, f (c0 + 1) = .pointer (some ⟨q, 0, none⟩) ∧ w.heap.size ≤ q ∧ Room wa q 24 3
 k2 : D (c0 + 2) = true → D (c0 + 1) = true ∧ ∃ q, f (c0 + 1) = .pointer (some ⟨q, 0, none⟩) ∧ Row wa q 24 V
theorem BoJ.begin (w : World) (c0 : Nat) (V : Array Value) (f : Nat → Value) : BoJ w c0 V (fun _ => false) f w.drew := ⟨bR.drew, nofun, nofun, nofun⟩
section
variable {w : World} {c0 : Nat} {V : Array Value} {D : Nat → Bool} {f : Nat → Value} {wa : World}
theorem BoJ.other (j : BoJ w c0 V D f wa) (k : Nat) (v : Value) (hk : k < c0) : BoJ w c0 V (updB D k) (upd f k v) wa := by
 have h0 : ¬ c0 = k := by omega
 have h1 : ¬ c0 + 1 = k := by omega
 have h2 : ¬ c0 + 2 = k := by omega
 obtain ⟨a0, a1, a2, a3⟩ := j
 refine ⟨a0, ?_, ?_, ?_⟩ <;> simp only [updB, upd, if_neg h0, if_neg h1, if_neg h2] <;> assumption
theorem BoJ.grow {wb : World} (j : BoJ w c0 V D f wa) (hb : Below wa.heap.size wa wb) : BoJ w c0 V D f wb := by
 refine ⟨j.be.trans (hb.mono j.be.size), j.k0, fun h => ?_, fun h => ?_⟩
 ·obtain ⟨q, e, e1, e2⟩ := j.k1 h; exact ⟨q, e, e1, e2.below hb e2.lt⟩
 ·obtain ⟨d1, q, e, e2⟩ := j.k2 h; exact ⟨d1, q, e, e2.below hb e2.lt⟩
theorem BoJ.o0 (j : BoJ w c0 V D f wa) : BoJ w c0 V (updB D c0) (upd f c0 (.agg V)) wa := by
 obtain ⟨a0, a1, a2, a3⟩ := j
 exact ⟨a0, fun _ => by simp [upd], by simpa [updB, upd] using a2, by simpa [updB, upd] using a3⟩
theorem BoJ.o1 (j : BoJ w c0 V D f wa) (hn : D (c0 + 1) = false) (q : Nat) (hq : w.heap.size ≤ q) (hr : Room wa q 24 3) : BoJ w c0 V (updB D (c0 + 1)) (upd f (c0 + 1) (.pointer (some ⟨q, 0, none⟩))) wa := by
 obtain ⟨a0, a1, a2, a3⟩ := j
 refine ⟨a0, by simpa [updB, upd] using a1, fun _ => ⟨q, by simp [upd], hq, hr⟩, ?_⟩
 intro h; have h : D (c0 + 2) = true := by simpa [updB] using h
 exact absurd (a3 h).1 (by rw [hn]; decide)
theorem BoJ.o2 (j : BoJ w c0 V D f wa) (d1 : D (c0 + 1) = true) (q : Nat) (e : f (c0 + 1) = .pointer (some ⟨q, 0, none⟩)) (hV : V.size = 3) (v : Value) : BoJ w c0 V (updB D (c0 + 2)) (upd f (c0 + 2) v) (wa.setRow q V) := by
 obtain ⟨a0, a1, a2, a3⟩ := j
 obtain ⟨q', x1, x2, x3⟩ := a2 d1
 obtain rfl : q = q' := by rw [e] at x1; simpa using x1
 exact ⟨below_setRow a0 x2 _, by simpa [updB, upd] using a1, fun _ => ⟨q, by simpa [upd] using e, x2, (x3.setRow _).room hV⟩, fun _ => ⟨by simpa [updB] using d1, q, by simpa [upd] using e, x3.setRow _⟩⟩
theorem BoJ.fin (j : BoJ w c0 V D f wa) (m : Nat) (hm : c0 + 3 ≤ m) (hD : ∀ k, k < m → D k = true) : ∃ q, f c0 = .agg V ∧ f (c0 + 1) = .pointer (some ⟨q, 0, none⟩) ∧ w.heap.size ≤ q ∧ Row wa q 24 V := by
 obtain ⟨q, x1, x2, x3⟩ := j.k1 (hD _ (by omega))
 obtain ⟨_, q', y1, y2⟩ := j.k2 (hD _ (by omega))
 obtain rfl : q = q' := by rw [x1] at y1; simpa using y1
 exact ⟨q, j.k0 (hD _ (by omega)), x1, x2, y2⟩
end
theorem bShift_walk (N : Nat) (w : World) (p : Nat) (x : Sn) (b cap : Nat) (vt vm vl : Value) (hb : Bd N w p x (.slice (some ⟨b, 0, none⟩) x.g.c.length cap) vt vm vl) (sp : List Value) (hrc : RC w b x.g.c sp) (hNb : N ≤ b) (cols lo n : Nat) (by0 : Int) (l : List Cl) (hlen : l.length = n) (hfit : lo + n ≤ x.g.c.length)
  (RW : ∀ wa, Bd N wa p x (.slice (some ⟨b, 0, none⟩) x.g.c.length cap) vt vm vl → Calls Tryz.prog 166 #[.pointer (some ⟨p, 0, none⟩), .int .i64 x.cur.row, .int .i64 x.cur.row] wa fun e w' => e = .returned (.agg (gA (cols : Int) 1 (.slice (some ⟨b, lo * 15, none⟩) n n))) ∧ Below wa.heap.size wa w')
  (HC0 : ∀ wa, RC wa b x.g.c sp → Calls Tryz.prog 174 #[.agg (gA (cols : Int) 1 (.slice (some ⟨b, lo * 15, none⟩) n n)), .int .i64 0, .int .i64 x.cur.col, .int .i64 by0, .agg (sA x.cur.st)] wa fun e w' => ∃ v, e = .returned v ∧ ∃ g, v = gOk (cols : Int) 1 (.slice (some ⟨g, 0, none⟩) n n) ∧ wa.heap.size ≤ g ∧ RC w' g l [] ∧ Below wa.heap.size wa w') :
  Calls Tryz.prog 138 #[.pointer (some ⟨p, 0, none⟩), .int .i64 by0] w fun e w' => (∃ v, e = .returned v) ∧ Bd N w' p (clS x (lay x.g.c lo l)) (.slice (some ⟨b, 0, none⟩) x.g.c.length cap) vt vm vl ∧ Below N w w' := by
 have HL := Box'.mk hlen
 have HF := Box'.mk hfit
 have NB := Box'.mk hNb
 have NW : Box' (N ≤ w.heap.size) := ⟨Nat.le_trans hb.hp (Nat.le_of_lt hb.lt)⟩
 have S24 := Box'.mk s24g
 have I26 : Box' ((Tryz.prog.info? 26).map (·.size) = some (sA x.cur.st).toList.length) := ⟨by kernel_rfl⟩
 have Z24 : Box' ((Tryz.prog.info? 24).map (fun i => (i.zero, i.size)) = some (some (.agg #[.int .i64 0, .int .i64 0, .slice none 0 0]), 3)) := ⟨by kernel_rfl⟩
 have O := Box'.mk (gA_one (cols : Int) 1 (some ⟨b, lo * 15, none⟩) n n)
 have BB := Box'.mk hb
 have HB := Box'.mk hrc
 have RWB := Box'.mk RW
 have HCB := Box'.mk HC0
 clear hb hrc RW HC0 hlen hfit hNb
 go_enter Tryz.func138, Tryz.ntmps138
 go_wp2_with fail
 refine wp_region_walk 12 (by kernel_rfl) (by kernel_rfl) (fun D f wa => (BoJ w 9 (gA (cols : Int) 1 (.slice (some ⟨b, lo * 15, none⟩) n n)) D f wa) ∧ ∀ i, D i = true → (fun kc => kc == 9 || kc == 10 || kc == 11) i = false → f i = (fun kc => match kc with
   | 0 => .pointer (some ⟨p, 0, none⟩)
   | 1 => .pointer (some ⟨p, 0, none⟩)
   | 2 => .pointer (some ⟨p, 0, none⟩)
   | 3 => .pointer (some ⟨p, 3, none⟩)
   | 4 => .int .i64 x.cur.row
   | 5 => .pointer (some ⟨p, 0, none⟩)
   | 6 => .pointer (some ⟨p, 0, none⟩)
   | 7 => .pointer (some ⟨p, 3, none⟩)
   | 8 => .int .i64 x.cur.row
   | _ => undef) i) ?_ ?_ ?_
 ·exact fun f => ⟨BoJ.begin _ _ _ _, fun i h => by cases h⟩
 ·refine ⟨?wa0, ?wa1, ?wa2, ?wa3, ?wa4, ?wa5, ?wa6, ?wa7, ?wa8, ?wa9, ?wa10, ?wa11, trivial⟩
  all_goals intro D f wq hJ hD hd KK hK
  all_goals have G := fun j h h2 => hJ.2 j (hd j h) h2
  all_goals simp (disch := decide +kernel) only [tkS, tkZ, setAll, siB, stS, stZ, Nat.zero_add, Nat.reduceAdd, G] at hK ⊢
  case wa4 =>
   have cq : wq.cell? ⟨p, 3, none⟩ = some (.int .i64 x.cur.row) := (BB.out.below hJ.1.be).box.cell 3
   refine wp_of_quiet rfl ?_
   go_big_quiet_step (fail)
   exact wpQuiet_nil (hK _ _ ⟨(hJ.1.other 4 _ (by decide)), vals_upd hJ.2 (.inr rfl)⟩)
  case wa8 =>
   have cq : wq.cell? ⟨p, 3, none⟩ = some (.int .i64 x.cur.row) := (BB.out.below hJ.1.be).box.cell 3
   refine wp_of_quiet rfl ?_
   go_big_quiet_step (fail)
   exact wpQuiet_nil (hK _ _ ⟨(hJ.1.other 8 _ (by decide)), vals_upd hJ.2 (.inr rfl)⟩)
  case wa9 =>
   refine wp_callR 166 #[.pointer (some ⟨p, 0, none⟩), .int .i64 x.cur.row, .int .i64 x.cur.row] (by simp [go_sem]) (fun v w'' => v = .agg (gA (cols : Int) 1 (.slice (some ⟨b, lo * 15, none⟩) n n)) ∧ Below wq.heap.size wq w'') ((RWB.out wq (BB.out.below hJ.1.be)).mono ?_) ?_
   ·rintro e w'' ⟨rfl, k1⟩
    exact ⟨_, rfl, rfl, k1⟩
   ·rintro v w'' ⟨rfl, k1⟩
    exact hK _ _ ⟨(hJ.1.grow k1).o0, vals_upd hJ.2 (.inl rfl)⟩
  case wa10 =>
   exact wp_alloc_row 24 rfl #[.int .i64 0, .int .i64 0, .slice none 0 0] 3 Z24.out (hK _ _ ⟨(hJ.1.grow (bR.alloc (Nat.le_refl _) _)).o1 hD wq.heap.size hJ.1.be.size ((Row.new wq 24 _).room rfl), vals_upd hJ.2 (.inl rfl)⟩)
  case wa11 =>
   have e2 : f 9 = .agg (gA (cols : Int) 1 (.slice (some ⟨b, lo * 15, none⟩) n n)) := hJ.1.k0 (hd 9 (by kernel_rfl))
   obtain ⟨q, e4, hq, hrm⟩ := hJ.1.k1 (hd 10 (by kernel_rfl))
   have e4 : f 10 = .pointer (some ⟨q, 0, none⟩) := e4
   have e4' := Box'.mk e4
   simp only [e2, e4] at hK ⊢
   exact wp_store_row 24 (.tmp 4) (.tmp 16) rfl q rfl (gA (cols : Int) 1 (.slice (some ⟨b, lo * 15, none⟩) n n)) rfl 24 3 hrm S24.out rfl O.out (hK _ _ ⟨hJ.1.o2 (hd 10 (by kernel_rfl)) q e4'.out rfl _, vals_upd hJ.2 (.inl rfl)⟩)
  all_goals (refine wp_of_quiet rfl ?_; go_big_quiet_step (fail); exact wpQuiet_nil (hK _ _ ⟨(hJ.1.other _ _ (by decide)), vals_upd hJ.2 (.inr rfl)⟩))
 ·intro D f wz hD hJ
  have hW := hJ.1
  have p0 : f 0 = .pointer (some ⟨p, 0, none⟩) := hJ.2 0 (hD 0 (by decide)) rfl
  have p1 : f 1 = .pointer (some ⟨p, 0, none⟩) := hJ.2 1 (hD 1 (by decide)) rfl
  have p2 : f 2 = .pointer (some ⟨p, 0, none⟩) := hJ.2 2 (hD 2 (by decide)) rfl
  have p3 : f 3 = .pointer (some ⟨p, 3, none⟩) := hJ.2 3 (hD 3 (by decide)) rfl
  have p4 : f 4 = .int .i64 x.cur.row := hJ.2 4 (hD 4 (by decide)) rfl
  have p5 : f 5 = .pointer (some ⟨p, 0, none⟩) := hJ.2 5 (hD 5 (by decide)) rfl
  have p6 : f 6 = .pointer (some ⟨p, 0, none⟩) := hJ.2 6 (hD 6 (by decide)) rfl
  have p7 : f 7 = .pointer (some ⟨p, 3, none⟩) := hJ.2 7 (hD 7 (by decide)) rfl
  have p8 : f 8 = .int .i64 x.cur.row := hJ.2 8 (hD 8 (by decide)) rfl
  obtain ⟨q8, e0, e1, hq8, hrow⟩ := hW.fin 12 (by decide) hD
  have e0 : f 9 = _ := e0
  have e1 : f 10 = _ := e1
  have BE := Box'.mk hW.be
  have R8 := Box'.mk hrow
  clear hW hrow
  clear hJ hD
  simp only [tkS, tkZ, List.drop_succ_cons, List.drop_zero, setAll, siB, stS, stZ, Nat.zero_add, Nat.reduceAdd, p0, p1, p2, p3, p4, p5, p6, p7, p8, e0, e1]
  clear p0 p1 p2 p3 p4 p5 p6 p7 p8 e0 e1
  have B3 := Box'.mk (BB.out.below BE.out)
  have HB3 := Box'.mk (HB.out.below BE.out HB.out.lt)
  have BSZ := Box'.mk BE.out.size
  clear BB HB RWB
  go_wp2_with fail
  generalize wz = w3 at *
  have HC : Box' (∀ wa, Below w3.heap.size w3 wa → Calls Tryz.prog 174 #[.agg (gA (cols : Int) 1 (.slice (some ⟨b, lo * 15, none⟩) n n)), .int .i64 0, .int .i64 x.cur.col, .int .i64 by0, .agg (sA x.cur.st)] wa fun e w' => ∃ v, e = .returned v ∧ ∃ g, v = gOk (cols : Int) 1 (.slice (some ⟨g, 0, none⟩) n n) ∧ wa.heap.size ≤ g ∧ RC w' g l [] ∧ Below wa.heap.size wa w') := ⟨fun wa hw => HCB.out wa (HB3.out.below hw HB3.out.lt)⟩
  refine wp_region_walk 17 (by kernel_rfl) (by kernel_rfl) (fun D f wa => (ChJ w3 10 (cols : Int) 1 n l D f wa) ∧ ∀ i, D i = true → (fun kc => kc == 10 || kc == 11 || kc == 12 || kc == 13 || kc == 14 || kc == 15 || kc == 16) i = false → f i = (fun kc => match kc with
    | 0 => .agg (gA (cols : Int) 1 (.slice (some ⟨b, lo * 15, none⟩) n n))
    | 1 => .pointer (some ⟨p, 0, none⟩)
    | 2 => .pointer (some ⟨p, 0, none⟩)
    | 3 => .pointer (some ⟨p, 4, none⟩)
    | 4 => .int .i64 x.cur.col
    | 5 => .int .i64 by0
    | 6 => .pointer (some ⟨p, 0, none⟩)
    | 7 => .pointer (some ⟨p, 0, none⟩)
    | 8 => .pointer (some ⟨p, 6, none⟩)
    | 9 => .agg (sA x.cur.st)
    | _ => undef) i) ?_ ?_ ?_
  ·exact fun f => ⟨ChJ.begin _ _ _ _ _ _ _, fun i h => by cases h⟩
  ·refine ⟨?wb0, ?wb1, ?wb2, ?wb3, ?wb4, ?wb5, ?wb6, ?wb7, ?wb8, ?wb9, ?wb10, ?wb11, ?wb12, ?wb13, ?wb14, ?wb15, ?wb16, trivial⟩
   all_goals intro D f wq hJ hD hd KK hK
   all_goals have G := fun j h h2 => hJ.2 j (hd j h) h2
   all_goals simp (disch := decide +kernel) only [tkS, tkZ, setAll, siB, stS, stZ, Nat.zero_add, Nat.reduceAdd, G] at hK ⊢
   case wb0 =>
    exact wp_load_row 24 (.tmp 4) rfl q8 rfl 24 _ (R8.out.below hJ.1.be R8.out.lt) _ Tryz.underlying24 rfl 3 s24g rfl (hK _ _ ⟨(hJ.1.other 0 _ (by decide)), vals_upd hJ.2 (.inr rfl)⟩)
   case wb4 =>
    have cq : wq.cell? ⟨p, 4, none⟩ = some (.int .i64 x.cur.col) := (B3.out.below hJ.1.be).box.cell 4
    refine wp_of_quiet rfl ?_
    go_big_quiet_step (fail)
    exact wpQuiet_nil (hK _ _ ⟨(hJ.1.other 4 _ (by decide)), vals_upd hJ.2 (.inr rfl)⟩)
   case wb9 =>
    exact wp_mid 26 (.tmp 26) rfl p 6 (sA x.cur.st) _ Tryz.underlying26 rfl I26.out rfl (sn_style (B3.out.below hJ.1.be).box) (hK _ _ ⟨(hJ.1.other 9 _ (by decide)), vals_upd hJ.2 (.inr rfl)⟩)
   case wb10 =>
    refine wp_callR 174 #[.agg (gA (cols : Int) 1 (.slice (some ⟨b, lo * 15, none⟩) n n)), .int .i64 0, .int .i64 x.cur.col, .int .i64 by0, .agg (sA x.cur.st)] (by simp [go_sem]) _ (HC.out wq hJ.1.be) ?_
    rintro v w'' ⟨g, rfl, hg, hrc, hb⟩
    exact hK _ _ ⟨(hJ.1.grow hb).o0 hD g (Nat.le_trans hJ.1.be.size hg) hrc, vals_upd hJ.2 (.inl rfl)⟩
   case wb11 =>
    exact wp_val (f 10) (by simp [go_sem]) (hK _ _ ⟨hJ.1.o1 hD (hd 10 (by kernel_rfl)), vals_upd hJ.2 (.inl rfl)⟩)
   case wb12 =>
    obtain ⟨d0, e1⟩ := hJ.1.k1 (hd 11 (by kernel_rfl))
    obtain ⟨g, e0, hg, hrc⟩ := hJ.1.k0 d0
    have e1 : f 11 = gOk (cols : Int) 1 (.slice (some ⟨g, 0, none⟩) n n) := e1.trans e0
    simp only [e1] at hK ⊢
    exact wp_val (.agg (gA (cols : Int) 1 (.slice (some ⟨g, 0, none⟩) n n))) (by simp [go_sem, gOk]) (hK _ _ ⟨hJ.1.o2 hD d0 g e0, vals_upd hJ.2 (.inl rfl)⟩)
   case wb13 =>
    obtain ⟨d0, e1⟩ := hJ.1.k1 (hd 11 (by kernel_rfl))
    obtain ⟨g, e0, hg, hrc⟩ := hJ.1.k0 d0
    have e1 : f 11 = gOk (cols : Int) 1 (.slice (some ⟨g, 0, none⟩) n n) := e1.trans e0
    simp only [e1] at hK ⊢
    exact wp_val (.int .i64 0) (by simp [go_sem, gOk]) (hK _ _ ⟨hJ.1.o3 hD, vals_upd hJ.2 (.inl rfl)⟩)
   case wb14 =>
    exact wp_alloc_row 24 rfl #[.int .i64 0, .int .i64 0, .slice none 0 0] 3 Z24.out (hK _ _ ⟨(hJ.1.grow (bR.alloc (Nat.le_refl _) _)).o4 hD wq.heap.size hJ.1.be.size ((Row.new wq 24 _).room rfl), vals_upd hJ.2 (.inl rfl)⟩)
   case wb15 =>
    obtain ⟨d0, g, e0, e2⟩ := hJ.1.k2 (hd 12 (by kernel_rfl))
    obtain ⟨q, e4, hq, hrm⟩ := hJ.1.k4 (hd 14 (by kernel_rfl))
    have e2 : f 12 = .agg (gA (cols : Int) 1 (.slice (some ⟨g, 0, none⟩) n n)) := e2
    have e4 : f 14 = .pointer (some ⟨q, 0, none⟩) := e4
    have e4' := Box'.mk e4
    simp only [e2, e4] at hK ⊢
    exact wp_store_row 24 (.tmp 5) (.tmp 29) rfl q rfl (gA (cols : Int) 1 (.slice (some ⟨g, 0, none⟩) n n)) rfl 24 3 hrm S24.out rfl (gA_one _ _ _ _ _) (hK _ _ ⟨hJ.1.o5 hD d0 (hd 14 (by kernel_rfl)) g q e0 e4'.out _, vals_upd hJ.2 (.inl rfl)⟩)
   case wb16 =>
    have e3 : f 13 = .int .i64 0 := hJ.1.k3 (hd 13 (by kernel_rfl))
    simp only [e3] at hK ⊢
    exact wp_val (.int .i64 0) (by simp [go_sem]) (hK _ _ ⟨hJ.1.o6 hD, vals_upd hJ.2 (.inl rfl)⟩)
   all_goals (refine wp_of_quiet rfl ?_; go_big_quiet_step (fail); exact wpQuiet_nil (hK _ _ ⟨(hJ.1.other _ _ (by decide)), vals_upd hJ.2 (.inr rfl)⟩))
  ·intro D f wz hD hJ
   have hW := hJ.1
   have p0 : f 0 = .agg (gA (cols : Int) 1 (.slice (some ⟨b, lo * 15, none⟩) n n)) := hJ.2 0 (hD 0 (by decide)) rfl
   have p1 : f 1 = .pointer (some ⟨p, 0, none⟩) := hJ.2 1 (hD 1 (by decide)) rfl
   have p2 : f 2 = .pointer (some ⟨p, 0, none⟩) := hJ.2 2 (hD 2 (by decide)) rfl
   have p3 : f 3 = .pointer (some ⟨p, 4, none⟩) := hJ.2 3 (hD 3 (by decide)) rfl
   have p4 : f 4 = .int .i64 x.cur.col := hJ.2 4 (hD 4 (by decide)) rfl
   have p5 : f 5 = .int .i64 by0 := hJ.2 5 (hD 5 (by decide)) rfl
   have p6 : f 6 = .pointer (some ⟨p, 0, none⟩) := hJ.2 6 (hD 6 (by decide)) rfl
   have p7 : f 7 = .pointer (some ⟨p, 0, none⟩) := hJ.2 7 (hD 7 (by decide)) rfl
   have p8 : f 8 = .pointer (some ⟨p, 6, none⟩) := hJ.2 8 (hD 8 (by decide)) rfl
   have p9 : f 9 = .agg (sA x.cur.st) := hJ.2 9 (hD 9 (by decide)) rfl
   obtain ⟨g, q, e0, e1, e2, e3, e4, e6, hg, hq, hrc, hrow⟩ := hW.fin 17 (by decide) hD
   have e0 : f 10 = _ := e0
   have e1 : f 11 = _ := e1
   have e2 : f 12 = _ := e2
   have e3 : f 13 = _ := e3
   have e4 : f 14 = _ := e4
   have e6 : f 16 = _ := e6
   have HBE := Box'.mk hW.be
   have HRC := Box'.mk hrc
   have HRW := Box'.mk hrow
   clear hW hrc hrow
   clear hJ hD
   simp only [tkS, tkZ, List.drop_succ_cons, List.drop_zero, setAll, siB, stS, stZ, Nat.zero_add, Nat.reduceAdd, p0, p1, p2, p3, p4, p5, p6, p7, p8, p9, e0, e1, e2, e3, e4, e6]
   clear p0 p1 p2 p3 p4 p5 p6 p7 p8 p9 e0 e1 e2 e3 e4 e6
   have A1 := Box'.mk (HB3.out.below HBE.out HB3.out.lt)
   have R9 := Box'.mk (R8.out.below HBE.out R8.out.lt)
   have LY := Box'.mk (sLay_any wz b lo n x.g.c l sp A1.out g HRC.out HL.out HF.out (cols : Int) 1 (cols : Int) 1)
   go_wp2_with (first
    | (refine wpList_load_row rfl 24 (.tmp 4) rfl q8 rfl 24 _ R9.out _ Tryz.underlying24 rfl 3 s24g rfl ?_)
    | (refine wpList_load_row rfl 24 (.tmp 5) rfl q rfl 24 _ HRW.out _ Tryz.underlying24 rfl 3 s24g rfl ?_))
   refine LY.out.mono ?_
   rintro e w5 ⟨⟨v, rfl⟩, k2, k3⟩
   have K2 := Box'.mk (Bd.cells (B3.out.below HBE.out) k3 _ _ A1.out k2 (lay_len _ _ _ (by rw [HL.out]; exact HF.out)))
   have K3 : Box' (Below N w w5) := ⟨below_tc (BE.out.trans (HBE.out.mono BSZ.out)) k3 NB.out NW.out⟩
   clear k2 k3 LY
   go_wp2_with fail
   exact bodyPost_end (results_none rfl _ _) rfl ⟨⟨_, rfl⟩, K2.out, K3.out⟩
/-- The cursor's row with its cells from the cursor on moved. -/
def sfF (x : Sn) (by0 : Int) : Sn := clS x (lay x.g.c (x.cur.row.toNat * x.g.co.toNat) (putRow (subR x.g.c x.g.co.toNat x.cur.row.toNat 0) x.g.co.toNat 0 (mnd (shF (rowF (subR x.g.c x.g.co.toNat x.cur.row.toNat 0) x.g.co.toNat 0) x.cur.col.toNat by0 x.cur.st))))
theorem bShift_any (N : Nat) (w : World) (p : Nat) (x : Sn) (vg vt vm vl : Value) (h : Bd N w p x vg vt vm vl) (m : Mm x) (hG : mayG x.g.co x.g.ro x.g.c = true) (hS : mayS x.cur.st = true) (by0 : Int) :
  Calls Tryz.prog 138 #[.pointer (some ⟨p, 0, none⟩), .int .i64 by0] w fun e w' => (∃ v, e = .returned v) ∧ Bd N w' p (sfF x by0) vg vt vm vl ∧ Below N w w' := by
 obtain ⟨cols, rows, ec, er, p1, p2, p3, p4, hl⟩ := mayG_dest hG
 obtain ⟨T, eT⟩ := Int.eq_ofNat_of_zero_le m.w1
 obtain ⟨F, eF⟩ := Int.eq_ofNat_of_zero_le m.l1
 have hTk : T + 0 < rows := by have := m.w2; omega
 have hF : F < cols := by have := m.l2; omega
 have hpos : 0 < x.g.c.length := by rw [hl]; exact Nat.mul_pos p1 p3
 obtain ⟨b, cap, sp, rfl, hNb, hcap, hrc⟩ := h.own.g.row hpos
 have hfit := sub_fit (cols := cols) hTk
 have hsl := subR_len x.g.c cols rows T 0 hl hTk
 have hG' := hG
 rw [ec, er] at hG'
 have hGs := mayG_sub x.g.c cols rows T 0 hG' hTk
 have hm : (T + 1) * cols = T * cols + cols := by rw [Nat.add_mul, Nat.one_mul]
 have h01 : (0 + 1) * cols = cols := by rw [Nat.zero_add, Nat.one_mul]
 rw [h01] at hfit hsl
 have RW : ∀ wa, Bd N wa p x (.slice (some ⟨b, 0, none⟩) x.g.c.length cap) vt vm vl → Calls Tryz.prog 166 #[.pointer (some ⟨p, 0, none⟩), .int .i64 x.cur.row, .int .i64 x.cur.row] wa fun e w' => e = .returned (.agg (gA (cols : Int) 1 (.slice (some ⟨b, T * cols * 15, none⟩) cols cols))) ∧ Below wa.heap.size wa w' := fun wa ha => by
  have q := bRows_any N wa p x b 0 x.g.c.length cap vt vm vl ha cols T T ec p1 p2 (by omega) (by omega) (by rw [hm]; omega)
  rw [hm, Nat.add_sub_cancel_left, Nat.zero_add, show (T : Int) - (T : Int) + 1 = 1 by omega] at q
  rw [eT]
  exact q
 have hrl : (rowF (subR x.g.c cols T 0) cols 0).length = cols := rowF_len _ cols 0 (by rw [hsl]; omega)
 have hml : (mnd (shF (rowF (subR x.g.c cols T 0) cols 0) F by0 x.cur.st)).length = cols := by rw [mnd_len, shF_len, hrl]
 have hsc : (putRow (subR x.g.c cols T 0) cols 0 (mnd (shF (rowF (subR x.g.c cols T 0) cols 0) F by0 x.cur.st))).length = cols := by rw [putRow_len _ cols 0 _ hml (by rw [hsl]; omega), hsl]
 have WK := bShift_walk N w p x b cap vt vm vl h sp hrc hNb cols (T * cols) cols by0 _ hsc (by rw [hl]; exact hfit) RW (fun wa ha => by
  have hv := ha.cls (T * cols) cols cols (by rw [hl]; exact hfit) (Nat.le_refl _)
  have es : (List.take cols (List.drop (T * cols) x.g.c)) = subR x.g.c cols T 0 := by unfold subR; rw [h01]
  rw [es] at hv
  rw [eF]
  refine (shift_ok cols 1 _ (subR x.g.c cols T 0) 0 F by0 x.cur.st wa hv hGs hS (Nat.zero_lt_one) hF).mono ?_
  rintro e w' ⟨g, rfl, hg, hr, hb⟩
  rw [hsl]
  exact ⟨_, rfl, g, rfl, hg, hr, hb⟩)
 have E : sfF x by0 = clS x (lay x.g.c (T * cols) (putRow (subR x.g.c cols T 0) cols 0 (mnd (shF (rowF (subR x.g.c cols T 0) cols 0) F by0 x.cur.st)))) := by
  unfold sfF
  rw [ec, eT, eF]
  rfl
 rw [E]
 exact WK
def chF' (x : Sn) (n : Int) : Sn := npF (sfF x n)
theorem bChars_any (N : Nat) (w : World) (p : Nat) (x : Sn) (vg vt vm vl : Value) (h : Bd N w p x vg vt vm vl) (m : Mm x) (hG : mayG x.g.co x.g.ro x.g.c = true) (hS : mayS x.cur.st = true) (n : Int) :
  Calls Tryz.prog 85 #[.pointer (some ⟨p, 0, none⟩), .int .i64 n] w fun e w' => (∃ v, e = .returned v) ∧ Bd N w' p (chF' x n) vg vt vm vl ∧ Below N w w' := by
 have RL := Box'.mk (bShift_any N w p x vg vt vm vl h m hG hS n)
 clear h hG hS
 go_enter Tryz.func85, Tryz.ntmps85
 go_wp2_with fail
 refine RL.out.mono ?_
 rintro e wz ⟨⟨v, rfl⟩, k1, k2⟩
 have B3 := Box'.mk k1
 have T3 := Box'.mk k2
 clear k1 k2 RL
 have cc : wz.cell? ⟨p, 5, none⟩ = some (.bool x.cur.pend) := B3.out.box.cell 5
 have ff := B3.out.box.frozen 5
 have B4 : Box' (Bd N (wz.setCell ⟨p, 5, none⟩ (.bool false)) p (chF' x n) vg vt vm vl) := ⟨B3.out.setCell _ 5 _ rfl rfl rfl rfl rfl⟩
 have T4 : Box' (Below N w (wz.setCell ⟨p, 5, none⟩ (.bool false))) := ⟨T3.out.trans (((Tc.refl p wz).setCell 5 _).below B3.out.hp (Nat.le_trans B3.out.hp (Nat.le_of_lt B3.out.lt)))⟩
 clear B3 T3
 go_wp2_with fail
 exact bodyPost_end (results_none rfl _ _) rfl ⟨⟨_, rfl⟩, B4.out, T4.out⟩
theorem chars1_any (N : Nat) (w : World) (p : Nat) (x : Sn) (vg vt vm vl : Value) (h : Bd N w p x vg vt vm vl) (hN : mayN x = true) (c : Nat) (n : Int) (hr : Row w c 3 #[.int .i64 n]) :
  Calls Tryz.prog 84 #[.pointer (some ⟨p, 0, none⟩), .pointer (some ⟨c, 0, none⟩)] w fun e w' => (∃ v, e = .returned v) ∧ Bd N w' p (chF' x n) vg vt vm vl ∧ Below N w w' := by
 have c0 : w.cell? ⟨c, 0, none⟩ = some (.int .i64 n) := hr.cell 0
 have PL := Box'.mk (bChars_any N w p x vg vt vm vl h (may_Mm hN) (may_G hN) (may_S hN) n)
 clear h hr hN
 go_enter Tryz.func84, Tryz.ntmps84
 go_wp2_with fail
 refine PL.out.mono ?_
 rintro e w2 ⟨⟨v, rfl⟩, h2, h3⟩
 have H2 := Box'.mk h2
 have H3 := Box'.mk h3
 clear h2 h3 c0
 go_wp2_with fail
 exact bodyPost_end (results_none rfl _ _) rfl ⟨⟨_, rfl⟩, H2.out, H3.out⟩
theorem Chars_dr (x : Sn) (vg vt vm vl : Value) (n : Int) (w : World) (hl : Li w.heap.size w x vg vt vm vl) (hb : Bo x) :
  Calls Tryz.prog 27 #[.agg (snA x vg vt vm vl), .int .i64 n] w fun e w' => DR w.heap.size w' e (if mayN x then some (chF' x n) else none) ∧ Below w.heap.size w w' := by
 have DO : Box' (∀ wx, Below w.heap.size w wx → w.heap.size + 3 ≤ wx.heap.size → Row wx (w.heap.size + 1) 3 #[.int .i64 n] → Calls Tryz.prog 67 #[.agg (snA x vg vt vm vl), .func (.func 84) #[] #[.pointer (some ⟨w.heap.size + 1, 0, none⟩)]] wx fun e w' => DR wx.heap.size w' e (if mayN x then some (chF' x n) else none) ∧ Below wx.heap.size wx w') := ⟨fun wx hbe hsz r0 => by
  cases hN : mayN x with
  | false => exact do1_no x vg vt vm vl 84 (.pointer (some ⟨w.heap.size + 1, 0, none⟩)) wx (hl.at hbe) hb hN
  | true =>
   exact do1_ok x (chF' x n) vg vt vm vl 84 (.pointer (some ⟨w.heap.size + 1, 0, none⟩)) wx (hl.at hbe) hb hN (fun _ _ => rfl) (fun wy p vg vt vm vl hby bd hp => by
   have r0 := r0.below hby (by omega)
   refine (chars1_any (wx.heap.size + 2) wy p x vg vt vm vl bd hN (w.heap.size + 1) n r0).mono ?_
   rintro e w' ⟨h1, h2, h3⟩
   exact ⟨h1, ⟨_, _, _, _, h2⟩, h3⟩)⟩
 have F := Box'.mk (Wr1.begin w (snA x vg vt vm vl) 3 (.int .i64 n))
 have U32 := Box'.mk Tryz.underlying32
 have S32 := Box'.mk s32
 clear hl hb
 generalize (if mayN x then some (chF' x n) else none) = r at *
 go_enter Tryz.func27, Tryz.ntmps27
 go_upto_region 1 with (fail)
 generalize (((w.alloc (.cells (snA x vg vt vm vl) 32)).alloc (.cells #[.int .i64 n] 3)).alloc (.cells z32 32)) = w1 at *
 have hz := F.out.sz
 go_wp2_with (first
  | (refine wpList_load_row rfl 32 (.tmp 2) rfl w.heap.size rfl 32 (snA x vg vt vm vl) F.out.r _ U32.out rfl 44 S32.out rfl ?_))
 refine (DO.out _ F.out.be (by omega) F.out.c0).mono ?_
 rintro e w2 ⟨hd, hb⟩
 obtain ⟨y, yg, yt, ym, yl, er, rfl, ho, hs⟩ := (hd.dn (show w.heap.size ≤ w1.heap.size by omega)).out
 have RR := Box'.mk (F.out.rr.below hb (by omega))
 have BE : Box' (Below w.heap.size w w2) := ⟨F.out.be.trans (hb.mono F.out.be.size)⟩
 have OO := Box'.mk ho
 have HS := Box'.mk hs
 clear hd hb ho hs F DO
 go_wp2_with (first
  | (refine wpList_store_row rfl 32 (.tmp 4) (.tmp 9) rfl (w.heap.size + 2) rfl (snA y yg yt ym yl) rfl 32 44 RR.out S32.out rfl OO.out ?_))
 exact bodyPost_ret (results_sn rfl _ (w.heap.size + 2) rfl _ rfl _ _ (RR.out.setRow _) rfl) rfl ⟨HS.out _ _ RR.out, below_setRow BE.out (by omega) _⟩
theorem Chars_no (x : Sn) (vg vt vm vl : Value) (n : Int) (w : World) (hl : Li w.heap.size w x vg vt vm vl) (hb : Bo x) (hN : mayN x = false) :
  Calls Tryz.prog 27 #[.agg (snA x vg vt vm vl), .int .i64 n] w fun e w' => e = .returned sErr ∧ Below w.heap.size w w' := (Chars_dr x vg vt vm vl n w hl hb).mono fun e w' q => by
 rw [hN] at q; exact q
theorem Chars_ok (x : Sn) (vg vt vm vl : Value) (n : Int) (w : World) (hl : Li w.heap.size w x vg vt vm vl) (hb : Bo x) (hN : mayN x = true) :
  Calls Tryz.prog 27 #[.agg (snA x vg vt vm vl), .int .i64 n] w fun e w' => ScR w.heap.size w' e (chF' x n) ∧ Below w.heap.size w w' := (Chars_dr x vg vt vm vl n w hl hb).mono fun e w' q => by
 rw [hN] at q; exact q
end Go.Proofs.YtlekleeckcdcgaaGreat
