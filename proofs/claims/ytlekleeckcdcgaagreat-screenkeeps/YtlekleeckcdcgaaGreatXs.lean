/- Cells of a row are blanked; Wipe. -/
import Derived.Test.YtlekleeckcdcgaaGreatXp
import Derived.Test.YtlekleeckcdcgaaGreatNn
import Derived.Test.YtlekleeckcdcgaaGreatNm
namespace Go.Proofs.YtlekleeckcdcgaaGreat
open Go.RowKit Go.BigFrame
set_option linter.unusedVariables false
set_option linter.unusedSimpArgs false
set_option maxHeartbeats 8000000
set_option maxRecDepth 100000
theorem wiF_ge (a b lo hi : Int) (h : lo ≤ hi) : lo ≤ wiF a b lo hi := by unfold wiF; split <;> (try split) <;> omega
theorem wiF_le (a b lo hi : Int) (h : lo ≤ hi) : wiF a b lo hi ≤ hi := by unfold wiF; split <;> (try split) <;> omega
/-- A row of a board, from place fr up to, but without, to, is blank. -/
def blF (x : Sn) (row fr to : Int) : Sn := clS x (lay x.g.c (row.toNat * x.g.co.toNat) (putRow (subR x.g.c x.g.co.toNat row.toNat 0) x.g.co.toNat 0 (mnd (erF (rowF (subR x.g.c x.g.co.toNat row.toNat 0) x.g.co.toNat 0) fr.toNat to.toNat x.cur.st))))
theorem bBlank_any (N : Nat) (w : World) (p : Nat) (x : Sn) (vg vt vm vl : Value) (h : Bd N w p x vg vt vm vl) (hG : mayG x.g.co x.g.ro x.g.c = true) (hS : mayS x.cur.st = true) (row fr to : Int) (h1 : 0 ≤ row) (h2 : row < x.g.ro) (h3 : 0 ≤ fr) (h4 : fr ≤ to) (h5 : to ≤ x.g.co) :
  Calls Tryz.prog 135 #[.pointer (some ⟨p, 0, none⟩), .int .i64 row, .int .i64 fr, .int .i64 to] w fun e w' => (∃ v, e = .returned v) ∧ Bd N w' p (blF x row fr to) vg vt vm vl ∧ Below N w w' := by
 obtain ⟨cols, rows, ec, er, p1, p2, p3, p4, hl⟩ := mayG_dest hG
 obtain ⟨T, rfl⟩ := Int.eq_ofNat_of_zero_le h1
 obtain ⟨F, rfl⟩ := Int.eq_ofNat_of_zero_le h3
 obtain ⟨U, rfl⟩ := Int.eq_ofNat_of_zero_le (show 0 ≤ to by omega)
 have hTk : T + 0 < rows := by omega
 have hpos : 0 < x.g.c.length := by rw [hl]; exact Nat.mul_pos p1 p3
 obtain ⟨b, cap, sp, rfl, hNb, hcap, hrc⟩ := h.own.g.row hpos
 have hfit := sub_fit (cols := cols) hTk
 have hsl := subR_len x.g.c cols rows T 0 hl hTk
 rw [ec, er] at hG
 have hGs := mayG_sub x.g.c cols rows T 0 hG hTk
 have hm : (T + 1) * cols = T * cols + cols := by rw [Nat.add_mul, Nat.one_mul]
 have h01 : (0 + 1) * cols = cols := by rw [Nat.zero_add, Nat.one_mul]
 rw [h01] at hfit hsl
 have RW := bRows_any N w p x b 0 x.g.c.length cap vt vm vl h cols T T ec p1 p2 (by omega) (by omega) (by rw [hm]; omega)
 rw [hm, Nat.add_sub_cancel_left, Nat.zero_add, show (T : Int) - (T : Int) + 1 = 1 by omega] at RW
 have hrl : (rowF (subR x.g.c cols T 0) cols 0).length = cols := rowF_len _ cols 0 (by rw [hsl]; omega)
 have hml : (mnd (erF (rowF (subR x.g.c cols T 0) cols 0) F U x.cur.st)).length = cols := by rw [mnd_len, erF_len _ F U _ (by omega) (by rw [hrl]; omega), hrl]
 have hsc : (putRow (subR x.g.c cols T 0) cols 0 (mnd (erF (rowF (subR x.g.c cols T 0) cols 0) F U x.cur.st))).length = cols := by rw [putRow_len _ cols 0 _ hml (by rw [hsl]; omega), hsl]
 have WK := bBlank_walk N w p x b cap vt vm vl h sp hrc hNb cols T (T * cols) cols F U _ hsc (by rw [hl]; exact hfit) RW (fun wa ha => by
  have hv := ha.cls (T * cols) cols cols (by rw [hl]; exact hfit) (Nat.le_refl _)
  have es : (List.take cols (List.drop (T * cols) x.g.c)) = subR x.g.c cols T 0 := by unfold subR; rw [h01]
  rw [es] at hv
  refine (erase_ok cols 1 _ (subR x.g.c cols T 0) 0 F U x.cur.st wa hv hGs hS (Nat.zero_lt_one) (by omega) (by omega)).mono ?_
  rintro e w' ⟨g, rfl, hg, hr, hb⟩
  rw [hsl]
  exact ⟨_, rfl, g, rfl, hg, hr, hb⟩)
 have E : blF x (T : Int) (F : Int) (U : Int) = clS x (lay x.g.c (T * cols) (putRow (subR x.g.c cols T 0) cols 0 (mnd (erF (rowF (subR x.g.c cols T 0) cols 0) F U x.cur.st)))) := by
  unfold blF
  rw [ec]
  rfl
 rw [E]
 exact WK
def wpF (x : Sn) (n : Int) : Sn := npF (blF x x.cur.row x.cur.col (wiF x.cur.col n x.cur.col x.g.co))
theorem bWipe_any (N : Nat) (w : World) (p : Nat) (x : Sn) (vg vt vm vl : Value) (h : Bd N w p x vg vt vm vl) (m : Mm x) (hG : mayG x.g.co x.g.ro x.g.c = true) (hS : mayS x.cur.st = true) (n : Int) :
  Calls Tryz.prog 96 #[.pointer (some ⟨p, 0, none⟩), .int .i64 n] w fun e w' => (∃ v, e = .returned v) ∧ Bd N w' p (npF (blF x x.cur.row x.cur.col (wiF x.cur.col n x.cur.col x.g.co))) vg vt vm vl ∧ Below N w w' := by
 have hle : x.cur.col ≤ x.g.co := by have := m.l2; omega
 have RL : Box' (∀ wq, Bd N wq p x vg vt vm vl → Calls Tryz.prog 135 #[.pointer (some ⟨p, 0, none⟩), .int .i64 x.cur.row, .int .i64 x.cur.col, .int .i64 (wiF x.cur.col n x.cur.col x.g.co)] wq fun e w' => (∃ v, e = .returned v) ∧ Bd N w' p (blF x x.cur.row x.cur.col (wiF x.cur.col n x.cur.col x.g.co)) vg vt vm vl ∧ Below N wq w') := ⟨fun wq hb => bBlank_any N wq p x vg vt vm vl hb hG hS x.cur.row x.cur.col _ m.w1 m.w2 m.l1 (wiF_ge _ _ _ _ hle) (wiF_le _ _ _ _ hle)⟩
 have WC := Box'.mk (within_any x.cur.col n x.cur.col x.g.co m.l1 (by have := m.l2; have := m.c2; omega) hle)
 have BB := Box'.mk h
 clear h hle
 generalize wiF x.cur.col n x.cur.col x.g.co = U at *
 go_enter Tryz.func96, Tryz.ntmps96
 go_wp2_with fail
 refine wp_region_walk 25 (by kernel_rfl) (by kernel_rfl) (fun D f wa => (Bd N wa p (bif (D 24) then blF x x.cur.row x.cur.col U else x) vg vt vm vl ∧ Below N w wa) ∧ ∀ i, D i = true → (fun kc => kc == 24) i = false → f i = (fun kc => match kc with
   | 0 => .pointer (some ⟨p, 0, none⟩)
   | 1 => .pointer (some ⟨p, 0, none⟩)
   | 2 => .pointer (some ⟨p, 0, none⟩)
   | 3 => .pointer (some ⟨p, 3, none⟩)
   | 4 => .int .i64 x.cur.row
   | 5 => .pointer (some ⟨p, 0, none⟩)
   | 6 => .pointer (some ⟨p, 0, none⟩)
   | 7 => .pointer (some ⟨p, 4, none⟩)
   | 8 => .int .i64 x.cur.col
   | 9 => .pointer (some ⟨p, 0, none⟩)
   | 10 => .pointer (some ⟨p, 0, none⟩)
   | 11 => .pointer (some ⟨p, 4, none⟩)
   | 12 => .int .i64 x.cur.col
   | 13 => .int .i64 n
   | 14 => .pointer (some ⟨p, 0, none⟩)
   | 15 => .pointer (some ⟨p, 0, none⟩)
   | 16 => .pointer (some ⟨p, 4, none⟩)
   | 17 => .int .i64 x.cur.col
   | 18 => .pointer (some ⟨p, 0, none⟩)
   | 19 => .pointer (some ⟨p, 0, none⟩)
   | 20 => .pointer (some ⟨p, 0, none⟩)
   | 21 => .pointer (some ⟨p, 0, none⟩)
   | 22 => .int .i64 x.g.co
   | 23 => .int .i64 U
   | _ => undef) i) ?_ ?_ ?_
 ·exact fun f => ⟨⟨BB.out.below (bR.drew), bR.drew⟩, fun i h => by cases h⟩
 ·refine ⟨?a0, ?a1, ?a2, ?a3, ?a4, ?a5, ?a6, ?a7, ?a8, ?a9, ?a10, ?a11, ?a12, ?a13, ?a14, ?a15, ?a16, ?a17, ?a18, ?a19, ?a20, ?a21, ?a22, ?a23, ?a24, trivial⟩
  all_goals intro D f wq hJ hD hd KK hK
  all_goals have G := fun j h h2 => hJ.2 j (hd j h) h2
  all_goals have cq0 : wq.cell? ⟨p, 3, none⟩ = some (.int .i64 x.cur.row) := (hJ.1.1.box.cell 3).trans (by cases D 24 <;> rfl)
  all_goals have cq1 : wq.cell? ⟨p, 4, none⟩ = some (.int .i64 x.cur.col) := (hJ.1.1.box.cell 4).trans (by cases D 24 <;> rfl)
  all_goals have cq2 : wq.cell? ⟨p, 0, none⟩ = some (.int .i64 x.g.co) := (hJ.1.1.box.cell 0).trans (by cases D 24 <;> rfl)
  all_goals simp (disch := decide +kernel) only [tkS, tkZ, setAll, siB, stS, stZ, Nat.zero_add, Nat.reduceAdd, G] at hK ⊢
  case a23 =>
   refine wp_call 133 #[.int .i64 x.cur.col, .int .i64 n, .int .i64 x.cur.col, .int .i64 x.g.co] (by simp [go_sem]) (.int .i64 U) (fun w'' => w'' = wq) (WC.out wq) ?_
   rintro _ rfl
   exact hK _ _ ⟨hJ.1, vals_upd hJ.2 (.inr rfl)⟩
  case a24 =>
   have hn : D 24 = false := hD
   have hb := hJ.1.1
   rw [hn] at hb
   refine wp_callR 135 #[.pointer (some ⟨p, 0, none⟩), .int .i64 x.cur.row, .int .i64 x.cur.col, .int .i64 U] (by simp [go_sem]) (fun v w'' => Bd N w'' p (blF x x.cur.row x.cur.col U) vg vt vm vl ∧ Below N wq w'') ((RL.out wq hb).mono ?_) ?_
   ·rintro e w'' ⟨⟨v, rfl⟩, k1, k2⟩
    exact ⟨v, rfl, k1, k2⟩
   ·rintro v w'' ⟨k1, k2⟩
    exact hK _ _ ⟨⟨k1, hJ.1.2.trans k2⟩, vals_upd hJ.2 (.inl rfl)⟩
  all_goals (refine wp_of_quiet rfl ?_; go_big_quiet_step (fail); exact wpQuiet_nil (hK _ _ ⟨hJ.1, vals_upd hJ.2 (.inr rfl)⟩))
 ·intro D f wz hD hJ
  have hW := hJ.1
  rw [hD 24 (by decide)] at hW
  have P := fun j h h2 => hJ.2 j (hD j h) h2
  clear hJ hD
  simp (disch := decide) only [tkS, tkZ, List.drop_succ_cons, List.drop_zero, setAll, siB, stS, stZ, Nat.zero_add, Nat.reduceAdd, P]
  clear P
  have B3 := Box'.mk hW.1
  have T3 := Box'.mk hW.2
  clear hW
  have cc : wz.cell? ⟨p, 5, none⟩ = some (.bool x.cur.pend) := B3.out.box.cell 5
  have ff := B3.out.box.frozen 5
  have B4 : Box' (Bd N (wz.setCell ⟨p, 5, none⟩ (.bool false)) p (npF (blF x x.cur.row x.cur.col U)) vg vt vm vl) := ⟨B3.out.setCell _ 5 _ rfl rfl rfl rfl rfl⟩
  have T4 : Box' (Below N w (wz.setCell ⟨p, 5, none⟩ (.bool false))) := ⟨T3.out.trans (((Tc.refl p wz).setCell 5 _).below B3.out.hp (Nat.le_trans B3.out.hp (Nat.le_of_lt B3.out.lt)))⟩
  clear B3 T3
  go_wp2_with fail
  exact bodyPost_end (results_none rfl _ _) rfl ⟨⟨_, rfl⟩, B4.out, T4.out⟩
theorem wipe1_any (N : Nat) (w : World) (p : Nat) (x : Sn) (vg vt vm vl : Value) (h : Bd N w p x vg vt vm vl) (hN : mayN x = true) (c : Nat) (n : Int) (hr : Row w c 3 #[.int .i64 n]) :
  Calls Tryz.prog 95 #[.pointer (some ⟨p, 0, none⟩), .pointer (some ⟨c, 0, none⟩)] w fun e w' => (∃ v, e = .returned v) ∧ Bd N w' p (wpF x n) vg vt vm vl ∧ Below N w w' := by
 have c0 : w.cell? ⟨c, 0, none⟩ = some (.int .i64 n) := hr.cell 0
 have PL := Box'.mk (bWipe_any N w p x vg vt vm vl h (may_Mm hN) (may_G hN) (may_S hN) n)
 clear h hr hN
 go_enter Tryz.func95, Tryz.ntmps95
 go_wp2_with fail
 refine PL.out.mono ?_
 rintro e w2 ⟨⟨v, rfl⟩, h2, h3⟩
 have H2 := Box'.mk h2
 have H3 := Box'.mk h3
 clear h2 h3 c0
 go_wp2_with fail
 exact bodyPost_end (results_none rfl _ _) rfl ⟨⟨_, rfl⟩, H2.out, H3.out⟩
theorem Wipe_dr (x : Sn) (vg vt vm vl : Value) (n : Int) (w : World) (hl : Li w.heap.size w x vg vt vm vl) (hb : Bo x) :
  Calls Tryz.prog 32 #[.agg (snA x vg vt vm vl), .int .i64 n] w fun e w' => DR w.heap.size w' e (if mayN x then some (wpF x n) else none) ∧ Below w.heap.size w w' := by
 have DO : Box' (∀ wx, Below w.heap.size w wx → w.heap.size + 3 ≤ wx.heap.size → Row wx (w.heap.size + 1) 3 #[.int .i64 n] → Calls Tryz.prog 67 #[.agg (snA x vg vt vm vl), .func (.func 95) #[] #[.pointer (some ⟨w.heap.size + 1, 0, none⟩)]] wx fun e w' => DR wx.heap.size w' e (if mayN x then some (wpF x n) else none) ∧ Below wx.heap.size wx w') := ⟨fun wx hbe hsz r0 => by
  cases hN : mayN x with
  | false => exact do1_no x vg vt vm vl 95 (.pointer (some ⟨w.heap.size + 1, 0, none⟩)) wx (hl.at hbe) hb hN
  | true =>
   exact do1_ok x (wpF x n) vg vt vm vl 95 (.pointer (some ⟨w.heap.size + 1, 0, none⟩)) wx (hl.at hbe) hb hN (fun _ _ => rfl) (fun wy p vg vt vm vl hby bd hp => by
   have r0 := r0.below hby (by omega)
   refine (wipe1_any (wx.heap.size + 2) wy p x vg vt vm vl bd hN (w.heap.size + 1) n r0).mono ?_
   rintro e w' ⟨h1, h2, h3⟩
   exact ⟨h1, ⟨_, _, _, _, h2⟩, h3⟩)⟩
 have F := Box'.mk (Wr1.begin w (snA x vg vt vm vl) 3 (.int .i64 n))
 have U32 := Box'.mk Tryz.underlying32
 have S32 := Box'.mk s32
 clear hl hb
 generalize (if mayN x then some (wpF x n) else none) = r at *
 go_enter Tryz.func32, Tryz.ntmps32
 go_upto_region 1 with (fail)
 generalize (((w.alloc (.cells (snA x vg vt vm vl) 32)).alloc (.cells #[.int .i64 n] 3)).alloc (.cells z32 32)) = w1 at *
 have hz := F.out.sz
 go_wp2_with (first
  | (refine wpList_load_row rfl 32 (.tmp 2) rfl w.heap.size rfl 32 (snA x vg vt vm vl) F.out.r _ U32.out rfl 44 S32.out rfl ?_))
 refine (DO.out _ F.out.be (by omega) F.out.c0).mono ?_
 rintro e w2 ⟨hd, hb⟩
 obtain ⟨y, yg, yt, ym, yl, er, rfl, ho, hs⟩ := (hd.dn (show w.heap.size ≤ w1.heap.size by omega)).out
 have RR := Box'.mk (F.out.rr.below hb (by omega))
 have BE : Box' (Below w.heap.size w w2) := ⟨F.out.be.trans (hb.mono F.out.be.size)⟩
 have OO := Box'.mk ho
 have HS := Box'.mk hs
 clear hd hb ho hs F DO
 go_wp2_with (first
  | (refine wpList_store_row rfl 32 (.tmp 4) (.tmp 9) rfl (w.heap.size + 2) rfl (snA y yg yt ym yl) rfl 32 44 RR.out S32.out rfl OO.out ?_))
 exact bodyPost_ret (results_sn rfl _ (w.heap.size + 2) rfl _ rfl _ _ (RR.out.setRow _) rfl) rfl ⟨HS.out _ _ RR.out, below_setRow BE.out (by omega) _⟩
theorem Wipe_no (x : Sn) (vg vt vm vl : Value) (n : Int) (w : World) (hl : Li w.heap.size w x vg vt vm vl) (hb : Bo x) (hN : mayN x = false) :
  Calls Tryz.prog 32 #[.agg (snA x vg vt vm vl), .int .i64 n] w fun e w' => e = .returned sErr ∧ Below w.heap.size w w' := (Wipe_dr x vg vt vm vl n w hl hb).mono fun e w' q => by
 rw [hN] at q; exact q
theorem Wipe_ok (x : Sn) (vg vt vm vl : Value) (n : Int) (w : World) (hl : Li w.heap.size w x vg vt vm vl) (hb : Bo x) (hN : mayN x = true) :
  Calls Tryz.prog 32 #[.agg (snA x vg vt vm vl), .int .i64 n] w fun e w' => ScR w.heap.size w' e (wpF x n) ∧ Below w.heap.size w w' := (Wipe_dr x vg vt vm vl n w hl hb).mono fun e w' q => by
 rw [hN] at q; exact q
end Go.Proofs.YtlekleeckcdcgaaGreat
