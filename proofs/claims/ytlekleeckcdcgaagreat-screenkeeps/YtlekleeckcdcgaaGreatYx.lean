/- Every deed of the program. -/
import Derived.Test.YtlekleeckcdcgaaGreatYv
import Derived.Test.YtlekleeckcdcgaaGreatYq
import Derived.Test.YtlekleeckcdcgaaGreatYi
import Derived.Test.YtlekleeckcdcgaaGreatYs
namespace Go.Proofs.YtlekleeckcdcgaaGreat
open Go.RowKit Go.BigFrame
set_option linter.unusedVariables false
set_option linter.unusedSimpArgs false
set_option maxHeartbeats 32000000
set_option maxRecDepth 100000
structure DnM (w : World) (s d : Array Value) (wr : World) : Prop where
 r : Row wr w.heap.size 32 s
 c : Row wr (w.heap.size + 1) 34 d
 rr : Room wr (w.heap.size + 2) 32 44
 be : Below w.heap.size w wr
 sz : w.heap.size + 3 ≤ wr.heap.size
theorem DnM.begin (w : World) (s d : Array Value) : DnM w s d (((w.alloc (.cells s 32)).alloc (.cells d 34)).alloc (.cells z32 32)) :=
 ⟨((Row.new _ _ _).alloc _).alloc _, (Row.made _ _ _ _ _ rfl (by simp)).alloc _, Room.made _ _ _ _ _ rfl (by simp), (((Below.refl w.heap.size w).alloc (Nat.le_refl _) _).alloc (by simp) _).alloc (by simp; omega) _, by simp⟩
/-- The deed of a number: its function, its arguments. -/
def dA (S : Value) (k a b : Int) (on : Bool) : Nat × Array Value := if k = 0 then (21, #[S, .int .i32 (wrap32 a)]) else if k = 1 then (22, #[S, .int .i32 (wrap32 a)]) else if k = 2 then (23, #[S, .int .i64 a, .int .i64 b]) else if k = 3 then (24, #[S, .int .i64 a, .int .i64 b]) else if k = 4 then (25, #[S, .bool on, .int .i64 a]) else if k = 5 then (26, #[S, .int .i64 a]) else if k = 6 then (27, #[S, .int .i64 a]) else if k = 7 then (28, #[S, .int .i64 a]) else if k = 8 then (29, #[S, .int .i64 a, .int .i64 b]) else if k = 9 then (18, #[S, .bool on]) else if k = 10 then (30, #[S, .bool on, .int .i64 a, .bool (decide (0 < b))]) else if k = 11 then (31, #[S, .int .i64 a]) else if k = 12 then (32, #[S, .int .i64 a]) else (33, #[S, .int .i64 a, .int .i64 b])
theorem done_w (x : Sn) (vg vt vm vl : Value) (w : World) (k a b : Int) (on : Bool) (r : Option Sn) (DE0 : ∀ wx, Below w.heap.size w wx → Calls Tryz.prog (dA (.agg (snA x vg vt vm vl)) k a b on).1 (dA (.agg (snA x vg vt vm vl)) k a b on).2 wx fun e w' => DR w.heap.size w' e r ∧ Below wx.heap.size wx w') :
  Calls Tryz.prog 8 #[.agg (snA x vg vt vm vl), .agg #[.int .u8 k, .int .i64 a, .int .i64 b, .bool on]] w fun e w' => DR w.heap.size w' e r ∧ Below w.heap.size w w' := by
 have F := Box'.mk (DnM.begin w (snA x vg vt vm vl) #[.int .u8 k, .int .i64 a, .int .i64 b, .bool on])
 have U32 := Box'.mk Tryz.underlying32
 have S32 := Box'.mk s32
 unfold dA at DE0
 by_cases h0 : k = 0
 rw [if_pos h0] at DE0
 replace h0 : (k == 0) = true := by simp [h0]
 rotate_left
 rw [if_neg h0] at DE0
 by_cases h1 : k = 1
 rw [if_pos h1] at DE0
 replace h1 : (k == 1) = true := by simp [h1]
 rotate_left
 rw [if_neg h1] at DE0
 by_cases h2 : k = 2
 rw [if_pos h2] at DE0
 replace h2 : (k == 2) = true := by simp [h2]
 rotate_left
 rw [if_neg h2] at DE0
 by_cases h3 : k = 3
 rw [if_pos h3] at DE0
 replace h3 : (k == 3) = true := by simp [h3]
 rotate_left
 rw [if_neg h3] at DE0
 by_cases h4 : k = 4
 rw [if_pos h4] at DE0
 replace h4 : (k == 4) = true := by simp [h4]
 rotate_left
 rw [if_neg h4] at DE0
 by_cases h5 : k = 5
 rw [if_pos h5] at DE0
 replace h5 : (k == 5) = true := by simp [h5]
 rotate_left
 rw [if_neg h5] at DE0
 by_cases h6 : k = 6
 rw [if_pos h6] at DE0
 replace h6 : (k == 6) = true := by simp [h6]
 rotate_left
 rw [if_neg h6] at DE0
 by_cases h7 : k = 7
 rw [if_pos h7] at DE0
 replace h7 : (k == 7) = true := by simp [h7]
 rotate_left
 rw [if_neg h7] at DE0
 by_cases h8 : k = 8
 rw [if_pos h8] at DE0
 replace h8 : (k == 8) = true := by simp [h8]
 rotate_left
 rw [if_neg h8] at DE0
 by_cases h9 : k = 9
 rw [if_pos h9] at DE0
 replace h9 : (k == 9) = true := by simp [h9]
 rotate_left
 rw [if_neg h9] at DE0
 by_cases h10 : k = 10
 rw [if_pos h10] at DE0
 replace h10 : (k == 10) = true := by simp [h10]
 rotate_left
 rw [if_neg h10] at DE0
 by_cases h11 : k = 11
 rw [if_pos h11] at DE0
 replace h11 : (k == 11) = true := by simp [h11]
 rotate_left
 rw [if_neg h11] at DE0
 by_cases h12 : k = 12
 rw [if_pos h12] at DE0
 replace h12 : (k == 12) = true := by simp [h12]
 rotate_left
 rw [if_neg h12] at DE0
 all_goals
  have DE := Box'.mk DE0
  clear DE0
  go_enter Tryz.func8, Tryz.ntmps8
  go_upto_region 1 with (fail)
  generalize (((w.alloc (.cells (snA x vg vt vm vl) 32)).alloc (.cells #[.int .u8 k, .int .i64 a, .int .i64 b, .bool on] 34)).alloc (.cells z32 32)) = w1 at *
  have d0 : w1.cell? ⟨w.heap.size + 1, 0, none⟩ = some (.int .u8 k) := F.out.c.cell 0
  have d1 : w1.cell? ⟨w.heap.size + 1, 1, none⟩ = some (.int .i64 a) := F.out.c.cell 1
  have d2 : w1.cell? ⟨w.heap.size + 1, 2, none⟩ = some (.int .i64 b) := F.out.c.cell 2
  have d3 : w1.cell? ⟨w.heap.size + 1, 3, none⟩ = some (.bool on) := F.out.c.cell 3
  go_wp2_with (first
   | (refine wpList_load_row rfl 32 (.tmp 2) rfl w.heap.size rfl 32 (snA x vg vt vm vl) F.out.r _ U32.out rfl 44 S32.out rfl ?_))
  refine (DE.out _ F.out.be).mono ?_
  rintro e w2 ⟨hd, hb⟩
  obtain ⟨y, yg, yt, ym, yl, er, rfl, ho, hs⟩ := hd.out
  have RR := Box'.mk (F.out.rr.below hb (by have := F.out.sz; omega))
  have BE : Box' (Below w.heap.size w w2) := ⟨F.out.be.trans (hb.mono F.out.be.size)⟩
  have OO := Box'.mk ho
  have HS := Box'.mk hs
  clear hd hb ho hs F DE d0 d1 d2 d3
  go_wp2_with (first
   | (refine wpList_store_row rfl 32 (.tmp 4) (.tmp 15) rfl (w.heap.size + 2) rfl (snA y yg yt ym yl) rfl 32 44 RR.out S32.out rfl OO.out ?_)
   | (refine wpList_store_row rfl 32 (.tmp 4) (.tmp 24) rfl (w.heap.size + 2) rfl (snA y yg yt ym yl) rfl 32 44 RR.out S32.out rfl OO.out ?_)
   | (refine wpList_store_row rfl 32 (.tmp 4) (.tmp 34) rfl (w.heap.size + 2) rfl (snA y yg yt ym yl) rfl 32 44 RR.out S32.out rfl OO.out ?_)
   | (refine wpList_store_row rfl 32 (.tmp 4) (.tmp 44) rfl (w.heap.size + 2) rfl (snA y yg yt ym yl) rfl 32 44 RR.out S32.out rfl OO.out ?_)
   | (refine wpList_store_row rfl 32 (.tmp 4) (.tmp 54) rfl (w.heap.size + 2) rfl (snA y yg yt ym yl) rfl 32 44 RR.out S32.out rfl OO.out ?_)
   | (refine wpList_store_row rfl 32 (.tmp 4) (.tmp 62) rfl (w.heap.size + 2) rfl (snA y yg yt ym yl) rfl 32 44 RR.out S32.out rfl OO.out ?_)
   | (refine wpList_store_row rfl 32 (.tmp 4) (.tmp 70) rfl (w.heap.size + 2) rfl (snA y yg yt ym yl) rfl 32 44 RR.out S32.out rfl OO.out ?_)
   | (refine wpList_store_row rfl 32 (.tmp 4) (.tmp 78) rfl (w.heap.size + 2) rfl (snA y yg yt ym yl) rfl 32 44 RR.out S32.out rfl OO.out ?_)
   | (refine wpList_store_row rfl 32 (.tmp 4) (.tmp 88) rfl (w.heap.size + 2) rfl (snA y yg yt ym yl) rfl 32 44 RR.out S32.out rfl OO.out ?_)
   | (refine wpList_store_row rfl 32 (.tmp 4) (.tmp 96) rfl (w.heap.size + 2) rfl (snA y yg yt ym yl) rfl 32 44 RR.out S32.out rfl OO.out ?_)
   | (refine wpList_store_row rfl 32 (.tmp 4) (.tmp 109) rfl (w.heap.size + 2) rfl (snA y yg yt ym yl) rfl 32 44 RR.out S32.out rfl OO.out ?_)
   | (refine wpList_store_row rfl 32 (.tmp 4) (.tmp 117) rfl (w.heap.size + 2) rfl (snA y yg yt ym yl) rfl 32 44 RR.out S32.out rfl OO.out ?_)
   | (refine wpList_store_row rfl 32 (.tmp 4) (.tmp 125) rfl (w.heap.size + 2) rfl (snA y yg yt ym yl) rfl 32 44 RR.out S32.out rfl OO.out ?_)
   | (refine wpList_store_row rfl 32 (.tmp 4) (.tmp 133) rfl (w.heap.size + 2) rfl (snA y yg yt ym yl) rfl 32 44 RR.out S32.out rfl OO.out ?_))
  exact bodyPost_ret (results_sn rfl _ (w.heap.size + 2) rfl _ rfl _ _ (RR.out.setRow _) rfl) rfl ⟨HS.out _ _ RR.out, below_setRow BE.out (by omega) _⟩
/-- What a deed makes of a screen, or none. -/
def doS (x : Sn) (k a b : Int) (on : Bool) : Option Sn :=
 if k = 0 then (if mayN x then some (prS x (wrap32 a)) else none)
 else if k = 1 then (if mayN x then some (ctF x (wrap32 a)) else none)
 else if k = 2 then (if mayN x then some (mvF x a b) else none)
 else if k = 3 then (if mayN x then some (plF x a b) else none)
 else if k = 4 then (if mayN x then some (eaF x on a) else none)
 else if k = 5 then (if mayN x then some (liF x a) else none)
 else if k = 6 then (if mayN x then some (chF' x a) else none)
 else if k = 7 then (if mayN x then some (slF x a) else none)
 else if k = 8 then (if mayN x then some (rgF x a b) else none)
 else if k = 9 then (if mayN x then some (keF x on) else none)
 else if k = 10 then (if mayN x then some (mdF x on a (decide (0 < b))) else none)
 else if k = 11 then (if mayN x then some (tgF x a) else none)
 else if k = 12 then (if mayN x then some (wpF x a) else none)
 else (if mayN x && (sideF a && sideF b) then some (rzS x a.toNat b.toNat (rzF x.g.c x.g.co.toNat x.g.ro.toNat a.toNat b.toNat x.cur.st)) else none)
theorem ScR.down {N M : Nat} {w : World} {e : Ending} {y : Sn} (h : ScR N w e y) (hM : M ≤ N) : ScR M w e y := by
 obtain ⟨vg, vt, vm, vl, h1, h2⟩ := h
 exact ⟨vg, vt, vm, vl, h1, h2.down hM⟩
theorem dr_of {fn : Nat} {args : Array Value} {w : World} {x y : Sn} (hn : mayN x = false → ∀ wx, Below w.heap.size w wx → Calls Tryz.prog fn args wx fun e w' => e = .returned sErr ∧ Below wx.heap.size wx w') (ho : mayN x = true → ∀ wx, Below w.heap.size w wx → Calls Tryz.prog fn args wx fun e w' => ScR wx.heap.size w' e y ∧ Below wx.heap.size wx w') :
  ∀ wx, Below w.heap.size w wx → Calls Tryz.prog fn args wx fun e w' => DR w.heap.size w' e (if mayN x then some y else none) ∧ Below wx.heap.size wx w' := by
 intro wx hb
 cases h : mayN x with
 | false => exact hn h wx hb
 | true => exact (ho h wx hb).mono fun e w' q => ⟨ScR.down q.1 hb.size, q.2⟩
theorem side_is {a : Int} (h : sideF a = true) : a = (a.toNat : Int) ∧ 1 ≤ a.toNat ∧ a.toNat ≤ 512 := by
 unfold sideF at h
 have := of_decide_eq_true h
 omega
theorem resize_dr (x : Sn) (vg vt vm vl : Value) (a b : Int) (w : World) (hl : Li w.heap.size w x vg vt vm vl) (hb : Bo x) (wx : World) (hw : Below w.heap.size w wx) :
  Calls Tryz.prog 33 #[.agg (snA x vg vt vm vl), .int .i64 a, .int .i64 b] wx fun e w' => DR w.heap.size w' e (if mayN x && (sideF a && sideF b) then some (rzS x a.toNat b.toNat (rzF x.g.c x.g.co.toNat x.g.ro.toNat a.toNat b.toNat x.cur.st)) else none) ∧ Below wx.heap.size wx w' := by
 have hl' := hl.at hw
 have HV : ∀ wy, Below wx.heap.size wx wy → Cls wy.heap.size wy vg x.g.c := fun wy h => (hl'.at h).g
 cases hG : mayG x.g.co x.g.ro x.g.c with
 | false =>
  have hN : mayN x = false := by
   cases h : mayN x with
   | false => rfl
   | true => have := may_G h; rw [hG] at this; cases this
  rw [hN]
  exact Resize_bad x vg vt vm vl wx hl' hb a b (fun wy h => resize_no0 x.g.co x.g.ro vg x.g.c a b x.cur.st wy (HV wy h) hG)
 | true =>
  cases hS : mayS x.cur.st with
  | false =>
   have hN : mayN x = false := by
    cases h : mayN x with
    | false => rfl
    | true => have := may_S h; rw [hS] at this; cases this
   rw [hN]
   exact Resize_bad x vg vt vm vl wx hl' hb a b (fun wy h => resize_no1 x.g.co x.g.ro vg x.g.c a b x.cur.st wy (HV wy h) hG hS)
  | true =>
   cases hs : (sideF a && sideF b) with
   | false =>
    rw [Bool.and_false]
    exact Resize_bad x vg vt vm vl wx hl' hb a b (fun wy h => resize_no2 x.g.co x.g.ro vg x.g.c a b x.cur.st wy (HV wy h) hG hS hs)
   | true =>
    rw [Bool.and_true]
    rw [Bool.and_eq_true] at hs
    obtain ⟨ea, a1, a2⟩ := side_is hs.1
    obtain ⟨eb, b1, b2⟩ := side_is hs.2
    obtain ⟨co, ro, ec, er, p1, p2, p3, p4, hlen⟩ := mayG_dest hG
    generalize a.toNat = cols at *
    generalize b.toNat = rows at *
    subst ea eb
    have hle : cols * rows ≤ 512 * 512 := Nat.mul_le_mul a2 b2
    have hrl : (rzF x.g.c x.g.co.toNat x.g.ro.toNat cols rows x.cur.st).length = cols * rows := by rw [ec, er, Int.toNat_natCast, Int.toNat_natCast, rzF, joinR_len _ cols rows (fun k _ => rzR_len x.g.c co ro cols x.cur.st k hlen), Nat.mul_comm]
    have RE : ∀ wy, Below wx.heap.size wx wy → Calls Tryz.prog 97 #[.agg (gA x.g.co x.g.ro vg), .int .i64 (cols : Int), .int .i64 (rows : Int), .agg (sA x.cur.st)] wy fun e w' => ∃ b, e = .returned (gOk (cols : Int) (rows : Int) (.slice (some ⟨b, 0, none⟩) (cols * rows) (cols * rows))) ∧ wy.heap.size ≤ b ∧ RC w' b (rzF x.g.c x.g.co.toNat x.g.ro.toNat cols rows x.cur.st) [] ∧ Below wy.heap.size wy w' := fun wy h => by
     have := resize_ok co ro vg x.g.c cols rows x.cur.st wy (HV wy h) (by rw [← ec, ← er]; exact hG) hS a1 a2 b1 b2
     rw [ec, er, Int.toNat_natCast, Int.toNat_natCast]
     exact this
    cases hN : mayN x with
    | false => exact Resize_no x vg vt vm vl wx hl' hb hN cols rows (cols * rows) _ (by omega) hrl RE
    | true => exact (Resize_good x vg vt vm vl wx hl' hb hN cols rows (cols * rows) _ (by omega) hrl RE a1 a2 b1 b2).mono fun e w' q => ⟨ScR.down q.1 hw.size, q.2⟩
theorem done_any (x : Sn) (vg vt vm vl : Value) (w : World) (hl : Li w.heap.size w x vg vt vm vl) (hb : Bo x) (k a b : Int) (on : Bool) :
  Calls Tryz.prog 8 #[.agg (snA x vg vt vm vl), .agg #[.int .u8 k, .int .i64 a, .int .i64 b, .bool on]] w fun e w' => DR w.heap.size w' e (doS x k a b on) ∧ Below w.heap.size w w' := by
 unfold doS
 by_cases h0 : k = 0
 ·rw [if_pos h0]; subst h0
  exact done_w x vg vt vm vl w 0 a b on _ (dr_of (fun q wx hw => Print_no x vg vt vm vl (wrap32 a) wx (hl.at hw) hb q) (fun q wx hw => Print_ok x vg vt vm vl (wrap32 a) wx (hl.at hw) hb q))
 rw [if_neg h0]
 by_cases h1 : k = 1
 ·rw [if_pos h1]; subst h1
  exact done_w x vg vt vm vl w 1 a b on _ (dr_of (fun q wx hw => Control_no x vg vt vm vl (wrap32 a) wx (hl.at hw) hb q) (fun q wx hw => Control_ok x vg vt vm vl (wrap32 a) wx (hl.at hw) hb q))
 rw [if_neg h1]
 by_cases h2 : k = 2
 ·rw [if_pos h2]; subst h2
  exact done_w x vg vt vm vl w 2 a b on _ (dr_of (fun q wx hw => Move_no x vg vt vm vl a b wx (hl.at hw) hb q) (fun q wx hw => Move_ok x vg vt vm vl a b wx (hl.at hw) hb q))
 rw [if_neg h2]
 by_cases h3 : k = 3
 ·rw [if_pos h3]; subst h3
  exact done_w x vg vt vm vl w 3 a b on _ (dr_of (fun q wx hw => Place_no x vg vt vm vl a b wx (hl.at hw) hb q) (fun q wx hw => Place_ok x vg vt vm vl a b wx (hl.at hw) hb q))
 rw [if_neg h3]
 by_cases h4 : k = 4
 ·rw [if_pos h4]; subst h4
  exact done_w x vg vt vm vl w 4 a b on _ (dr_of (fun q wx hw => Erase_no x vg vt vm vl on a wx (hl.at hw) hb q) (fun q wx hw => Erase_ok x vg vt vm vl on a wx (hl.at hw) hb q))
 rw [if_neg h4]
 by_cases h5 : k = 5
 ·rw [if_pos h5]; subst h5
  exact done_w x vg vt vm vl w 5 a b on _ (dr_of (fun q wx hw => Lines_no x vg vt vm vl a wx (hl.at hw) hb q) (fun q wx hw => Lines_ok x vg vt vm vl a wx (hl.at hw) hb q))
 rw [if_neg h5]
 by_cases h6 : k = 6
 ·rw [if_pos h6]; subst h6
  exact done_w x vg vt vm vl w 6 a b on _ (dr_of (fun q wx hw => Chars_no x vg vt vm vl a wx (hl.at hw) hb q) (fun q wx hw => Chars_ok x vg vt vm vl a wx (hl.at hw) hb q))
 rw [if_neg h6]
 by_cases h7 : k = 7
 ·rw [if_pos h7]; subst h7
  exact done_w x vg vt vm vl w 7 a b on _ (dr_of (fun q wx hw => Scroll_no x vg vt vm vl a wx (hl.at hw) hb q) (fun q wx hw => Scroll_ok x vg vt vm vl a wx (hl.at hw) hb q))
 rw [if_neg h7]
 by_cases h8 : k = 8
 ·rw [if_pos h8]; subst h8
  exact done_w x vg vt vm vl w 8 a b on _ (dr_of (fun q wx hw => Region_no x vg vt vm vl a b wx (hl.at hw) hb q) (fun q wx hw => Region_ok x vg vt vm vl a b wx (hl.at hw) hb q))
 rw [if_neg h8]
 by_cases h9 : k = 9
 ·rw [if_pos h9]; subst h9
  exact done_w x vg vt vm vl w 9 a b on _ (dr_of (fun q wx hw => Keep_no x vg vt vm vl on wx (hl.at hw) hb q) (fun q wx hw => Keep_ok x vg vt vm vl on wx (hl.at hw) hb q))
 rw [if_neg h9]
 by_cases h10 : k = 10
 ·rw [if_pos h10]; subst h10
  exact done_w x vg vt vm vl w 10 a b on _ (dr_of (fun q wx hw => Mode_no x vg vt vm vl on a (decide (0 < b)) wx (hl.at hw) hb q) (fun q wx hw => Mode_ok x vg vt vm vl on a (decide (0 < b)) wx (hl.at hw) hb q))
 rw [if_neg h10]
 by_cases h11 : k = 11
 ·rw [if_pos h11]; subst h11
  exact done_w x vg vt vm vl w 11 a b on _ (dr_of (fun q wx hw => Tab_no x vg vt vm vl a wx (hl.at hw) hb q) (fun q wx hw => Tab_ok x vg vt vm vl a wx (hl.at hw) hb q))
 rw [if_neg h11]
 by_cases h12 : k = 12
 ·rw [if_pos h12]; subst h12
  exact done_w x vg vt vm vl w 12 a b on _ (dr_of (fun q wx hw => Wipe_no x vg vt vm vl a wx (hl.at hw) hb q) (fun q wx hw => Wipe_ok x vg vt vm vl a wx (hl.at hw) hb q))
 rw [if_neg h12]
 exact done_w x vg vt vm vl w k a b on _ (by unfold dA; rw [if_neg h0, if_neg h1, if_neg h2, if_neg h3, if_neg h4, if_neg h5, if_neg h6, if_neg h7, if_neg h8, if_neg h9, if_neg h10, if_neg h11, if_neg h12]; exact resize_dr x vg vt vm vl a b w hl hb)
end Go.Proofs.YtlekleeckcdcgaaGreat
