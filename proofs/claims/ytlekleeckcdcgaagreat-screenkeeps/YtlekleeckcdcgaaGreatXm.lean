/- The rows that scroll are told. Some rows of a board, as a grid of their own. -/
import Derived.Test.YtlekleeckcdcgaaGreatXk
namespace Go.Proofs.YtlekleeckcdcgaaGreat
open Go.RowKit Go.BigFrame
set_option linter.unusedVariables false
set_option linter.unusedSimpArgs false
set_option maxRecDepth 100000
set_option maxHeartbeats 8000000
def tpF (x : Sn) (t : Int) : Sn := { x with top := t }
def tbF (x : Sn) (t b : Int) : Sn := { x with top := t, bot := b }
def rgF (x : Sn) (t b : Int) : Sn := if t < 0 then x else if b ≤ t then x else if x.g.ro - 1 < b then x else plF (tbF x t b) 0 0
theorem bRegion_a (N : Nat) (w : World) (p : Nat) (x : Sn) (vg vt vm vl : Value) (h : Bd N w p x vg vt vm vl) (m : Mm x) (t b : Int) (h1 : t < 0) :
  Calls Tryz.prog 89 #[.pointer (some ⟨p, 0, none⟩), .int .i64 t, .int .i64 b] w fun e w' => (∃ v, e = .returned v) ∧ Bd N w' p (x) vg vt vm vl ∧ Tc p w w' := by
 have LR := Box'.mk (lastRow_any N w p x vg vt vm vl h m.r1 m.r2)
 have BB := Box'.mk h
 have TT := Box'.mk (Tc.refl p w)
 clear h
 go_enter Tryz.func89, Tryz.ntmps89
 go_wp2_with fail
 exact bodyPost_ret (results_none rfl _ _) rfl ⟨⟨_, rfl⟩, BB.out, TT.out⟩
theorem bRegion_b (N : Nat) (w : World) (p : Nat) (x : Sn) (vg vt vm vl : Value) (h : Bd N w p x vg vt vm vl) (m : Mm x) (t b : Int) (h1 : ¬ t < 0) (h2 : b ≤ t) :
  Calls Tryz.prog 89 #[.pointer (some ⟨p, 0, none⟩), .int .i64 t, .int .i64 b] w fun e w' => (∃ v, e = .returned v) ∧ Bd N w' p (x) vg vt vm vl ∧ Tc p w w' := by
 have LR := Box'.mk (lastRow_any N w p x vg vt vm vl h m.r1 m.r2)
 have BB := Box'.mk h
 have TT := Box'.mk (Tc.refl p w)
 clear h
 go_enter Tryz.func89, Tryz.ntmps89
 go_wp2_with fail
 exact bodyPost_ret (results_none rfl _ _) rfl ⟨⟨_, rfl⟩, BB.out, TT.out⟩
theorem bRegion_c (N : Nat) (w : World) (p : Nat) (x : Sn) (vg vt vm vl : Value) (h : Bd N w p x vg vt vm vl) (m : Mm x) (t b : Int) (h1 : ¬ t < 0) (h2 : ¬ b ≤ t) (h3 : x.g.ro - 1 < b) :
  Calls Tryz.prog 89 #[.pointer (some ⟨p, 0, none⟩), .int .i64 t, .int .i64 b] w fun e w' => (∃ v, e = .returned v) ∧ Bd N w' p (x) vg vt vm vl ∧ Tc p w w' := by
 have LR := Box'.mk (lastRow_any N w p x vg vt vm vl h m.r1 m.r2)
 have BB := Box'.mk h
 have TT := Box'.mk (Tc.refl p w)
 clear h
 go_enter Tryz.func89, Tryz.ntmps89
 go_wp2_with fail
 refine LR.out.mono ?_
 rintro e w2 ⟨rfl, rfl⟩
 go_wp2_with fail
 exact bodyPost_ret (results_none rfl _ _) rfl ⟨⟨_, rfl⟩, BB.out, TT.out⟩
theorem bRegion_d (N : Nat) (w : World) (p : Nat) (x : Sn) (vg vt vm vl : Value) (h : Bd N w p x vg vt vm vl) (m : Mm x) (t b : Int) (h1 : ¬ t < 0) (h2 : ¬ b ≤ t) (h3 : ¬ x.g.ro - 1 < b) :
  Calls Tryz.prog 89 #[.pointer (some ⟨p, 0, none⟩), .int .i64 t, .int .i64 b] w fun e w' => (∃ v, e = .returned v) ∧ Bd N w' p (plF (tbF x t b) 0 0) vg vt vm vl ∧ Tc p w w' := by
 have LR := Box'.mk (lastRow_any N w p x vg vt vm vl h m.r1 m.r2)
 have BB := Box'.mk h
 have TT := Box'.mk (Tc.refl p w)
 have M : Box' (Mm (tbF x t b)) := ⟨⟨m.c1, m.c2, m.r1, m.r2, by show 0 ≤ t; omega, by show t ≤ b; omega, by show b < x.g.ro; omega, m.w1, m.w2, m.l1, m.l2⟩⟩
 clear h
 go_enter Tryz.func89, Tryz.ntmps89
 go_wp2_with fail
 refine LR.out.mono ?_
 rintro e w2 ⟨rfl, rfl⟩
 go_upto_region 1 with (fail)
 have cc : w2.cell? ⟨p, 16, none⟩ = some (.int .i64 x.top) := BB.out.box.cell 16
 have ff := BB.out.box.frozen 16
 have B1 : Box' (Bd N (w2.setCell ⟨p, 16, none⟩ (.int .i64 t)) p (tpF x t) vg vt vm vl) := ⟨BB.out.setCell _ 16 _ rfl rfl rfl rfl rfl⟩
 have T1 : Box' (Tc p w2 (w2.setCell ⟨p, 16, none⟩ (.int .i64 t))) := ⟨TT.out.setCell 16 _⟩
 have dd : (w2.setCell ⟨p, 16, none⟩ (.int .i64 t)).cell? ⟨p, 17, none⟩ = some (.int .i64 x.bot) := B1.out.box.cell 17
 have fg := B1.out.box.frozen 17
 have B2 : Box' (Bd N ((w2.setCell ⟨p, 16, none⟩ (.int .i64 t)).setCell ⟨p, 17, none⟩ (.int .i64 b)) p (tbF x t b) vg vt vm vl) := ⟨B1.out.setCell _ 17 _ rfl rfl rfl rfl rfl⟩
 have T2 : Box' (Tc p w2 ((w2.setCell ⟨p, 16, none⟩ (.int .i64 t)).setCell ⟨p, 17, none⟩ (.int .i64 b))) := ⟨T1.out.setCell 17 _⟩
 clear BB TT B1 T1 LR
 go_upto_region 2 with (fail)
 clear cc ff dd fg
 generalize ((w2.setCell ⟨p, 16, none⟩ (.int .i64 t)).setCell ⟨p, 17, none⟩ (.int .i64 b)) = w3 at *
 have PL := Box'.mk (bPlace_any N w3 p (tbF x t b) vg vt vm vl B2.out M.out 0 0)
 clear B2
 go_wp2_with fail
 refine PL.out.mono ?_
 rintro e w4 ⟨⟨v, rfl⟩, k2, k3⟩
 have K2 := Box'.mk k2
 have K3 := Box'.mk (T2.out.trans k3)
 clear k2 k3 T2 PL
 go_wp2_with fail
 exact bodyPost_end (results_none rfl _ _) rfl ⟨⟨_, rfl⟩, K2.out, K3.out⟩
theorem bRegion_any (N : Nat) (w : World) (p : Nat) (x : Sn) (vg vt vm vl : Value) (h : Bd N w p x vg vt vm vl) (m : Mm x) (t b : Int) :
  Calls Tryz.prog 89 #[.pointer (some ⟨p, 0, none⟩), .int .i64 t, .int .i64 b] w fun e w' => (∃ v, e = .returned v) ∧ Bd N w' p (rgF x t b) vg vt vm vl ∧ Tc p w w' := by
 unfold rgF
 by_cases h1 : t < 0
 ·rw [if_pos h1]; exact bRegion_a N w p x vg vt vm vl h m t b h1
 ·rw [if_neg h1]
  by_cases h2 : b ≤ t
  ·rw [if_pos h2]; exact bRegion_b N w p x vg vt vm vl h m t b h1 h2
  ·rw [if_neg h2]
   by_cases h3 : x.g.ro - 1 < b
   ·rw [if_pos h3]; exact bRegion_c N w p x vg vt vm vl h m t b h1 h2 h3
   ·rw [if_neg h3]; exact bRegion_d N w p x vg vt vm vl h m t b h1 h2 h3
theorem region1_any (N : Nat) (w : World) (p : Nat) (x : Sn) (vg vt vm vl : Value) (h : Bd N w p x vg vt vm vl) (m : Mm x) (c d : Nat) (row col : Int) (hr : Row w c 3 #[.int .i64 row]) (hc : Row w d 3 #[.int .i64 col]) :
  Calls Tryz.prog 88 #[.pointer (some ⟨p, 0, none⟩), .pointer (some ⟨c, 0, none⟩), .pointer (some ⟨d, 0, none⟩)] w fun e w' => (∃ v, e = .returned v) ∧ Bd N w' p (rgF x row col) vg vt vm vl ∧ Tc p w w' := by
 have c0 : w.cell? ⟨c, 0, none⟩ = some (.int .i64 row) := hr.cell 0
 have c1 : w.cell? ⟨d, 0, none⟩ = some (.int .i64 col) := hc.cell 0
 have PL := Box'.mk (bRegion_any N w p x vg vt vm vl h m row col)
 clear h hr hc
 go_enter Tryz.func88, Tryz.ntmps88
 go_wp2_with fail
 refine PL.out.mono ?_
 rintro e w2 ⟨⟨v, rfl⟩, h2, h3⟩
 have H2 := Box'.mk h2
 have H3 := Box'.mk h3
 clear h2 h3 c0 c1
 go_wp2_with fail
 exact bodyPost_end (results_none rfl _ _) rfl ⟨⟨_, rfl⟩, H2.out, H3.out⟩
theorem Region_dr (x : Sn) (vg vt vm vl : Value) (row col : Int) (w : World) (hl : Li w.heap.size w x vg vt vm vl) (hb : Bo x) :
  Calls Tryz.prog 29 #[.agg (snA x vg vt vm vl), .int .i64 row, .int .i64 col] w fun e w' => DR w.heap.size w' e (if mayN x then some (rgF x row col) else none) ∧ Below w.heap.size w w' := by
 have DO : Box' (∀ wx, Below w.heap.size w wx → w.heap.size + 4 ≤ wx.heap.size → Row wx (w.heap.size + 1) 3 #[.int .i64 row] → Row wx (w.heap.size + 2) 3 #[.int .i64 col] → Calls Tryz.prog 67 #[.agg (snA x vg vt vm vl), .func (.func 88) #[] #[.pointer (some ⟨w.heap.size + 1, 0, none⟩), .pointer (some ⟨w.heap.size + 2, 0, none⟩)]] wx fun e w' => DR wx.heap.size w' e (if mayN x then some (rgF x row col) else none) ∧ Below wx.heap.size wx w') := ⟨fun wx hbe hsz r0 r1 => by
  cases hN : mayN x with
  | false => exact do2_no x vg vt vm vl 88 (.pointer (some ⟨w.heap.size + 1, 0, none⟩)) (.pointer (some ⟨w.heap.size + 2, 0, none⟩)) wx (hl.at hbe) hb hN
  | true =>
   exact do2_ok x (rgF x row col) vg vt vm vl 88 (.pointer (some ⟨w.heap.size + 1, 0, none⟩)) (.pointer (some ⟨w.heap.size + 2, 0, none⟩)) wx (hl.at hbe) hb hN (fun _ _ => rfl) (fun wy p vg vt vm vl hby bd hp => by
   have r0 := r0.below hby (by omega)
   have r1 := r1.below hby (by omega)
   refine (region1_any (wx.heap.size + 2) wy p x vg vt vm vl bd (may_Mm hN) (w.heap.size + 1) (w.heap.size + 2) row col r0 r1).mono ?_
   rintro e w' ⟨h1, h2, h3⟩
   exact ⟨h1, ⟨_, _, _, _, h2⟩, h3.below (by omega) (by have := bd.lt; omega)⟩)⟩
 have F := Box'.mk (Wr2.begin w (snA x vg vt vm vl) 3 (.int .i64 row) 3 (.int .i64 col))
 have U32 := Box'.mk Tryz.underlying32
 have S32 := Box'.mk s32
 clear hl hb
 generalize (if mayN x then some (rgF x row col) else none) = r at *
 go_enter Tryz.func29, Tryz.ntmps29
 go_upto_region 1 with (fail)
 generalize ((((w.alloc (.cells (snA x vg vt vm vl) 32)).alloc (.cells #[.int .i64 row] 3)).alloc (.cells #[.int .i64 col] 3)).alloc (.cells z32 32)) = w1 at *
 have hz := F.out.sz
 go_wp2_with (first
  | (refine wpList_load_row rfl 32 (.tmp 3) rfl w.heap.size rfl 32 (snA x vg vt vm vl) F.out.r _ U32.out rfl 44 S32.out rfl ?_))
 refine (DO.out _ F.out.be (by omega) F.out.c0 F.out.c1).mono ?_
 rintro e w2 ⟨hd, hb⟩
 obtain ⟨y, yg, yt, ym, yl, er, rfl, ho, hs⟩ := (hd.dn (show w.heap.size ≤ w1.heap.size by omega)).out
 have RR := Box'.mk (F.out.rr.below hb (by omega))
 have BE : Box' (Below w.heap.size w w2) := ⟨F.out.be.trans (hb.mono F.out.be.size)⟩
 have OO := Box'.mk ho
 have HS := Box'.mk hs
 clear hd hb ho hs F DO
 go_wp2_with (first
  | (refine wpList_store_row rfl 32 (.tmp 6) (.tmp 11) rfl (w.heap.size + 3) rfl (snA y yg yt ym yl) rfl 32 44 RR.out S32.out rfl OO.out ?_))
 exact bodyPost_ret (results_sn rfl _ (w.heap.size + 3) rfl _ rfl _ _ (RR.out.setRow _) rfl) rfl ⟨HS.out _ _ RR.out, below_setRow BE.out (by omega) _⟩
theorem Region_no (x : Sn) (vg vt vm vl : Value) (row col : Int) (w : World) (hl : Li w.heap.size w x vg vt vm vl) (hb : Bo x) (hN : mayN x = false) :
  Calls Tryz.prog 29 #[.agg (snA x vg vt vm vl), .int .i64 row, .int .i64 col] w fun e w' => e = .returned sErr ∧ Below w.heap.size w w' := (Region_dr x vg vt vm vl row col w hl hb).mono fun e w' q => by
 rw [hN] at q; exact q
theorem Region_ok (x : Sn) (vg vt vm vl : Value) (row col : Int) (w : World) (hl : Li w.heap.size w x vg vt vm vl) (hb : Bo x) (hN : mayN x = true) :
  Calls Tryz.prog 29 #[.agg (snA x vg vt vm vl), .int .i64 row, .int .i64 col] w fun e w' => ScR w.heap.size w' e (rgF x row col) ∧ Below w.heap.size w w' := (Region_dr x vg vt vm vl row col w hl hb).mono fun e w' q => by
 rw [hN] at q; exact q
theorem cell_setRow_other (w : World) (g : Nat) (c : Array Value) (p k : Nat) (h : p ≠ g) : (w.setRow g c).cell? ⟨p, k, none⟩ = w.cell? ⟨p, k, none⟩ := by
 unfold World.cell?
 simp only [setRow_other _ _ _ _ h]
theorem bRows_any (N : Nat) (w : World) (p : Nat) (x : Sn) (b o n c : Nat) (vt vm vl : Value) (h : Bd N w p x (.slice (some ⟨b, o, none⟩) n c) vt vm vl) (cols top bot : Nat) (hco : x.g.co = cols) (h1 : 1 ≤ cols) (h2 : cols ≤ 512) (h3 : top ≤ bot) (h4 : bot < 512) (h5 : (bot + 1) * cols ≤ c) :
  Calls Tryz.prog 166 #[.pointer (some ⟨p, 0, none⟩), .int .i64 (top : Int), .int .i64 (bot : Int)] w fun e w' => e = .returned (.agg (gA (cols : Int) ((bot : Int) - (top : Int) + 1) (.slice (some ⟨b, o + top * cols * 15, none⟩) ((bot + 1) * cols - top * cols) ((bot + 1) * cols - top * cols)))) ∧ Below w.heap.size w w' := by
 have hm1 : top * cols ≤ 512 * 512 := Nat.mul_le_mul (by omega) h2
 have hm2 : (bot + 1) * cols ≤ 512 * 512 := Nat.mul_le_mul (by omega) h2
 have hlt : top * cols < (bot + 1) * cols := Nat.mul_lt_mul_of_pos_right (by omega) h1
 have E1 : Box' ((top : Int) * (cols : Int) = ((top * cols : Nat) : Int)) := ⟨(Int.natCast_mul _ _).symm⟩
 have E2 : Box' (((bot : Int) + 1) * (cols : Int) = (((bot + 1) * cols : Nat) : Int)) := ⟨by rw [Int.natCast_mul]; rfl⟩
 have k1 : (top : Int) * (cols : Int) ≤ 262144 := by rw [E1.out]; omega
 have k2 : ((bot : Int) + 1) * (cols : Int) ≤ 262144 := by rw [E2.out]; omega
 have k3 : 0 ≤ (top : Int) * (cols : Int) := by rw [E1.out]; omega
 have k4 : 0 ≤ ((bot : Int) + 1) * (cols : Int) := by rw [E2.out]; omega
 have CT := Box'.mk (fun w => run_cutC3 b o n c (top * cols) ((bot + 1) * cols) ((bot + 1) * cols) (by omega) (Nat.le_refl _) h5 hlt w)
 have hp : p ≠ w.heap.size := Nat.ne_of_lt h.lt
 have S24 := Box'.mk s24g
 have CC : Box' ((fun wa => (wa.cell? ⟨p, 0, none⟩ = some (.int .i64 (cols : Int)) ∧ wa.cell? ⟨p, 2, none⟩ = some (.slice (some ⟨b, o, none⟩) n c) ∧ Room wa w.heap.size 24 3 ∧ Below w.heap.size w wa)) (w.alloc (.cells #[.int .i64 0, .int .i64 0, .slice none 0 0] 24))) := ⟨⟨by have q := (h.box.alloc (.cells #[.int .i64 0, .int .i64 0, .slice none 0 0] 24)).cell 0; rw [← hco]; exact q, (h.box.alloc (.cells #[.int .i64 0, .int .i64 0, .slice none 0 0] 24)).cell 2, (Row.new w 24 _).room rfl, (Below.refl w.heap.size w).alloc (Nat.le_refl _) _⟩⟩
 clear h
 generalize top * cols = lo at *
 generalize (bot + 1) * cols = hi at *
 have O := Box'.mk (gA_one (cols : Int) ((bot : Int) - (top : Int) + 1) (some ⟨b, o + lo * 15, none⟩) (hi - lo) (hi - lo))
 go_enter Tryz.func166, Tryz.ntmps166
 go_upto_region 1 with (fail)
 generalize (w.alloc (.cells #[.int .i64 0, .int .i64 0, .slice none 0 0] 24)) = w1 at *
 refine wp_region_walk 17 (by kernel_rfl) (by kernel_rfl) (fun D f wa => ((wa.cell? ⟨p, 0, none⟩ = some (.int .i64 (cols : Int)) ∧ wa.cell? ⟨p, 2, none⟩ = some (.slice (some ⟨b, o, none⟩) n c) ∧ Room wa w.heap.size 24 3 ∧ Below w.heap.size w wa) ∧ True) ∧ ∀ i, D i = true → (fun kc => kc == 999) i = false → f i = (fun kc => match kc with
   | 0 => .int .i64 (top : Int)
   | 1 => .pointer (some ⟨p, 0, none⟩)
   | 2 => .pointer (some ⟨p, 0, none⟩)
   | 3 => .pointer (some ⟨p, 0, none⟩)
   | 4 => .pointer (some ⟨p, 0, none⟩)
   | 5 => .int .i64 (cols : Int)
   | 6 => .int .i64 (lo : Int)
   | 7 => .int .i64 (bot : Int)
   | 8 => .int .i64 ((bot : Int) + 1)
   | 9 => .pointer (some ⟨p, 0, none⟩)
   | 10 => .pointer (some ⟨p, 0, none⟩)
   | 11 => .pointer (some ⟨p, 0, none⟩)
   | 12 => .pointer (some ⟨p, 0, none⟩)
   | 13 => .int .i64 (cols : Int)
   | 14 => .int .i64 (hi : Int)
   | 15 => .int .i64 (lo : Int)
   | 16 => .int .i64 (hi : Int)
   | _ => undef) i) ?_ ?_ ?_
 ·exact fun f => ⟨⟨⟨CC.out.1, CC.out.2.1, CC.out.2.2.1.drew, CC.out.2.2.2.drew⟩, trivial⟩, fun i h => by cases h⟩
 ·refine ⟨?b0, ?b1, ?b2, ?b3, ?b4, ?b5, ?b6, ?b7, ?b8, ?b9, ?b10, ?b11, ?b12, ?b13, ?b14, ?b15, ?b16, trivial⟩
  all_goals intro D f wq hJ hD hd KK hK
  all_goals have G := fun j h h2 => hJ.2 j (hd j h) h2
  all_goals have cq0 : wq.cell? ⟨p, 0, none⟩ = some (.int .i64 (cols : Int)) := hJ.1.1.1.trans (congrArg some rfl)
  all_goals simp (disch := decide +kernel) only [tkS, tkZ, setAll, siB, stS, stZ, Nat.zero_add, Nat.reduceAdd, G] at hK ⊢
  case b6 =>
   refine wp_of_quiet rfl ?_
   go_big_quiet_step (fail)
   exact wpQuiet_nil (hK _ _ ⟨hJ.1, vals_upd hJ.2 (.inr (congrArg (Value.int .i64) E1.out))⟩)
  case b14 =>
   refine wp_of_quiet rfl ?_
   go_big_quiet_step (fail)
   exact wpQuiet_nil (hK _ _ ⟨hJ.1, vals_upd hJ.2 (.inr (congrArg (Value.int .i64) E2.out))⟩)
  all_goals (refine wp_of_quiet rfl ?_; go_big_quiet_step (fail); exact wpQuiet_nil (hK _ _ ⟨hJ.1, vals_upd hJ.2 (.inr rfl)⟩))
 ·intro D f wz hD hJ
  have hW := hJ.1
  have P := fun j h h2 => hJ.2 j (hD j h) h2
  clear hJ hD
  simp (disch := decide) only [tkS, tkZ, List.drop_succ_cons, List.drop_zero, setAll, siB, stS, stZ, Nat.zero_add, Nat.reduceAdd, P]
  clear P
  have CC := Box'.mk hW.1
  clear hW
  go_wp2_with fail
  refine wp_region_walk 20 (by kernel_rfl) (by kernel_rfl) (fun D f wa => ((wa.cell? ⟨p, 0, none⟩ = some (.int .i64 (cols : Int)) ∧ wa.cell? ⟨p, 2, none⟩ = some (.slice (some ⟨b, o, none⟩) n c) ∧ Room wa w.heap.size 24 3 ∧ Below w.heap.size w wa) ∧ ((D 19) = true → Row wa w.heap.size 24 (gA (cols : Int) ((bot : Int) - (top : Int) + 1) (.slice (some ⟨b, o + lo * 15, none⟩) (hi - lo) (hi - lo))))) ∧ ∀ i, D i = true → (fun kc => kc == 19) i = false → f i = (fun kc => match kc with
    | 0 => .pointer (some ⟨p, 0, none⟩)
    | 1 => .pointer (some ⟨p, 0, none⟩)
    | 2 => .pointer (some ⟨p, 0, none⟩)
    | 3 => .pointer (some ⟨p, 0, none⟩)
    | 4 => .int .i64 (cols : Int)
    | 5 => .int .i64 (bot : Int)
    | 6 => .int .i64 (top : Int)
    | 7 => .int .i64 ((bot : Int) - (top : Int))
    | 8 => .int .i64 ((bot : Int) - (top : Int) + 1)
    | 9 => .pointer (some ⟨p, 0, none⟩)
    | 10 => .pointer (some ⟨p, 0, none⟩)
    | 11 => .pointer (some ⟨p, 0, none⟩)
    | 12 => .pointer (some ⟨p, 2, none⟩)
    | 13 => .slice (some ⟨b, o, none⟩) n c
    | 14 => .int .i64 (lo : Int)
    | 15 => .int .i64 (hi : Int)
    | 16 => .int .i64 (hi : Int)
    | 17 => .slice (some ⟨b, o + lo * 15, none⟩) (hi - lo) (hi - lo)
    | 18 => .agg (gA (cols : Int) ((bot : Int) - (top : Int) + 1) (.slice (some ⟨b, o + lo * 15, none⟩) (hi - lo) (hi - lo)))
    | _ => undef) i) ?_ ?_ ?_
  ·exact fun f => ⟨⟨⟨CC.out.1, CC.out.2.1, CC.out.2.2.1.drew, CC.out.2.2.2.drew⟩, fun h => by cases h⟩, fun i h => by cases h⟩
  ·refine ⟨?a0, ?a1, ?a2, ?a3, ?a4, ?a5, ?a6, ?a7, ?a8, ?a9, ?a10, ?a11, ?a12, ?a13, ?a14, ?a15, ?a16, ?a17, ?a18, ?a19, trivial⟩
   all_goals intro D f wq hJ hD hd KK hK
   all_goals have G := fun j h h2 => hJ.2 j (hd j h) h2
   all_goals have cq0 : wq.cell? ⟨p, 0, none⟩ = some (.int .i64 (cols : Int)) := hJ.1.1.1.trans (congrArg some rfl)
   all_goals have cq1 : wq.cell? ⟨p, 2, none⟩ = some (.slice (some ⟨b, o, none⟩) n c) := hJ.1.1.2.1
   all_goals simp (disch := decide +kernel) only [tkS, tkZ, setAll, siB, stS, stZ, Nat.zero_add, Nat.reduceAdd, G] at hK ⊢
   case a17 =>
    exact wp_val _ (slice_op 22 (.tmp 37) (some (.tmp 38)) (some (.tmp 39)) (some (.tmp 40)) rfl _ _ (CT.out wq)) (hK _ _ ⟨hJ.1, vals_upd hJ.2 (.inr rfl)⟩)
   case a19 =>
    refine wp_store_row 24 (.tmp 6) (.tmp 42) rfl w.heap.size rfl (gA (cols : Int) ((bot : Int) - (top : Int) + 1) (.slice (some ⟨b, o + lo * 15, none⟩) (hi - lo) (hi - lo))) rfl 24 3 hJ.1.1.2.2.1 S24.out rfl O.out (hK _ _ ⟨⟨⟨?_, ?_, ?_, ?_⟩, fun _ => hJ.1.1.2.2.1.setRow _⟩, vals_upd hJ.2 (.inl rfl)⟩)
    ·rw [cell_setRow_other _ _ _ _ _ hp]; exact hJ.1.1.1
    ·rw [cell_setRow_other _ _ _ _ _ hp]; exact hJ.1.1.2.1
    ·exact (hJ.1.1.2.2.1.setRow _).room rfl
    ·exact below_setRow hJ.1.1.2.2.2 (Nat.le_refl _) _
   all_goals (refine wp_of_quiet rfl ?_; go_big_quiet_step (fail); exact wpQuiet_nil (hK _ _ ⟨hJ.1, vals_upd hJ.2 (.inr rfl)⟩))
  ·intro D f wz hD hJ
   have hW := hJ.1
   rw [hD 19 (by decide)] at hW
   have P := fun j h h2 => hJ.2 j (hD j h) h2
   clear hJ hD
   simp (disch := decide) only [tkS, tkZ, List.drop_succ_cons, List.drop_zero, setAll, siB, stS, stZ, Nat.zero_add, Nat.reduceAdd, P]
   clear P
   have F2 := Box'.mk hW
   clear hW
   go_wp2_with fail
   exact bodyPost_ret (results_row (p := 6) (ty := 24) (fn := Tryz.f166) rfl _ w.heap.size rfl 24 _ (F2.out.2 (by trivial)) _ Tryz.underlying24 rfl 3 s24g rfl) rfl ⟨rfl, F2.out.1.2.2.2⟩
end Go.Proofs.YtlekleeckcdcgaaGreat
