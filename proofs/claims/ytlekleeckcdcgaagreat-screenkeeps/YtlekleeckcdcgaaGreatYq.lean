/- Erase. Erase; modes. -/
import Derived.Test.YtlekleeckcdcgaaGreatYc
import Derived.Test.YtlekleeckcdcgaaGreatYg
namespace Go.Proofs.YtlekleeckcdcgaaGreat
open Go.RowKit Go.BigFrame
set_option linter.unusedVariables false
set_option linter.unusedSimpArgs false
set_option maxRecDepth 100000
set_option maxHeartbeats 8000000
theorem bErase_0 (N : Nat) (w : World) (p : Nat) (x : Sn) (vg vt vm vl : Value) (h : Bd N w p x vg vt vm vl) (hN : mayN x = true) (lines : Bool) :
  Calls Tryz.prog 81 #[.pointer (some ⟨p, 0, none⟩), .bool lines, .int .i64 0] w fun e w' => (∃ v, e = .returned v) ∧ Bd N w' p (erS x (x.cur.col) (x.g.co) (x.cur.row + 1) (x.g.ro - 1) lines) vg vt vm vl ∧ Below N w w' := by
 have m := may_Mm hN
 have l1 := m.l1
 have l2 := m.l2
 have k1 := m.c1
 have k2 := m.c2
 have r1 := m.r1
 have r2 := m.r2
 have o1 := m.w1
 have o2 := m.w2
 have LR : Box' (∀ wx, Bd N wx p (npF x) vg vt vm vl → Calls Tryz.prog 132 #[.pointer (some ⟨p, 0, none⟩)] wx fun e w' => e = .returned (.int .i64 (x.g.ro - 1)) ∧ w' = wx) := ⟨fun wx hb => lastRow_any N wx p (npF x) vg vt vm vl hb m.r1 m.r2⟩
 have BL : Box' (∀ wx, Bd N wx p (npF x) vg vt vm vl → Calls Tryz.prog 135 #[.pointer (some ⟨p, 0, none⟩), .int .i64 x.cur.row, .int .i64 (x.cur.col), .int .i64 (x.g.co)] wx fun e w' => (∃ v, e = .returned v) ∧ Bd N w' p (blF (npF x) x.cur.row (x.cur.col) (x.g.co)) vg vt vm vl ∧ Below N wx w') := ⟨fun wx hb => bBlank_any N wx p (npF x) vg vt vm vl hb (may_G (may_np hN)) (may_S (may_np hN)) x.cur.row (x.cur.col) (x.g.co) m.w1 m.w2 (by omega) (by omega) (by show x.g.co ≤ x.g.co; omega)⟩
 have may1 : mayN (blF (npF x) x.cur.row (x.cur.col) (x.g.co)) = true := may_bl (may_np hN) x.cur.row (x.cur.col) (x.g.co) m.w1 m.w2 (by omega) (by omega) (by show x.g.co ≤ x.g.co; omega)
 have LP : Box' (∀ wx (k : Nat), x.cur.row + 1 + (k : Int) ≤ x.g.ro - 1 → Bd N wx p (blR (blF (npF x) x.cur.row (x.cur.col) (x.g.co)) (x.cur.row + 1) k) vg vt vm vl → Calls Tryz.prog 135 #[.pointer (some ⟨p, 0, none⟩),   .int .i64 (x.cur.row + 1 + (k : Int)), .int .i64 0, .int .i64 x.g.co] wx fun e w' => (∃ v, e = .returned v) ∧ Bd N w' p (blR (blF (npF x) x.cur.row (x.cur.col) (x.g.co)) (x.cur.row + 1) (k + 1)) vg vt vm vl ∧ Below N wx w') := ⟨fun wx k hk hb => by
  obtain ⟨c, e⟩ := blR_same (blF (npF x) x.cur.row (x.cur.col) (x.g.co)) (x.cur.row + 1) k
  have hm := may_blR may1 (x.cur.row + 1) (by omega) k (by show _ ≤ x.g.ro; omega)
  have EB : blR (blF (npF x) x.cur.row (x.cur.col) (x.g.co)) (x.cur.row + 1) (k + 1) = blF (blR (blF (npF x) x.cur.row (x.cur.col) (x.g.co)) (x.cur.row + 1) k) (x.cur.row + 1 + (k : Int)) 0 x.g.co := by show blF _ (x.cur.row + 1 + (k : Int)) 0 _ = _; rfl
  rw [EB]
  refine bBlank_any N wx p _ vg vt vm vl hb (may_G hm) (may_S hm) (x.cur.row + 1 + (k : Int)) 0 x.g.co (by omega) ?_ (Int.le_refl _) (by omega) ?_
  ·rw [e]; show _ < x.g.ro; omega
  ·rw [e]; exact Int.le_refl _⟩
 have cc : w.cell? ⟨p, 5, none⟩ = some (.bool x.cur.pend) := h.box.cell 5
 have ff := h.box.frozen 5
 have B0 : Box' (Bd N (w.setCell ⟨p, 5, none⟩ (.bool false)) p (npF x) vg vt vm vl) := ⟨h.setCell _ 5 _ rfl rfl rfl rfl rfl⟩
 have T0 : Box' (Below N w (w.setCell ⟨p, 5, none⟩ (.bool false))) := ⟨((Tc.refl p w).setCell 5 _).below h.hp (Nat.le_trans h.hp (Nat.le_of_lt h.lt))⟩
 have CO : Box' (∀ wx y, Bd N wx p (clS (npF x) y) vg vt vm vl → wx.cell? ⟨p, 0, none⟩ = some (.int .i64 x.g.co)) := ⟨fun wx y hb => hb.box.cell 0⟩
 have BS : Box' (∀ k, ∃ c, blR (blF (npF x) x.cur.row (x.cur.col) (x.g.co)) (x.cur.row + 1) k = clS (npF x) c) := ⟨fun k => by
  obtain ⟨c, e⟩ := blR_same (blF (npF x) x.cur.row (x.cur.col) (x.g.co)) (x.cur.row + 1) k
  exact ⟨c, e⟩⟩
 clear may1 h hN m
 go_enter Tryz.func81, Tryz.ntmps81
 go_upto_region 1 with (fail)
 clear cc ff
 generalize (w.setCell ⟨p, 5, none⟩ (.bool false)) = w1 at *
 have c0 : w1.cell? ⟨p, 0, none⟩ = some (.int .i64 x.g.co) := B0.out.box.cell 0
 go_quiet (fail)
 clear c0
 have B1 := Box'.mk (B0.out.drewN nq)
 have T1 : Box' (Below N w (w1.drewN nq)) := ⟨Below.drewN T0.out nq⟩
 clear B0 T0
 generalize w1.drewN nq = w1b at *
 go_wp2_with fail
 refine (LR.out _ B1.out).mono ?_
 rintro e w2 ⟨rfl, rfl⟩
 clear LR
 have c3 : w2.cell? ⟨p, 3, none⟩ = some (.int .i64 x.cur.row) := B1.out.box.cell 3
 have c4 : w2.cell? ⟨p, 4, none⟩ = some (.int .i64 x.cur.col) := B1.out.box.cell 4
 go_wp2_with fail
 go_quiet (fail)
 clear c3 c4
 replace B1 := Box'.mk (B1.out.drewN nq)
 replace T1 : Box' (Below N w (w2.drewN nq)) := ⟨Below.drewN T1.out nq⟩
 generalize w2.drewN nq = w3 at *
 have c3 : w3.cell? ⟨p, 3, none⟩ = some (.int .i64 x.cur.row) := B1.out.box.cell 3
 go_wp2_with fail
 refine (BL.out _ B1.out).mono ?_
 rintro e w4 ⟨⟨v, rfl⟩, b4, t4⟩
 have B4 := Box'.mk b4
 have T4 : Box' (Below N w w4) := ⟨T1.out.trans t4⟩
 clear BL B1 T1 b4 t4 c3
 cases lines with
 | false =>
  go_wp2_with fail
  exact bodyPost_ret (results_none rfl _ _) rfl ⟨⟨_, rfl⟩, B4.out, T4.out⟩
 | true =>
  obtain ⟨n, hn⟩ : ∃ n, n = (x.g.ro - 1 - (x.cur.row + 1) + 1).toNat := ⟨_, rfl⟩
  have E : Box' (erS x (x.cur.col) (x.g.co) (x.cur.row + 1) (x.g.ro - 1) true = blR (blF (npF x) x.cur.row (x.cur.col) (x.g.co)) (x.cur.row + 1) n) := ⟨by rw [hn]; rfl⟩
  generalize blF (npF x) x.cur.row (x.cur.col) (x.g.co) = X at *
  go_wp2_with fail
  go_loopw [10] (fun i wr => ∃ (k : Nat), k ≤ n ∧ i = .int .i64 (x.cur.row + 1 + (k : Int)) ∧ Box' (Bd N wr p (blR X (x.cur.row + 1) k) vg vt vm vl) ∧ Box' (Below N w wr)) (fun i _ => (x.g.ro - 1 + 1 - intOf i).toNat)
  case atStart => exact ⟨0, by omega, by first | rfl | simp, B4, T4⟩
  case round =>
   obtain ⟨k, hk, rfl, BB, TT⟩ := hrel
   clear B4 T4
   by_cases hlt : x.cur.row + 1 + (k : Int) ≤ x.g.ro - 1
   case neg =>
    obtain rfl : k = n := by omega
    clear hn LP
    go_wp2_with fail
    exact bodyPost_end (results_none rfl _ _) rfl ⟨⟨_, rfl⟩, (by rw [E.out]; exact BB.out), TT.out⟩
   case pos =>
    have c0 : wr.cell? ⟨p, 0, none⟩ = some (.int .i64 x.g.co) := by
     obtain ⟨c, e⟩ := BS.out k
     have hb := BB.out
     rw [e] at hb
     exact CO.out _ _ hb
    have hk2 : k + 1 ≤ n := by omega
    clear hn
    go_wp2_with fail
    refine (LP.out _ k hlt BB.out).mono ?_
    rintro e w5 ⟨⟨v5, rfl⟩, b5, t5⟩
    have B5 := Box'.mk b5
    have T5 : Box' (Below N w w5) := ⟨TT.out.trans t5⟩
    clear b5 t5 BB TT c0 LP
    go_wp2_with fail
    exact ⟨⟨k + 1, hk2, by go_num, B5, T5⟩, by simp [intOf]; omega⟩
theorem bErase_1 (N : Nat) (w : World) (p : Nat) (x : Sn) (vg vt vm vl : Value) (h : Bd N w p x vg vt vm vl) (hN : mayN x = true) (lines : Bool) :
  Calls Tryz.prog 81 #[.pointer (some ⟨p, 0, none⟩), .bool lines, .int .i64 1] w fun e w' => (∃ v, e = .returned v) ∧ Bd N w' p (erS x (0) (x.cur.col + 1) (0) (x.cur.row - 1) lines) vg vt vm vl ∧ Below N w w' := by
 have m := may_Mm hN
 have l1 := m.l1
 have l2 := m.l2
 have k1 := m.c1
 have k2 := m.c2
 have r1 := m.r1
 have r2 := m.r2
 have o1 := m.w1
 have o2 := m.w2
 have LR : Box' (∀ wx, Bd N wx p (npF x) vg vt vm vl → Calls Tryz.prog 132 #[.pointer (some ⟨p, 0, none⟩)] wx fun e w' => e = .returned (.int .i64 (x.g.ro - 1)) ∧ w' = wx) := ⟨fun wx hb => lastRow_any N wx p (npF x) vg vt vm vl hb m.r1 m.r2⟩
 have BL : Box' (∀ wx, Bd N wx p (npF x) vg vt vm vl → Calls Tryz.prog 135 #[.pointer (some ⟨p, 0, none⟩), .int .i64 x.cur.row, .int .i64 (0), .int .i64 (x.cur.col + 1)] wx fun e w' => (∃ v, e = .returned v) ∧ Bd N w' p (blF (npF x) x.cur.row (0) (x.cur.col + 1)) vg vt vm vl ∧ Below N wx w') := ⟨fun wx hb => bBlank_any N wx p (npF x) vg vt vm vl hb (may_G (may_np hN)) (may_S (may_np hN)) x.cur.row (0) (x.cur.col + 1) m.w1 m.w2 (by omega) (by omega) (by show x.cur.col + 1 ≤ x.g.co; omega)⟩
 have may1 : mayN (blF (npF x) x.cur.row (0) (x.cur.col + 1)) = true := may_bl (may_np hN) x.cur.row (0) (x.cur.col + 1) m.w1 m.w2 (by omega) (by omega) (by show x.cur.col + 1 ≤ x.g.co; omega)
 have LP : Box' (∀ wx (k : Nat), (k : Int) ≤ x.cur.row - 1 → Bd N wx p (blR (blF (npF x) x.cur.row (0) (x.cur.col + 1)) (0) k) vg vt vm vl → Calls Tryz.prog 135 #[.pointer (some ⟨p, 0, none⟩),   .int .i64 ((k : Int)), .int .i64 0, .int .i64 x.g.co] wx fun e w' => (∃ v, e = .returned v) ∧ Bd N w' p (blR (blF (npF x) x.cur.row (0) (x.cur.col + 1)) (0) (k + 1)) vg vt vm vl ∧ Below N wx w') := ⟨fun wx k hk hb => by
  obtain ⟨c, e⟩ := blR_same (blF (npF x) x.cur.row (0) (x.cur.col + 1)) (0) k
  have hm := may_blR may1 (0) (by omega) k (by show _ ≤ x.g.ro; omega)
  have EB : blR (blF (npF x) x.cur.row (0) (x.cur.col + 1)) (0) (k + 1) = blF (blR (blF (npF x) x.cur.row (0) (x.cur.col + 1)) (0) k) ((k : Int)) 0 x.g.co := by show blF _ (0 + (k : Int)) 0 _ = _; rw [Int.zero_add]; rfl
  rw [EB]
  refine bBlank_any N wx p _ vg vt vm vl hb (may_G hm) (may_S hm) ((k : Int)) 0 x.g.co (by omega) ?_ (Int.le_refl _) (by omega) ?_
  ·rw [e]; show _ < x.g.ro; omega
  ·rw [e]; exact Int.le_refl _⟩
 have cc : w.cell? ⟨p, 5, none⟩ = some (.bool x.cur.pend) := h.box.cell 5
 have ff := h.box.frozen 5
 have B0 : Box' (Bd N (w.setCell ⟨p, 5, none⟩ (.bool false)) p (npF x) vg vt vm vl) := ⟨h.setCell _ 5 _ rfl rfl rfl rfl rfl⟩
 have T0 : Box' (Below N w (w.setCell ⟨p, 5, none⟩ (.bool false))) := ⟨((Tc.refl p w).setCell 5 _).below h.hp (Nat.le_trans h.hp (Nat.le_of_lt h.lt))⟩
 have CO : Box' (∀ wx y, Bd N wx p (clS (npF x) y) vg vt vm vl → wx.cell? ⟨p, 0, none⟩ = some (.int .i64 x.g.co)) := ⟨fun wx y hb => hb.box.cell 0⟩
 have BS : Box' (∀ k, ∃ c, blR (blF (npF x) x.cur.row (0) (x.cur.col + 1)) (0) k = clS (npF x) c) := ⟨fun k => by
  obtain ⟨c, e⟩ := blR_same (blF (npF x) x.cur.row (0) (x.cur.col + 1)) (0) k
  exact ⟨c, e⟩⟩
 clear may1 h hN m
 go_enter Tryz.func81, Tryz.ntmps81
 go_upto_region 1 with (fail)
 clear cc ff
 generalize (w.setCell ⟨p, 5, none⟩ (.bool false)) = w1 at *
 have c0 : w1.cell? ⟨p, 0, none⟩ = some (.int .i64 x.g.co) := B0.out.box.cell 0
 go_quiet (fail)
 clear c0
 have B1 := Box'.mk (B0.out.drewN nq)
 have T1 : Box' (Below N w (w1.drewN nq)) := ⟨Below.drewN T0.out nq⟩
 clear B0 T0
 generalize w1.drewN nq = w1b at *
 go_wp2_with fail
 refine (LR.out _ B1.out).mono ?_
 rintro e w2 ⟨rfl, rfl⟩
 clear LR
 have c3 : w2.cell? ⟨p, 3, none⟩ = some (.int .i64 x.cur.row) := B1.out.box.cell 3
 have c4 : w2.cell? ⟨p, 4, none⟩ = some (.int .i64 x.cur.col) := B1.out.box.cell 4
 go_wp2_with fail
 go_quiet (fail)
 clear c3 c4
 replace B1 := Box'.mk (B1.out.drewN nq)
 replace T1 : Box' (Below N w (w2.drewN nq)) := ⟨Below.drewN T1.out nq⟩
 generalize w2.drewN nq = w3 at *
 have c3 : w3.cell? ⟨p, 3, none⟩ = some (.int .i64 x.cur.row) := B1.out.box.cell 3
 go_wp2_with fail
 refine (BL.out _ B1.out).mono ?_
 rintro e w4 ⟨⟨v, rfl⟩, b4, t4⟩
 have B4 := Box'.mk b4
 have T4 : Box' (Below N w w4) := ⟨T1.out.trans t4⟩
 clear BL B1 T1 b4 t4 c3
 cases lines with
 | false =>
  go_wp2_with fail
  exact bodyPost_ret (results_none rfl _ _) rfl ⟨⟨_, rfl⟩, B4.out, T4.out⟩
 | true =>
  obtain ⟨n, hn⟩ : ∃ n, n = (x.cur.row - 1 - (0) + 1).toNat := ⟨_, rfl⟩
  have E : Box' (erS x (0) (x.cur.col + 1) (0) (x.cur.row - 1) true = blR (blF (npF x) x.cur.row (0) (x.cur.col + 1)) (0) n) := ⟨by rw [hn]; rfl⟩
  generalize blF (npF x) x.cur.row (0) (x.cur.col + 1) = X at *
  go_wp2_with fail
  go_loopw [10] (fun i wr => ∃ (k : Nat), k ≤ n ∧ i = .int .i64 ((k : Int)) ∧ Box' (Bd N wr p (blR X (0) k) vg vt vm vl) ∧ Box' (Below N w wr)) (fun i _ => (x.cur.row - 1 + 1 - intOf i).toNat)
  case atStart => exact ⟨0, by omega, by first | rfl | simp, B4, T4⟩
  case round =>
   obtain ⟨k, hk, rfl, BB, TT⟩ := hrel
   clear B4 T4
   by_cases hlt : (k : Int) ≤ x.cur.row - 1
   case neg =>
    obtain rfl : k = n := by omega
    clear hn LP
    go_wp2_with fail
    exact bodyPost_end (results_none rfl _ _) rfl ⟨⟨_, rfl⟩, (by rw [E.out]; exact BB.out), TT.out⟩
   case pos =>
    have c0 : wr.cell? ⟨p, 0, none⟩ = some (.int .i64 x.g.co) := by
     obtain ⟨c, e⟩ := BS.out k
     have hb := BB.out
     rw [e] at hb
     exact CO.out _ _ hb
    have hk2 : k + 1 ≤ n := by omega
    clear hn
    go_wp2_with fail
    refine (LP.out _ k hlt BB.out).mono ?_
    rintro e w5 ⟨⟨v5, rfl⟩, b5, t5⟩
    have B5 := Box'.mk b5
    have T5 : Box' (Below N w w5) := ⟨TT.out.trans t5⟩
    clear b5 t5 BB TT c0 LP
    go_wp2_with fail
    exact ⟨⟨k + 1, hk2, by go_num, B5, T5⟩, by simp [intOf]; omega⟩
theorem bErase_2 (N : Nat) (w : World) (p : Nat) (x : Sn) (vg vt vm vl : Value) (h : Bd N w p x vg vt vm vl) (hN : mayN x = true) (lines : Bool) :
  Calls Tryz.prog 81 #[.pointer (some ⟨p, 0, none⟩), .bool lines, .int .i64 2] w fun e w' => (∃ v, e = .returned v) ∧ Bd N w' p (erS x (0) (x.g.co) (0) (x.g.ro - 1) lines) vg vt vm vl ∧ Below N w w' := by
 have m := may_Mm hN
 have l1 := m.l1
 have l2 := m.l2
 have k1 := m.c1
 have k2 := m.c2
 have r1 := m.r1
 have r2 := m.r2
 have o1 := m.w1
 have o2 := m.w2
 have LR : Box' (∀ wx, Bd N wx p (npF x) vg vt vm vl → Calls Tryz.prog 132 #[.pointer (some ⟨p, 0, none⟩)] wx fun e w' => e = .returned (.int .i64 (x.g.ro - 1)) ∧ w' = wx) := ⟨fun wx hb => lastRow_any N wx p (npF x) vg vt vm vl hb m.r1 m.r2⟩
 have BL : Box' (∀ wx, Bd N wx p (npF x) vg vt vm vl → Calls Tryz.prog 135 #[.pointer (some ⟨p, 0, none⟩), .int .i64 x.cur.row, .int .i64 (0), .int .i64 (x.g.co)] wx fun e w' => (∃ v, e = .returned v) ∧ Bd N w' p (blF (npF x) x.cur.row (0) (x.g.co)) vg vt vm vl ∧ Below N wx w') := ⟨fun wx hb => bBlank_any N wx p (npF x) vg vt vm vl hb (may_G (may_np hN)) (may_S (may_np hN)) x.cur.row (0) (x.g.co) m.w1 m.w2 (by omega) (by omega) (by show x.g.co ≤ x.g.co; omega)⟩
 have may1 : mayN (blF (npF x) x.cur.row (0) (x.g.co)) = true := may_bl (may_np hN) x.cur.row (0) (x.g.co) m.w1 m.w2 (by omega) (by omega) (by show x.g.co ≤ x.g.co; omega)
 have LP : Box' (∀ wx (k : Nat), (k : Int) ≤ x.g.ro - 1 → Bd N wx p (blR (blF (npF x) x.cur.row (0) (x.g.co)) (0) k) vg vt vm vl → Calls Tryz.prog 135 #[.pointer (some ⟨p, 0, none⟩),   .int .i64 ((k : Int)), .int .i64 0, .int .i64 x.g.co] wx fun e w' => (∃ v, e = .returned v) ∧ Bd N w' p (blR (blF (npF x) x.cur.row (0) (x.g.co)) (0) (k + 1)) vg vt vm vl ∧ Below N wx w') := ⟨fun wx k hk hb => by
  obtain ⟨c, e⟩ := blR_same (blF (npF x) x.cur.row (0) (x.g.co)) (0) k
  have hm := may_blR may1 (0) (by omega) k (by show _ ≤ x.g.ro; omega)
  have EB : blR (blF (npF x) x.cur.row (0) (x.g.co)) (0) (k + 1) = blF (blR (blF (npF x) x.cur.row (0) (x.g.co)) (0) k) ((k : Int)) 0 x.g.co := by show blF _ (0 + (k : Int)) 0 _ = _; rw [Int.zero_add]; rfl
  rw [EB]
  refine bBlank_any N wx p _ vg vt vm vl hb (may_G hm) (may_S hm) ((k : Int)) 0 x.g.co (by omega) ?_ (Int.le_refl _) (by omega) ?_
  ·rw [e]; show _ < x.g.ro; omega
  ·rw [e]; exact Int.le_refl _⟩
 have cc : w.cell? ⟨p, 5, none⟩ = some (.bool x.cur.pend) := h.box.cell 5
 have ff := h.box.frozen 5
 have B0 : Box' (Bd N (w.setCell ⟨p, 5, none⟩ (.bool false)) p (npF x) vg vt vm vl) := ⟨h.setCell _ 5 _ rfl rfl rfl rfl rfl⟩
 have T0 : Box' (Below N w (w.setCell ⟨p, 5, none⟩ (.bool false))) := ⟨((Tc.refl p w).setCell 5 _).below h.hp (Nat.le_trans h.hp (Nat.le_of_lt h.lt))⟩
 have CO : Box' (∀ wx y, Bd N wx p (clS (npF x) y) vg vt vm vl → wx.cell? ⟨p, 0, none⟩ = some (.int .i64 x.g.co)) := ⟨fun wx y hb => hb.box.cell 0⟩
 have BS : Box' (∀ k, ∃ c, blR (blF (npF x) x.cur.row (0) (x.g.co)) (0) k = clS (npF x) c) := ⟨fun k => by
  obtain ⟨c, e⟩ := blR_same (blF (npF x) x.cur.row (0) (x.g.co)) (0) k
  exact ⟨c, e⟩⟩
 clear may1 h hN m
 go_enter Tryz.func81, Tryz.ntmps81
 go_upto_region 1 with (fail)
 clear cc ff
 generalize (w.setCell ⟨p, 5, none⟩ (.bool false)) = w1 at *
 have c0 : w1.cell? ⟨p, 0, none⟩ = some (.int .i64 x.g.co) := B0.out.box.cell 0
 go_quiet (fail)
 clear c0
 have B1 := Box'.mk (B0.out.drewN nq)
 have T1 : Box' (Below N w (w1.drewN nq)) := ⟨Below.drewN T0.out nq⟩
 clear B0 T0
 generalize w1.drewN nq = w1b at *
 go_wp2_with fail
 refine (LR.out _ B1.out).mono ?_
 rintro e w2 ⟨rfl, rfl⟩
 clear LR
 obtain ⟨w3, e3⟩ : ∃ w3, w3 = w2 := ⟨w2, rfl⟩
 subst e3
 have c3 : w3.cell? ⟨p, 3, none⟩ = some (.int .i64 x.cur.row) := B1.out.box.cell 3
 go_wp2_with fail
 refine (BL.out _ B1.out).mono ?_
 rintro e w4 ⟨⟨v, rfl⟩, b4, t4⟩
 have B4 := Box'.mk b4
 have T4 : Box' (Below N w w4) := ⟨T1.out.trans t4⟩
 clear BL B1 T1 b4 t4 c3
 cases lines with
 | false =>
  go_wp2_with fail
  exact bodyPost_ret (results_none rfl _ _) rfl ⟨⟨_, rfl⟩, B4.out, T4.out⟩
 | true =>
  obtain ⟨n, hn⟩ : ∃ n, n = (x.g.ro - 1 - (0) + 1).toNat := ⟨_, rfl⟩
  have E : Box' (erS x (0) (x.g.co) (0) (x.g.ro - 1) true = blR (blF (npF x) x.cur.row (0) (x.g.co)) (0) n) := ⟨by rw [hn]; rfl⟩
  generalize blF (npF x) x.cur.row (0) (x.g.co) = X at *
  go_wp2_with fail
  go_loopw [10] (fun i wr => ∃ (k : Nat), k ≤ n ∧ i = .int .i64 ((k : Int)) ∧ Box' (Bd N wr p (blR X (0) k) vg vt vm vl) ∧ Box' (Below N w wr)) (fun i _ => (x.g.ro - 1 + 1 - intOf i).toNat)
  case atStart => exact ⟨0, by omega, by first | rfl | simp, B4, T4⟩
  case round =>
   obtain ⟨k, hk, rfl, BB, TT⟩ := hrel
   clear B4 T4
   by_cases hlt : (k : Int) ≤ x.g.ro - 1
   case neg =>
    obtain rfl : k = n := by omega
    clear hn LP
    go_wp2_with fail
    exact bodyPost_end (results_none rfl _ _) rfl ⟨⟨_, rfl⟩, (by rw [E.out]; exact BB.out), TT.out⟩
   case pos =>
    have c0 : wr.cell? ⟨p, 0, none⟩ = some (.int .i64 x.g.co) := by
     obtain ⟨c, e⟩ := BS.out k
     have hb := BB.out
     rw [e] at hb
     exact CO.out _ _ hb
    have hk2 : k + 1 ≤ n := by omega
    clear hn
    go_wp2_with fail
    refine (LP.out _ k hlt BB.out).mono ?_
    rintro e w5 ⟨⟨v5, rfl⟩, b5, t5⟩
    have B5 := Box'.mk b5
    have T5 : Box' (Below N w w5) := ⟨TT.out.trans t5⟩
    clear b5 t5 BB TT c0 LP
    go_wp2_with fail
    exact ⟨⟨k + 1, hk2, by go_num, B5, T5⟩, by simp [intOf]; omega⟩
theorem bErase_no (N : Nat) (w : World) (p : Nat) (x : Sn) (vg vt vm vl : Value) (h : Bd N w p x vg vt vm vl) (hN : mayN x = true) (lines : Bool) (kind : Int) (h0 : ¬ kind = 0) (h1 : ¬ kind = 1) (h2 : ¬ kind = 2) :
  Calls Tryz.prog 81 #[.pointer (some ⟨p, 0, none⟩), .bool lines, .int .i64 kind] w fun e w' => (∃ v, e = .returned v) ∧ Bd N w' p (npF x) vg vt vm vl ∧ Below N w w' := by
 have m := may_Mm hN
 have LR : Box' (∀ wx, Bd N wx p (npF x) vg vt vm vl → Calls Tryz.prog 132 #[.pointer (some ⟨p, 0, none⟩)] wx fun e w' => e = .returned (.int .i64 (x.g.ro - 1)) ∧ w' = wx) := ⟨fun wx hb => lastRow_any N wx p (npF x) vg vt vm vl hb m.r1 m.r2⟩
 have cc : w.cell? ⟨p, 5, none⟩ = some (.bool x.cur.pend) := h.box.cell 5
 have ff := h.box.frozen 5
 have B0 : Box' (Bd N (w.setCell ⟨p, 5, none⟩ (.bool false)) p (npF x) vg vt vm vl) := ⟨h.setCell _ 5 _ rfl rfl rfl rfl rfl⟩
 have T0 : Box' (Below N w (w.setCell ⟨p, 5, none⟩ (.bool false))) := ⟨((Tc.refl p w).setCell 5 _).below h.hp (Nat.le_trans h.hp (Nat.le_of_lt h.lt))⟩
 clear h hN m
 go_enter Tryz.func81, Tryz.ntmps81
 go_upto_region 1 with (fail)
 clear cc ff
 generalize (w.setCell ⟨p, 5, none⟩ (.bool false)) = w1 at *
 have c0 : w1.cell? ⟨p, 0, none⟩ = some (.int .i64 x.g.co) := B0.out.box.cell 0
 go_quiet (fail)
 clear c0
 have B1 := Box'.mk (B0.out.drewN nq)
 have T1 : Box' (Below N w (w1.drewN nq)) := ⟨Below.drewN T0.out nq⟩
 clear B0 T0
 generalize w1.drewN nq = w1b at *
 go_wp2_with fail
 refine (LR.out _ B1.out).mono ?_
 rintro e w2 ⟨rfl, rfl⟩
 clear LR
 go_wp2_with fail
 exact bodyPost_ret (results_none rfl _ _) rfl ⟨⟨_, rfl⟩, B1.out, T1.out⟩
theorem bErase_any (N : Nat) (w : World) (p : Nat) (x : Sn) (vg vt vm vl : Value) (h : Bd N w p x vg vt vm vl) (hN : mayN x = true) (lines : Bool) (kind : Int) :
  Calls Tryz.prog 81 #[.pointer (some ⟨p, 0, none⟩), .bool lines, .int .i64 kind] w fun e w' => (∃ v, e = .returned v) ∧ Bd N w' p (eaF x lines kind) vg vt vm vl ∧ Below N w w' := by
 unfold eaF
 by_cases h0 : kind = 0
 ·rw [if_pos h0]; subst h0; exact bErase_0 N w p x vg vt vm vl h hN lines
 rw [if_neg h0]
 by_cases h1 : kind = 1
 ·rw [if_pos h1]; subst h1; exact bErase_1 N w p x vg vt vm vl h hN lines
 rw [if_neg h1]
 by_cases h2 : kind = 2
 ·rw [if_pos h2]; subst h2; exact bErase_2 N w p x vg vt vm vl h hN lines
 rw [if_neg h2]
 exact bErase_no N w p x vg vt vm vl h hN lines kind h0 h1 h2
theorem erase1_any (N : Nat) (w : World) (p : Nat) (x : Sn) (vg vt vm vl : Value) (h : Bd N w p x vg vt vm vl) (hN : mayN x = true) (c d : Nat) (lines : Bool) (kind : Int) (hr : Row w c 4 #[.bool lines]) (hc : Row w d 3 #[.int .i64 kind]) :
  Calls Tryz.prog 80 #[.pointer (some ⟨p, 0, none⟩), .pointer (some ⟨c, 0, none⟩), .pointer (some ⟨d, 0, none⟩)] w fun e w' => (∃ v, e = .returned v) ∧ Bd N w' p (eaF x lines kind) vg vt vm vl ∧ Below N w w' := by
 have c0 : w.cell? ⟨c, 0, none⟩ = some (.bool lines) := hr.cell 0
 have c1 : w.cell? ⟨d, 0, none⟩ = some (.int .i64 kind) := hc.cell 0
 have PL := Box'.mk (bErase_any N w p x vg vt vm vl h hN lines kind)
 clear h hr hc hN
 go_enter Tryz.func80, Tryz.ntmps80
 go_wp2_with fail
 refine PL.out.mono ?_
 rintro e w2 ⟨⟨v, rfl⟩, h2, h3⟩
 have H2 := Box'.mk h2
 have H3 := Box'.mk h3
 clear h2 h3 c0 c1
 go_wp2_with fail
 exact bodyPost_end (results_none rfl _ _) rfl ⟨⟨_, rfl⟩, H2.out, H3.out⟩
theorem Erase_dr (x : Sn) (vg vt vm vl : Value) (lines : Bool) (kind : Int) (w : World) (hl : Li w.heap.size w x vg vt vm vl) (hb : Bo x) :
  Calls Tryz.prog 25 #[.agg (snA x vg vt vm vl), .bool lines, .int .i64 kind] w fun e w' => DR w.heap.size w' e (if mayN x then some (eaF x lines kind) else none) ∧ Below w.heap.size w w' := by
 have DO : Box' (∀ wx, Below w.heap.size w wx → w.heap.size + 4 ≤ wx.heap.size → Row wx (w.heap.size + 1) 4 #[.bool lines] → Row wx (w.heap.size + 2) 3 #[.int .i64 kind] → Calls Tryz.prog 67 #[.agg (snA x vg vt vm vl), .func (.func 80) #[] #[.pointer (some ⟨w.heap.size + 1, 0, none⟩), .pointer (some ⟨w.heap.size + 2, 0, none⟩)]] wx fun e w' => DR wx.heap.size w' e (if mayN x then some (eaF x lines kind) else none) ∧ Below wx.heap.size wx w') := ⟨fun wx hbe hsz r0 r1 => by
  cases hN : mayN x with
  | false => exact do2_no x vg vt vm vl 80 (.pointer (some ⟨w.heap.size + 1, 0, none⟩)) (.pointer (some ⟨w.heap.size + 2, 0, none⟩)) wx (hl.at hbe) hb hN
  | true =>
   exact do2_ok x (eaF x lines kind) vg vt vm vl 80 (.pointer (some ⟨w.heap.size + 1, 0, none⟩)) (.pointer (some ⟨w.heap.size + 2, 0, none⟩)) wx (hl.at hbe) hb hN (fun _ _ => rfl) (fun wy p vg vt vm vl hby bd hp => by
   have r0 := r0.below hby (by omega)
   have r1 := r1.below hby (by omega)
   refine (erase1_any (wx.heap.size + 2) wy p x vg vt vm vl bd hN (w.heap.size + 1) (w.heap.size + 2) lines kind r0 r1).mono ?_
   rintro e w' ⟨h1, h2, h3⟩
   exact ⟨h1, ⟨_, _, _, _, h2⟩, h3⟩)⟩
 have F := Box'.mk (Wr2.begin w (snA x vg vt vm vl) 4 (.bool lines) 3 (.int .i64 kind))
 have U32 := Box'.mk Tryz.underlying32
 have S32 := Box'.mk s32
 clear hl hb
 generalize (if mayN x then some (eaF x lines kind) else none) = r at *
 go_enter Tryz.func25, Tryz.ntmps25
 go_upto_region 1 with (fail)
 generalize ((((w.alloc (.cells (snA x vg vt vm vl) 32)).alloc (.cells #[.bool lines] 4)).alloc (.cells #[.int .i64 kind] 3)).alloc (.cells z32 32)) = w1 at *
 have hz := F.out.sz
 go_wp2_with (first
  | (refine wpList_load_row rfl 32 (.tmp 3) rfl w.heap.size rfl 32 (snA x vg vt vm vl) F.out.r _ U32.out rfl 44 S32.out rfl ?_))
 refine (DO.out _ F.out.be (by omega) F.out.c0 F.out.c1).mono ?_
 rintro e w2 ⟨hd, hb⟩
 obtain ⟨y, yg, yt, ym, yl, er, rfl, ho, hs⟩ := (hd.dn (show w.heap.size ≤ w1.heap.size by omega)).out
 have RR := Box'.mk (F.out.rr.below hb (by omega))
 have BE : Box' (Below w.heap.size w w2) := ⟨F.out.be.trans (hb.mono F.out.be.size)⟩
 have OO := Box'.mk ho
 have HS := Box'.mk hs
 clear hd hb ho hs F DO
 go_wp2_with (first
  | (refine wpList_store_row rfl 32 (.tmp 6) (.tmp 11) rfl (w.heap.size + 3) rfl (snA y yg yt ym yl) rfl 32 44 RR.out S32.out rfl OO.out ?_))
 exact bodyPost_ret (results_sn rfl _ (w.heap.size + 3) rfl _ rfl _ _ (RR.out.setRow _) rfl) rfl ⟨HS.out _ _ RR.out, below_setRow BE.out (by omega) _⟩
theorem Erase_no (x : Sn) (vg vt vm vl : Value) (lines : Bool) (kind : Int) (w : World) (hl : Li w.heap.size w x vg vt vm vl) (hb : Bo x) (hN : mayN x = false) :
  Calls Tryz.prog 25 #[.agg (snA x vg vt vm vl), .bool lines, .int .i64 kind] w fun e w' => e = .returned sErr ∧ Below w.heap.size w w' := (Erase_dr x vg vt vm vl lines kind w hl hb).mono fun e w' q => by
 rw [hN] at q; exact q
theorem Erase_ok (x : Sn) (vg vt vm vl : Value) (lines : Bool) (kind : Int) (w : World) (hl : Li w.heap.size w x vg vt vm vl) (hb : Bo x) (hN : mayN x = true) :
  Calls Tryz.prog 25 #[.agg (snA x vg vt vm vl), .bool lines, .int .i64 kind] w fun e w' => ScR w.heap.size w' e (eaF x lines kind) ∧ Below w.heap.size w w' := (Erase_dr x vg vt vm vl lines kind w hl hb).mono fun e w' q => by
 rw [hN] at q; exact q
def akF (x : Sn) (on : Bool) : Sn := if on then alF (keF x false) true else if x.alt then keF (alF x false) true else x
theorem bAltKept_on (N : Nat) (w : World) (p : Nat) (x : Sn) (vg vt vm vl : Value) (h : Bd N w p x vg vt vm vl) (hG : mayG x.g.co x.g.ro x.g.c = true) (hS : mayS x.cur.st = true) :
  Calls Tryz.prog 140 #[.pointer (some ⟨p, 0, none⟩), .bool true] w fun e w' => (∃ v, e = .returned v) ∧ (∃ vg' vm', Bd N w' p (alF (keF x false) true) vg' vt vm' vl) ∧ Below N w w' := by
 have KE := Box'.mk (keep_any N w p x vg vt vm vl h)
 have AL : Box' (∀ wx, Bd N wx p (keF x false) vg vt vm vl → Calls Tryz.prog 139 #[.pointer (some ⟨p, 0, none⟩), .bool true] wx fun e w' => (∃ v, e = .returned v) ∧ (∃ vg' vm', Bd N w' p (alF (keF x false) true) vg' vt vm' vl) ∧ Below N wx w') := ⟨fun wx hb => bAlt_any N wx p (keF x false) vg vt vm vl hb hG hS true⟩
 have B0 := Box'.mk h
 clear h hG hS
 go_enter Tryz.func140, Tryz.ntmps140
 go_wp2_with fail
 refine KE.out.mono ?_
 rintro e w1 ⟨⟨v, rfl⟩, b1, t1⟩
 have B1 : Box' (Bd N w1 p (keF x false) vg vt vm vl) := ⟨b1⟩
 have T1 : Box' (Below N w w1) := ⟨t1.below B0.out.hp (Nat.le_trans B0.out.hp (Nat.le_of_lt B0.out.lt))⟩
 clear b1 t1 KE B0
 go_wp2_with fail
 refine (AL.out _ B1.out).mono ?_
 rintro e w2 ⟨⟨v2, rfl⟩, b2, t2⟩
 have B2 := Box'.mk b2
 have T2 : Box' (Below N w w2) := ⟨T1.out.trans t2⟩
 clear b2 t2 B1 T1 AL
 go_wp2_with fail
 exact bodyPost_ret (results_none rfl _ _) rfl ⟨⟨_, rfl⟩, B2.out, T2.out⟩
theorem bAltKept_off (N : Nat) (w : World) (p : Nat) (x : Sn) (vg vt vm vl : Value) (h : Bd N w p x vg vt vm vl) (hG : mayG x.g.co x.g.ro x.g.c = true) (hS : mayS x.cur.st = true) (hA : x.alt = true) :
  Calls Tryz.prog 140 #[.pointer (some ⟨p, 0, none⟩), .bool false] w fun e w' => (∃ v, e = .returned v) ∧ (∃ vg' vm', Bd N w' p (keF (alF x false) true) vg' vt vm' vl) ∧ Below N w w' := by
 have AL := Box'.mk (bAlt_any N w p x vg vt vm vl h hG hS false)
 have KB : Box' (∀ wx vg' vm', Bd N wx p (alF x false) vg' vt vm' vl → Calls Tryz.prog 69 #[.pointer (some ⟨p, 0, none⟩)] wx fun e w' => (∃ v, e = .returned v) ∧ Bd N w' p (keF (alF x false) true) vg' vt vm' vl ∧ Tc p wx w') := ⟨fun wx vg' vm' hb => keepBack_any N wx p (alF x false) vg' vt vm' vl hb⟩
 have c39 : w.cell? ⟨p, 39, none⟩ = some (.bool true) := by rw [← hA]; exact h.box.cell 39
 clear h hG hS hA
 go_enter Tryz.func140, Tryz.ntmps140
 go_wp2_with fail
 refine AL.out.mono ?_
 rintro e w1 ⟨⟨v, rfl⟩, ⟨vg', vm', b1⟩, t1⟩
 have B1 := Box'.mk b1
 have T1 := Box'.mk t1
 clear b1 t1 AL c39
 go_wp2_with fail
 refine (KB.out _ _ _ B1.out).mono ?_
 rintro e w2 ⟨⟨v2, rfl⟩, b2, t2⟩
 have B2 := Box'.mk b2
 have T2 : Box' (Below N w w2) := ⟨T1.out.trans (t2.below B1.out.hp (Nat.le_trans B1.out.hp (Nat.le_of_lt B1.out.lt)))⟩
 clear b2 t2 B1 T1 KB
 go_wp2_with fail
 exact bodyPost_end (results_none rfl _ _) rfl ⟨⟨_, rfl⟩, ⟨_, _, B2.out⟩, T2.out⟩
theorem bAltKept_no (N : Nat) (w : World) (p : Nat) (x : Sn) (vg vt vm vl : Value) (h : Bd N w p x vg vt vm vl) (hA : x.alt = false) :
  Calls Tryz.prog 140 #[.pointer (some ⟨p, 0, none⟩), .bool false] w fun e w' => (∃ v, e = .returned v) ∧ (∃ vg' vm', Bd N w' p (x) vg' vt vm' vl) ∧ Below N w w' := by
 have c39 : w.cell? ⟨p, 39, none⟩ = some (.bool false) := by rw [← hA]; exact h.box.cell 39
 have B0 := Box'.mk h
 clear h hA
 go_enter Tryz.func140, Tryz.ntmps140
 go_wp2_with fail
 exact bodyPost_end (results_none rfl _ _) rfl ⟨⟨_, rfl⟩, ⟨_, _, B0.out⟩, Below.refl _ _⟩
theorem bAltKept_any (N : Nat) (w : World) (p : Nat) (x : Sn) (vg vt vm vl : Value) (h : Bd N w p x vg vt vm vl) (hG : mayG x.g.co x.g.ro x.g.c = true) (hS : mayS x.cur.st = true) (on : Bool) :
  Calls Tryz.prog 140 #[.pointer (some ⟨p, 0, none⟩), .bool on] w fun e w' => (∃ v, e = .returned v) ∧ (∃ vg' vm', Bd N w' p (akF x on) vg' vt vm' vl) ∧ Below N w w' := by
 unfold akF
 cases on with
 | true => exact bAltKept_on N w p x vg vt vm vl h hG hS
 | false =>
  cases hA : x.alt with
  | true => exact bAltKept_off N w p x vg vt vm vl h hG hS hA
  | false => exact bAltKept_no N w p x vg vt vm vl h hA
theorem bPm_1 (N : Nat) (w : World) (p : Nat) (x : Sn) (vg vt vm vl : Value) (h : Bd N w p x vg vt vm vl) (m : Mm x) (hG : mayG x.g.co x.g.ro x.g.c = true) (hS : mayS x.cur.st = true) (on : Bool) :
  Calls Tryz.prog 91 #[.pointer (some ⟨p, 0, none⟩), .int .i64 1, .bool on] w fun e w' => (∃ v, e = .returned v) ∧ (∃ vg' vm', Bd N w' p ({ x with arr := on }) vg' vt vm' vl) ∧ Below N w w' := by
 have cc : w.cell? ⟨p, 22, none⟩ = some (.bool x.arr) := h.box.cell 22
 have ff := h.box.frozen 22
 have B0 : Box' (Bd N (w.setCell ⟨p, 22, none⟩ (.bool on)) p { x with arr := on } vg vt vm vl) := ⟨h.setCell _ 22 _ rfl rfl rfl rfl rfl⟩
 have T0 : Box' (Below N w (w.setCell ⟨p, 22, none⟩ (.bool on))) := ⟨((Tc.refl p w).setCell 22 _).below h.hp (Nat.le_trans h.hp (Nat.le_of_lt h.lt))⟩
 clear h m hG hS
 go_enter Tryz.func91, Tryz.ntmps91
 go_wp2_with fail
 exact bodyPost_end (results_none rfl _ _) rfl ⟨⟨_, rfl⟩, ⟨_, _, B0.out⟩, T0.out⟩
theorem bPm_7 (N : Nat) (w : World) (p : Nat) (x : Sn) (vg vt vm vl : Value) (h : Bd N w p x vg vt vm vl) (m : Mm x) (hG : mayG x.g.co x.g.ro x.g.c = true) (hS : mayS x.cur.st = true) (on : Bool) :
  Calls Tryz.prog 91 #[.pointer (some ⟨p, 0, none⟩), .int .i64 7, .bool on] w fun e w' => (∃ v, e = .returned v) ∧ (∃ vg' vm', Bd N w' p ({ x with wrap := on }) vg' vt vm' vl) ∧ Below N w w' := by
 have cc : w.cell? ⟨p, 19, none⟩ = some (.bool x.wrap) := h.box.cell 19
 have ff := h.box.frozen 19
 have B0 : Box' (Bd N (w.setCell ⟨p, 19, none⟩ (.bool on)) p { x with wrap := on } vg vt vm vl) := ⟨h.setCell _ 19 _ rfl rfl rfl rfl rfl⟩
 have T0 : Box' (Below N w (w.setCell ⟨p, 19, none⟩ (.bool on))) := ⟨((Tc.refl p w).setCell 19 _).below h.hp (Nat.le_trans h.hp (Nat.le_of_lt h.lt))⟩
 clear h m hG hS
 go_enter Tryz.func91, Tryz.ntmps91
 go_wp2_with fail
 exact bodyPost_end (results_none rfl _ _) rfl ⟨⟨_, rfl⟩, ⟨_, _, B0.out⟩, T0.out⟩
theorem bPm_25 (N : Nat) (w : World) (p : Nat) (x : Sn) (vg vt vm vl : Value) (h : Bd N w p x vg vt vm vl) (m : Mm x) (hG : mayG x.g.co x.g.ro x.g.c = true) (hS : mayS x.cur.st = true) (on : Bool) :
  Calls Tryz.prog 91 #[.pointer (some ⟨p, 0, none⟩), .int .i64 25, .bool on] w fun e w' => (∃ v, e = .returned v) ∧ (∃ vg' vm', Bd N w' p ({ x with vis := on }) vg' vt vm' vl) ∧ Below N w w' := by
 have cc : w.cell? ⟨p, 24, none⟩ = some (.bool x.vis) := h.box.cell 24
 have ff := h.box.frozen 24
 have B0 : Box' (Bd N (w.setCell ⟨p, 24, none⟩ (.bool on)) p { x with vis := on } vg vt vm vl) := ⟨h.setCell _ 24 _ rfl rfl rfl rfl rfl⟩
 have T0 : Box' (Below N w (w.setCell ⟨p, 24, none⟩ (.bool on))) := ⟨((Tc.refl p w).setCell 24 _).below h.hp (Nat.le_trans h.hp (Nat.le_of_lt h.lt))⟩
 clear h m hG hS
 go_enter Tryz.func91, Tryz.ntmps91
 go_wp2_with fail
 exact bodyPost_end (results_none rfl _ _) rfl ⟨⟨_, rfl⟩, ⟨_, _, B0.out⟩, T0.out⟩
theorem bPm_2004 (N : Nat) (w : World) (p : Nat) (x : Sn) (vg vt vm vl : Value) (h : Bd N w p x vg vt vm vl) (m : Mm x) (hG : mayG x.g.co x.g.ro x.g.c = true) (hS : mayS x.cur.st = true) (on : Bool) :
  Calls Tryz.prog 91 #[.pointer (some ⟨p, 0, none⟩), .int .i64 2004, .bool on] w fun e w' => (∃ v, e = .returned v) ∧ (∃ vg' vm', Bd N w' p ({ x with pas := on }) vg' vt vm' vl) ∧ Below N w w' := by
 have cc : w.cell? ⟨p, 23, none⟩ = some (.bool x.pas) := h.box.cell 23
 have ff := h.box.frozen 23
 have B0 : Box' (Bd N (w.setCell ⟨p, 23, none⟩ (.bool on)) p { x with pas := on } vg vt vm vl) := ⟨h.setCell _ 23 _ rfl rfl rfl rfl rfl⟩
 have T0 : Box' (Below N w (w.setCell ⟨p, 23, none⟩ (.bool on))) := ⟨((Tc.refl p w).setCell 23 _).below h.hp (Nat.le_trans h.hp (Nat.le_of_lt h.lt))⟩
 clear h m hG hS
 go_enter Tryz.func91, Tryz.ntmps91
 go_wp2_with fail
 exact bodyPost_end (results_none rfl _ _) rfl ⟨⟨_, rfl⟩, ⟨_, _, B0.out⟩, T0.out⟩
theorem bPm_6 (N : Nat) (w : World) (p : Nat) (x : Sn) (vg vt vm vl : Value) (h : Bd N w p x vg vt vm vl) (m : Mm x) (hG : mayG x.g.co x.g.ro x.g.c = true) (hS : mayS x.cur.st = true) (on : Bool) :
  Calls Tryz.prog 91 #[.pointer (some ⟨p, 0, none⟩), .int .i64 6, .bool on] w fun e w' => (∃ v, e = .returned v) ∧ (∃ vg' vm', Bd N w' p (plF { x with cur := { x.cur with orig := on } } 0 0) vg' vt vm' vl) ∧ Below N w w' := by
 have cc : w.cell? ⟨p, 20, none⟩ = some (.bool x.cur.orig) := h.box.cell 20
 have ff := h.box.frozen 20
 have B0 : Box' (Bd N (w.setCell ⟨p, 20, none⟩ (.bool on)) p { x with cur := { x.cur with orig := on } } vg vt vm vl) := ⟨h.setCell _ 20 _ rfl rfl rfl rfl rfl⟩
 have T0 : Box' (Below N w (w.setCell ⟨p, 20, none⟩ (.bool on))) := ⟨((Tc.refl p w).setCell 20 _).below h.hp (Nat.le_trans h.hp (Nat.le_of_lt h.lt))⟩
 have PL : Box' (∀ wx, Bd N wx p { x with cur := { x.cur with orig := on } } vg vt vm vl → Calls Tryz.prog 79 #[.pointer (some ⟨p, 0, none⟩), .int .i64 0, .int .i64 0] wx fun e w' => (∃ v, e = .returned v) ∧ Bd N w' p (plF { x with cur := { x.cur with orig := on } } 0 0) vg vt vm vl ∧ Tc p wx w') := ⟨fun wx hb => bPlace_any N wx p { x with cur := { x.cur with orig := on } } vg vt vm vl hb ⟨m.c1, m.c2, m.r1, m.r2, m.t1, m.t2, m.b2, m.w1, m.w2, m.l1, m.l2⟩ 0 0⟩
 clear h m hG hS
 go_enter Tryz.func91, Tryz.ntmps91
 go_upto_region 5 with (fail)
 clear cc ff
 generalize (w.setCell ⟨p, 20, none⟩ (.bool on)) = w1 at *
 go_wp2_with fail
 refine (PL.out _ B0.out).mono ?_
 rintro e w2 ⟨⟨v2, rfl⟩, b2, t2⟩
 have B2 := Box'.mk b2
 have T2 : Box' (Below N w w2) := ⟨T0.out.trans (t2.below B0.out.hp (Nat.le_trans B0.out.hp (Nat.le_of_lt B0.out.lt)))⟩
 clear b2 t2 B0 T0 PL
 go_wp2_with fail
 exact bodyPost_end (results_none rfl _ _) rfl ⟨⟨_, rfl⟩, ⟨_, _, B2.out⟩, T2.out⟩
theorem bPm_47 (N : Nat) (w : World) (p : Nat) (x : Sn) (vg vt vm vl : Value) (h : Bd N w p x vg vt vm vl) (m : Mm x) (hG : mayG x.g.co x.g.ro x.g.c = true) (hS : mayS x.cur.st = true) (on : Bool) :
  Calls Tryz.prog 91 #[.pointer (some ⟨p, 0, none⟩), .int .i64 47, .bool on] w fun e w' => (∃ v, e = .returned v) ∧ (∃ vg' vm', Bd N w' p (alF x on) vg' vt vm' vl) ∧ Below N w w' := by
 have CL := Box'.mk (bAlt_any N w p x vg vt vm vl h hG hS on)
 clear h m hG hS
 go_enter Tryz.func91, Tryz.ntmps91
 go_wp2_with fail
 refine CL.out.mono ?_
 rintro e w2 ⟨⟨v2, rfl⟩, b2, t2⟩
 have B2 := Box'.mk b2
 have T2 := Box'.mk t2
 clear b2 t2 CL
 go_wp2_with fail
 exact bodyPost_end (results_none rfl _ _) rfl ⟨⟨_, rfl⟩, B2.out, T2.out⟩
theorem bPm_1047 (N : Nat) (w : World) (p : Nat) (x : Sn) (vg vt vm vl : Value) (h : Bd N w p x vg vt vm vl) (m : Mm x) (hG : mayG x.g.co x.g.ro x.g.c = true) (hS : mayS x.cur.st = true) (on : Bool) :
  Calls Tryz.prog 91 #[.pointer (some ⟨p, 0, none⟩), .int .i64 1047, .bool on] w fun e w' => (∃ v, e = .returned v) ∧ (∃ vg' vm', Bd N w' p (alF x on) vg' vt vm' vl) ∧ Below N w w' := by
 have CL := Box'.mk (bAlt_any N w p x vg vt vm vl h hG hS on)
 clear h m hG hS
 go_enter Tryz.func91, Tryz.ntmps91
 go_wp2_with fail
 refine CL.out.mono ?_
 rintro e w2 ⟨⟨v2, rfl⟩, b2, t2⟩
 have B2 := Box'.mk b2
 have T2 := Box'.mk t2
 clear b2 t2 CL
 go_wp2_with fail
 exact bodyPost_end (results_none rfl _ _) rfl ⟨⟨_, rfl⟩, B2.out, T2.out⟩
theorem bPm_1049 (N : Nat) (w : World) (p : Nat) (x : Sn) (vg vt vm vl : Value) (h : Bd N w p x vg vt vm vl) (m : Mm x) (hG : mayG x.g.co x.g.ro x.g.c = true) (hS : mayS x.cur.st = true) (on : Bool) :
  Calls Tryz.prog 91 #[.pointer (some ⟨p, 0, none⟩), .int .i64 1049, .bool on] w fun e w' => (∃ v, e = .returned v) ∧ (∃ vg' vm', Bd N w' p (akF x on) vg' vt vm' vl) ∧ Below N w w' := by
 have CL := Box'.mk (bAltKept_any N w p x vg vt vm vl h hG hS on)
 clear h m hG hS
 go_enter Tryz.func91, Tryz.ntmps91
 go_wp2_with fail
 refine CL.out.mono ?_
 rintro e w2 ⟨⟨v2, rfl⟩, b2, t2⟩
 have B2 := Box'.mk b2
 have T2 := Box'.mk t2
 clear b2 t2 CL
 go_wp2_with fail
 exact bodyPost_end (results_none rfl _ _) rfl ⟨⟨_, rfl⟩, B2.out, T2.out⟩
theorem bPm_no (N : Nat) (w : World) (p : Nat) (x : Sn) (vg vt vm vl : Value) (h : Bd N w p x vg vt vm vl) (m : Mm x) (hG : mayG x.g.co x.g.ro x.g.c = true) (hS : mayS x.cur.st = true) (on : Bool) (n : Int) (h1 : ¬ n = 1) (h2 : ¬ n = 6) (h3 : ¬ n = 7) (h4 : ¬ n = 25) (h5 : ¬ n = 47) (h6 : ¬ n = 1047) (h7 : ¬ n = 1049) (h8 : ¬ n = 2004) :
  Calls Tryz.prog 91 #[.pointer (some ⟨p, 0, none⟩), .int .i64 n, .bool on] w fun e w' => (∃ v, e = .returned v) ∧ (∃ vg' vm', Bd N w' p (x) vg' vt vm' vl) ∧ Below N w w' := by
 have B0 := Box'.mk h
 clear h m hG hS
 go_enter Tryz.func91, Tryz.ntmps91
 go_wp2_with fail
 exact bodyPost_end (results_none rfl _ _) rfl ⟨⟨_, rfl⟩, ⟨_, _, B0.out⟩, Below.refl _ _⟩
theorem bPm_any (N : Nat) (w : World) (p : Nat) (x : Sn) (vg vt vm vl : Value) (h : Bd N w p x vg vt vm vl) (m : Mm x) (hG : mayG x.g.co x.g.ro x.g.c = true) (hS : mayS x.cur.st = true) (n : Int) (on : Bool) :
  Calls Tryz.prog 91 #[.pointer (some ⟨p, 0, none⟩), .int .i64 n, .bool on] w fun e w' => (∃ v, e = .returned v) ∧ (∃ vg' vm', Bd N w' p (pmF x n on) vg' vt vm' vl) ∧ Below N w w' := by
 unfold pmF
 by_cases h1 : n = 1
 ·rw [if_pos h1]; subst h1; exact bPm_1 N w p x vg vt vm vl h m hG hS on
 rw [if_neg h1]
 by_cases h2 : n = 6
 ·rw [if_pos h2]; subst h2; exact bPm_6 N w p x vg vt vm vl h m hG hS on
 rw [if_neg h2]
 by_cases h3 : n = 7
 ·rw [if_pos h3]; subst h3; exact bPm_7 N w p x vg vt vm vl h m hG hS on
 rw [if_neg h3]
 by_cases h4 : n = 25
 ·rw [if_pos h4]; subst h4; exact bPm_25 N w p x vg vt vm vl h m hG hS on
 rw [if_neg h4]
 by_cases h5 : n = 47
 ·rw [if_pos (.inl h5)]; subst h5; exact bPm_47 N w p x vg vt vm vl h m hG hS on
 by_cases h6 : n = 1047
 ·rw [if_pos (.inr h6)]; subst h6; exact bPm_1047 N w p x vg vt vm vl h m hG hS on
 rw [if_neg (by omega)]
 by_cases h7 : n = 1049
 ·rw [if_pos h7]; subst h7; exact bPm_1049 N w p x vg vt vm vl h m hG hS on
 rw [if_neg h7]
 by_cases h8 : n = 2004
 ·rw [if_pos h8]; subst h8; exact bPm_2004 N w p x vg vt vm vl h m hG hS on
 rw [if_neg h8]
 exact bPm_no N w p x vg vt vm vl h m hG hS on n h1 h2 h3 h4 h5 h6 h7 h8
theorem mode1_any (N : Nat) (w : World) (p : Nat) (x : Sn) (vg vt vm vl : Value) (h : Bd N w p x vg vt vm vl) (hN : mayN x = true) (c d f : Nat) (priv : Bool) (n : Int) (on : Bool) (hr : Row w c 4 #[.bool priv]) (hc : Row w d 3 #[.int .i64 n]) (hf : Row w f 4 #[.bool on]) :
  Calls Tryz.prog 90 #[.pointer (some ⟨p, 0, none⟩), .pointer (some ⟨c, 0, none⟩), .pointer (some ⟨d, 0, none⟩), .pointer (some ⟨f, 0, none⟩)] w fun e w' => (∃ v, e = .returned v) ∧ (∃ vg' vm', Bd N w' p (mdF x priv n on) vg' vt vm' vl) ∧ Below N w w' := by
 have c0 : w.cell? ⟨c, 0, none⟩ = some (.bool priv) := hr.cell 0
 have c1 : w.cell? ⟨d, 0, none⟩ = some (.int .i64 n) := hc.cell 0
 have c2 : w.cell? ⟨f, 0, none⟩ = some (.bool on) := hf.cell 0
 have P1 := Box'.mk (bPm_any N w p x vg vt vm vl h (may_Mm hN) (may_G hN) (may_S hN) n on)
 have P2 := Box'.mk (bMode_any N w p x vg vt vm vl h n on)
 clear h hr hc hf hN
 unfold mdF
 cases priv with
 | true =>
  go_enter Tryz.func90, Tryz.ntmps90
  go_wp2_with fail
  refine P1.out.mono ?_
  rintro e w2 ⟨⟨v, rfl⟩, h2, h3⟩
  have H2 := Box'.mk h2
  have H3 := Box'.mk h3
  clear h2 h3 c0 c1 c2
  go_wp2_with fail
  exact bodyPost_end (results_none rfl _ _) rfl ⟨⟨_, rfl⟩, H2.out, H3.out⟩
 | false =>
  go_enter Tryz.func90, Tryz.ntmps90
  go_wp2_with fail
  refine P2.out.mono ?_
  rintro e w2 ⟨⟨v, rfl⟩, h2, h3⟩
  have H2 := Box'.mk h2
  have H3 := Box'.mk h3
  clear h2 h3 c0 c1 c2
  go_wp2_with fail
  exact bodyPost_end (results_none rfl _ _) rfl ⟨⟨_, rfl⟩, ⟨_, _, H2.out⟩, H3.out⟩
theorem Mode_dr (x : Sn) (vg vt vm vl : Value) (priv : Bool) (n : Int) (on : Bool) (w : World) (hl : Li w.heap.size w x vg vt vm vl) (hb : Bo x) :
  Calls Tryz.prog 30 #[.agg (snA x vg vt vm vl), .bool priv, .int .i64 n, .bool on] w fun e w' => DR w.heap.size w' e (if mayN x then some (mdF x priv n on) else none) ∧ Below w.heap.size w w' := by
 have DO : Box' (∀ wx, Below w.heap.size w wx → w.heap.size + 5 ≤ wx.heap.size → Row wx (w.heap.size + 1) 4 #[.bool priv] → Row wx (w.heap.size + 2) 3 #[.int .i64 n] → Row wx (w.heap.size + 3) 4 #[.bool on] → Calls Tryz.prog 67 #[.agg (snA x vg vt vm vl), .func (.func 90) #[] #[.pointer (some ⟨w.heap.size + 1, 0, none⟩), .pointer (some ⟨w.heap.size + 2, 0, none⟩), .pointer (some ⟨w.heap.size + 3, 0, none⟩)]] wx fun e w' => DR wx.heap.size w' e (if mayN x then some (mdF x priv n on) else none) ∧ Below wx.heap.size wx w') := ⟨fun wx hbe hsz r0 r1 r2 => by
  cases hN : mayN x with
  | false => exact do3_no x vg vt vm vl 90 (.pointer (some ⟨w.heap.size + 1, 0, none⟩)) (.pointer (some ⟨w.heap.size + 2, 0, none⟩)) (.pointer (some ⟨w.heap.size + 3, 0, none⟩)) wx (hl.at hbe) hb hN
  | true =>
   exact do3_ok x (mdF x priv n on) vg vt vm vl 90 (.pointer (some ⟨w.heap.size + 1, 0, none⟩)) (.pointer (some ⟨w.heap.size + 2, 0, none⟩)) (.pointer (some ⟨w.heap.size + 3, 0, none⟩)) wx (hl.at hbe) hb hN (fun _ _ => rfl) (fun wy p vg vt vm vl hby bd hp => by
   have r0 := r0.below hby (by omega)
   have r1 := r1.below hby (by omega)
   have r2 := r2.below hby (by omega)
   refine (mode1_any (wx.heap.size + 2) wy p x vg vt vm vl bd hN (w.heap.size + 1) (w.heap.size + 2) (w.heap.size + 3) priv n on r0 r1 r2).mono ?_
   rintro e w' ⟨h1, ⟨vg', vm', h2⟩, h3⟩
   exact ⟨h1, ⟨vg', _, vm', _, h2⟩, h3⟩)⟩
 have F := Box'.mk (Wr3.begin w (snA x vg vt vm vl) 4 (.bool priv) 3 (.int .i64 n) 4 (.bool on))
 have U32 := Box'.mk Tryz.underlying32
 have S32 := Box'.mk s32
 clear hl hb
 generalize (if mayN x then some (mdF x priv n on) else none) = r at *
 go_enter Tryz.func30, Tryz.ntmps30
 go_upto_region 1 with (fail)
 generalize (((((w.alloc (.cells (snA x vg vt vm vl) 32)).alloc (.cells #[.bool priv] 4)).alloc (.cells #[.int .i64 n] 3)).alloc (.cells #[.bool on] 4)).alloc (.cells z32 32)) = w1 at *
 have hz := F.out.sz
 go_wp2_with (first
  | (refine wpList_load_row rfl 32 (.tmp 4) rfl w.heap.size rfl 32 (snA x vg vt vm vl) F.out.r _ U32.out rfl 44 S32.out rfl ?_))
 refine (DO.out _ F.out.be (by omega) F.out.c0 F.out.c1 F.out.c2).mono ?_
 rintro e w2 ⟨hd, hb⟩
 obtain ⟨y, yg, yt, ym, yl, er, rfl, ho, hs⟩ := (hd.dn (show w.heap.size ≤ w1.heap.size by omega)).out
 have RR := Box'.mk (F.out.rr.below hb (by omega))
 have BE : Box' (Below w.heap.size w w2) := ⟨F.out.be.trans (hb.mono F.out.be.size)⟩
 have OO := Box'.mk ho
 have HS := Box'.mk hs
 clear hd hb ho hs F DO
 go_wp2_with (first
  | (refine wpList_store_row rfl 32 (.tmp 8) (.tmp 13) rfl (w.heap.size + 4) rfl (snA y yg yt ym yl) rfl 32 44 RR.out S32.out rfl OO.out ?_))
 exact bodyPost_ret (results_sn rfl _ (w.heap.size + 4) rfl _ rfl _ _ (RR.out.setRow _) rfl) rfl ⟨HS.out _ _ RR.out, below_setRow BE.out (by omega) _⟩
theorem Mode_no (x : Sn) (vg vt vm vl : Value) (priv : Bool) (n : Int) (on : Bool) (w : World) (hl : Li w.heap.size w x vg vt vm vl) (hb : Bo x) (hN : mayN x = false) :
  Calls Tryz.prog 30 #[.agg (snA x vg vt vm vl), .bool priv, .int .i64 n, .bool on] w fun e w' => e = .returned sErr ∧ Below w.heap.size w w' := (Mode_dr x vg vt vm vl priv n on w hl hb).mono fun e w' q => by
 rw [hN] at q; exact q
theorem Mode_ok (x : Sn) (vg vt vm vl : Value) (priv : Bool) (n : Int) (on : Bool) (w : World) (hl : Li w.heap.size w x vg vt vm vl) (hb : Bo x) (hN : mayN x = true) :
  Calls Tryz.prog 30 #[.agg (snA x vg vt vm vl), .bool priv, .int .i64 n, .bool on] w fun e w' => ScR w.heap.size w' e (mdF x priv n on) ∧ Below w.heap.size w w' := (Mode_dr x vg vt vm vl priv n on w hl hb).mono fun e w' q => by
 rw [hN] at q; exact q
end Go.Proofs.YtlekleeckcdcgaaGreat
