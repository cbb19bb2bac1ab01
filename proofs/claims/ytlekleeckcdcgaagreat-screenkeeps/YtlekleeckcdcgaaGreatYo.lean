/- A character is put. A character is put: the ways ahead. Numbers are appended to a row of one's own; the tabulators of a new screen. What the reference's Write, Erase and Shift refuse; rows that are changed cell by cell. -/
import Derived.Test.YtlekleeckcdcgaaGreatYj
import Derived.Test.YtlekleeckcdcgaaGreatYc
import Derived.Test.YtlekleeckcdcgaaGreatXf
import Derived.Laws.AppendOwn
import Derived.Test.YtlekleeckcdcgaaGreatWa
import Derived.Test.YtlekleeckcdcgaaGreatEq
namespace Go.Proofs.YtlekleeckcdcgaaGreat
open Go.RowKit Go.BigFrame
set_option linter.unusedVariables false
set_option linter.unusedSimpArgs false
set_option maxRecDepth 100000
set_option maxHeartbeats 16000000
def shI (y : Sn) (w0 : Int) : Sn := if y.ins then sfF y w0 else y
/-- The cursor behind a character of the width w0. -/
def adF (y : Sn) (w0 : Int) : Sn := coS (pdF y (decide (y.g.co - 1 < y.cur.col + w0))) (miF (y.cur.col + w0) (y.g.co - 1))
def ptE (y : Sn) (c w0 : Int) : Sn := adF (wtF (shI y w0) y.cur.col (putF c y.cur.st)) w0
theorem put_t4 (N : Nat) (ws w : World) (p : Nat) (y : Sn) (vg vt vm vl : Value) (h : Bd N w p y vg vt vm vl) (hT : Below N ws w) (hN : mayN y = true) (c w0 : Int) (hw1 : 1 ≤ w0) (hw2 : w0 ≤ 2) (u3 u4 u5 u6 u7 u8 u9 u10 u11 u12 u13 u14 u15 u16 u17 u18 u19 u20 u21 u22 u23 u24 u25 u26 u27 u28 u29 u30 u31 u32 u33 u34 u35 u36 u37 u38 u39 u40 u41 u42 u43 u44 u45 u46 u47 u48 u49 u50 u51 u52 u53 u54 u55 u56 u57 u58 u59 u60 u61 u62 u63 u64 u65 u66 u67 u68 u69 u70 u71 u72 u73 u74 u75 u76 u77 u78 u79 u80 u81 u82 u83 u84 u85 u86 u87 u88 u89 : Value) :
  Code.wp Tryz.prog (seqR (seqR (seqR (Tryz.f128.body.getD .skip)))) (bodyPost Tryz.prog Tryz.f128 (fun e w' => (∃ v, e = .returned v) ∧ Bd N w' p (ptE y c w0) vg vt vm vl ∧ Below N ws w')) ⟨List.toArray ((.pointer (some ⟨p, 0, none⟩)) :: (.int .i32 c) :: (.int .i64 w0) :: u3 :: u4 :: u5 :: u6 :: u7 :: u8 :: u9 :: u10 :: u11 :: u12 :: u13 :: u14 :: u15 :: u16 :: u17 :: u18 :: u19 :: u20 :: u21 :: u22 :: u23 :: u24 :: u25 :: u26 :: u27 :: u28 :: u29 :: u30 :: u31 :: u32 :: u33 :: u34 :: u35 :: u36 :: u37 :: u38 :: u39 :: u40 :: u41 :: u42 :: u43 :: u44 :: u45 :: u46 :: u47 :: u48 :: u49 :: u50 :: u51 :: u52 :: u53 :: u54 :: u55 :: u56 :: u57 :: u58 :: u59 :: u60 :: u61 :: u62 :: u63 :: u64 :: u65 :: u66 :: u67 :: u68 :: u69 :: u70 :: u71 :: u72 :: u73 :: u74 :: u75 :: u76 :: u77 :: u78 :: u79 :: u80 :: u81 :: u82 :: u83 :: u84 :: u85 :: u86 :: u87 :: u88 :: u89 :: []), []⟩ w := by
 cases hi : y.ins with
 | false =>
  conv => arg 2; whnf
  have c21 : w.cell? ⟨p, 21, none⟩ = some (.bool false) := by rw [← hi]; exact h.box.cell 21
  have EP : Box' (ptE y c w0 = adF (wtF (y) y.cur.col (putF c y.cur.st)) w0) := ⟨by unfold ptE shI; rw [hi]; rfl⟩
  rw [EP.out]
  have B0 := Box'.mk h
  have T0 := Box'.mk hT
  have M1 : Box' (Mm y) := ⟨may_Mm hN⟩
  have G1 : Box' (mayG y.g.co y.g.ro y.g.c = true) := ⟨may_G hN⟩
  have S1 : Box' (mayS y.cur.st = true) := ⟨may_S hN⟩
  clear h hT hN EP hi
  go_wp2_with fail
  refine put_r8 N w p (y) vg vt vm vl B0.out M1.out G1.out S1.out c w0 _ _ _ _ _ _ _ _ _ _ _ _ _ _ _ _ _ _ _ _ _ _ _ _ _ _ _ _ _ _ _ _ _ _ _ _ _ _ _ _ _ _ _ _ _ _ _ _ _ _ _ _ _ _ _ _ _ _ _ _ _ _ _ _ _ _ _ _ _ _ _ _ _ _ _ _ _ _ _ _ _ _ _ _ _ _ _ [] _ ?_
  rintro z10 z11 w8 ⟨b8, t8⟩
  have B8 := Box'.mk b8
  have T8 : Box' (Below N ws w8) := ⟨T0.out.trans t8⟩
  have M8 : Box' (Mm (wtF (y) y.cur.col (putF c y.cur.st))) := ⟨⟨M1.out.c1, M1.out.c2, M1.out.r1, M1.out.r2, M1.out.t1, M1.out.t2, M1.out.b2, M1.out.w1, M1.out.w2, M1.out.l1, M1.out.l2⟩⟩
  clear b8 t8 B0 T0 M1 G1 S1
  go_wp2_with fail
  refine put_r9 N w8 p (wtF (y) y.cur.col (putF c y.cur.st)) vg vt vm vl B8.out M8.out c w0 hw1 hw2 _ _ _ _ _ _ _ _ _ _ _ _ _ _ _ _ _ _ _ _ _ _ _ _ _ _ _ _ _ _ _ _ _ _ _ _ _ _ _ _ _ _ _ _ _ _ _ _ _ _ _ _ _ _ _ _ _ _ _ _ _ _ _ _ _ _ _ _ _ _ _ _ _ _ _ _ _ _ _ _ _ _ _ _ _ _ _ [] _ ?_
  rintro w9 ⟨b9, t9⟩
  have B9 := Box'.mk b9
  have T9 : Box' (Below N ws w9) := ⟨T8.out.trans (t9.below B8.out.hp (Nat.le_trans B8.out.hp (Nat.le_of_lt B8.out.lt)))⟩
  have M9 : Box' (Mm (pdF (wtF (y) y.cur.col (putF c y.cur.st)) (decide (y.g.co - 1 < y.cur.col + w0)))) := ⟨⟨M8.out.c1, M8.out.c2, M8.out.r1, M8.out.r2, M8.out.t1, M8.out.t2, M8.out.b2, M8.out.w1, M8.out.w2, M8.out.l1, M8.out.l2⟩⟩
  clear b9 t9 B8 T8 M8
  go_wp2_with fail
  refine put_r10 N w9 p (pdF (wtF (y) y.cur.col (putF c y.cur.st)) (decide (y.g.co - 1 < y.cur.col + w0))) vg vt vm vl B9.out M9.out c w0 hw1 hw2 _ _ _ _ _ _ _ _ _ _ _ _ _ _ _ _ _ _ _ _ _ _ _ _ _ _ _ _ _ _ _ _ _ _ _ _ _ _ _ _ _ _ _ _ _ _ _ _ _ _ _ _ _ _ _ _ _ _ _ _ _ _ _ _ _ _ _ _ _ _ _ _ _ _ _ _ _ _ _ _ _ _ _ _ _ _ _ [] _ ?_
  rintro w10 ⟨b10, t10⟩
  have B10 := Box'.mk b10
  have T10 : Box' (Below N ws w10) := ⟨T9.out.trans (t10.below B9.out.hp (Nat.le_trans B9.out.hp (Nat.le_of_lt B9.out.lt)))⟩
  clear b10 t10 B9 T9 M9
  go_wp2_with fail
  exact bodyPost_end (results_none rfl _ _) rfl ⟨⟨_, rfl⟩, B10.out, T10.out⟩
 | true =>
  conv => arg 2; whnf
  have c21 : w.cell? ⟨p, 21, none⟩ = some (.bool true) := by rw [← hi]; exact h.box.cell 21
  have EP : Box' (ptE y c w0 = adF (wtF (sfF y w0) y.cur.col (putF c y.cur.st)) w0) := ⟨by unfold ptE shI; rw [hi]; rfl⟩
  rw [EP.out]
  have B0 := Box'.mk h
  have T0 := Box'.mk hT
  have SH := Box'.mk (bShift_any N w p y vg vt vm vl h (may_Mm hN) (may_G hN) (may_S hN) w0)
  have M1 : Box' (Mm (sfF y w0)) := ⟨may_Mm (may_sf hN w0)⟩
  have G1 : Box' (mayG (sfF y w0).g.co (sfF y w0).g.ro (sfF y w0).g.c = true) := ⟨may_G (may_sf hN w0)⟩
  have S1 : Box' (mayS (sfF y w0).cur.st = true) := ⟨may_S (may_sf hN w0)⟩
  clear h hT hN EP hi
  go_wp2_with fail
  refine SH.out.mono ?_
  rintro e w1 ⟨⟨v1, rfl⟩, b1, t1⟩
  have B1 := Box'.mk b1
  have T1 : Box' (Below N ws w1) := ⟨T0.out.trans t1⟩
  clear b1 t1 B0 T0 SH c21
  go_wp2_with fail
  refine put_r8 N w1 p (sfF y w0) vg vt vm vl B1.out M1.out G1.out S1.out c w0 _ _ _ _ _ _ _ _ _ _ _ _ _ _ _ _ _ _ _ _ _ _ _ _ _ _ _ _ _ _ _ _ _ _ _ _ _ _ _ _ _ _ _ _ _ _ _ _ _ _ _ _ _ _ _ _ _ _ _ _ _ _ _ _ _ _ _ _ _ _ _ _ _ _ _ _ _ _ _ _ _ _ _ _ _ _ _ [] _ ?_
  rintro z10 z11 w8 ⟨b8, t8⟩
  have B8 := Box'.mk b8
  have T8 : Box' (Below N ws w8) := ⟨T1.out.trans t8⟩
  have M8 : Box' (Mm (wtF (sfF y w0) y.cur.col (putF c y.cur.st))) := ⟨⟨M1.out.c1, M1.out.c2, M1.out.r1, M1.out.r2, M1.out.t1, M1.out.t2, M1.out.b2, M1.out.w1, M1.out.w2, M1.out.l1, M1.out.l2⟩⟩
  clear b8 t8 B1 T1 M1 G1 S1
  go_wp2_with fail
  refine put_r9 N w8 p (wtF (sfF y w0) y.cur.col (putF c y.cur.st)) vg vt vm vl B8.out M8.out c w0 hw1 hw2 _ _ _ _ _ _ _ _ _ _ _ _ _ _ _ _ _ _ _ _ _ _ _ _ _ _ _ _ _ _ _ _ _ _ _ _ _ _ _ _ _ _ _ _ _ _ _ _ _ _ _ _ _ _ _ _ _ _ _ _ _ _ _ _ _ _ _ _ _ _ _ _ _ _ _ _ _ _ _ _ _ _ _ _ _ _ _ [] _ ?_
  rintro w9 ⟨b9, t9⟩
  have B9 := Box'.mk b9
  have T9 : Box' (Below N ws w9) := ⟨T8.out.trans (t9.below B8.out.hp (Nat.le_trans B8.out.hp (Nat.le_of_lt B8.out.lt)))⟩
  have M9 : Box' (Mm (pdF (wtF (sfF y w0) y.cur.col (putF c y.cur.st)) (decide (y.g.co - 1 < y.cur.col + w0)))) := ⟨⟨M8.out.c1, M8.out.c2, M8.out.r1, M8.out.r2, M8.out.t1, M8.out.t2, M8.out.b2, M8.out.w1, M8.out.w2, M8.out.l1, M8.out.l2⟩⟩
  clear b9 t9 B8 T8 M8
  go_wp2_with fail
  refine put_r10 N w9 p (pdF (wtF (sfF y w0) y.cur.col (putF c y.cur.st)) (decide (y.g.co - 1 < y.cur.col + w0))) vg vt vm vl B9.out M9.out c w0 hw1 hw2 _ _ _ _ _ _ _ _ _ _ _ _ _ _ _ _ _ _ _ _ _ _ _ _ _ _ _ _ _ _ _ _ _ _ _ _ _ _ _ _ _ _ _ _ _ _ _ _ _ _ _ _ _ _ _ _ _ _ _ _ _ _ _ _ _ _ _ _ _ _ _ _ _ _ _ _ _ _ _ _ _ _ _ _ _ _ _ [] _ ?_
  rintro w10 ⟨b10, t10⟩
  have B10 := Box'.mk b10
  have T10 : Box' (Below N ws w10) := ⟨T9.out.trans (t10.below B9.out.hp (Nat.le_trans B9.out.hp (Nat.le_of_lt B9.out.lt)))⟩
  clear b10 t10 B9 T9 M9
  go_wp2_with fail
  exact bodyPost_end (results_none rfl _ _) rfl ⟨⟨_, rfl⟩, B10.out, T10.out⟩
theorem may_c0 {x : Sn} (h : mayN x = true) (hp : x.cur.pend = false) : mayN (c0F x) = true := by
 obtain ⟨a1, a2, a3, a4, a5, a6⟩ := (curF_iff _ _ _).1 (Ma.of h).cur
 refine may_cur h _ ((curF_iff _ _ _).2 ⟨a1, a2, Int.le_refl _, (may_Mm h).c1, fun q => ?_, a6⟩)
 have q : x.cur.pend = true := q
 rw [hp] at q; cases q
def ptD (y : Sn) (c w0 : Int) : Sn := if w0 = 2 ∧ y.cur.col = y.g.co - 1 then (if y.wrap = false ∨ y.g.co < 2 then y else ptE (fdF (c0F y)) c w0) else ptE y c w0
theorem put_t3 (N : Nat) (ws w : World) (p : Nat) (y : Sn) (vg vt vm vl : Value) (h : Bd N w p y vg vt vm vl) (hT : Below N ws w) (hN : mayN y = true) (hpd : y.cur.pend = false) (c w0 : Int) (hw : w0 = 1 ∨ w0 = 2) (u3 u4 u5 u6 u7 u8 u9 u10 u11 u12 u13 u14 u15 u16 u17 u18 u19 u20 u21 u22 u23 u24 u25 u26 u27 u28 u29 u30 u31 u32 u33 u34 u35 u36 u37 u38 u39 u40 u41 u42 u43 u44 u45 u46 u47 u48 u49 u50 u51 u52 u53 u54 u55 u56 u57 u58 u59 u60 u61 u62 u63 u64 u65 u66 u67 u68 u69 u70 u71 u72 u73 u74 u75 u76 u77 u78 u79 u80 u81 u82 u83 u84 u85 u86 u87 u88 u89 : Value) :
  Code.wp Tryz.prog (seqR (seqR (Tryz.f128.body.getD .skip))) (bodyPost Tryz.prog Tryz.f128 (fun e w' => (∃ v, e = .returned v) ∧ Bd N w' p (ptD y c w0) vg vt vm vl ∧ Below N ws w')) ⟨List.toArray ((.pointer (some ⟨p, 0, none⟩)) :: (.int .i32 c) :: (.int .i64 w0) :: u3 :: u4 :: u5 :: u6 :: u7 :: u8 :: u9 :: u10 :: u11 :: u12 :: u13 :: u14 :: u15 :: u16 :: u17 :: u18 :: u19 :: u20 :: u21 :: u22 :: u23 :: u24 :: u25 :: u26 :: u27 :: u28 :: u29 :: u30 :: u31 :: u32 :: u33 :: u34 :: u35 :: u36 :: u37 :: u38 :: u39 :: u40 :: u41 :: u42 :: u43 :: u44 :: u45 :: u46 :: u47 :: u48 :: u49 :: u50 :: u51 :: u52 :: u53 :: u54 :: u55 :: u56 :: u57 :: u58 :: u59 :: u60 :: u61 :: u62 :: u63 :: u64 :: u65 :: u66 :: u67 :: u68 :: u69 :: u70 :: u71 :: u72 :: u73 :: u74 :: u75 :: u76 :: u77 :: u78 :: u79 :: u80 :: u81 :: u82 :: u83 :: u84 :: u85 :: u86 :: u87 :: u88 :: u89 :: []), []⟩ w := by
 unfold ptD
 rcases hw with rfl | rfl
 ·rw [if_neg (by omega)]
  conv => arg 2; whnf
  refine wp_seq_k fun K hK => ?_
  have B0 := Box'.mk h
  have T0 := Box'.mk hT
  have HN := Box'.mk hN
  have m := may_Mm hN
  have k1 := m.c1
  have k2 := m.c2
  have LC : Box' (∀ wx, Bd N wx p y vg vt vm vl → Calls Tryz.prog 134 #[.pointer (some ⟨p, 0, none⟩)] wx fun e w' => e = .returned (.int .i64 (y.g.co - 1)) ∧ w' = wx) := ⟨fun wx hb => lastCol_any N wx p y vg vt vm vl hb m.c1 m.c2⟩
  have WR : Box' (∀ wx, Bd N wx p y vg vt vm vl → Calls Tryz.prog 169 #[.pointer (some ⟨p, 0, none⟩)] wx fun e w' => (∃ v, e = .returned v) ∧ Bd N w' p (fdF (c0F y)) vg vt vm vl ∧ Below N wx w') := ⟨fun wx hb => bWrap_any N wx p y vg vt vm vl hb m (may_G hN) (may_S hN)⟩
  have MF : Box' (mayN (fdF (c0F y)) = true) := ⟨may_fd (may_c0 hN hpd)⟩
  have HK := Box'.mk hK
  have c4 : w.cell? ⟨p, 4, none⟩ = some (.int .i64 y.cur.col) := h.box.cell 4
  clear h hT hN m hpd hK
  go_wp2_with fail
  go_quiet (fail)
  clear c4 LC
  replace B0 := Box'.mk (B0.out.drewN nq)
  replace T0 : Box' (Below N ws (w.drewN nq)) := ⟨Below.drewN T0.out nq⟩
  generalize w.drewN nq = w1 at *
  go_wp2_with fail
  exact HK.out _ _ (put_t4 N ws w1 p y vg vt vm vl B0.out T0.out HN.out c 1 (by omega) (by omega) _ _ _ _ _ _ _ _ _ _ _ _ _ _ _ _ _ _ _ _ _ _ _ _ _ _ _ _ _ _ _ _ _ _ _ _ _ _ _ _ _ _ _ _ _ _ _ _ _ _ _ _ _ _ _ _ _ _ _ _ _ _ _ _ _ _ _ _ _ _ _ _ _ _ _ _ _ _ _ _ _ _ _ _ _ _ _ )
 ·by_cases hl : y.cur.col = y.g.co - 1
  ·rw [if_pos ⟨rfl, hl⟩]
   cases hwr : y.wrap with
   | false =>
    rw [if_pos (.inl rfl)]
    conv => arg 2; whnf
    refine wp_seq_k fun K hK => ?_
    have B0 := Box'.mk h
    have T0 := Box'.mk hT
    have HN := Box'.mk hN
    have m := may_Mm hN
    have k1 := m.c1
    have k2 := m.c2
    have LC : Box' (∀ wx, Bd N wx p y vg vt vm vl → Calls Tryz.prog 134 #[.pointer (some ⟨p, 0, none⟩)] wx fun e w' => e = .returned (.int .i64 (y.g.co - 1)) ∧ w' = wx) := ⟨fun wx hb => lastCol_any N wx p y vg vt vm vl hb m.c1 m.c2⟩
    have WR : Box' (∀ wx, Bd N wx p y vg vt vm vl → Calls Tryz.prog 169 #[.pointer (some ⟨p, 0, none⟩)] wx fun e w' => (∃ v, e = .returned v) ∧ Bd N w' p (fdF (c0F y)) vg vt vm vl ∧ Below N wx w') := ⟨fun wx hb => bWrap_any N wx p y vg vt vm vl hb m (may_G hN) (may_S hN)⟩
    have MF : Box' (mayN (fdF (c0F y)) = true) := ⟨may_fd (may_c0 hN hpd)⟩
    have HK := Box'.mk hK
    have c4 : w.cell? ⟨p, 4, none⟩ = some (.int .i64 y.cur.col) := h.box.cell 4
    rw [hl] at c4
    clear h hT hN m hpd hK
    go_wp2_with fail
    go_quiet ((go_at_call 134; exact Calls.quiet_of_same (LC.out _ (B0.out.drewN _))))
    clear c4 LC
    replace B0 := Box'.mk (B0.out.drewN nq)
    replace T0 : Box' (Below N ws (w.drewN nq)) := ⟨Below.drewN T0.out nq⟩
    generalize w.drewN nq = w1 at *
    have c19 : w1.cell? ⟨p, 19, none⟩ = some (.bool false) := by rw [← hwr]; exact B0.out.box.cell 19
    have c0 : w1.cell? ⟨p, 0, none⟩ = some (.int .i64 y.g.co) := B0.out.box.cell 0
    clear hwr hl
    go_wp2_with fail
    exact bodyPost_ret (results_none rfl _ _) rfl ⟨⟨_, rfl⟩, B0.out, T0.out⟩
   | true =>
    by_cases hf : y.g.co < 2
    ·rw [if_pos (.inr hf)]
     conv => arg 2; whnf
     refine wp_seq_k fun K hK => ?_
     have B0 := Box'.mk h
     have T0 := Box'.mk hT
     have HN := Box'.mk hN
     have m := may_Mm hN
     have k1 := m.c1
     have k2 := m.c2
     have LC : Box' (∀ wx, Bd N wx p y vg vt vm vl → Calls Tryz.prog 134 #[.pointer (some ⟨p, 0, none⟩)] wx fun e w' => e = .returned (.int .i64 (y.g.co - 1)) ∧ w' = wx) := ⟨fun wx hb => lastCol_any N wx p y vg vt vm vl hb m.c1 m.c2⟩
     have WR : Box' (∀ wx, Bd N wx p y vg vt vm vl → Calls Tryz.prog 169 #[.pointer (some ⟨p, 0, none⟩)] wx fun e w' => (∃ v, e = .returned v) ∧ Bd N w' p (fdF (c0F y)) vg vt vm vl ∧ Below N wx w') := ⟨fun wx hb => bWrap_any N wx p y vg vt vm vl hb m (may_G hN) (may_S hN)⟩
     have MF : Box' (mayN (fdF (c0F y)) = true) := ⟨may_fd (may_c0 hN hpd)⟩
     have HK := Box'.mk hK
     have c4 : w.cell? ⟨p, 4, none⟩ = some (.int .i64 y.cur.col) := h.box.cell 4
     rw [hl] at c4
     clear h hT hN m hpd hK
     go_wp2_with fail
     go_quiet ((go_at_call 134; exact Calls.quiet_of_same (LC.out _ (B0.out.drewN _))))
     clear c4 LC
     replace B0 := Box'.mk (B0.out.drewN nq)
     replace T0 : Box' (Below N ws (w.drewN nq)) := ⟨Below.drewN T0.out nq⟩
     generalize w.drewN nq = w1 at *
     have c19 : w1.cell? ⟨p, 19, none⟩ = some (.bool true) := by rw [← hwr]; exact B0.out.box.cell 19
     have c0 : w1.cell? ⟨p, 0, none⟩ = some (.int .i64 y.g.co) := B0.out.box.cell 0
     clear hwr hl
     go_wp2_with fail
     exact bodyPost_ret (results_none rfl _ _) rfl ⟨⟨_, rfl⟩, B0.out, T0.out⟩
    ·rw [if_neg (by rintro (q | q); cases q; exact hf q)]
     conv => arg 2; whnf
     refine wp_seq_k fun K hK => ?_
     have B0 := Box'.mk h
     have T0 := Box'.mk hT
     have HN := Box'.mk hN
     have m := may_Mm hN
     have k1 := m.c1
     have k2 := m.c2
     have LC : Box' (∀ wx, Bd N wx p y vg vt vm vl → Calls Tryz.prog 134 #[.pointer (some ⟨p, 0, none⟩)] wx fun e w' => e = .returned (.int .i64 (y.g.co - 1)) ∧ w' = wx) := ⟨fun wx hb => lastCol_any N wx p y vg vt vm vl hb m.c1 m.c2⟩
     have WR : Box' (∀ wx, Bd N wx p y vg vt vm vl → Calls Tryz.prog 169 #[.pointer (some ⟨p, 0, none⟩)] wx fun e w' => (∃ v, e = .returned v) ∧ Bd N w' p (fdF (c0F y)) vg vt vm vl ∧ Below N wx w') := ⟨fun wx hb => bWrap_any N wx p y vg vt vm vl hb m (may_G hN) (may_S hN)⟩
     have MF : Box' (mayN (fdF (c0F y)) = true) := ⟨may_fd (may_c0 hN hpd)⟩
     have HK := Box'.mk hK
     have c4 : w.cell? ⟨p, 4, none⟩ = some (.int .i64 y.cur.col) := h.box.cell 4
     rw [hl] at c4
     clear h hT hN m hpd hK
     go_wp2_with fail
     go_quiet ((go_at_call 134; exact Calls.quiet_of_same (LC.out _ (B0.out.drewN _))))
     clear c4 LC
     replace B0 := Box'.mk (B0.out.drewN nq)
     replace T0 : Box' (Below N ws (w.drewN nq)) := ⟨Below.drewN T0.out nq⟩
     generalize w.drewN nq = w1 at *
     have c19 : w1.cell? ⟨p, 19, none⟩ = some (.bool true) := by rw [← hwr]; exact B0.out.box.cell 19
     have c0 : w1.cell? ⟨p, 0, none⟩ = some (.int .i64 y.g.co) := B0.out.box.cell 0
     clear hwr hl
     have hge : 2 ≤ y.g.co := by omega
     go_wp2_with fail
     refine (WR.out _ B0.out).mono ?_
     rintro e w2 ⟨⟨v2, rfl⟩, b2, t2⟩
     have B2 := Box'.mk b2
     have T2 : Box' (Below N ws w2) := ⟨T0.out.trans t2⟩
     clear b2 t2 B0 T0 c19 c0
     go_wp2_with fail
     exact HK.out _ _ (put_t4 N ws w2 p (fdF (c0F y)) vg vt vm vl B2.out T2.out MF.out c 2 (by omega) (by omega) _ _ _ _ _ _ _ _ _ _ _ _ _ _ _ _ _ _ _ _ _ _ _ _ _ _ _ _ _ _ _ _ _ _ _ _ _ _ _ _ _ _ _ _ _ _ _ _ _ _ _ _ _ _ _ _ _ _ _ _ _ _ _ _ _ _ _ _ _ _ _ _ _ _ _ _ _ _ _ _ _ _ _ _ _ _ _ )
  ·rw [if_neg (fun q => hl q.2)]
   conv => arg 2; whnf
   refine wp_seq_k fun K hK => ?_
   have B0 := Box'.mk h
   have T0 := Box'.mk hT
   have HN := Box'.mk hN
   have m := may_Mm hN
   have k1 := m.c1
   have k2 := m.c2
   have LC : Box' (∀ wx, Bd N wx p y vg vt vm vl → Calls Tryz.prog 134 #[.pointer (some ⟨p, 0, none⟩)] wx fun e w' => e = .returned (.int .i64 (y.g.co - 1)) ∧ w' = wx) := ⟨fun wx hb => lastCol_any N wx p y vg vt vm vl hb m.c1 m.c2⟩
   have WR : Box' (∀ wx, Bd N wx p y vg vt vm vl → Calls Tryz.prog 169 #[.pointer (some ⟨p, 0, none⟩)] wx fun e w' => (∃ v, e = .returned v) ∧ Bd N w' p (fdF (c0F y)) vg vt vm vl ∧ Below N wx w') := ⟨fun wx hb => bWrap_any N wx p y vg vt vm vl hb m (may_G hN) (may_S hN)⟩
   have MF : Box' (mayN (fdF (c0F y)) = true) := ⟨may_fd (may_c0 hN hpd)⟩
   have HK := Box'.mk hK
   have c4 : w.cell? ⟨p, 4, none⟩ = some (.int .i64 y.cur.col) := h.box.cell 4
   have hq : decide (y.cur.col = y.g.co - 1) = false := decide_eq_false hl
   clear h hT hN m hpd hK
   go_wp2_with fail
   go_quiet ((go_at_call 134; exact Calls.quiet_of_same (LC.out _ (B0.out.drewN _))))
   clear c4 LC
   replace B0 := Box'.mk (B0.out.drewN nq)
   replace T0 : Box' (Below N ws (w.drewN nq)) := ⟨Below.drewN T0.out nq⟩
   generalize w.drewN nq = w1 at *
   go_wp2_with fail
   exact HK.out _ _ (put_t4 N ws w1 p y vg vt vm vl B0.out T0.out HN.out c 2 (by omega) (by omega) _ _ _ _ _ _ _ _ _ _ _ _ _ _ _ _ _ _ _ _ _ _ _ _ _ _ _ _ _ _ _ _ _ _ _ _ _ _ _ _ _ _ _ _ _ _ _ _ _ _ _ _ _ _ _ _ _ _ _ _ _ _ _ _ _ _ _ _ _ _ _ _ _ _ _ _ _ _ _ _ _ _ _ _ _ _ _ )
theorem info3N : ∃ i, Tryz.prog.info? 3 = some i ∧ i.zero = some (.int .i64 0) ∧ i.size = 1 ∧ i.bytes = 8 := ⟨_, rfl, rfl, rfl, rfl⟩
theorem OwnN.nil (N : Nat) (w : World) : OwnN N w (.slice none 0 0) [] := ⟨rfl, .inl ⟨rfl, rfl⟩⟩
theorem OwnN.below {N : Nat} {w w' : World} {v : Value} {d : List Int} (h : OwnN N w v d) (hb : Below w.heap.size w w') : OwnN N w' v d := by
 refine ⟨h.1, ?_⟩
 rcases h.2 with h2 | ⟨g, cap, cur, e1, e2, e3, e4⟩
 ·exact .inl h2
 ·exact .inr ⟨g, cap, cur, e1, e2, by rw [hb.block g (Array.getElem?_eq_some_iff.1 e3).1]; exact e3, e4⟩
theorem OwnN.lt {N : Nat} {w : World} {v : Value} {d : List Int} (h : OwnN N w v d) : ∀ g, v.ownBlock = some g → N ≤ g ∧ g < w.heap.size := by
 intro k hk
 rcases h.2 with ⟨e, _⟩ | ⟨g, cap, cur, e1, e2, e3, _⟩
 ·rw [e] at hk; simp [Value.ownBlock] at hk
 ·rw [e1] at hk; simp [Value.ownBlock] at hk; subst hk; exact ⟨e2, (Array.getElem?_eq_some_iff.1 e3).1⟩
theorem one_In (l : List Int) : ∀ u ∈ l.map (Value.int .i64), u.oneCell' = true := by
 intro u hu
 obtain ⟨x, _, rfl⟩ := List.mem_map.1 hu
 rfl
theorem wpList_appN {ops : Array Oper} {rest : List Oper} {o : Oper} {a : Act} {w : World} {Q : Exit → Act → World → Prop} (hgd : o.guard = none) (s x : Operand)
  (ho : o.op = .call { callee := .builtin .append, args := #[s, x], argTypes := #[27, 27] }) (N : Nat) (hN : N ≤ w.heap.size)
  (v : Value) (d : List Int) (hs : a.eval s = v) (hown : OwnN N w v d) (ad : Addr) (m c : Nat) (l : List Int) (hx : a.eval x = .slice (some ad) m c) (hm : l.length = m)
  (hc : ∀ j u, (l.map (Value.int .i64))[j]? = some u → w.cell? (ad.add j) = some u) (hmax : d.length + l.length ≤ 17592186044416)
  (h : ∀ v' w', OwnN N w' v' (d ++ l) → Below N w w' → wpList Tryz.prog ops Q rest (a.put o.dst v') w') : wpList Tryz.prog ops Q (o :: rest) a w := by
 obtain ⟨i, h1, h2, h3, h4⟩ := info3N
 obtain ⟨v', w', hr, g2, g3, _⟩ := run_append_own (P := Tryz.prog) w N 27 o.type 3 i _ 1 8 Tryz.underlying27 h1 h2 h3 h4 rfl (by decide) v d.length _ hown ad m c (l.map (Value.int .i64)) (by rw [List.length_map, hm, Nat.mul_one]) hc (one_In l) (by unfold maxLen; omega) (by omega) hN
 have g2' : OwnN N w' v' (d ++ l) := by unfold OwnN; rw [List.length_append, List.map_append, hm]; exact g2
 have hbl : Below N w w' := ⟨g3.os, g3.tape, g3.output, g3.size, fun k hk => g3.block k (by omega) (fun e => by have := (hown.lt k e.symm).1; omega)⟩
 refine wpList_plain hgd fun K hK => ?_
 unfold Oper.wp execOp
 simp only [ho, resolve, invoke, builtin, Sem.run_bind, Sem.run_pure, Result.andThen_ok, List.map_toArray, List.map_cons, List.map_nil, hs, hx, hr]
 exact hK _ _ (h v' w' g2' hbl)
theorem Row.ncells {w : World} {g : Nat} {t : TypeId} {l : List Int} (h : Row w g t (l.map (Value.int .i64)).toArray) : ∀ j u, (l.map (Value.int .i64))[j]? = some u → w.cell? ((⟨g, 0, none⟩ : Addr).add j) = some u := by
 intro j u hu
 rw [Addr.add_mid, Nat.zero_add, h.cell]
 simpa using hu
/-- The tabulators of a new screen. -/
def ntL (k : Nat) : List Int := (List.range k).map fun (i : Nat) => 8 * ((i : Int) + 1)
def tabsN (cols : Nat) : List Int := ntL ((cols - 1) / 8)
theorem ntL_len (k : Nat) : (ntL k).length = k := by simp [ntL]
theorem ntL_step (k : Nat) : ntL (k + 1) = ntL k ++ [8 * ((k : Int) + 1)] := by simp [ntL, List.range_succ]
theorem ntL_app (x : Int) : ∀ (l : List Int) (ah cols : Int), tabF ah cols l = true → (∀ c ∈ l, c < x) → ah < x → x < cols → tabF ah cols (l ++ [x]) = true
 | [], ah, cols, _, _, h1, h2 => by
  show tabF ah cols [x] = true
  unfold tabF
  rw [if_neg (by omega)]
  rfl
 | t :: r, ah, cols, h, h3, h1, h2 => by
  show tabF ah cols (t :: (r ++ [x])) = true
  unfold tabF at h ⊢
  split at h
  ·cases h
  ·rename_i q
   rw [if_neg q]
   exact ntL_app x r t cols h (fun c hc => h3 c (List.mem_cons_of_mem _ hc)) (h3 t (List.mem_cons_self)) h2
theorem ntL_tab (cols : Int) : ∀ k : Nat, 8 * (k : Int) < cols → tabF (-1) cols (ntL k) = true
 | 0, _ => rfl
 | k + 1, h => by
  rw [ntL_step]
  refine ntL_app _ _ _ _ (ntL_tab cols k (by omega)) (fun c hc => ?_) (by omega) (by omega)
  simp only [ntL, List.mem_map, List.mem_range] at hc
  obtain ⟨i, hi, rfl⟩ := hc
  omega
theorem tabsN_tab (cols : Nat) (h : 1 ≤ cols) : tabF (-1) (cols : Int) (tabsN cols) = true := ntL_tab _ _ (by omega)
theorem newTabs_any (cols : Nat) (h1 : 1 ≤ cols) (h2 : cols ≤ 512) (w : World) : Calls Tryz.prog 63 #[.int .i64 (cols : Int)] w fun e w' => ∃ v, e = .returned v ∧ OwnN w.heap.size w' v (tabsN cols) ∧ Below w.heap.size w w' := by
 have O0 := Box'.mk (OwnN.nil w.heap.size w)
 have B0 := Box'.mk (Below.refl w.heap.size w)
 obtain ⟨n, hn⟩ : ∃ n, n = (cols - 1) / 8 := ⟨_, rfl⟩
 have EN : Box' (tabsN cols = ntL n) := ⟨by unfold tabsN; rw [hn]⟩
 rw [EN.out]
 clear EN
 go_enter Tryz.func63, Tryz.ntmps63
 go_wp2_with fail
 go_loopw [3, 4] (fun s i wr => ∃ (k : Nat), k ≤ n ∧ i = .int .i64 (8 * ((k : Int) + 1)) ∧ Box' (OwnN w.heap.size wr s (ntL k)) ∧ Box' (Below w.heap.size w wr)) (fun s i _ => (600 - intOf i).toNat)
 case atStart => exact ⟨0, by omega, rfl, O0, B0⟩
 case round =>
  obtain ⟨k, hk, rfl, OO, BB⟩ := hrel
  clear O0 B0
  by_cases hlt : 8 * ((k : Int) + 1) < (cols : Int)
  case neg =>
   obtain rfl : k = n := by omega
   clear hn
   go_wp2_with fail
   go_ret
   exact ⟨_, rfl, OO.out, BB.out⟩
  case pos =>
   have hk2 : k + 1 ≤ n := by omega
   clear hn
   have R1 : Box' (Row (wr.alloc (.cells #[.int .i64 (8 * ((k : Int) + 1))] 3)) wr.heap.size 3 (([8 * ((k : Int) + 1)] : List Int).map (Value.int .i64)).toArray) := ⟨Row.new _ _ _⟩
   have O1 : Box' (OwnN w.heap.size (wr.alloc (.cells #[.int .i64 (8 * ((k : Int) + 1))] 3)) u3 (ntL k)) := ⟨OO.out.below (bR.alloc (Nat.le_refl _) _)⟩
   have B1 : Box' (Below w.heap.size w (wr.alloc (.cells #[.int .i64 (8 * ((k : Int) + 1))] 3))) := ⟨BB.out.alloc BB.out.size _⟩
   have HM : Box' ((ntL k).length + ([8 * ((k : Int) + 1)] : List Int).length ≤ 17592186044416) := ⟨by rw [ntL_len]; simp; omega⟩
   have ES := Box'.mk (ntL_step k)
   clear OO BB
   go_wp2_with ((refine wpList_appN rfl (.tmp 10) (.tmp 12) rfl w.heap.size B1.out.size u3 (ntL k) rfl O1.out ⟨wr.heap.size, 0, none⟩ 1 1 [8 * ((k : Int) + 1)] rfl rfl (Row.ncells R1.out) HM.out ?_; intro v' w2 o2 b2))
   have O2 : Box' (OwnN w.heap.size w2 v' (ntL (k + 1))) := ⟨by rw [ES.out]; exact o2⟩
   have B2 : Box' (Below w.heap.size w w2) := ⟨B1.out.trans b2⟩
   clear o2 b2 O1 B1 R1 HM ES
   go_wp2_with fail
   exact ⟨⟨k + 1, hk2, by go_num, O2, B2⟩, by simp [intOf]; omega⟩
end Go.Proofs.YtlekleeckcdcgaaGreat
