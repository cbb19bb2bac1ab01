/- A screen is resized. Resize. New. -/
import Derived.Test.YtlekleeckcdcgaaGreatYt
import Derived.Test.YtlekleeckcdcgaaGreatYi
import Derived.Test.YtlekleeckcdcgaaGreatNp
namespace Go.Proofs.YtlekleeckcdcgaaGreat
open Go.RowKit Go.BigFrame
set_option linter.unusedVariables false
set_option linter.unusedSimpArgs false
set_option maxRecDepth 100000
set_option maxHeartbeats 8000000
theorem bodyPost_mono {fn : Func} {R R' : Ending → World → Prop} {e : Exit} {a : Act} {w : World} (h : bodyPost Tryz.prog fn R e a w) (hR : ∀ e w, R e w → R' e w) : bodyPost Tryz.prog fn R' e a w := by
 cases e
 all_goals first
  | (obtain ⟨h1, v, h2, h3⟩ := h; exact ⟨h1, v, h2, hR _ _ h3⟩)
  | (obtain ⟨h1, h2⟩ := h; exact ⟨h1, hR _ _ h2⟩)
  | exact False.elim h
  | exact hR _ _ h
theorem Bd.setTabs {N : Nat} {w : World} {p : Nat} {x : Sn} {vg vt vm vl : Value} (h : Bd N w p x vg vt vm vl) (v : Value) (l : List Int) (hv : OwnN N w v l) : Bd N (w.setCell ⟨p, 18, none⟩ v) p { x with tabs := l } vg v vm vl :=
 ⟨h.box.setCell 18 v, h.hp, ownsRow_setCell h.own.g p 116 18 v _ h.box (by decide), ownsRow_setCell h.own.m p 116 18 v _ h.box (by decide), h.own.gm, ownsRow_setCell hv p 116 18 v _ h.box (by decide), ownsRow_setCell h.own.l p 116 18 v _ h.box (by decide)⟩
theorem Bd.down {N M : Nat} {w : World} {p : Nat} {x : Sn} {vg vt vm vl : Value} (h : Bd N w p x vg vt vm vl) (hM : M ≤ N) : Bd M w p x vg vt vm vl := ⟨h.box, Nat.le_trans hM h.hp, h.own.down hM⟩
/-- All but the grids in a new size. -/
def rzT (y : Sn) (cols : Nat) : Sn := { y with cur := { y.cur with row := (miF y.cur.row (y.g.ro - 1)), col := (miF y.cur.col (y.g.co - 1)), pend := false }, sv := { y.sv with row := (miF y.sv.row (y.g.ro - 1)), col := (miF y.sv.col (y.g.co - 1)), pend := false }, top := 0, bot := y.g.ro - 1, tabs := tabsN cols }
def rz6a (y : Sn) : Sn := { (r5S (r4S y (miF y.cur.row (y.g.ro - 1)) (miF y.cur.col (y.g.co - 1)) true true) (miF y.sv.row (y.g.ro - 1)) (miF y.sv.col (y.g.co - 1)) true true) with cur := { (r5S (r4S y (miF y.cur.row (y.g.ro - 1)) (miF y.cur.col (y.g.co - 1)) true true) (miF y.sv.row (y.g.ro - 1)) (miF y.sv.col (y.g.co - 1)) true true).cur with pend := false } }
def rz6 (y : Sn) : Sn := { (r5S (r4S y (miF y.cur.row (y.g.ro - 1)) (miF y.cur.col (y.g.co - 1)) true true) (miF y.sv.row (y.g.ro - 1)) (miF y.sv.col (y.g.co - 1)) true true) with cur := { (r5S (r4S y (miF y.cur.row (y.g.ro - 1)) (miF y.cur.col (y.g.co - 1)) true true) (miF y.sv.row (y.g.ro - 1)) (miF y.sv.col (y.g.co - 1)) true true).cur with pend := false }, sv := { (r5S (r4S y (miF y.cur.row (y.g.ro - 1)) (miF y.cur.col (y.g.co - 1)) true true) (miF y.sv.row (y.g.ro - 1)) (miF y.sv.col (y.g.co - 1)) true true).sv with pend := false } }
def rz7a (y : Sn) : Sn := { (r5S (r4S y (miF y.cur.row (y.g.ro - 1)) (miF y.cur.col (y.g.co - 1)) true true) (miF y.sv.row (y.g.ro - 1)) (miF y.sv.col (y.g.co - 1)) true true) with cur := { (r5S (r4S y (miF y.cur.row (y.g.ro - 1)) (miF y.cur.col (y.g.co - 1)) true true) (miF y.sv.row (y.g.ro - 1)) (miF y.sv.col (y.g.co - 1)) true true).cur with pend := false }, sv := { (r5S (r4S y (miF y.cur.row (y.g.ro - 1)) (miF y.cur.col (y.g.co - 1)) true true) (miF y.sv.row (y.g.ro - 1)) (miF y.sv.col (y.g.co - 1)) true true).sv with pend := false }, top := 0 }
def rz7 (y : Sn) : Sn := { (r5S (r4S y (miF y.cur.row (y.g.ro - 1)) (miF y.cur.col (y.g.co - 1)) true true) (miF y.sv.row (y.g.ro - 1)) (miF y.sv.col (y.g.co - 1)) true true) with cur := { (r5S (r4S y (miF y.cur.row (y.g.ro - 1)) (miF y.cur.col (y.g.co - 1)) true true) (miF y.sv.row (y.g.ro - 1)) (miF y.sv.col (y.g.co - 1)) true true).cur with pend := false }, sv := { (r5S (r4S y (miF y.cur.row (y.g.ro - 1)) (miF y.cur.col (y.g.co - 1)) true true) (miF y.sv.row (y.g.ro - 1)) (miF y.sv.col (y.g.co - 1)) true true).sv with pend := false }, top := 0, bot := y.g.ro - 1 }
theorem rz_t4 (N : Nat) (ws w : World) (p q3 : Nat) (y : Sn) (vg vt vm vl : Value) (h : Bd N w p y vg vt vm vl) (M : Nat) (hM : M ≤ p) (hT : Below M ws w) (m : Mz y) (cols rows : Nat) (hc1 : 1 ≤ cols) (hc2 : cols ≤ 512) (gv : Value) (h3 : Row w q3 24 (gA (cols : Int) (rows : Int) gv)) (u1 u2 u4 u5 u6 u7 u8 u9 u10 u11 u12 u13 u14 u15 u16 u17 u18 u19 u20 u21 u22 u23 u24 u25 u26 u27 u28 u29 u30 u31 u32 u33 u34 u35 u36 u37 u38 u39 u40 u41 u42 u43 u44 u45 u46 u47 u48 u49 u50 u51 u52 u53 u54 u55 u56 u57 u58 u59 u60 u61 u62 u63 u64 u65 u66 u67 u68 u69 u70 u71 u72 u73 u74 u75 u76 u77 u78 u79 u80 u81 u82 u83 u84 u85 u86 u87 u88 u89 u90 u91 u92 u93 u94 u95 : Value) :
  Code.wp Tryz.prog (seqR (seqR (seqR (Tryz.f99.body.getD .skip)))) (bodyPost Tryz.prog Tryz.f99 (fun e w' => (∃ v, e = .returned v) ∧ (∃ vt', Bd N w' p (rzT y cols) vg vt' vm vl) ∧ Below M ws w')) ⟨List.toArray ((.pointer (some ⟨p, 0, none⟩)) :: u1 :: u2 :: (.pointer (some ⟨q3, 0, none⟩)) :: u4 :: u5 :: u6 :: u7 :: u8 :: u9 :: u10 :: u11 :: u12 :: u13 :: u14 :: u15 :: u16 :: u17 :: u18 :: u19 :: u20 :: u21 :: u22 :: u23 :: u24 :: u25 :: u26 :: u27 :: u28 :: u29 :: u30 :: u31 :: u32 :: u33 :: u34 :: u35 :: u36 :: u37 :: u38 :: u39 :: u40 :: u41 :: u42 :: u43 :: u44 :: u45 :: u46 :: u47 :: u48 :: u49 :: u50 :: u51 :: u52 :: u53 :: u54 :: u55 :: u56 :: u57 :: u58 :: u59 :: u60 :: u61 :: u62 :: u63 :: u64 :: u65 :: u66 :: u67 :: u68 :: u69 :: u70 :: u71 :: u72 :: u73 :: u74 :: u75 :: u76 :: u77 :: u78 :: u79 :: u80 :: u81 :: u82 :: u83 :: u84 :: u85 :: u86 :: u87 :: u88 :: u89 :: u90 :: u91 :: u92 :: u93 :: u94 :: u95 :: []), []⟩ w := by
 conv => arg 2; whnf
 have B0 := Box'.mk h
 have T0 := Box'.mk hT
 have M0 := Box'.mk m
 have HM := Box'.mk hM
 have Q3 := Box'.mk h3
 have HPQ : Box' (q3 ≠ p) := ⟨row_neT h.box h3 (by decide)⟩
 have NT := Box'.mk (newTabs_any cols hc1 hc2)
 clear h hT m h3 hM
 go_wp2_with fail
 refine rz_r4 N w p y vg vt vm vl B0.out M0.out _ _ _ _ _ _ _ _ _ _ _ _ _ _ _ _ _ _ _ _ _ _ _ _ _ _ _ _ _ _ _ _ _ _ _ _ _ _ _ _ _ _ _ _ _ _ _ _ _ _ _ _ _ _ _ _ _ _ _ _ _ _ _ _ _ _ _ _ _ _ _ _ _ _ _ _ _ _ _ _ _ _ _ _ _ _ _ _ _ _ _ _ _ _ _ [] _ ?_
 rintro w4 ⟨b4, t4⟩
 have B4 := Box'.mk b4
 have T4 : Box' (Below M ws w4) := ⟨T0.out.trans (t4.below HM.out (Nat.le_trans HM.out (Nat.le_of_lt B0.out.lt)))⟩
 have Q4 : Box' (Row w4 q3 24 (gA (cols : Int) (rows : Int) gv)) := ⟨t4.row Q3.out HPQ.out⟩
 clear b4 t4 B0 T0 Q3
 go_wp2_with fail
 refine rz_r5 N w4 p (r4S y (miF y.cur.row (y.g.ro - 1)) (miF y.cur.col (y.g.co - 1)) true true) vg vt vm vl B4.out ⟨M0.out.c1, M0.out.c2, M0.out.r1, M0.out.r2⟩ _ _ _ _ _ _ _ _ _ _ _ _ _ _ _ _ _ _ _ _ _ _ _ _ _ _ _ _ _ _ _ _ _ _ _ _ _ _ _ _ _ _ _ _ _ _ _ _ _ _ _ _ _ _ _ _ _ _ _ _ _ _ _ _ _ _ _ _ _ _ _ _ _ _ _ _ _ _ _ _ _ _ _ _ _ _ _ _ _ _ _ _ _ _ _ [] _ ?_
 rintro w5 ⟨b5, t5⟩
 have B5 : Box' (Bd N w5 p (r5S (r4S y (miF y.cur.row (y.g.ro - 1)) (miF y.cur.col (y.g.co - 1)) true true) (miF y.sv.row (y.g.ro - 1)) (miF y.sv.col (y.g.co - 1)) true true) vg vt vm vl) := ⟨b5⟩
 have T5 : Box' (Below M ws w5) := ⟨T4.out.trans (t5.below HM.out (Nat.le_trans HM.out (Nat.le_of_lt B4.out.lt)))⟩
 have Q5 : Box' (Row w5 q3 24 (gA (cols : Int) (rows : Int) gv)) := ⟨t5.row Q4.out HPQ.out⟩
 clear b5 t5 B4 T4 Q4
 have c5 : w5.cell? ⟨p, 5, none⟩ = some (.bool y.cur.pend) := B5.out.box.cell 5
 have f5 := B5.out.box.frozen 5
 have c27 : w5.cell? ⟨p, 27, none⟩ = some (.bool y.sv.pend) := B5.out.box.cell 27
 have f27 := B5.out.box.frozen 27
 have B6 : Box' (Bd N ((w5.setCell ⟨p, 5, none⟩ (.bool false)).setCell ⟨p, 27, none⟩ (.bool false)) p (rz6 y) vg vt vm vl) := ⟨(B5.out.setCell (rz6a y) 5 _ rfl rfl rfl rfl rfl).setCell _ 27 _ rfl rfl rfl rfl rfl⟩
 have T6' : Box' (Tc p w5 ((w5.setCell ⟨p, 5, none⟩ (.bool false)).setCell ⟨p, 27, none⟩ (.bool false))) := ⟨((Tc.refl p w5).setCell 5 _).setCell 27 _⟩
 have T6 : Box' (Below M ws ((w5.setCell ⟨p, 5, none⟩ (.bool false)).setCell ⟨p, 27, none⟩ (.bool false))) := ⟨T5.out.trans (T6'.out.below HM.out (Nat.le_trans HM.out (Nat.le_of_lt B5.out.lt)))⟩
 have Q6 : Box' (Row ((w5.setCell ⟨p, 5, none⟩ (.bool false)).setCell ⟨p, 27, none⟩ (.bool false)) q3 24 (gA (cols : Int) (rows : Int) gv)) := ⟨T6'.out.row Q5.out HPQ.out⟩
 clear B5 T5 Q5 T6'
 go_upto_region 7 with (fail)
 clear c5 f5 c27 f27
 generalize ((w5.setCell ⟨p, 5, none⟩ (.bool false)).setCell ⟨p, 27, none⟩ (.bool false)) = w6 at *
 have LR : Box' (Calls Tryz.prog 132 #[.pointer (some ⟨p, 0, none⟩)] w6 fun e w' => e = .returned (.int .i64 (y.g.ro - 1)) ∧ w' = w6) := ⟨lastRow_any N w6 p (rz6 y) vg vt vm vl B6.out M0.out.r1 M0.out.r2⟩
 go_wp2_with fail
 refine LR.out.mono ?_
 rintro e w6' ⟨rfl, rfl⟩
 clear LR
 have c16 : w6'.cell? ⟨p, 16, none⟩ = some (.int .i64 y.top) := B6.out.box.cell 16
 have f16 := B6.out.box.frozen 16
 have c17 : w6'.cell? ⟨p, 17, none⟩ = some (.int .i64 y.bot) := B6.out.box.cell 17
 have f17 := B6.out.box.frozen 17
 have B7 : Box' (Bd N ((w6'.setCell ⟨p, 16, none⟩ (.int .i64 0)).setCell ⟨p, 17, none⟩ (.int .i64 (y.g.ro - 1))) p (rz7 y) vg vt vm vl) := ⟨(B6.out.setCell (rz7a y) 16 _ rfl rfl rfl rfl rfl).setCell _ 17 _ rfl rfl rfl rfl rfl⟩
 have T7' : Box' (Tc p w6' ((w6'.setCell ⟨p, 16, none⟩ (.int .i64 0)).setCell ⟨p, 17, none⟩ (.int .i64 (y.g.ro - 1)))) := ⟨((Tc.refl p w6').setCell 16 _).setCell 17 _⟩
 have T7 : Box' (Below M ws ((w6'.setCell ⟨p, 16, none⟩ (.int .i64 0)).setCell ⟨p, 17, none⟩ (.int .i64 (y.g.ro - 1)))) := ⟨T6.out.trans (T7'.out.below HM.out (Nat.le_trans HM.out (Nat.le_of_lt B6.out.lt)))⟩
 have Q7 : Box' (Row ((w6'.setCell ⟨p, 16, none⟩ (.int .i64 0)).setCell ⟨p, 17, none⟩ (.int .i64 (y.g.ro - 1))) q3 24 (gA (cols : Int) (rows : Int) gv)) := ⟨T7'.out.row Q6.out HPQ.out⟩
 clear B6 T6 Q6 T7'
 go_upto_region 8 with (fail)
 clear c16 f16 c17 f17
 generalize ((w6'.setCell ⟨p, 16, none⟩ (.int .i64 0)).setCell ⟨p, 17, none⟩ (.int .i64 (y.g.ro - 1))) = w7 at *
 have d0 : w7.cell? ⟨q3, 0, none⟩ = some (.int .i64 (cols : Int)) := Q7.out.cell 0
 go_wp2_with fail
 refine (NT.out _).mono ?_
 rintro e w8 ⟨v8, rfl, o8, b8⟩
 obtain ⟨va, vn, vc, rfl⟩ := own_sl o8
 have B8 := Box'.mk (B7.out.below b8)
 have B9 := Box'.mk (B8.out.setTabs _ _ (ownsRow_down o8 (Nat.le_trans B7.out.hp (Nat.le_of_lt B7.out.lt))))
 have T9 : Box' (Below M ws (w8.setCell ⟨p, 18, none⟩ (.slice va vn vc))) := ⟨(T7.out.trans (b8.mono (Nat.le_trans HM.out (Nat.le_of_lt B7.out.lt)))).setCell HM.out _⟩
 clear o8 b8 B7 T7 Q7 d0 NT
 have c18 : w8.cell? ⟨p, 18, none⟩ = some vt := B8.out.box.cell 18
 have f18 := B8.out.box.frozen 18
 clear B8
 go_wp2_with fail
 exact bodyPost_end (results_none rfl _ _) rfl ⟨⟨_, rfl⟩, ⟨_, B9.out⟩, T9.out⟩
/-- The main grid in a new size, if it is not shown. -/
def rzN (y : Sn) (cols rows : Nat) : Sn := if y.alt then { y with mn := ⟨(cols : Int), (rows : Int), rzF y.mn.c y.mn.co.toNat y.mn.ro.toNat cols rows y.cur.st⟩ } else y
def rzS (x : Sn) (cols rows : Nat) (c' : List Cl) : Sn := rzT (rzN { x with g := ⟨(cols : Int), (rows : Int), c' ⟩ } cols rows) cols
theorem bResize_f (N : Nat) (w : World) (p : Nat) (x : Sn) (vg vt vm vl : Value) (h : Bd N w p x vg vt vm vl) (M : Nat) (hM : M ≤ p) (hMw : M ≤ w.heap.size) (cols rows gb nn : Nat) (hc1 : 1 ≤ cols) (hc2 : cols ≤ 512) (hr1 : 1 ≤ rows) (hr2 : rows ≤ 512) (c' : List Cl) (hown : OwnC N w (.slice (some ⟨gb, 0, none⟩) nn nn) c') (hgm : ∀ b, Value.ownBlock (.slice (some ⟨gb, 0, none⟩) nn nn) = some b → ¬ vm.ownBlock = some b) (hA : x.alt = false) :
  Calls Tryz.prog 99 #[.pointer (some ⟨p, 0, none⟩), .agg (gA (cols : Int) (rows : Int) (.slice (some ⟨gb, 0, none⟩) nn nn))] w fun e w' => (∃ v, e = .returned v) ∧ (∃ vt' vm', Bd N w' p (rzT { x with g := ⟨(cols : Int), (rows : Int), c' ⟩ } cols) (.slice (some ⟨gb, 0, none⟩) nn nn) vt' vm' vl) ∧ Below M w w' := by
 have S24 := Box'.mk s24g
 have O : Box' ((#[.int .i64 (cols : Int), .int .i64 (rows : Int), (.slice (some ⟨gb, 0, none⟩) nn nn)] : Array Value).all (·.oneCell') = true) := ⟨gA_one (cols : Int) (rows : Int) (some ⟨gb, 0, none⟩) nn nn⟩
 have b1 : Below w.heap.size w (w.alloc (.cells #[.int .i64 (cols : Int), .int .i64 (rows : Int), (.slice (some ⟨gb, 0, none⟩) nn nn)] 24)) := bR.alloc (Nat.le_refl _) _
 have h1 := h.below b1
 have HB := Box'.mk h1
 have T1 : Box' (Below M w ((w.alloc (.cells #[.int .i64 (cols : Int), .int .i64 (rows : Int), (.slice (some ⟨gb, 0, none⟩) nn nn)] 24)).setRow p (snA { x with g := ⟨(cols : Int), (rows : Int), c' ⟩ } (.slice (some ⟨gb, 0, none⟩) nn nn) vt vm vl))) := ⟨below_setRow (b1.mono hMw) hM _⟩
 have Q1 : Box' (Row ((w.alloc (.cells #[.int .i64 (cols : Int), .int .i64 (rows : Int), (.slice (some ⟨gb, 0, none⟩) nn nn)] 24)).setRow p (snA { x with g := ⟨(cols : Int), (rows : Int), c' ⟩ } (.slice (some ⟨gb, 0, none⟩) nn nn) vt vm vl)) w.heap.size 24 (gA (cols : Int) (rows : Int) (.slice (some ⟨gb, 0, none⟩) nn nn))) := ⟨Row.setRowOther (Row.new w 24 #[.int .i64 (cols : Int), .int .i64 (rows : Int), (.slice (some ⟨gb, 0, none⟩) nn nn)]) _ _ (by have := h.lt; omega)⟩
 have B1 : Box' (Bd N ((w.alloc (.cells #[.int .i64 (cols : Int), .int .i64 (rows : Int), (.slice (some ⟨gb, 0, none⟩) nn nn)] 24)).setRow p (snA { x with g := ⟨(cols : Int), (rows : Int), c' ⟩ } (.slice (some ⟨gb, 0, none⟩) nn nn) vt vm vl)) p { x with g := ⟨(cols : Int), (rows : Int), c' ⟩ } (.slice (some ⟨gb, 0, none⟩) nn nn) vt vm vl) := ⟨by
  have o := h1.own.setRow p 116 (snA { x with g := ⟨(cols : Int), (rows : Int), c' ⟩ } (.slice (some ⟨gb, 0, none⟩) nn nn) vt vm vl) (h1.box.room (n := 44) rfl) (by decide) (by decide) (by decide)
  have o2 : OwnC N ((w.alloc (.cells #[.int .i64 (cols : Int), .int .i64 (rows : Int), (.slice (some ⟨gb, 0, none⟩) nn nn)] 24)).setRow p (snA { x with g := ⟨(cols : Int), (rows : Int), c' ⟩ } (.slice (some ⟨gb, 0, none⟩) nn nn) vt vm vl)) (.slice (some ⟨gb, 0, none⟩) nn nn) c' := ownsRow_setRow (ownsRow_below hown b1) p 116 _ (h1.box.room (n := 44) rfl) (by decide)
  exact ⟨h1.box.setRow _, h.hp, o2, o.m, hgm, o.t, o.l⟩⟩
 have MZ : Box' (Mz { x with g := ⟨(cols : Int), (rows : Int), c' ⟩ }) := ⟨⟨by show (0 : Int) < (cols : Int); omega, by show (cols : Int) ≤ 512; omega, by show (0 : Int) < (rows : Int); omega, by show (rows : Int) ≤ 512; omega⟩⟩
 have H1 := Box'.mk hc1
 have HM := Box'.mk hM
 have H2 := Box'.mk hc2
 have HA := Box'.mk hA
 clear h h1 b1 hown hgm hc1 hc2 hr1 hr2 hA hM hMw
 show Calls Tryz.prog 99 #[.pointer (some ⟨p, 0, none⟩), .agg #[.int .i64 (cols : Int), .int .i64 (rows : Int), (.slice (some ⟨gb, 0, none⟩) nn nn)]] w _
 go_enter Tryz.func99, Tryz.ntmps99
 refine wp_seq_k fun K0 hK0 => ?_
 have HK0 := Box'.mk hK0
 clear hK0
 go_wp2_with fail
 refine HK0.out _ _ ?_
 clear HK0
 refine wp_seq_k fun K1 hK1 => ?_
 have HK1 := Box'.mk hK1
 clear hK1
 go_wp2_with (first
  | (refine wpList_store_part rfl 24 (.tmp 7) (.tmp 5) rfl p 116 0 (snA x vg vt vm vl) #[.int .i64 (cols : Int), .int .i64 (rows : Int), (.slice (some ⟨gb, 0, none⟩) nn nn)] (snA { x with g := ⟨(cols : Int), (rows : Int), c' ⟩ } (.slice (some ⟨gb, 0, none⟩) nn nn) vt vm vl) rfl rfl HB.out.box S24.out (show 0 + 3 ≤ 44 by omega) O.out rfl ?_))
 refine HK1.out _ _ ?_
 clear HK1 HB
 generalize ((w.alloc (.cells #[.int .i64 (cols : Int), .int .i64 (rows : Int), (.slice (some ⟨gb, 0, none⟩) nn nn)] 24)).setRow p (snA { x with g := ⟨(cols : Int), (rows : Int), c' ⟩ } (.slice (some ⟨gb, 0, none⟩) nn nn) vt vm vl)) = w1 at *
 generalize w.heap.size = q3 at *
 refine wp_seq_k fun K2 hK2 => ?_
 have HK2 := Box'.mk hK2
 clear hK2
 have c39 : w1.cell? ⟨p, 39, none⟩ = some (.bool false) := by rw [← HA.out]; exact B1.out.box.cell 39
 clear HA
 go_wp2_with fail
 refine HK2.out _ _ (wp_mono (rz_t4 N w w1 p q3 { x with g := ⟨(cols : Int), (rows : Int), c' ⟩ } (.slice (some ⟨gb, 0, none⟩) nn nn) vt vm vl B1.out M HM.out T1.out MZ.out cols rows H1.out H2.out (.slice (some ⟨gb, 0, none⟩) nn nn) Q1.out _ _ _ _ _ _ _ _ _ _ _ _ _ _ _ _ _ _ _ _ _ _ _ _ _ _ _ _ _ _ _ _ _ _ _ _ _ _ _ _ _ _ _ _ _ _ _ _ _ _ _ _ _ _ _ _ _ _ _ _ _ _ _ _ _ _ _ _ _ _ _ _ _ _ _ _ _ _ _ _ _ _ _ _ _ _ _ _ _ _ _ _ _ _ ) ?_)
 intro e a' w' hp'
 exact bodyPost_mono hp' (fun e w' h => ⟨h.1, (by obtain ⟨vt', hb⟩ := h.2.1; exact ⟨vt', _, hb⟩), h.2.2⟩)
theorem bResize_t (N : Nat) (w : World) (p : Nat) (x : Sn) (vg vt vm vl : Value) (h : Bd N w p x vg vt vm vl) (M : Nat) (hM : M ≤ p) (hMw : M ≤ w.heap.size) (cols rows gb nn : Nat) (hc1 : 1 ≤ cols) (hc2 : cols ≤ 512) (hr1 : 1 ≤ rows) (hr2 : rows ≤ 512) (c' : List Cl) (hown : OwnC N w (.slice (some ⟨gb, 0, none⟩) nn nn) c') (hgm : ∀ b, Value.ownBlock (.slice (some ⟨gb, 0, none⟩) nn nn) = some b → ¬ vm.ownBlock = some b) (hA : x.alt = true) (l : List Cl) (n : Nat) (hl : l.length = n) (hln : n ≤ 1000000) (HC0 : ∀ wa, Cls wa.heap.size wa vm x.mn.c → Calls Tryz.prog 97 #[.agg (gA x.mn.co x.mn.ro vm), .int .i64 (cols : Int), .int .i64 (rows : Int), .agg (sA x.cur.st)] wa fun e w' => ∃ v, e = .returned v ∧ ∃ g, v = gOk (cols : Int) (rows : Int) (.slice (some ⟨g, 0, none⟩) n n) ∧ wa.heap.size ≤ g ∧ RC w' g l [] ∧ Below wa.heap.size wa w') :
  Calls Tryz.prog 99 #[.pointer (some ⟨p, 0, none⟩), .agg (gA (cols : Int) (rows : Int) (.slice (some ⟨gb, 0, none⟩) nn nn))] w fun e w' => (∃ v, e = .returned v) ∧ (∃ vt' vm', Bd N w' p (rzT { { x with g := ⟨(cols : Int), (rows : Int), c' ⟩ } with mn := ⟨(cols : Int), (rows : Int), l⟩ } cols) (.slice (some ⟨gb, 0, none⟩) nn nn) vt' vm' vl) ∧ Below M w w' := by
 have S24 := Box'.mk s24g
 have O : Box' ((#[.int .i64 (cols : Int), .int .i64 (rows : Int), (.slice (some ⟨gb, 0, none⟩) nn nn)] : Array Value).all (·.oneCell') = true) := ⟨gA_one (cols : Int) (rows : Int) (some ⟨gb, 0, none⟩) nn nn⟩
 have b1 : Below w.heap.size w (w.alloc (.cells #[.int .i64 (cols : Int), .int .i64 (rows : Int), (.slice (some ⟨gb, 0, none⟩) nn nn)] 24)) := bR.alloc (Nat.le_refl _) _
 have h1 := h.below b1
 have HB := Box'.mk h1
 have T1 : Box' (Below M w ((w.alloc (.cells #[.int .i64 (cols : Int), .int .i64 (rows : Int), (.slice (some ⟨gb, 0, none⟩) nn nn)] 24)).setRow p (snA { x with g := ⟨(cols : Int), (rows : Int), c' ⟩ } (.slice (some ⟨gb, 0, none⟩) nn nn) vt vm vl))) := ⟨below_setRow (b1.mono hMw) hM _⟩
 have Q1 : Box' (Row ((w.alloc (.cells #[.int .i64 (cols : Int), .int .i64 (rows : Int), (.slice (some ⟨gb, 0, none⟩) nn nn)] 24)).setRow p (snA { x with g := ⟨(cols : Int), (rows : Int), c' ⟩ } (.slice (some ⟨gb, 0, none⟩) nn nn) vt vm vl)) w.heap.size 24 (gA (cols : Int) (rows : Int) (.slice (some ⟨gb, 0, none⟩) nn nn))) := ⟨Row.setRowOther (Row.new w 24 #[.int .i64 (cols : Int), .int .i64 (rows : Int), (.slice (some ⟨gb, 0, none⟩) nn nn)]) _ _ (by have := h.lt; omega)⟩
 have B1 : Box' (Bd N ((w.alloc (.cells #[.int .i64 (cols : Int), .int .i64 (rows : Int), (.slice (some ⟨gb, 0, none⟩) nn nn)] 24)).setRow p (snA { x with g := ⟨(cols : Int), (rows : Int), c' ⟩ } (.slice (some ⟨gb, 0, none⟩) nn nn) vt vm vl)) p { x with g := ⟨(cols : Int), (rows : Int), c' ⟩ } (.slice (some ⟨gb, 0, none⟩) nn nn) vt vm vl) := ⟨by
  have o := h1.own.setRow p 116 (snA { x with g := ⟨(cols : Int), (rows : Int), c' ⟩ } (.slice (some ⟨gb, 0, none⟩) nn nn) vt vm vl) (h1.box.room (n := 44) rfl) (by decide) (by decide) (by decide)
  have o2 : OwnC N ((w.alloc (.cells #[.int .i64 (cols : Int), .int .i64 (rows : Int), (.slice (some ⟨gb, 0, none⟩) nn nn)] 24)).setRow p (snA { x with g := ⟨(cols : Int), (rows : Int), c' ⟩ } (.slice (some ⟨gb, 0, none⟩) nn nn) vt vm vl)) (.slice (some ⟨gb, 0, none⟩) nn nn) c' := ownsRow_setRow (ownsRow_below hown b1) p 116 _ (h1.box.room (n := 44) rfl) (by decide)
  exact ⟨h1.box.setRow _, h.hp, o2, o.m, hgm, o.t, o.l⟩⟩
 have MZ : Box' (Mz { x with g := ⟨(cols : Int), (rows : Int), c' ⟩ }) := ⟨⟨by show (0 : Int) < (cols : Int); omega, by show (cols : Int) ≤ 512; omega, by show (0 : Int) < (rows : Int); omega, by show (rows : Int) ≤ 512; omega⟩⟩
 have H1 := Box'.mk hc1
 have HM := Box'.mk hM
 have H2 := Box'.mk hc2
 have HC := Box'.mk HC0
 have HL := Box'.mk hl
 have HLN := Box'.mk hln
 have HA := Box'.mk hA
 clear h h1 b1 hown hgm hc1 hc2 hr1 hr2 hA hM hMw HC0 hl hln
 show Calls Tryz.prog 99 #[.pointer (some ⟨p, 0, none⟩), .agg #[.int .i64 (cols : Int), .int .i64 (rows : Int), (.slice (some ⟨gb, 0, none⟩) nn nn)]] w _
 go_enter Tryz.func99, Tryz.ntmps99
 refine wp_seq_k fun K0 hK0 => ?_
 have HK0 := Box'.mk hK0
 clear hK0
 go_wp2_with fail
 refine HK0.out _ _ ?_
 clear HK0
 refine wp_seq_k fun K1 hK1 => ?_
 have HK1 := Box'.mk hK1
 clear hK1
 go_wp2_with (first
  | (refine wpList_store_part rfl 24 (.tmp 7) (.tmp 5) rfl p 116 0 (snA x vg vt vm vl) #[.int .i64 (cols : Int), .int .i64 (rows : Int), (.slice (some ⟨gb, 0, none⟩) nn nn)] (snA { x with g := ⟨(cols : Int), (rows : Int), c' ⟩ } (.slice (some ⟨gb, 0, none⟩) nn nn) vt vm vl) rfl rfl HB.out.box S24.out (show 0 + 3 ≤ 44 by omega) O.out rfl ?_))
 refine HK1.out _ _ ?_
 clear HK1 HB
 generalize ((w.alloc (.cells #[.int .i64 (cols : Int), .int .i64 (rows : Int), (.slice (some ⟨gb, 0, none⟩) nn nn)] 24)).setRow p (snA { x with g := ⟨(cols : Int), (rows : Int), c' ⟩ } (.slice (some ⟨gb, 0, none⟩) nn nn) vt vm vl)) = w1 at *
 generalize w.heap.size = q3 at *
 refine wp_seq_k fun K2 hK2 => ?_
 have HK2 := Box'.mk hK2
 clear hK2
 have c39 : w1.cell? ⟨p, 39, none⟩ = some (.bool true) := by rw [← HA.out]; exact B1.out.box.cell 39
 clear HA
 go_wp2_with fail
 refine rz_r3 N w1 p q3 { x with g := ⟨(cols : Int), (rows : Int), c' ⟩ } (.slice (some ⟨gb, 0, none⟩) nn nn) vt vm vl B1.out cols rows n (.slice (some ⟨gb, 0, none⟩) nn nn) Q1.out l HL.out HLN.out (fun wa hw => HC.out wa (OwnC.cls (B1.out.below hw).own.m)) _ _ _ _ _ _ _ _ _ _ _ _ _ _ _ _ _ _ _ _ _ _ _ _ _ _ _ _ _ _ _ _ _ _ _ _ _ _ _ _ _ _ _ _ _ _ _ _ _ _ _ _ _ _ _ _ _ _ _ _ _ _ _ _ _ _ _ _ _ _ _ _ _ _ _ _ _ _ _ _ _ _ _ _ _ _ _ _ _ _ _ _ _ _ [] _ ?_
 rintro z0 z1 z2 w2 ⟨vm', b2, t2⟩
 have B2 := Box'.mk b2
 have T2 : Box' (Below M w w2) := ⟨T1.out.trans (t2.below HM.out (Nat.le_trans HM.out (Nat.le_of_lt B1.out.lt)))⟩
 have Q2 : Box' (Row w2 q3 24 (gA (cols : Int) (rows : Int) (.slice (some ⟨gb, 0, none⟩) nn nn))) := ⟨t2.row Q1.out (row_neT B1.out.box Q1.out (by decide))⟩
 clear b2 t2 B1 T1 Q1 c39 HC HL HLN
 go_wp2_with fail
 refine HK2.out _ _ (wp_mono (rz_t4 N w w2 p q3 { { x with g := ⟨(cols : Int), (rows : Int), c' ⟩ } with mn := ⟨(cols : Int), (rows : Int), l⟩ } (.slice (some ⟨gb, 0, none⟩) nn nn) vt vm' vl B2.out M HM.out T2.out ⟨MZ.out.c1, MZ.out.c2, MZ.out.r1, MZ.out.r2⟩ cols rows H1.out H2.out (.slice (some ⟨gb, 0, none⟩) nn nn) Q2.out _ _ _ _ _ _ _ _ _ _ _ _ _ _ _ _ _ _ _ _ _ _ _ _ _ _ _ _ _ _ _ _ _ _ _ _ _ _ _ _ _ _ _ _ _ _ _ _ _ _ _ _ _ _ _ _ _ _ _ _ _ _ _ _ _ _ _ _ _ _ _ _ _ _ _ _ _ _ _ _ _ _ _ _ _ _ _ _ _ _ _ _ _ _ ) ?_)
 intro e a' w' hp'
 exact bodyPost_mono hp' (fun e w' h => ⟨h.1, (by obtain ⟨vt', hb⟩ := h.2.1; exact ⟨vt', _, hb⟩), h.2.2⟩)
theorem bResize_any (N : Nat) (w : World) (p : Nat) (x : Sn) (vg vt vm vl : Value) (h : Bd N w p x vg vt vm vl) (hN : mayN x = true) (M : Nat) (hM : M ≤ p) (hMw : M ≤ w.heap.size) (cols rows gb nn : Nat) (hc1 : 1 ≤ cols) (hc2 : cols ≤ 512) (hr1 : 1 ≤ rows) (hr2 : rows ≤ 512) (c' : List Cl) (hown : OwnC N w (.slice (some ⟨gb, 0, none⟩) nn nn) c') (hgm : ∀ b, Value.ownBlock (.slice (some ⟨gb, 0, none⟩) nn nn) = some b → ¬ vm.ownBlock = some b) :
  Calls Tryz.prog 99 #[.pointer (some ⟨p, 0, none⟩), .agg (gA (cols : Int) (rows : Int) (.slice (some ⟨gb, 0, none⟩) nn nn))] w fun e w' => (∃ v, e = .returned v) ∧ (∃ vt' vm', Bd N w' p (rzS x cols rows c') (.slice (some ⟨gb, 0, none⟩) nn nn) vt' vm' vl) ∧ Below M w w' := by
 by_cases hA : x.alt = true
 case neg =>
  have hA' : x.alt = false := by cases h : x.alt with
   | false => rfl
   | true => exact absurd h hA
  have E : rzS x cols rows c' = rzT { x with g := ⟨(cols : Int), (rows : Int), c' ⟩ } cols := by
   unfold rzS rzN
   rw [if_neg (show ¬ (x.alt = true) from hA)]
  rw [E]
  exact bResize_f N w p x vg vt vm vl h M hM hMw cols rows gb nn hc1 hc2 hr1 hr2 c' hown hgm hA'
 case pos =>
  have q := (Ma.of hN).mn
  unfold mnF at q
  rw [hA, if_pos rfl] at q
  simp only [Bool.and_eq_true, decide_eq_true_eq] at q
  obtain ⟨q1, q2, q3⟩ := q
  obtain ⟨mc, mr, e1, e2, p1, p2, p3, p4, hl⟩ := mayG_dest q3
  have hle : cols * rows ≤ 512 * 512 := Nat.mul_le_mul hc2 hr2
  have hlen : (rzF x.mn.c mc mr cols rows x.cur.st).length = cols * rows := by rw [rzF, joinR_len _ cols rows (fun k _ => rzR_len x.mn.c mc mr cols x.cur.st k hl), Nat.mul_comm]
  have := bResize_t N w p x vg vt vm vl h M hM hMw cols rows gb nn hc1 hc2 hr1 hr2 c' hown hgm hA (rzF x.mn.c mc mr cols rows x.cur.st) (cols * rows) hlen (by omega) (fun wa hv => by
   rw [e1, e2]
   refine (resize_ok mc mr vm x.mn.c cols rows x.cur.st wa hv (by rw [← e1, ← e2]; exact q3) (may_S hN) hc1 hc2 hr1 hr2).mono ?_
   rintro e w' ⟨b, rfl, h1, h2, h3⟩
   exact ⟨_, rfl, b, rfl, h1, h2, h3⟩)
  refine this.mono ?_
  rintro e w' ⟨h1, h2, h3⟩
  refine ⟨h1, ?_, h3⟩
  have E : rzS x cols rows c' = rzT { { x with g := ⟨(cols : Int), (rows : Int), c' ⟩ } with mn := ⟨(cols : Int), (rows : Int), rzF x.mn.c mc mr cols rows x.cur.st⟩ } cols := by
   unfold rzS rzN
   rw [if_pos (show x.alt = true from hA)]
   show rzT { { x with g := ⟨(cols : Int), (rows : Int), c' ⟩ } with mn := ⟨(cols : Int), (rows : Int), rzF x.mn.c x.mn.co.toNat x.mn.ro.toNat cols rows x.cur.st⟩ } cols = _
   rw [e1, e2, Int.toNat_natCast, Int.toNat_natCast]
  rw [E]
  exact h2
theorem rz1_any (N : Nat) (w : World) (p : Nat) (x : Sn) (vg vt vm vl : Value) (h : Bd N w p x vg vt vm vl) (hN : mayN x = true) (M : Nat) (hM : M ≤ p) (hMw : M ≤ w.heap.size) (cols rows gb nn : Nat) (hc1 : 1 ≤ cols) (hc2 : cols ≤ 512) (hr1 : 1 ≤ rows) (hr2 : rows ≤ 512) (c' : List Cl) (hown : OwnC N w (.slice (some ⟨gb, 0, none⟩) nn nn) c') (hgm : ∀ b, Value.ownBlock (.slice (some ⟨gb, 0, none⟩) nn nn) = some b → ¬ vm.ownBlock = some b) (q8 : Nat) (h8 : Row w q8 24 (gA (cols : Int) (rows : Int) (.slice (some ⟨gb, 0, none⟩) nn nn))) :
  Calls Tryz.prog 98 #[.pointer (some ⟨p, 0, none⟩), .pointer (some ⟨q8, 0, none⟩)] w fun e w' => (∃ v, e = .returned v) ∧ (∃ vt' vm', Bd N w' p (rzS x cols rows c') (.slice (some ⟨gb, 0, none⟩) nn nn) vt' vm' vl) ∧ Below M w w' := by
 have CL := Box'.mk (bResize_any N w p x vg vt vm vl h hN M hM hMw cols rows gb nn hc1 hc2 hr1 hr2 c' hown hgm)
 have H8 := Box'.mk h8
 clear h hN hown hgm hM hMw hc1 hc2 hr1 hr2 h8
 go_enter Tryz.func98, Tryz.ntmps98
 go_wp2_with (first
  | (refine wpList_load_row rfl 24 (.tmp 1) rfl q8 rfl 24 _ H8.out _ Tryz.underlying24 rfl 3 s24g rfl ?_))
 refine CL.out.mono ?_
 rintro e w2 ⟨⟨v, rfl⟩, h2, h3⟩
 have H2 := Box'.mk h2
 have H3 := Box'.mk h3
 clear h2 h3 CL
 go_wp2_with fail
 exact bodyPost_end (results_none rfl _ _) rfl ⟨⟨_, rfl⟩, H2.out, H3.out⟩
theorem Resize_bad (x : Sn) (vg vt vm vl : Value) (w : World) (hl : Li w.heap.size w x vg vt vm vl) (hb : Bo x) (cols rows : Int) (RE : ∀ wx, Below w.heap.size w wx → Calls Tryz.prog 97 #[.agg (gA x.g.co x.g.ro vg), .int .i64 cols, .int .i64 rows, .agg (sA x.cur.st)] wx fun e w' => e = .returned gErr ∧ Below wx.heap.size wx w') :
  Calls Tryz.prog 33 #[.agg (snA x vg vt vm vl), .int .i64 cols, .int .i64 rows] w fun e w' => e = .returned sErr ∧ Below w.heap.size w w' := by
 have RZ := Box'.mk RE
 have F := Box'.mk (DoM.begin w (snA x vg vt vm vl))
 have U32 := Box'.mk Tryz.underlying32
 have S32 := Box'.mk s32
 have S24 := Box'.mk s24g
 have I26 : Box' ((Tryz.prog.info? 26).map (·.size) = some (sA x.cur.st).toList.length) := ⟨by kernel_rfl⟩
 have O := Box'.mk (snA_one zN none none none none 0 0 0 0 0 0 0 0)
 clear hl hb RE
 go_enter Tryz.func33, Tryz.ntmps33
 go_upto_region 1 with (fail)
 generalize ((w.alloc (.cells (snA x vg vt vm vl) 32)).alloc (.cells z32 32)) = w1 at *
 go_wp2_with (first
  | (refine wpList_load_gridM rfl (.tmp 11) rfl w.heap.size 0 x.g.co x.g.ro vg rfl (sn_grid F.out.r) ?_)
  | (refine wpList_plain rfl fun K hK => wp_mid 26 (.tmp 15) rfl w.heap.size 6 (sA x.cur.st) _ Tryz.underlying26 rfl I26.out rfl (sn_style F.out.r) (hK _ _ ?_)))
 refine (RZ.out _ F.out.be).mono ?_
 rintro e w2 ⟨rfl, hb2⟩
 have F2 := Box'.mk (F.out.below hb2)
 clear hb2 F RZ
 unfold gErr gA
 have RM := Box'.mk ((Row.new w2 24 #[.int .i64 0, .int .i64 0, .slice none 0 0]).room (n := 3) rfl)
 have b3 : Below w2.heap.size w2 ((w2.alloc (.cells #[.int .i64 0, .int .i64 0, .slice none 0 0] 24)).setRow w2.heap.size #[.int .i64 0, .int .i64 0, .slice none 0 0]) := below_setRow (bR.alloc (Nat.le_refl _) _) (Nat.le_refl _) _
 have F3 := Box'.mk (F2.out.below b3)
 have OZ : Box' ((#[.int .i64 0, .int .i64 0, .slice none 0 0] : Array Value).all (·.oneCell') = true) := ⟨gA_one 0 0 none 0 0⟩
 clear b3 F2
 go_upto_region 2 with (first
  | (refine wpList_store_row rfl 24 (.tmp 8) (.tmp 18) rfl w2.heap.size rfl #[.int .i64 0, .int .i64 0, .slice none 0 0] rfl 24 3 RM.out S24.out rfl OZ.out ?_))
 clear RM OZ
 generalize ((w2.alloc (.cells #[.int .i64 0, .int .i64 0, .slice none 0 0] 24)).setRow w2.heap.size #[.int .i64 0, .int .i64 0, .slice none 0 0]) = w3 at *
 go_wp2_with (first
  | (refine wpList_store_row rfl 32 (.tmp 6) (.tmp 22) rfl (w.heap.size + 1) rfl (snA zN (.slice none 0 0) (.slice none 0 0) (.slice none 0 0) (.slice none 0 0)) rfl 32 44 F3.out.rr S32.out rfl O.out ?_))
 exact bodyPost_ret (results_sn rfl _ (w.heap.size + 1) rfl _ rfl _ _ (F3.out.rr.setRow _) rfl) rfl ⟨rfl, below_setRow F3.out.be (by omega) _⟩
theorem Resize_no (x : Sn) (vg vt vm vl : Value) (w : World) (hl : Li w.heap.size w x vg vt vm vl) (hb : Bo x) (hN : mayN x = false) (cols rows gn : Nat) (c1 : List Cl) (hcl : c1.length ≤ 1000000) (hgn : c1.length = gn) (RE : ∀ wx, Below w.heap.size w wx → Calls Tryz.prog 97 #[.agg (gA x.g.co x.g.ro vg), .int .i64 (cols : Int), .int .i64 (rows : Int), .agg (sA x.cur.st)] wx fun e w' => ∃ b, e = .returned (gOk (cols : Int) (rows : Int) (.slice (some ⟨b, 0, none⟩) gn gn)) ∧ wx.heap.size ≤ b ∧ RC w' b c1 [] ∧ Below wx.heap.size wx w') :
  Calls Tryz.prog 33 #[.agg (snA x vg vt vm vl), .int .i64 (cols : Int), .int .i64 (rows : Int)] w fun e w' => e = .returned sErr ∧ Below w.heap.size w w' := by
 have RZ := Box'.mk RE
 have F := Box'.mk (DoM.begin w (snA x vg vt vm vl))
 have U32 := Box'.mk Tryz.underlying32
 have S32 := Box'.mk s32
 have S24 := Box'.mk s24g
 have I26 : Box' ((Tryz.prog.info? 26).map (·.size) = some (sA x.cur.st).toList.length) := ⟨by kernel_rfl⟩
 have O := Box'.mk (snA_one zN none none none none 0 0 0 0 0 0 0 0)
 have DO : Box' (∀ wx q8, Below w.heap.size w wx → Calls Tryz.prog 67 #[.agg (snA x vg vt vm vl), .func (.func 98) #[] #[.pointer (some ⟨q8, 0, none⟩)]] wx fun e w' => e = .returned sErr ∧ Below wx.heap.size wx w') := ⟨fun wx q8 hbe => do1_no x vg vt vm vl 98 (.pointer (some ⟨q8, 0, none⟩)) wx (hl.at hbe) hb hN⟩
 clear hl hb RE hN hcl hgn
 go_enter Tryz.func33, Tryz.ntmps33
 go_upto_region 1 with (fail)
 generalize ((w.alloc (.cells (snA x vg vt vm vl) 32)).alloc (.cells z32 32)) = w1 at *
 go_wp2_with (first
  | (refine wpList_load_gridM rfl (.tmp 11) rfl w.heap.size 0 x.g.co x.g.ro vg rfl (sn_grid F.out.r) ?_)
  | (refine wpList_plain rfl fun K hK => wp_mid 26 (.tmp 15) rfl w.heap.size 6 (sA x.cur.st) _ Tryz.underlying26 rfl I26.out rfl (sn_style F.out.r) (hK _ _ ?_)))
 refine (RZ.out _ F.out.be).mono ?_
 rintro e w2 ⟨gb, rfl, hg, hrc, hb2⟩
 have F2 := Box'.mk (F.out.below hb2)
 have hsz := F.out.be.size
 have HG : Box' (w.heap.size ≤ gb) := ⟨by omega⟩
 have HRC := Box'.mk hrc
 clear hb2 F RZ hg hrc hsz
 unfold gOk gA
 have RM := Box'.mk ((Row.new w2 24 #[.int .i64 0, .int .i64 0, .slice none 0 0]).room (n := 3) rfl)
 have b3 : Below w2.heap.size w2 ((w2.alloc (.cells #[.int .i64 0, .int .i64 0, .slice none 0 0] 24)).setRow w2.heap.size #[.int .i64 (cols : Int), .int .i64 (rows : Int), .slice (some ⟨gb, 0, none⟩) gn gn]) := below_setRow (bR.alloc (Nat.le_refl _) _) (Nat.le_refl _) _
 have F3 := Box'.mk (F2.out.below b3)
 have R8 : Box' (Row ((w2.alloc (.cells #[.int .i64 0, .int .i64 0, .slice none 0 0] 24)).setRow w2.heap.size #[.int .i64 (cols : Int), .int .i64 (rows : Int), .slice (some ⟨gb, 0, none⟩) gn gn]) w2.heap.size 24 (gA (cols : Int) (rows : Int) (.slice (some ⟨gb, 0, none⟩) gn gn))) := ⟨RM.out.setRow _⟩
 have RC3 := Box'.mk (RC.below HRC.out b3 HRC.out.lt)
 have O8 : Box' ((#[.int .i64 (cols : Int), .int .i64 (rows : Int), .slice (some ⟨gb, 0, none⟩) gn gn] : Array Value).all (·.oneCell') = true) := ⟨gA_one (cols : Int) (rows : Int) (some ⟨gb, 0, none⟩) gn gn⟩
 clear b3 F2 HRC
 go_upto_region 2 with (first
  | (refine wpList_store_row rfl 24 (.tmp 8) (.tmp 18) rfl w2.heap.size rfl #[.int .i64 (cols : Int), .int .i64 (rows : Int), .slice (some ⟨gb, 0, none⟩) gn gn] rfl 24 3 RM.out S24.out rfl O8.out ?_))
 clear RM O8
 generalize ((w2.alloc (.cells #[.int .i64 0, .int .i64 0, .slice none 0 0] 24)).setRow w2.heap.size #[.int .i64 (cols : Int), .int .i64 (rows : Int), .slice (some ⟨gb, 0, none⟩) gn gn]) = w3 at *
 generalize w2.heap.size = q8 at *
 go_wp2_with (first
  | (refine wpList_load_row rfl 32 (.tmp 3) rfl w.heap.size rfl 32 (snA x vg vt vm vl) F3.out.r _ U32.out rfl 44 S32.out rfl ?_))
 refine (DO.out _ q8 F3.out.be).mono ?_
 rintro e w4 ⟨rfl, hb⟩
 have RR := Box'.mk (F3.out.rr.below hb (by have := F3.out.sz; omega))
 have BE : Box' (Below w.heap.size w w4) := ⟨F3.out.be.trans (hb.mono F3.out.be.size)⟩
 clear hb F3 DO
 unfold sErr
 go_wp2_with (first
  | (refine wpList_store_row rfl 32 (.tmp 6) (.tmp 27) rfl (w.heap.size + 1) rfl (snA zN (.slice none 0 0) (.slice none 0 0) (.slice none 0 0) (.slice none 0 0)) rfl 32 44 RR.out S32.out rfl O.out ?_))
 exact bodyPost_ret (results_sn rfl _ (w.heap.size + 1) rfl _ rfl _ _ (RR.out.setRow _) rfl) rfl ⟨rfl, below_setRow BE.out (by omega) _⟩
theorem Resize_good (x : Sn) (vg vt vm vl : Value) (w : World) (hl : Li w.heap.size w x vg vt vm vl) (hb : Bo x) (hN : mayN x = true) (cols rows gn : Nat) (c1 : List Cl) (hcl : c1.length ≤ 1000000) (hgn : c1.length = gn) (RE : ∀ wx, Below w.heap.size w wx → Calls Tryz.prog 97 #[.agg (gA x.g.co x.g.ro vg), .int .i64 (cols : Int), .int .i64 (rows : Int), .agg (sA x.cur.st)] wx fun e w' => ∃ b, e = .returned (gOk (cols : Int) (rows : Int) (.slice (some ⟨b, 0, none⟩) gn gn)) ∧ wx.heap.size ≤ b ∧ RC w' b c1 [] ∧ Below wx.heap.size wx w') (hc1 : 1 ≤ cols) (hc2 : cols ≤ 512) (hr1 : 1 ≤ rows) (hr2 : rows ≤ 512) :
  Calls Tryz.prog 33 #[.agg (snA x vg vt vm vl), .int .i64 (cols : Int), .int .i64 (rows : Int)] w fun e w' => ScR w.heap.size w' e (rzS x cols rows c1) ∧ Below w.heap.size w w' := by
 have RZ := Box'.mk RE
 have F := Box'.mk (DoM.begin w (snA x vg vt vm vl))
 have U32 := Box'.mk Tryz.underlying32
 have S32 := Box'.mk s32
 have S24 := Box'.mk s24g
 have I26 : Box' ((Tryz.prog.info? 26).map (·.size) = some (sA x.cur.st).toList.length) := ⟨by kernel_rfl⟩
 have O := Box'.mk (snA_one zN none none none none 0 0 0 0 0 0 0 0)
 have DO : Box' (∀ wx gb q8, Below w.heap.size w wx → w.heap.size ≤ gb → gb < wx.heap.size → RC wx gb c1 [] → Row wx q8 24 (gA (cols : Int) (rows : Int) (.slice (some ⟨gb, 0, none⟩) gn gn)) → Calls Tryz.prog 67 #[.agg (snA x vg vt vm vl), .func (.func 98) #[] #[.pointer (some ⟨q8, 0, none⟩)]] wx fun e w' => (∃ vg' vt' vm' vl', e = .returned (.tuple #[.agg (snA (rzS x cols rows c1) vg' vt' vm' vl'), .int .i64 0]) ∧ OwnL w.heap.size w' (rzS x cols rows c1) vg' vt' vm' vl') ∧ Below wx.heap.size wx w') := ⟨fun wx gb q8 hbe hg1 hg2 hrc h8 => do1_okT w.heap.size x (rzS x cols rows c1) vg vt vm vl 98 (.pointer (some ⟨q8, 0, none⟩)) wx (hl.at hbe) hb hN (fun args w => by simp [go_sem]) (fun wy p vg vt vm vl hby bd hp ht => by
  have hsz := hbe.size
  have hown : OwnC w.heap.size wy (.slice (some ⟨gb, 0, none⟩) gn gn) c1 := by
   have := RC.own (RC.below hrc hby hg2) hg1 hcl
   rw [hgn] at this
   exact this
  refine (rz1_any w.heap.size wy p x vg vt vm vl (bd.down (by omega)) hN (wx.heap.size + 2) hp (Nat.le_trans hp (Nat.le_of_lt bd.lt)) cols rows gb gn hc1 hc2 hr1 hr2 c1 hown (fun b h1 h2 => by
   simp only [Value.ownBlock, Option.some.injEq] at h1
   have := (OwnC.lt bd.own.m b h2).1
   omega) q8 (h8.below hby h8.lt)).mono ?_
  rintro e w' ⟨h1, ⟨vt', vm', h2⟩, h3⟩
  exact ⟨h1, ⟨_, _, _, _, h2⟩, h3⟩)⟩
 clear hl hb RE hN hcl hgn hc1 hc2 hr1 hr2
 go_enter Tryz.func33, Tryz.ntmps33
 go_upto_region 1 with (fail)
 generalize ((w.alloc (.cells (snA x vg vt vm vl) 32)).alloc (.cells z32 32)) = w1 at *
 go_wp2_with (first
  | (refine wpList_load_gridM rfl (.tmp 11) rfl w.heap.size 0 x.g.co x.g.ro vg rfl (sn_grid F.out.r) ?_)
  | (refine wpList_plain rfl fun K hK => wp_mid 26 (.tmp 15) rfl w.heap.size 6 (sA x.cur.st) _ Tryz.underlying26 rfl I26.out rfl (sn_style F.out.r) (hK _ _ ?_)))
 refine (RZ.out _ F.out.be).mono ?_
 rintro e w2 ⟨gb, rfl, hg, hrc, hb2⟩
 have F2 := Box'.mk (F.out.below hb2)
 have hsz := F.out.be.size
 have HG : Box' (w.heap.size ≤ gb) := ⟨by omega⟩
 have HRC := Box'.mk hrc
 clear hb2 F RZ hg hrc hsz
 unfold gOk gA
 have RM := Box'.mk ((Row.new w2 24 #[.int .i64 0, .int .i64 0, .slice none 0 0]).room (n := 3) rfl)
 have b3 : Below w2.heap.size w2 ((w2.alloc (.cells #[.int .i64 0, .int .i64 0, .slice none 0 0] 24)).setRow w2.heap.size #[.int .i64 (cols : Int), .int .i64 (rows : Int), .slice (some ⟨gb, 0, none⟩) gn gn]) := below_setRow (bR.alloc (Nat.le_refl _) _) (Nat.le_refl _) _
 have F3 := Box'.mk (F2.out.below b3)
 have R8 : Box' (Row ((w2.alloc (.cells #[.int .i64 0, .int .i64 0, .slice none 0 0] 24)).setRow w2.heap.size #[.int .i64 (cols : Int), .int .i64 (rows : Int), .slice (some ⟨gb, 0, none⟩) gn gn]) w2.heap.size 24 (gA (cols : Int) (rows : Int) (.slice (some ⟨gb, 0, none⟩) gn gn))) := ⟨RM.out.setRow _⟩
 have RC3 := Box'.mk (RC.below HRC.out b3 HRC.out.lt)
 have O8 : Box' ((#[.int .i64 (cols : Int), .int .i64 (rows : Int), .slice (some ⟨gb, 0, none⟩) gn gn] : Array Value).all (·.oneCell') = true) := ⟨gA_one (cols : Int) (rows : Int) (some ⟨gb, 0, none⟩) gn gn⟩
 clear b3 F2 HRC
 go_upto_region 2 with (first
  | (refine wpList_store_row rfl 24 (.tmp 8) (.tmp 18) rfl w2.heap.size rfl #[.int .i64 (cols : Int), .int .i64 (rows : Int), .slice (some ⟨gb, 0, none⟩) gn gn] rfl 24 3 RM.out S24.out rfl O8.out ?_))
 clear RM O8
 generalize ((w2.alloc (.cells #[.int .i64 0, .int .i64 0, .slice none 0 0] 24)).setRow w2.heap.size #[.int .i64 (cols : Int), .int .i64 (rows : Int), .slice (some ⟨gb, 0, none⟩) gn gn]) = w3 at *
 generalize w2.heap.size = q8 at *
 go_wp2_with (first
  | (refine wpList_load_row rfl 32 (.tmp 3) rfl w.heap.size rfl 32 (snA x vg vt vm vl) F3.out.r _ U32.out rfl 44 S32.out rfl ?_))
 refine (DO.out _ gb q8 F3.out.be HG.out RC3.out.lt RC3.out R8.out).mono ?_
 rintro e w4 ⟨⟨vg', vt', vm', vl', rfl, ow⟩, hb⟩
 have OW := Box'.mk ow
 have RR := Box'.mk (F3.out.rr.below hb (by have := F3.out.sz; omega))
 have BE : Box' (Below w.heap.size w w4) := ⟨F3.out.be.trans (hb.mono F3.out.be.size)⟩
 have OO := Box'.mk (snA_oneV (rzS x cols rows c1) vg' vt' vm' vl' (own_sl ow.g) (own_sl ow.t) (own_sl ow.m) (own_sl ow.l))
 clear hb ow F3 DO R8 RC3
 generalize hY : (rzS x cols rows c1) = Y at *
 go_wp2_with (first
  | (refine wpList_store_row rfl 32 (.tmp 6) (.tmp 27) rfl (w.heap.size + 1) rfl (snA Y vg' vt' vm' vl') rfl 32 44 RR.out S32.out rfl OO.out ?_))
 exact bodyPost_ret (results_sn rfl _ (w.heap.size + 1) rfl _ rfl _ _ (RR.out.setRow _) rfl) rfl ⟨by rw [hY]; exact ⟨_, _, _, _, rfl, OW.out.setRow _ 32 _ RR.out (by decide) (by decide) (by decide)⟩, below_setRow BE.out (by omega) _⟩
/-- A new screen. -/
def nwS (cols rows : Nat) (l : List Cl) : Sn := ⟨⟨(cols : Int), (rows : Int), l⟩, ⟨0, 0, false, false, pl⟩, 0, (rows : Int) - 1, tabsN cols, true, false, false, false, true, ⟨0, 0, false, false, pl⟩, false, ⟨0, 0, []⟩, []⟩
/-- What stands while a new screen is made. -/
structure NwJ (w0 : World) (q4 : Nat) (C : Value → Array Value) (l : List Int) (D : Nat → Bool) (f : Nat → Value) (wa : World) : Prop where
 d8 : D 8 = true → D 0 = true ∧ D 5 = true ∧ f 8 = .agg (C (f 5))
 d9 : D 9 = true → D 8 = true
 a : D 9 = false → Below w0.heap.size w0 wa
 k : D 5 = true → OwnN w0.heap.size wa (f 5) l
 z : D 9 = true → ∃ wb, Below w0.heap.size w0 wb ∧ wa = wb.setRow q4 (C (f 5))
theorem NwJ.begin (w0 : World) (q4 : Nat) (C : Value → Array Value) (l : List Int) (f : Nat → Value) : NwJ w0 q4 C l (fun _ => false) f w0.drew :=
 ⟨nofun, nofun, fun _ => bR.drew, nofun, nofun⟩
theorem NwJ.idle {w0 : World} {q4 : Nat} {C : Value → Array Value} {l : List Int} {D : Nat → Bool} {f : Nat → Value} {wa : World} (j : NwJ w0 q4 C l D f wa) (i : Nat) (hi : i = 0 ∨ i = 5 ∨ i = 8) (hD : D i = false) : D 9 = false := by
 cases h : D 9 with
 | false => rfl
 | true =>
  have h8 := j.d9 h
  obtain ⟨a1, a2, _⟩ := j.d8 h8
  rcases hi with rfl | rfl | rfl
  ·rw [hD] at a1; cases a1
  ·rw [hD] at a2; cases a2
  ·rw [hD] at h8; cases h8
theorem NwJ.grow {w0 : World} {q4 : Nat} {C : Value → Array Value} {l : List Int} {D : Nat → Bool} {f : Nat → Value} {wa : World} (j : NwJ w0 q4 C l D f wa) (h9 : D 9 = false) (w2 : World) (hb : Below wa.heap.size wa w2) : NwJ w0 q4 C l D f w2 := by
 have b := j.a h9
 exact ⟨j.d8, j.d9, fun _ => b.trans (hb.mono b.size), fun h => (j.k h).below hb, fun h => by rw [h9] at h; cases h⟩
theorem NwJ.other {w0 : World} {q4 : Nat} {C : Value → Array Value} {l : List Int} {D : Nat → Bool} {f : Nat → Value} {wa : World} (j : NwJ w0 q4 C l D f wa) (k : Nat) (v : Value) (h0 : k ≠ 5) (h1 : k ≠ 8) (h2 : k ≠ 9) : NwJ w0 q4 C l (updB D k) (upd f k v) wa := by
 have h0 : ¬ 5 = k := fun e => h0 e.symm
 have h1 : ¬ 8 = k := fun e => h1 e.symm
 have h2 : ¬ 9 = k := fun e => h2 e.symm
 obtain ⟨a0, a1, a2, a3, a4⟩ := j
 refine ⟨fun h => ?_, ?_, ?_, ?_, ?_⟩
 ·simp only [updB, if_neg h1] at h
  obtain ⟨q1, q2, q3⟩ := a0 h
  refine ⟨?_, ?_, ?_⟩
  ·unfold updB; split; rfl; exact q1
  ·unfold updB; split; rfl; exact q2
  ·simpa [upd, h0, h1] using q3
 all_goals (simp only [updB, upd, if_neg h0, if_neg h1, if_neg h2]; assumption)
theorem NwJ.o5 {w0 : World} {q4 : Nat} {C : Value → Array Value} {l : List Int} {D : Nat → Bool} {f : Nat → Value} {wa : World} (j : NwJ w0 q4 C l D f wa) (hD : D 5 = false) (v : Value) (w2 : World) (hb : Below wa.heap.size wa w2) (hv : OwnN w0.heap.size w2 v l) : NwJ w0 q4 C l (updB D 5) (upd f 5 v) w2 := by
 have h9 := j.idle 5 (.inr (.inl rfl)) hD
 have b := j.a h9
 refine ⟨fun h => ?_, fun h => ?_, fun _ => b.trans (hb.mono b.size), fun _ => by simpa [upd] using hv, fun h => ?_⟩
 ·have h : D 8 = true := by simpa [updB] using h
  have := (j.d8 h).2.1; rw [hD] at this; cases this
 ·have h : D 9 = true := by simpa [updB] using h
  rw [h9] at h; cases h
 ·have h : D 9 = true := by simpa [updB] using h
  rw [h9] at h; cases h
theorem NwJ.o8 {w0 : World} {q4 : Nat} {C : Value → Array Value} {l : List Int} {D : Nat → Bool} {f : Nat → Value} {wa : World} (j : NwJ w0 q4 C l D f wa) (hD : D 8 = false) (q0 : D 0 = true) (q5 : D 5 = true) (v : Value) (hv : v = .agg (C (f 5))) : NwJ w0 q4 C l (updB D 8) (upd f 8 v) wa := by
 have h9 := j.idle 8 (.inr (.inr rfl)) hD
 obtain ⟨a0, a1, a2, a3, a4⟩ := j
 refine ⟨fun _ => ⟨by simpa [updB] using q0, by simpa [updB] using q5, by simpa [upd] using hv⟩, fun _ => by simp [updB], by simpa [updB] using a2, by simpa [updB, upd] using a3, by simpa [updB, upd] using a4⟩
theorem NwJ.o9 {w0 : World} {q4 : Nat} {C : Value → Array Value} {l : List Int} {D : Nat → Bool} {f : Nat → Value} {wa : World} (j : NwJ w0 q4 C l D f wa) (hD : D 9 = false) (q8 : D 8 = true) (v : Value) (hr : Room wa q4 32 44) : NwJ w0 q4 C l (updB D 9) (upd f 9 v) (wa.setRow q4 (C (f 5))) := by
 have b := j.a hD
 obtain ⟨a0, a1, a2, a3, a4⟩ := j
 refine ⟨by simpa [updB, upd] using a0, fun _ => by simpa [updB] using q8, fun h => by simp [updB] at h, fun h => ?_, fun _ => ⟨wa, b, by simp [upd]⟩⟩
 have h : D 5 = true := by simpa [updB] using h
 have q : OwnN w0.heap.size (wa.setRow q4 (C (f 5))) (f 5) l := ownsRow_setRow (a3 h) q4 32 (C (f 5)) hr (by decide)
 simpa [upd] using q
theorem New_walk (cols rows nn : Nat) (hc1 : 1 ≤ cols) (hc2 : cols ≤ 512) (hr1 : 1 ≤ rows) (hr2 : rows ≤ 512) (l : List Cl) (hl : l.length = nn) (hnn : nn ≤ 1000000) (w : World)
  (RE : ∀ wx, Calls Tryz.prog 61 #[.int .i64 (cols : Int), .int .i64 (rows : Int), .agg (sA pl)] wx fun e w' => ∃ b, e = .returned (gOk (cols : Int) (rows : Int) (.slice (some ⟨b, 0, none⟩) nn nn)) ∧ wx.heap.size ≤ b ∧ RC w' b l [] ∧ Below wx.heap.size wx w') :
  Calls Tryz.prog 15 #[.int .i64 (cols : Int), .int .i64 (rows : Int)] w fun e w' => ScR w.heap.size w' e (nwS cols rows l) ∧ Below w.heap.size w w' := by
 have RZ := Box'.mk RE
 have PA := Box'.mk plain_any
 have S24 := Box'.mk s24g
 have HL := Box'.mk hl
 have HNN := Box'.mk hnn
 have R4 : Box' (Room (w.alloc (.cells z32 32)) w.heap.size 32 44) := ⟨Room.new _ _ _ _ rfl⟩
 have BE : Box' (Below w.heap.size w (w.alloc (.cells z32 32))) := ⟨bR.alloc (Nat.le_refl _) _⟩
 clear RE hl hnn
 go_enter Tryz.func15, Tryz.ntmps15
 go_upto_region 1 with (fail)
 generalize (w.alloc (.cells z32 32)) = w1 at *
 have HQ : Box' (w.heap.size ≤ w.heap.size) := ⟨Nat.le_refl _⟩
 go_wp2_with fail
 refine (PA.out _).mono ?_
 rintro e w1b ⟨rfl, hb1⟩
 replace R4 := Box'.mk (R4.out.below hb1 R4.out.lt)
 replace BE : Box' (Below w.heap.size w w1b) := ⟨BE.out.trans (hb1.mono BE.out.size)⟩
 clear hb1
 go_wp2_with fail
 refine (RZ.out _).mono ?_
 rintro e w2 ⟨gb, rfl, hg, hrc, hb2⟩
 have hbs := BE.out.size
 have RG : Box' (OwnC w.heap.size w2 (.slice (some ⟨gb, 0, none⟩) nn nn) l) := ⟨by
  have := RC.own hrc (show w.heap.size ≤ gb by omega) (by rw [HL.out]; exact HNN.out)
  rw [HL.out] at this
  exact this⟩
 replace R4 := Box'.mk (R4.out.below hb2 R4.out.lt)
 replace BE : Box' (Below w.heap.size w w2) := ⟨BE.out.trans (hb2.mono BE.out.size)⟩
 clear hb2 hrc hg hbs RZ PA
 unfold gOk gA
 have RM := Box'.mk ((Row.new w2 24 #[.int .i64 0, .int .i64 0, .slice none 0 0]).room (n := 3) rfl)
 have b3 : Below w2.heap.size w2 ((w2.alloc (.cells #[.int .i64 0, .int .i64 0, .slice none 0 0] 24)).setRow w2.heap.size #[.int .i64 (cols : Int), .int .i64 (rows : Int), (.slice (some ⟨gb, 0, none⟩) nn nn)]) := below_setRow (bR.alloc (Nat.le_refl _) _) (Nat.le_refl _) _
 have R6 : Box' (Row ((w2.alloc (.cells #[.int .i64 0, .int .i64 0, .slice none 0 0] 24)).setRow w2.heap.size #[.int .i64 (cols : Int), .int .i64 (rows : Int), (.slice (some ⟨gb, 0, none⟩) nn nn)]) w2.heap.size 24 #[.int .i64 (cols : Int), .int .i64 (rows : Int), (.slice (some ⟨gb, 0, none⟩) nn nn)]) := ⟨RM.out.setRow _⟩
 have RCG := Box'.mk (ownsRow_below RG.out b3)
 replace R4 := Box'.mk (R4.out.below b3 R4.out.lt)
 replace BE : Box' (Below w.heap.size w ((w2.alloc (.cells #[.int .i64 0, .int .i64 0, .slice none 0 0] 24)).setRow w2.heap.size #[.int .i64 (cols : Int), .int .i64 (rows : Int), (.slice (some ⟨gb, 0, none⟩) nn nn)])) := ⟨BE.out.trans (b3.mono BE.out.size)⟩
 have O8 : Box' ((#[.int .i64 (cols : Int), .int .i64 (rows : Int), (.slice (some ⟨gb, 0, none⟩) nn nn)] : Array Value).all (·.oneCell') = true) := ⟨gA_one (cols : Int) (rows : Int) (some ⟨gb, 0, none⟩) nn nn⟩
 clear b3 RG
 go_upto_region 2 with (first
  | (refine wpList_store_row rfl 24 (.tmp 6) (.tmp 13) rfl w2.heap.size rfl #[.int .i64 (cols : Int), .int .i64 (rows : Int), (.slice (some ⟨gb, 0, none⟩) nn nn)] rfl 24 3 RM.out S24.out rfl O8.out ?_))
 clear RM O8
 generalize ((w2.alloc (.cells #[.int .i64 0, .int .i64 0, .slice none 0 0] 24)).setRow w2.heap.size #[.int .i64 (cols : Int), .int .i64 (rows : Int), (.slice (some ⟨gb, 0, none⟩) nn nn)]) = w3 at *
 generalize w2.heap.size = q6 at *
 go_wp2_with fail
 refine wp_region_walk 11 (by kernel_rfl) (by kernel_rfl) (fun D f wa => ((NwJ w3 w.heap.size (fun v => snA (nwS cols rows l) (.slice (some ⟨gb, 0, none⟩) nn nn) v (.slice none 0 0) (.slice none 0 0)) (tabsN cols) D f wa) ∧ (D 9 = true → D 1 = true) ∧ (D 9 = true → D 6 = true)) ∧ ∀ i, D i = true → (fun kc => kc == 5 || kc == 8 || kc == 9) i = false → f i = (fun kc => match kc with
   | 0 => .agg #[.int .i64 (cols : Int), .int .i64 (rows : Int), (.slice (some ⟨gb, 0, none⟩) nn nn)]
   | 1 => .agg #[.int .i64 pl.fg, .int .i64 pl.bg, .bool pl.b1, .bool pl.b2, .bool pl.b3, .bool pl.b4, .bool pl.b5, .bool pl.b7, .bool pl.b8, .bool pl.b9]
   | 2 => .int .i64 (rows : Int)
   | 3 => .int .i64 ((rows : Int) - 1)
   | 4 => .int .i64 (cols : Int)
   | 6 => .agg #[.int .i64 pl.fg, .int .i64 pl.bg, .bool pl.b1, .bool pl.b2, .bool pl.b3, .bool pl.b4, .bool pl.b5, .bool pl.b7, .bool pl.b8, .bool pl.b9]
   | 7 => .agg #[.int .i64 0, .int .i64 0, .bool false, .bool false, .int .i64 pl.fg, .int .i64 pl.bg, .bool pl.b1, .bool pl.b2, .bool pl.b3, .bool pl.b4, .bool pl.b5, .bool pl.b7, .bool pl.b8, .bool pl.b9]
   | 10 => .int .i64 0
   | _ => undef) i) ?_ ?_ ?_
 ·exact fun f => ⟨⟨NwJ.begin _ _ _ _ _, (fun h => by cases h), (fun h => by cases h)⟩, fun i h => by cases h⟩
 ·refine ⟨?a0, ?a1, ?a2, ?a3, ?a4, ?a5, ?a6, ?a7, ?a8, ?a9, ?a10, trivial⟩
  all_goals intro D f wq hJ hD hd KK hK
  all_goals have G := fun j h h2 => hJ.2 j (hd j h) h2
  all_goals simp (disch := decide +kernel) only [tkS, tkZ, setAll, siB, stS, stZ, Nat.zero_add, Nat.reduceAdd, G] at hK ⊢
  case a0 =>
   exact wp_load_row 24 (.tmp 6) rfl q6 rfl 24 _ (R6.out.below (hJ.1.1.a (hJ.1.1.idle 0 (.inl rfl) hD)) R6.out.lt) _ Tryz.underlying24 rfl 3 s24g rfl (hK _ _ ⟨⟨hJ.1.1.other 0 _ (by decide) (by decide) (by decide), hJ.1.2⟩, vals_upd hJ.2 (.inr rfl)⟩)
  case a1 =>
   have h9 : D 9 = false := by
    cases hh : D 9 with
    | false => rfl
    | true => exact absurd (hJ.1.2.1 hh) (by rw [hD]; decide)
   refine wp_call 62 #[] (by simp [go_sem]) (.agg #[.int .i64 pl.fg, .int .i64 pl.bg, .bool pl.b1, .bool pl.b2, .bool pl.b3, .bool pl.b4, .bool pl.b5, .bool pl.b7, .bool pl.b8, .bool pl.b9]) (fun w'' => Below wq.heap.size wq w'') (plain_any wq) ?_
   intro w'' hb
   exact hK _ _ ⟨⟨(hJ.1.1.grow h9 w'' hb).other 1 _ (by decide) (by decide) (by decide), fun _ => rfl, hJ.1.2.2⟩, vals_upd hJ.2 (.inr rfl)⟩
  case a3 =>
   refine wp_of_quiet rfl ?_
   go_big_quiet_step (fail)
   exact wpQuiet_nil (hK _ _ ⟨⟨hJ.1.1.other 3 _ (by decide) (by decide) (by decide), hJ.1.2⟩, vals_upd hJ.2 (.inr rfl)⟩)
  case a5 =>
   have h9 := hJ.1.1.idle 5 (.inr (.inl rfl)) hD
   refine wp_callR 63 #[.int .i64 (cols : Int)] (by simp [go_sem]) (fun v w'' => OwnN wq.heap.size w'' v (tabsN cols) ∧ Below wq.heap.size wq w'') ?_ ?_
   ·refine (newTabs_any cols hc1 hc2 wq).mono ?_
    rintro e w' ⟨v, rfl, k1, k2⟩
    exact ⟨v, rfl, k1, k2⟩
   ·rintro v w'' ⟨k1, k2⟩
    exact hK _ _ ⟨⟨hJ.1.1.o5 hD v w'' k2 (ownsRow_down k1 (hJ.1.1.a h9).size), hJ.1.2⟩, vals_upd hJ.2 (.inl rfl)⟩
  case a6 =>
   have h9 : D 9 = false := by
    cases hh : D 9 with
    | false => rfl
    | true => exact absurd (hJ.1.2.2 hh) (by rw [hD]; decide)
   refine wp_call 62 #[] (by simp [go_sem]) (.agg #[.int .i64 pl.fg, .int .i64 pl.bg, .bool pl.b1, .bool pl.b2, .bool pl.b3, .bool pl.b4, .bool pl.b5, .bool pl.b7, .bool pl.b8, .bool pl.b9]) (fun w'' => Below wq.heap.size wq w'') (plain_any wq) ?_
   intro w'' hb
   exact hK _ _ ⟨⟨(hJ.1.1.grow h9 w'' hb).other 6 _ (by decide) (by decide) (by decide), hJ.1.2.1, fun _ => rfl⟩, vals_upd hJ.2 (.inr rfl)⟩
  case a7 =>
   refine wp_of_quiet rfl ?_
   go_big_quiet_step (fail)
   exact wpQuiet_nil (hK _ _ ⟨⟨hJ.1.1.other 7 _ (by decide) (by decide) (by decide), hJ.1.2⟩, vals_upd hJ.2 (.inr rfl)⟩)
  case a8 =>
   have d5 : D 5 = true := hd 5 (by kernel_rfl)
   obtain ⟨va, vn, vc, e5⟩ := own_sl (hJ.1.1.k d5)
   have hj8 := hJ.1.1.o8 hD (hd 0 (by kernel_rfl)) d5
   simp only [e5] at hK hj8 ⊢
   refine wp_of_quiet rfl ?_
   go_big_quiet_step (fail)
   exact wpQuiet_nil (hK _ _ ⟨⟨hj8 _ rfl, hJ.1.2⟩, vals_upd hJ.2 (.inl rfl)⟩)
  case a9 =>
   have d8 : D 8 = true := hd 8 (by kernel_rfl)
   obtain ⟨d0, d5, e8⟩ := hJ.1.1.d8 d8
   obtain ⟨va, vn, vc, e5⟩ := own_sl (hJ.1.1.k d5)
   have hrm := R4.out.below (hJ.1.1.a hD) R4.out.lt
   have hj9 := hJ.1.1.o9 hD d8
   rw [e5] at e8 hj9
   simp only [e8] at hK ⊢
   exact wp_store_row 32 (.tmp 4) (.tmp 27) rfl w.heap.size rfl (snA (nwS cols rows l) (.slice (some ⟨gb, 0, none⟩) nn nn) (.slice va vn vc) (.slice none 0 0) (.slice none 0 0)) rfl 32 44 hrm s32 rfl (snA_one _ _ _ _ _ _ _ _ _ _ _ _ _) (hK _ _ ⟨⟨hj9 _ hrm, fun _ => hd 1 (by kernel_rfl), fun _ => hd 6 (by kernel_rfl)⟩, vals_upd hJ.2 (.inl rfl)⟩)
  all_goals (refine wp_of_quiet rfl ?_; go_big_quiet_step (fail); exact wpQuiet_nil (hK _ _ ⟨⟨hJ.1.1.other _ _ (by decide) (by decide) (by decide), hJ.1.2⟩, vals_upd hJ.2 (.inr rfl)⟩))
 ·intro D f wz hD hJ
  have hW := hJ.1
  have P := fun j h h2 => hJ.2 j (hD j h) h2
  obtain ⟨d0, d5, e8⟩ := hW.1.d8 (hD 8 (by decide))
  obtain ⟨va, vn, vc, e5⟩ := own_sl (hW.1.k d5)
  have ok := hW.1.k d5
  obtain ⟨wb, hbb, hwz⟩ := hW.1.z (hD 9 (by decide))
  rw [e5] at e8 ok hwz
  have OK5 := Box'.mk ok
  have HBB := Box'.mk hbb
  have HWZ := Box'.mk hwz
  clear hW ok hbb hwz
  clear hJ hD
  simp (disch := decide) only [tkS, tkZ, List.drop_succ_cons, List.drop_zero, setAll, siB, stS, stZ, Nat.zero_add, Nat.reduceAdd, P, e5, e8]
  clear P e5 e8
  have RR := Box'.mk (R4.out.below HBB.out R4.out.lt)
  have RW : Box' (Row wz w.heap.size 32 (snA (nwS cols rows l) (.slice (some ⟨gb, 0, none⟩) nn nn) (.slice va vn vc) (.slice none 0 0) (.slice none 0 0))) := ⟨by rw [HWZ.out]; exact RR.out.setRow _⟩
  have BZ : Box' (Below w.heap.size w wz) := ⟨by rw [HWZ.out]; exact below_setRow (BE.out.trans (HBB.out.mono BE.out.size)) HQ.out _⟩
  have OZ : Box' (OwnL w.heap.size wz (nwS cols rows l) (.slice (some ⟨gb, 0, none⟩) nn nn) (.slice va vn vc) (.slice none 0 0) (.slice none 0 0)) := ⟨by
   refine ⟨?_, OwnC.nil _ _, (fun b h1 h2 => by simp [Value.ownBlock] at h2), ownsRow_down OK5.out BE.out.size, ⟨rfl, .inl ⟨rfl, rfl⟩⟩⟩
   have h1 := ownsRow_below RCG.out HBB.out
   have h2 := ownsRow_setRow h1 w.heap.size 32 (snA (nwS cols rows l) (.slice (some ⟨gb, 0, none⟩) nn nn) (.slice va vn vc) (.slice none 0 0) (.slice none 0 0)) RR.out (by decide)
   rw [HWZ.out]
   exact h2⟩
  clear HWZ RR OK5 HBB
  go_wp2_with fail
  exact bodyPost_ret (results_sn rfl _ w.heap.size rfl _ rfl _ _ RW.out rfl) rfl ⟨⟨_, _, _, _, rfl, OZ.out⟩, BZ.out⟩
theorem New_ok (cols rows : Nat) (hc1 : 1 ≤ cols) (hc2 : cols ≤ 512) (hr1 : 1 ≤ rows) (hr2 : rows ≤ 512) (w : World) :
  Calls Tryz.prog 15 #[.int .i64 (cols : Int), .int .i64 (rows : Int)] w fun e w' => ScR w.heap.size w' e (nwS cols rows (List.replicate (cols * rows) (bl pl))) ∧ Below w.heap.size w w' := by
 have hle : cols * rows ≤ 512 * 512 := Nat.mul_le_mul hc2 hr2
 exact New_walk cols rows (cols * rows) hc1 hc2 hr1 hr2 _ (by simp) (by omega) w (fun wx => new_ok cols rows pl wx hc1 hc2 hr1 hr2 (by decide))
end Go.Proofs.YtlekleeckcdcgaaGreat
