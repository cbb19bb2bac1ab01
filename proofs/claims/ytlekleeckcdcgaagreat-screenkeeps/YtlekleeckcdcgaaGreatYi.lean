/- A mark is put. Tabulators are put in and taken away; the frame of deeds, with what is known of the lists. Print. -/
import Derived.Test.YtlekleeckcdcgaaGreatYj
import Derived.Test.YtlekleeckcdcgaaGreatYn
import Derived.Test.YtlekleeckcdcgaaGreatYm
import Derived.Test.YtlekleeckcdcgaaGreatYo
namespace Go.Proofs.YtlekleeckcdcgaaGreat
open Go.RowKit Go.BigFrame
set_option linter.unusedVariables false
set_option linter.unusedSimpArgs false
set_option maxRecDepth 100000
set_option maxHeartbeats 8000000
theorem fld24 (co ro : Int) (a : Option Addr) (n c : Nat) (w : World) : (Instr.field 24 (.agg #[.int .i64 co, .int .i64 ro, .slice a n c]) 2).run Tryz.prog w = .ok (.slice a n c) w := by
 simp [Instr.field, underlying, Tryz.underlying24, part, isAgg, Tryz.underlying22, asAgg]
theorem mark_r4 (N : Nat) (w : World) (p : Nat) (x : Sn) (vg vt vm vl : Value) (h : Bd N w p x vg vt vm vl) (row cols lo b : Nat) (er : x.cur.row = (row : Int)) (RW : ∀ wq, Below w.heap.size w wq → Calls Tryz.prog 166 #[.pointer (some ⟨p, 0, none⟩), .int .i64 (row : Int), .int .i64 (row : Int)] wq fun e w' => e = .returned (.agg #[.int .i64 (cols : Int), .int .i64 1, .slice (some ⟨b, lo * 15, none⟩) cols cols]) ∧ Below wq.heap.size wq w') (c : Int) (u2 u3 u4 u5 u6 u7 u8 u9 u10 u11 u12 u13 u14 u15 u16 u17 u18 u19 u20 u21 u22 u23 u24 u25 u26 u27 u28 u29 u30 u31 u32 u33 u34 u35 u36 u37 u38 u39 u40 u41 u42 u43 u44 u45 u46 u47 : Value) (df : List Deferred) (Q : Exit → Act → World → Prop) (hQ : ∀ (wz : World), Below w.heap.size w wz → wpList Tryz.prog #[] Q [] ⟨List.toArray ((.pointer (some ⟨p, 0, none⟩)) :: (.int .i32 c) :: u2 :: u3 :: u4 :: (.slice (some ⟨b, lo * 15, none⟩) cols cols) :: u6 :: u7 :: u8 :: u9 :: u10 :: u11 :: u12 :: u13 :: u14 :: u15 :: u16 :: u17 :: u18 :: (.pointer (some ⟨p, 0, none⟩)) :: (.pointer (some ⟨p, 0, none⟩)) :: (.pointer (some ⟨p, 0, none⟩)) :: (.pointer (some ⟨p, 3, none⟩)) :: (.int .i64 (row : Int)) :: (.pointer (some ⟨p, 0, none⟩)) :: (.pointer (some ⟨p, 0, none⟩)) :: (.pointer (some ⟨p, 3, none⟩)) :: (.int .i64 (row : Int)) :: (.agg #[.int .i64 (cols : Int), .int .i64 1, .slice (some ⟨b, lo * 15, none⟩) cols cols]) :: (.slice (some ⟨b, lo * 15, none⟩) cols cols) :: u30 :: u31 :: u32 :: u33 :: u34 :: u35 :: u36 :: u37 :: u38 :: u39 :: u40 :: u41 :: u42 :: u43 :: u44 :: u45 :: u46 :: u47 :: []), df⟩ wz) :
  Code.wp Tryz.prog ((Tryz.f127.body.bind (regOf' 4)).getD .skip) Q ⟨List.toArray ((.pointer (some ⟨p, 0, none⟩)) :: (.int .i32 c) :: u2 :: u3 :: u4 :: u5 :: u6 :: u7 :: u8 :: u9 :: u10 :: u11 :: u12 :: u13 :: u14 :: u15 :: u16 :: u17 :: u18 :: u19 :: u20 :: u21 :: u22 :: u23 :: u24 :: u25 :: u26 :: u27 :: u28 :: u29 :: u30 :: u31 :: u32 :: u33 :: u34 :: u35 :: u36 :: u37 :: u38 :: u39 :: u40 :: u41 :: u42 :: u43 :: u44 :: u45 :: u46 :: u47 :: []), df⟩ w := by
 conv => arg 2; whnf
 refine wp_region_walk 12 (by kernel_rfl) (by kernel_rfl) (fun D f wa => (Below w.heap.size w wa) ∧ ∀ i, D i = true → (fun kc => kc == 999) i = false → f i = (fun kc => match kc with
   | 0 => .pointer (some ⟨p, 0, none⟩)
   | 1 => .pointer (some ⟨p, 0, none⟩)
   | 2 => .pointer (some ⟨p, 0, none⟩)
   | 3 => .pointer (some ⟨p, 3, none⟩)
   | 4 => .int .i64 (row : Int)
   | 5 => .pointer (some ⟨p, 0, none⟩)
   | 6 => .pointer (some ⟨p, 0, none⟩)
   | 7 => .pointer (some ⟨p, 3, none⟩)
   | 8 => .int .i64 (row : Int)
   | 9 => .agg #[.int .i64 (cols : Int), .int .i64 1, .slice (some ⟨b, lo * 15, none⟩) cols cols]
   | 10 => .slice (some ⟨b, lo * 15, none⟩) cols cols
   | 11 => .slice (some ⟨b, lo * 15, none⟩) cols cols
   | _ => undef) i) ?_ ?_ ?_
 ·exact fun f => ⟨bR.drew, fun i h => by cases h⟩
 ·refine ⟨?a0, ?a1, ?a2, ?a3, ?a4, ?a5, ?a6, ?a7, ?a8, ?a9, ?a10, ?a11, trivial⟩
  all_goals intro D f wq hJ hD hd KK hK
  all_goals have G := fun j h h2 => hJ.2 j (hd j h) h2
  all_goals have cq0 : wq.cell? ⟨p, 3, none⟩ = some (.int .i64 (row : Int)) := by rw [← er]; exact (h.below hJ.1).box.cell 3
  all_goals simp (disch := decide +kernel) only [tkS, tkZ, setAll, siB, stS, stZ, Nat.zero_add, Nat.reduceAdd, G] at hK ⊢
  case a9 =>
   refine wp_call 166 #[.pointer (some ⟨p, 0, none⟩), .int .i64 (row : Int), .int .i64 (row : Int)] (by simp [go_sem]) (.agg #[.int .i64 (cols : Int), .int .i64 1, .slice (some ⟨b, lo * 15, none⟩) cols cols]) (fun w'' => Below wq.heap.size wq w'') (RW wq hJ.1) ?_
   intro w'' hb
   exact hK _ _ ⟨hJ.1.trans (hb.mono hJ.1.size), vals_upd hJ.2 (.inr rfl)⟩
  case a10 =>
   exact wp_val (.slice (some ⟨b, lo * 15, none⟩) cols cols) (by simp [go_sem, fld24]) (hK _ _ ⟨hJ.1, vals_upd hJ.2 (.inr rfl)⟩)
  all_goals (refine wp_of_quiet rfl ?_; go_big_quiet_step (fail); exact wpQuiet_nil (hK _ _ ⟨hJ.1, vals_upd hJ.2 (.inr rfl)⟩))
 ·intro D f wz hD hJ
  have hW := hJ.1
  have P := fun j h h2 => hJ.2 j (hD j h) h2
  clear hJ hD
  simp (disch := decide) only [tkS, tkZ, List.drop_succ_cons, List.drop_zero, setAll, siB, stS, stZ, Nat.zero_add, Nat.reduceAdd, P]
  clear P
  exact hQ wz (hW)
theorem cls_one (w : World) (y : Cl) : Cls (w.alloc (.cells (cA y) 56)).heap.size (w.alloc (.cells (cA y) 56)) (.slice (some ⟨w.heap.size, 0, none⟩) 1 1) [y] := by
 refine ⟨_, _, rfl, Nat.le_refl _, .inr ⟨w.heap.size, 0, rfl, by simp, fun k hk j hj => ?_⟩⟩
 obtain rfl : k = 0 := by simp at hk; omega
 rw [show 0 + 0 * 15 + j = j by omega]
 exact (Row.new w 56 (cA y)).cell j
theorem bMark_w (N : Nat) (w : World) (p : Nat) (x : Sn) (b cap : Nat) (vt vm vl : Value) (sp : List Value) (h : Bd N w p x (.slice (some ⟨b, 0, none⟩) x.g.c.length cap) vt vm vl) (hrc : RC w b x.g.c sp) (hN : mayN x = true) (c : Int) (row cols lo j : Nat) (er : x.cur.row = (row : Int)) (hlo : lo = row * cols) (hk : j < cols) (hc2 : cols ≤ 512) (hfit : lo + cols ≤ x.g.c.length) (hco : x.g.co = (cols : Int))
  (RW : ∀ wq, Below w.heap.size w wq → Calls Tryz.prog 166 #[.pointer (some ⟨p, 0, none⟩), .int .i64 (row : Int), .int .i64 (row : Int)] wq fun e w' => e = .returned (.agg #[.int .i64 (cols : Int), .int .i64 1, .slice (some ⟨b, lo * 15, none⟩) cols cols]) ∧ Below wq.heap.size wq w')
  (hpc : x.cur.pend = true ∧ x.cur.col = (j : Int) ∨ x.cur.pend = false ∧ x.cur.col = ((j : Int) + 1)) (hwd : ¬ (cat x.g.c (lo + (j))).wd = 0) :
  Calls Tryz.prog 127 #[.pointer (some ⟨p, 0, none⟩), .int .i32 c] w fun e w' => (∃ v, e = .returned v) ∧ Bd N w' p (wtF x (j : Int) [mkC (cat x.g.c (lo + j)) c]) (.slice (some ⟨b, 0, none⟩) x.g.c.length cap) vt vm vl ∧ Below N w w' := by
 obtain ⟨hp, hcol⟩ | ⟨hp, hcol⟩ := hpc
 all_goals (
 have hmem : mayC (cat x.g.c (lo + j)) = true := by
  obtain ⟨cs, rs, g⟩ := gd_of (may_G hN)
  have e1 := g.ec
  obtain rfl : cs = cols := by omega
  have hr : row < rs := by have := (may_Mm hN).w2; have := g.er; omega
  have hjc : j < cs := by omega
  have := g.rowM row hr (cat (rowF x.g.c cs row) j) (cat_mem (by rw [g.row row hr]; exact hjc))
  rw [cat_row _ _ _ _ hjc, ← hlo] at this
  exact this
 have MK := Box'.mk (mark_is (cat x.g.c (lo + j)) (mayC_gd hmem) c)
 have MM := Box'.mk (mkC_may hmem c)
 have WT : Box' (∀ wx, Bd N wx p x (.slice (some ⟨b, 0, none⟩) x.g.c.length cap) vt vm vl → ∀ lv, Cls wx.heap.size wx lv [mkC (cat x.g.c (lo + j)) c] → Calls Tryz.prog 167 #[.pointer (some ⟨p, 0, none⟩), .int .i64 (j : Int), lv] wx fun e w' => (∃ v, e = .returned v) ∧ Bd N w' p (wtF x (j : Int) [mkC (cat x.g.c (lo + j)) c]) (.slice (some ⟨b, 0, none⟩) x.g.c.length cap) vt vm vl ∧ Below N wx w') := ⟨fun wx hb lv hc => bWrite_any N wx p x _ _ _ _ hb (may_Mm hN) (may_G hN) (may_S hN) (j : Int) lv _ (by omega) (by omega) hc (by simp) (by simp; exact mkC_may hmem c)⟩
 have R4 := Box'.mk (mark_r4 N w p x _ _ _ _ h row cols lo b er RW c)
 first | have C5 : w.cell? ⟨p, 5, none⟩ = some (.bool false) := by rw [← hp]; exact h.box.cell 5 | have C5 : w.cell? ⟨p, 5, none⟩ = some (.bool true) := by rw [← hp]; exact h.box.cell 5
 first | have C4 : w.cell? ⟨p, 4, none⟩ = some (.int .i64 ((j : Int) + 1)) := by rw [← hcol]; exact h.box.cell 4 | have C4 : w.cell? ⟨p, 4, none⟩ = some (.int .i64 (j : Int)) := by rw [← hcol]; exact h.box.cell 4
 have HB := Box'.mk h
 have HR := Box'.mk hrc
 have NW : Box' (N ≤ w.heap.size) := ⟨Nat.le_trans h.hp (Nat.le_of_lt h.lt)⟩
 have CE : Box' (∀ wx, Below w.heap.size w wx → ∀ i, i < cols → wx.rangeAt b (lo * 15 + i * 15) (cA (cat x.g.c (lo + i))).toList) := ⟨fun wx hb i hi => by
  have hr := RC.below hrc hb hrc.lt
  have := rangeAt_cell (k := lo + i) hr (by omega)
  rw [Nat.add_mul] at this
  exact this⟩
 have CW : Box' (∀ wx, Below w.heap.size w wx → wx.cell? ⟨b, lo * 15 + (j) * 15 + 4, none⟩ = some (.int .u8 ((cat x.g.c (lo + (j))).wd : Int))) := ⟨fun wx hb => by
  have hr := RC.below hrc hb hrc.lt
  have := RC.cell hr (lo + (j)) 4 (by omega) (by omega)
  rw [Nat.add_mul] at this
  exact this⟩
 generalize hyc : mkC (cat x.g.c (lo + j)) c = y at *
 clear hyc hmem h hrc hN RW er hlo hp hcol hfit hco
 go_enter Tryz.func127, Tryz.ntmps127
 go_wp2_with fail
 refine R4.out _ _ _ _ _ _ _ _ _ _ _ _ _ _ _ _ _ _ _ _ _ _ _ _ _ _ _ _ _ _ _ _ _ _ _ _ _ _ _ _ _ _ _ _ _ _ [] _ ?_
 intro wz hbz
 have BZ := Box'.mk hbz
 have cw := CW.out wz hbz
 generalize hq : (cat x.g.c (lo + (j))).wd = q at *
 clear hq hbz R4 C5 C4 CW
 skip
 go_wp2_with (first
  | (refine wpList_load_cell rfl (.tmp 42) rfl b (lo * 15 + j * 15) (cat x.g.c (lo + j)) rfl (CE.out _ BZ.out j (by omega)) ?_))
 refine (MK.out _).mono ?_
 rintro e w2 ⟨rfl, hb2⟩
 have B2 : Box' (Below w.heap.size w w2) := ⟨BZ.out.trans (hb2.mono BZ.out.size)⟩
 clear hb2 BZ MK
 obtain ⟨y0, y1, y2, y3, y4, ⟨s0, s1, s2, s3, s4, s5, s6, s7, s8, s9⟩⟩ := y
 unfold cA
 simp only
 go_wp2_with fail
 refine (WT.out _ (HB.out.below (B2.out.alloc B2.out.size _)) _ (cls_one w2 ⟨y0, y1, y2, y3, y4, ⟨s0, s1, s2, s3, s4, s5, s6, s7, s8, s9⟩⟩)).mono ?_
 rintro e w5 ⟨⟨v5, rfl⟩, b5, t5⟩
 have B5 := Box'.mk b5
 have T5 : Box' (Below N w w5) := ⟨((B2.out.alloc B2.out.size _).mono NW.out).trans t5⟩
 clear b5 t5 B2 WT
 go_wp2_with fail
 exact bodyPost_end (results_none rfl _ _) rfl ⟨⟨_, rfl⟩, B5.out, T5.out⟩)
theorem bMark_h (N : Nat) (w : World) (p : Nat) (x : Sn) (b cap : Nat) (vt vm vl : Value) (sp : List Value) (h : Bd N w p x (.slice (some ⟨b, 0, none⟩) x.g.c.length cap) vt vm vl) (hrc : RC w b x.g.c sp) (hN : mayN x = true) (c : Int) (row cols lo j : Nat) (er : x.cur.row = (row : Int)) (hlo : lo = row * cols) (hk : j + 1 < cols) (hc2 : cols ≤ 512) (hfit : lo + cols ≤ x.g.c.length) (hco : x.g.co = (cols : Int))
  (RW : ∀ wq, Below w.heap.size w wq → Calls Tryz.prog 166 #[.pointer (some ⟨p, 0, none⟩), .int .i64 (row : Int), .int .i64 (row : Int)] wq fun e w' => e = .returned (.agg #[.int .i64 (cols : Int), .int .i64 1, .slice (some ⟨b, lo * 15, none⟩) cols cols]) ∧ Below wq.heap.size wq w')
  (hpc : x.cur.pend = true ∧ x.cur.col = ((j : Int) + 1) ∨ x.cur.pend = false ∧ x.cur.col = (((j : Int) + 1) + 1)) (hwd : (cat x.g.c (lo + (j + 1))).wd = 0) :
  Calls Tryz.prog 127 #[.pointer (some ⟨p, 0, none⟩), .int .i32 c] w fun e w' => (∃ v, e = .returned v) ∧ Bd N w' p (wtF x (j : Int) [mkC (cat x.g.c (lo + j)) c]) (.slice (some ⟨b, 0, none⟩) x.g.c.length cap) vt vm vl ∧ Below N w w' := by
 obtain ⟨hp, hcol⟩ | ⟨hp, hcol⟩ := hpc
 all_goals (
 have hmem : mayC (cat x.g.c (lo + j)) = true := by
  obtain ⟨cs, rs, g⟩ := gd_of (may_G hN)
  have e1 := g.ec
  obtain rfl : cs = cols := by omega
  have hr : row < rs := by have := (may_Mm hN).w2; have := g.er; omega
  have hjc : j < cs := by omega
  have := g.rowM row hr (cat (rowF x.g.c cs row) j) (cat_mem (by rw [g.row row hr]; exact hjc))
  rw [cat_row _ _ _ _ hjc, ← hlo] at this
  exact this
 have MK := Box'.mk (mark_is (cat x.g.c (lo + j)) (mayC_gd hmem) c)
 have MM := Box'.mk (mkC_may hmem c)
 have WT : Box' (∀ wx, Bd N wx p x (.slice (some ⟨b, 0, none⟩) x.g.c.length cap) vt vm vl → ∀ lv, Cls wx.heap.size wx lv [mkC (cat x.g.c (lo + j)) c] → Calls Tryz.prog 167 #[.pointer (some ⟨p, 0, none⟩), .int .i64 (j : Int), lv] wx fun e w' => (∃ v, e = .returned v) ∧ Bd N w' p (wtF x (j : Int) [mkC (cat x.g.c (lo + j)) c]) (.slice (some ⟨b, 0, none⟩) x.g.c.length cap) vt vm vl ∧ Below N wx w') := ⟨fun wx hb lv hc => bWrite_any N wx p x _ _ _ _ hb (may_Mm hN) (may_G hN) (may_S hN) (j : Int) lv _ (by omega) (by omega) hc (by simp) (by simp; exact mkC_may hmem c)⟩
 have R4 := Box'.mk (mark_r4 N w p x _ _ _ _ h row cols lo b er RW c)
 first | have C5 : w.cell? ⟨p, 5, none⟩ = some (.bool false) := by rw [← hp]; exact h.box.cell 5 | have C5 : w.cell? ⟨p, 5, none⟩ = some (.bool true) := by rw [← hp]; exact h.box.cell 5
 first | have C4 : w.cell? ⟨p, 4, none⟩ = some (.int .i64 (((j : Int) + 1) + 1)) := by rw [← hcol]; exact h.box.cell 4 | have C4 : w.cell? ⟨p, 4, none⟩ = some (.int .i64 ((j : Int) + 1)) := by rw [← hcol]; exact h.box.cell 4
 have HB := Box'.mk h
 have HR := Box'.mk hrc
 have NW : Box' (N ≤ w.heap.size) := ⟨Nat.le_trans h.hp (Nat.le_of_lt h.lt)⟩
 have CE : Box' (∀ wx, Below w.heap.size w wx → ∀ i, i < cols → wx.rangeAt b (lo * 15 + i * 15) (cA (cat x.g.c (lo + i))).toList) := ⟨fun wx hb i hi => by
  have hr := RC.below hrc hb hrc.lt
  have := rangeAt_cell (k := lo + i) hr (by omega)
  rw [Nat.add_mul] at this
  exact this⟩
 have CW : Box' (∀ wx, Below w.heap.size w wx → wx.cell? ⟨b, lo * 15 + (j + 1) * 15 + 4, none⟩ = some (.int .u8 ((cat x.g.c (lo + (j + 1))).wd : Int))) := ⟨fun wx hb => by
  have hr := RC.below hrc hb hrc.lt
  have := RC.cell hr (lo + (j + 1)) 4 (by omega) (by omega)
  rw [Nat.add_mul] at this
  exact this⟩
 generalize hyc : mkC (cat x.g.c (lo + j)) c = y at *
 clear hyc hmem h hrc hN RW er hlo hp hcol hfit hco
 go_enter Tryz.func127, Tryz.ntmps127
 go_wp2_with fail
 refine R4.out _ _ _ _ _ _ _ _ _ _ _ _ _ _ _ _ _ _ _ _ _ _ _ _ _ _ _ _ _ _ _ _ _ _ _ _ _ _ _ _ _ _ _ _ _ _ [] _ ?_
 intro wz hbz
 have BZ := Box'.mk hbz
 have cw := CW.out wz hbz
 generalize hq : (cat x.g.c (lo + (j + 1))).wd = q at *
 clear hq hbz R4 C5 C4 CW
 subst hwd
 go_wp2_with (first
  | (refine wpList_load_cell rfl (.tmp 42) rfl b (lo * 15 + j * 15) (cat x.g.c (lo + j)) rfl (CE.out _ BZ.out j (by omega)) ?_))
 refine (MK.out _).mono ?_
 rintro e w2 ⟨rfl, hb2⟩
 have B2 : Box' (Below w.heap.size w w2) := ⟨BZ.out.trans (hb2.mono BZ.out.size)⟩
 clear hb2 BZ MK
 obtain ⟨y0, y1, y2, y3, y4, ⟨s0, s1, s2, s3, s4, s5, s6, s7, s8, s9⟩⟩ := y
 unfold cA
 simp only
 go_wp2_with fail
 refine (WT.out _ (HB.out.below (B2.out.alloc B2.out.size _)) _ (cls_one w2 ⟨y0, y1, y2, y3, y4, ⟨s0, s1, s2, s3, s4, s5, s6, s7, s8, s9⟩⟩)).mono ?_
 rintro e w5 ⟨⟨v5, rfl⟩, b5, t5⟩
 have B5 := Box'.mk b5
 have T5 : Box' (Below N w w5) := ⟨((B2.out.alloc B2.out.size _).mono NW.out).trans t5⟩
 clear b5 t5 B2 WT
 go_wp2_with fail
 exact bodyPost_end (results_none rfl _ _) rfl ⟨⟨_, rfl⟩, B5.out, T5.out⟩)
theorem bMark_neg (N : Nat) (w : World) (p : Nat) (x : Sn) (vg vt vm vl : Value) (h : Bd N w p x vg vt vm vl) (c : Int) (hp : x.cur.pend = false) (hcol : x.cur.col = 0) :
  Calls Tryz.prog 127 #[.pointer (some ⟨p, 0, none⟩), .int .i32 c] w fun e w' => (∃ v, e = .returned v) ∧ Bd N w' p x vg vt vm vl ∧ Below N w w' := by
 have C5 : w.cell? ⟨p, 5, none⟩ = some (.bool false) := by rw [← hp]; exact h.box.cell 5
 have C4 : w.cell? ⟨p, 4, none⟩ = some (.int .i64 0) := by rw [← hcol]; exact h.box.cell 4
 have HB := Box'.mk h
 clear h hp hcol
 go_enter Tryz.func127, Tryz.ntmps127
 go_wp2_with fail
 exact bodyPost_ret (results_none rfl _ _) rfl ⟨⟨_, rfl⟩, HB.out, Below.refl _ _⟩
/-- A mark on the character that was printed last. -/
def mkS (x : Sn) (c : Int) : Sn :=
 if (if x.cur.pend then x.cur.col else x.cur.col - 1) < 0 then x
 else if (cat x.g.c (x.cur.row.toNat * x.g.co.toNat + (if x.cur.pend then x.cur.col else x.cur.col - 1).toNat)).wd = 0 then wtF x ((if x.cur.pend then x.cur.col else x.cur.col - 1) - 1) [mkC (cat x.g.c (x.cur.row.toNat * x.g.co.toNat + ((if x.cur.pend then x.cur.col else x.cur.col - 1) - 1).toNat)) c]
 else wtF x (if x.cur.pend then x.cur.col else x.cur.col - 1) [mkC (cat x.g.c (x.cur.row.toNat * x.g.co.toNat + (if x.cur.pend then x.cur.col else x.cur.col - 1).toNat)) c]
theorem not_half {x : Sn} {cols rows : Nat} (g : Gd x cols rows) (row : Nat) (hr : row < rows) : ¬ (cat x.g.c (row * cols)).wd = 0 := by
 intro h
 have := (mayG_rows cols rows x.g.c g.c1 g.c2 g.r1 g.r2 g.hl).1 g.G row hr 0 g.c1
 have e : cat (rowF x.g.c cols row) 0 = cat x.g.c (row * cols) := by rw [cat_row _ _ _ _ g.c1, Nat.add_zero]
 unfold okAt hfAt at this
 rw [e, h] at this
 simp at this
theorem bMark_any (N : Nat) (w : World) (p : Nat) (x : Sn) (vg vt vm vl : Value) (h : Bd N w p x vg vt vm vl) (hN : mayN x = true) (c : Int) :
  Calls Tryz.prog 127 #[.pointer (some ⟨p, 0, none⟩), .int .i32 c] w fun e w' => (∃ v, e = .returned v) ∧ Bd N w' p (mkS x c) vg vt vm vl ∧ Below N w w' := by
 obtain ⟨cols, rows, g⟩ := gd_of (may_G hN)
 have m := may_Mm hN
 obtain ⟨row, er⟩ := Int.eq_ofNat_of_zero_le m.w1
 have hr : row < rows := by have := m.w2; have := g.er; omega
 have hpos : 0 < x.g.c.length := by rw [g.hl]; exact Nat.mul_pos g.c1 g.r1
 obtain ⟨b, cap, sp, rfl, hNb, hcap, hrc⟩ := h.own.g.row hpos
 have hfit : row * cols + cols ≤ x.g.c.length := by rw [g.hl]; exact fits hr
 have hm : (row + 1) * cols = row * cols + cols := by rw [Nat.add_mul, Nat.one_mul]
 have RW : ∀ wq, Below w.heap.size w wq → Calls Tryz.prog 166 #[.pointer (some ⟨p, 0, none⟩), .int .i64 (row : Int), .int .i64 (row : Int)] wq fun e w' => e = .returned (.agg #[.int .i64 (cols : Int), .int .i64 1, .slice (some ⟨b, row * cols * 15, none⟩) cols cols]) ∧ Below wq.heap.size wq w' := fun wq hb => by
  have q := bRows_any N wq p x b 0 x.g.c.length cap vt vm vl (h.below hb) cols row row g.ec g.c1 g.c2 (Nat.le_refl _) (by have := g.r2; omega) (by rw [hm]; omega)
  rw [hm, Nat.add_sub_cancel_left, Nat.zero_add, show (row : Int) - (row : Int) + 1 = 1 by omega] at q
  exact q
 have hco := g.ec
 have l1 := m.l1
 have l2 := m.l2
 have c2 := g.c2
 have nh := not_half g row hr
 have E : ∀ k : Nat, x.cur.row.toNat * x.g.co.toNat + k = row * cols + k := fun k => by rw [er, hco, Int.toNat_natCast, Int.toNat_natCast]
 unfold mkS
 rw [E, E]
 cases hp : x.cur.pend with
 | true =>
  rw [if_pos rfl]
  obtain ⟨k, ek⟩ := Int.eq_ofNat_of_zero_le l1
  rw [ek, if_neg (by omega), Int.toNat_natCast]
  by_cases hw : (cat x.g.c (row * cols + k)).wd = 0
  ·rw [if_pos hw]
   cases k with
   | zero => exact absurd hw (by rw [Nat.add_zero]; exact nh)
   | succ j =>
    rw [show ((j + 1 : Nat) : Int) - 1 = (j : Int) by omega, Int.toNat_natCast]
    exact bMark_h N w p x b cap vt vm vl sp h hrc hN c row cols (row * cols) j er rfl (by omega) c2 hfit hco RW (.inl ⟨hp, by rw [ek]; omega⟩) hw
  ·rw [if_neg hw]
   exact bMark_w N w p x b cap vt vm vl sp h hrc hN c row cols (row * cols) k er rfl (by omega) c2 hfit hco RW (.inl ⟨hp, ek⟩) hw
 | false =>
  rw [if_neg (show ¬ (false = true) by decide)]
  by_cases h0 : x.cur.col = 0
  ·rw [if_pos (by omega)]
   exact bMark_neg N w p x _ _ _ _ h c hp h0
  ·obtain ⟨k, ek⟩ := Int.eq_ofNat_of_zero_le (show 0 ≤ x.cur.col - 1 by omega)
   rw [ek, if_neg (by omega), Int.toNat_natCast]
   by_cases hw : (cat x.g.c (row * cols + k)).wd = 0
   ·rw [if_pos hw]
    cases k with
    | zero => exact absurd hw (by rw [Nat.add_zero]; exact nh)
    | succ j =>
     rw [show ((j + 1 : Nat) : Int) - 1 = (j : Int) by omega, Int.toNat_natCast]
     exact bMark_h N w p x b cap vt vm vl sp h hrc hN c row cols (row * cols) j er rfl (by omega) c2 hfit hco RW (.inr ⟨hp, by omega⟩) hw
   ·rw [if_neg hw]
    exact bMark_w N w p x b cap vt vm vl sp h hrc hN c row cols (row * cols) k er rfl (by omega) c2 hfit hco RW (.inr ⟨hp, by omega⟩) hw
theorem wpList_appT {ops : Array Oper} {rest : List Oper} {o : Oper} {a : Act} {w : World} {Q : Exit → Act → World → Prop} (hgd : o.guard = none) (s x : Operand)
  (ho : o.op = .call { callee := .builtin .append, args := #[s, x], argTypes := #[27, 27] }) (N : Nat) (hN : N ≤ w.heap.size) (b n : Nat)
  (d : List Int) (hs : a.eval s = .slice (some ⟨b, 0, none⟩) n n) (hown : OwnN N w (.slice (some ⟨b, 0, none⟩) n n) d) (ad : Addr) (m c : Nat) (l : List Int) (hx : a.eval x = .slice (some ad) m c) (hm : l.length = m)
  (hc : ∀ j u, (l.map (Value.int .i64))[j]? = some u → w.cell? (ad.add j) = some u) (hmax : d.length + l.length ≤ 17592186044416)
  (h : ∀ v' w', OwnN N w' v' (d ++ l) → Tc b w w' → wpList Tryz.prog ops Q rest (a.put o.dst v') w') : wpList Tryz.prog ops Q (o :: rest) a w := by
 obtain ⟨i, h1, h2, h3, h4⟩ := info3N
 obtain ⟨v', w', hr, g2, g3, _⟩ := run_append_own (P := Tryz.prog) w N 27 o.type 3 i _ 1 8 Tryz.underlying27 h1 h2 h3 h4 rfl (by decide) (.slice (some ⟨b, 0, none⟩) n n) d.length _ hown ad m c (l.map (Value.int .i64)) (by rw [List.length_map, hm, Nat.mul_one]) hc (one_In l) (by unfold maxLen; omega) (by omega) hN
 have g2' : OwnN N w' v' (d ++ l) := by unfold OwnN; rw [List.length_append, List.map_append, hm]; exact g2
 have hbl : Tc b w w' := ⟨g3.os, g3.tape, g3.output, g3.size, fun k hk hb => g3.block k hk (fun e => hb (by simpa [Value.ownBlock] using e))⟩
 refine wpList_plain hgd fun K hK => ?_
 unfold Oper.wp execOp
 simp only [ho, resolve, invoke, builtin, Sem.run_bind, Sem.run_pure, Result.andThen_ok, List.map_toArray, List.map_cons, List.map_nil, hs, hx, hr]
 exact hK _ _ (h v' w' g2' hbl)
theorem insert_end (N b q n : Nat) (d : List Int) (c : Int) (w : World) (hd : d.length = n) (hn : n ≤ 100000) (hown : OwnN N w (.slice (some ⟨b, 0, none⟩) n n) d) (hN : N ≤ w.heap.size) (hq : w.cell? ⟨q, 0, none⟩ = some (.int .i64 c)) :
  Calls Tryz.prog 142 #[.slice (some ⟨b, 0, none⟩) n n, .int .i64 (n : Int), .slice (some ⟨q, 0, none⟩) 1 1] w fun e w' => ∃ v, e = .returned v ∧ OwnN N w' v (d ++ [c]) ∧ Tc b w w' := by
 have HO := Box'.mk hown
 have HN := Box'.mk hN
 have CQ : Box' (∀ j u, (([c] : List Int).map (Value.int .i64))[j]? = some u → w.cell? ((⟨q, 0, none⟩ : Addr).add j) = some u) := ⟨fun j v hv => by
  have hj : j = 0 := by have := (List.getElem?_eq_some_iff.1 hv).1; simp at this; omega
  subst hj
  rw [Addr.add_mid, Nat.zero_add, hq, ← hv]
  rfl⟩
 have HM : Box' (d.length + ([c] : List Int).length ≤ 17592186044416) := ⟨by simp; omega⟩
 clear hown hN hq hd
 go_enter Tryz.func142, Tryz.ntmps142
 go_wp2_with ((refine wpList_appT rfl (.tmp 23) (.tmp 24) rfl N HN.out b n d rfl HO.out ⟨q, 0, none⟩ 1 1 [c] rfl rfl CQ.out HM.out ?_; intro v' w2 o2 t2))
 have O2 := Box'.mk o2
 have T2 := Box'.mk t2
 clear o2 t2
 go_wp2_with fail
 go_ret
 exact ⟨_, rfl, O2.out, T2.out⟩
theorem insert_any (N b q n i : Nat) (d : List Int) (c : Int) (w : World) (hd : d.length = n) (hn : n ≤ 100000) (hi : i ≤ n) (hown : OwnN N w (.slice (some ⟨b, 0, none⟩) n n) d) (hN : N ≤ w.heap.size) (hq : w.cell? ⟨q, 0, none⟩ = some (.int .i64 c)) (hqs : q < w.heap.size) :
  Calls Tryz.prog 142 #[.slice (some ⟨b, 0, none⟩) n n, .int .i64 (i : Int), .slice (some ⟨q, 0, none⟩) 1 1] w fun e w' => ∃ v, e = .returned v ∧ OwnN N w' v (d.take i ++ c :: d.drop i) ∧ Tc b w w' := by
 rcases Nat.lt_or_ge i n with h | h
 ·have hcl := hown.cells
  obtain ⟨a, cp, e, hcp, hc⟩ := hcl
  have hb := (hown.lt b rfl).2
  refine (insert_mid b q n i d c w hd hn h (fun j hj => ?_) ⟨hb, hqs⟩ hq).mono ?_
  ·obtain ⟨b', e', hb', hc'⟩ := hc j (by omega)
   rw [e'] at e
   simp only [Value.slice.injEq, Option.some.injEq, Addr.mk.injEq] at e
   rw [e.1.1]
   exact hc'
  ·rintro e w' ⟨v, rfl, h1, h2⟩
   exact ⟨v, rfl, ownsRow_down h1 hN, Tc.of h2⟩
 ·obtain rfl : i = n := by omega
  refine (insert_end N b q i d c w hd hn hown hN hq).mono ?_
  rintro e w' ⟨v, rfl, h1, h2⟩
  refine ⟨v, rfl, ?_, h2⟩
  rw [← hd, List.take_length, List.drop_length]
  exact h1
theorem putCells_all (d : Array Int) (c : Array Value) (h : d.size = c.size) : Sort.putCells (Value.int .i64) 0 d c = d.map (Value.int .i64) := by
 apply Array.ext
 ·simp [Sort.putCells, h]
 ·intro i h1 h2
  have hi : i < d.size := by simpa using h2
  simp [Sort.putCells, hi]
theorem row_put {w : World} {b : Nat} {cur : Array Value} (hr : Row w b 3 cur) (q : Nat) (d : Array Int) (h : d.size = cur.size) : Row (Sort.putRow (Value.int .i64) (Sort.ahead w q) b 0 d) b 3 (d.map (Value.int .i64)) := by
 have hh : w.heap[b]? = some (.cells cur 3 (0, 0)) := hr
 have : (Sort.putRow (Value.int .i64) (Sort.ahead w q) b 0 d).heap[b]? = some (.cells (Sort.putCells (Value.int .i64) 0 d cur) 3 (0, 0)) := by
  simp [Sort.putRow, Sort.mapBlock, Sort.ahead, Array.getElem?_modify, hh, Sort.onCells]
 rw [putCells_all d cur h] at this
 exact this
theorem tc_put (w : World) (b q : Nat) (d : Array Int) : Tc b w (Sort.putRow (Value.int .i64) (Sort.ahead w q) b 0 d) := by
 refine ⟨rfl, rfl, rfl, ?_, fun k hk hb => ?_⟩
 ·simp [Sort.putRow, Sort.mapBlock, Sort.ahead]
 ·simp [Sort.putRow, Sort.mapBlock, Sort.ahead, Array.getElem?_modify, Ne.symm hb]
theorem delete_any (N b n i : Nat) (d : List Int) (w : World) (hd : d.length = n) (hn : n ≤ 100000) (hi : i < n) (hown : OwnN N w (.slice (some ⟨b, 0, none⟩) n n) d) :
  Calls Tryz.prog 143 #[.slice (some ⟨b, 0, none⟩) n n, .int .i64 (i : Int), .int .i64 ((i + 1 : Nat) : Int)] w fun e w' => ∃ v, e = .returned v ∧ OwnN N w' v (d.take i ++ d.drop (i + 1)) ∧ Tc b w w' := by
 rcases hown.2 with ⟨e1, e2⟩ | ⟨g, cap, cur, e1, e2, e3, e4, e5, e6, e7⟩
 ·cases e1
 ·simp only [Value.slice.injEq, Option.some.injEq, Addr.mk.injEq] at e1
  obtain ⟨⟨rfl, _⟩, e1a, rfl⟩ := e1
  have hr : Row w b 3 cur := e3
  have hcs : cur.size = n := by rw [e6, Nat.mul_one]
  have hH : Sort.Holds (Value.int .i64) w b 0 d.toArray := fun j hj => by
   have hj' : j < d.length := by simpa using hj
   refine ⟨?_, hr.frozen _⟩
   rw [Nat.zero_add]
   have hq : w.cell? ⟨b, j, none⟩ = cur[j]? := hr.cell j
   rw [hq]
   have h7 : (cur.toList.take (d.length * 1))[j]? = (d.map (Value.int .i64))[j]? := by rw [e7]
   rw [List.getElem?_take, if_pos (by omega), List.getElem?_map, List.getElem?_eq_getElem hj', Array.getElem?_toList] at h7
   rw [h7]
   simp [hj']
  have q := Any.slices_Delete_int Tryz.laysNm223 b 0 n i (i + 1) d w hH (by omega) (by omega) (by omega) (by omega)
  rw [hd] at q
  refine Calls.mono q ?_
  rintro e w' ⟨rfl, q2, rfl⟩
  have hl : (d.take i ++ d.drop (i + 1) ++ List.replicate (i + 1 - i) 0).toArray.size = cur.size := by simp; omega
  refine ⟨_, rfl, ⟨by simp, .inr ⟨b, n, _, ?_, e2, row_put hr q2 _ hl, ?_, e5, ?_, ?_⟩⟩, tc_put w b q2 _⟩
  ·have : n - (i + 1 - i) = (d.take i ++ d.drop (i + 1)).length := by simp; omega
   rw [this]
  ·simp; omega
  ·rw [Array.size_map, hl, e6]
  ·rw [Array.toList_map, List.toList_toArray, List.map_append, Nat.mul_one]
   have hl2 : ((d.take i ++ d.drop (i + 1)).map (Value.int .i64)).length = (d.take i ++ d.drop (i + 1)).length := List.length_map ..
   rw [← hl2]
   exact List.take_left
theorem ownsRow_tcT {N e k : Nat} {w w' : World} {v : Value} {n : Nat} {xs : List Value} {b : Nat} {cur : Array Value} (h : w.ownsRow N e k v n xs) (ht : Tc b w w') (hb : Row w b 3 cur) (hne : e ≠ 3) : w'.ownsRow N e k v n xs := by
 refine ⟨h.1, ?_⟩
 rcases h.2 with h2 | ⟨g, cap, cu, e1, e2, e3, e4⟩
 ·exact .inl h2
 ·have hg : g ≠ b := by
   intro ee
   subst ee
   have hb' : w.heap[g]? = some (.cells cur 3 (0, 0)) := hb
   rw [e3] at hb'
   simp at hb'
   exact hne hb'.2
  exact .inr ⟨g, cap, cu, e1, e2, by rw [ht.block g (Array.getElem?_eq_some_iff.1 e3).1 hg]; exact e3, e4⟩
/-- The board with other tabulators. -/
theorem Bd.tabs {N : Nat} {w wb : World} {p : Nat} {x : Sn} {vg vm vl : Value} {b n : Nat} (h : Bd N w p x vg (.slice (some ⟨b, 0, none⟩) n n) vm vl) (ht : Tc b w wb) (v : Value) (l : List Int) (hv : OwnN N wb v l) :
  Bd N (wb.setCell ⟨p, 18, none⟩ v) p { x with tabs := l } vg v vm vl := by
 rcases h.own.t.2 with ⟨e1, e2⟩ | ⟨g, cap, cur, e1, e2, e3, e4, e5, e6, e7⟩
 ·cases e1
 ·simp only [Value.slice.injEq, Option.some.injEq, Addr.mk.injEq] at e1
  obtain ⟨⟨rfl, _⟩, e1a, rfl⟩ := e1
  have hb : Row w b 3 cur := e3
  have hpb : p ≠ b := row_neT hb h.box (by decide)
  have hbox := ht.row h.box hpb
  have o1 := ownsRow_setCell (ownsRow_tcT h.own.g ht hb (by decide)) p 116 18 v _ hbox (by decide)
  have o2 := ownsRow_setCell (ownsRow_tcT h.own.m ht hb (by decide)) p 116 18 v _ hbox (by decide)
  have o3 := ownsRow_setCell hv p 116 18 v _ hbox (by decide)
  have o4 := ownsRow_setCell (ownsRow_tcT h.own.l ht hb (by decide)) p 116 18 v _ hbox (by decide)
  exact ⟨hbox.setCell 18 v, h.hp, o1, o2, h.own.gm, o3, o4⟩
theorem Bd.nb {N : Nat} {w : World} {p : Nat} {x : Sn} {vg vm vl : Value} {b n : Nat} (h : Bd N w p x vg (.slice (some ⟨b, 0, none⟩) n n) vm vl) : N ≤ b ∧ b < w.heap.size := h.own.t.lt b rfl
theorem do1_okT (N0 : Nat) (x y : Sn) (vg vt vm vl : Value) (k : Nat) (d0 : Value) (w : World) (hl : Li w.heap.size w x vg vt vm vl) (hb : Bo x) (hN : mayN x = true) (hk : ∀ args w, (callFunc k args).run Tryz.prog w = .ok (.enter k args) w)
  (D : ∀ wx p vg vt vm vl, Below w.heap.size w wx → Bd (w.heap.size + 2) wx p x vg vt vm vl → w.heap.size + 2 ≤ p → (∃ b3, vt = .slice (some ⟨b3, 0, none⟩) x.tabs.length x.tabs.length) → Calls Tryz.prog k #[.pointer (some ⟨p, 0, none⟩), d0] wx fun e w' => (∃ v, e = .returned v) ∧ (∃ vg' vt' vm' vl', Bd N0 w' p y vg' vt' vm' vl') ∧ Below (w.heap.size + 2) wx w') :
  Calls Tryz.prog 67 #[.agg (snA x vg vt vm vl), .func (.func k) #[] #[d0]] w fun e w' => (∃ vg' vt' vm' vl', e = .returned (.tuple #[.agg (snA y vg' vt' vm' vl'), .int .i64 0]) ∧ OwnL N0 w' y vg' vt' vm' vl') ∧ Below w.heap.size w w' := by
 obtain ⟨s1, s2, s3, s4⟩ := may_short hN
 have MY : Box' (∀ wx, Below w.heap.size w wx → Calls Tryz.prog 11 #[.agg (snA x vg vt vm vl)] wx fun e w' => e = .returned (.bool (mayN x)) ∧ Below wx.heap.size wx w') := ⟨fun wx h => smay_any x vg vt vm vl wx (hl.at h) hb⟩
 rw [hN] at MY
 have AN : Box' (∀ wx, Below w.heap.size w wx → Calls Tryz.prog 125 #[.agg (snA x vg vt vm vl)] wx fun e w' => ∃ b1 b2 b3 b4, e = .returned (.agg (snA x (.slice (some ⟨b1, 0, none⟩) x.g.c.length x.g.c.length) (.slice (some ⟨b3, 0, none⟩) x.tabs.length x.tabs.length) (.slice (some ⟨b2, 0, none⟩) x.mn.c.length x.mn.c.length) (.slice (some ⟨b4, 0, none⟩) x.title.length x.title.length))) ∧ Ow wx.heap.size w' x b1 b2 b3 b4 ∧ Below wx.heap.size wx w') := ⟨fun wx h => sano_any x vg vt vm vl wx (hl.at h) s1 s2 s3 s4⟩
 have DD := Box'.mk D
 have HK := Box'.mk hk
 have F := Box'.mk (DoM.begin w (snA x vg vt vm vl))
 have U32 := Box'.mk Tryz.underlying32
 have S32 := Box'.mk s32
 have U116 := Box'.mk Tryz.underlying116
 have S116 := Box'.mk s116
 have SS : Box' (x.g.c.length ≤ 1000000 ∧ x.mn.c.length ≤ 1000000 ∧ x.tabs.length ≤ 1000000 ∧ x.title.length ≤ 1000000) := ⟨⟨s1, s2, s3, s4⟩⟩
 clear hl hb hN s1 s2 s3 s4 D hk
 go_enter Tryz.func67, Tryz.ntmps67
 go_upto_region 1 with (fail)
 generalize ((w.alloc (.cells (snA x vg vt vm vl) 32)).alloc (.cells z32 32)) = w1 at *
 go_wp2_with (first
  | (refine wpList_load_row rfl 32 (.tmp 2) rfl w.heap.size rfl 32 (snA x vg vt vm vl) F.out.r _ U32.out rfl 44 S32.out rfl ?_))
 refine (MY.out _ F.out.be).mono ?_
 rintro e w2 ⟨rfl, hb⟩
 replace F := Box'.mk (F.out.below hb)
 clear hb
 go_wp2_with (first
  | (refine wpList_load_row rfl 32 (.tmp 2) rfl w.heap.size rfl 32 (snA x vg vt vm vl) F.out.r _ U32.out rfl 44 S32.out rfl ?_))
 refine (AN.out _ F.out.be).mono ?_
 rintro e w3 ⟨b1, b2, b3, b4, rfl, ow, hb⟩
 have hs2 := F.out.sz
 replace F := Box'.mk (F.out.below hb)
 have hs3 := F.out.sz
 have RMn : Box' (Room (w3.alloc (.cells z32 116)) w3.heap.size 116 44) := ⟨Room.new _ _ _ _ rfl⟩
 have O4 := Box'.mk (snA_one x (some ⟨b1, 0, none⟩) (some ⟨b3, 0, none⟩) (some ⟨b2, 0, none⟩) (some ⟨b4, 0, none⟩) x.g.c.length x.tabs.length x.mn.c.length x.title.length x.g.c.length x.tabs.length x.mn.c.length x.title.length)
 have BN : Box' (Below w3.heap.size w3 ((w3.alloc (.cells z32 116)).setRow w3.heap.size (snA x (.slice (some ⟨b1, 0, none⟩) x.g.c.length x.g.c.length) (.slice (some ⟨b3, 0, none⟩) x.tabs.length x.tabs.length) (.slice (some ⟨b2, 0, none⟩) x.mn.c.length x.mn.c.length) (.slice (some ⟨b4, 0, none⟩) x.title.length x.title.length)))) := ⟨below_setRow (bR.alloc (Nat.le_refl _) _) (Nat.le_refl _) _⟩
 have F4 := Box'.mk (F.out.below BN.out)
 have P4 : Box' (Bd (w.heap.size + 2) ((w3.alloc (.cells z32 116)).setRow w3.heap.size (snA x (.slice (some ⟨b1, 0, none⟩) x.g.c.length x.g.c.length) (.slice (some ⟨b3, 0, none⟩) x.tabs.length x.tabs.length) (.slice (some ⟨b2, 0, none⟩) x.mn.c.length x.mn.c.length) (.slice (some ⟨b4, 0, none⟩) x.title.length x.title.length))) w3.heap.size x (.slice (some ⟨b1, 0, none⟩) x.g.c.length x.g.c.length) (.slice (some ⟨b3, 0, none⟩) x.tabs.length x.tabs.length) (.slice (some ⟨b2, 0, none⟩) x.mn.c.length x.mn.c.length) (.slice (some ⟨b4, 0, none⟩) x.title.length x.title.length)) := ⟨by
  have i1 := ow.n1
  have i2 := ow.n2
  have i3 := ow.n3
  have i4 := ow.n4
  obtain ⟨s1, s2, s3, s4⟩ := SS.out
  refine ⟨RMn.out.setRow _, by omega, ?_, ?_, ?_, ?_, ?_⟩
  ·exact RC.own (Row.below ow.g BN.out (Row.lt ow.g)) (by omega) s1
  ·exact RC.own (Row.below ow.m BN.out (Row.lt ow.m)) (by omega) s2
  ·intro b h1 h2
   simp only [Value.ownBlock, Option.some.injEq] at h1 h2
   omega
  ·exact row_ownN (ow.t.below BN.out ow.t.lt) (by omega) s3
  ·exact row_ownR (ow.l.below BN.out ow.l.lt) (by omega) s4⟩
 have hp : w.heap.size + 2 ≤ w3.heap.size := hs3
 clear ow hb F hs2 hs3 SS AN MY
 go_upto_region 4 with (first
  | (refine wpList_store_row rfl 116 (.tmp 6) (.tmp 12) rfl w3.heap.size rfl (snA x (.slice (some ⟨b1, 0, none⟩) x.g.c.length x.g.c.length) (.slice (some ⟨b3, 0, none⟩) x.tabs.length x.tabs.length) (.slice (some ⟨b2, 0, none⟩) x.mn.c.length x.mn.c.length) (.slice (some ⟨b4, 0, none⟩) x.title.length x.title.length)) rfl 116 44 RMn.out S116.out rfl O4.out ?_))
 generalize ((w3.alloc (.cells z32 116)).setRow w3.heap.size (snA x (.slice (some ⟨b1, 0, none⟩) x.g.c.length x.g.c.length) (.slice (some ⟨b3, 0, none⟩) x.tabs.length x.tabs.length) (.slice (some ⟨b2, 0, none⟩) x.mn.c.length x.mn.c.length) (.slice (some ⟨b4, 0, none⟩) x.title.length x.title.length))) = w4 at *
 clear RMn BN O4
 generalize w3.heap.size = p at *
 go_wp2_with fail
 rw [HK.out]
 refine (DD.out _ p _ _ _ _ F4.out.be P4.out hp ⟨b3, rfl⟩).mono ?_
 rintro e w5 ⟨⟨v5, rfl⟩, ⟨vg', vt', vm', vl', bd⟩, hb⟩
 have BD := Box'.mk bd
 have RR := Box'.mk (F4.out.rr.below hb (by omega))
 have BE : Box' (Below w.heap.size w w5) := ⟨F4.out.be.trans (hb.mono (by omega))⟩
 have OO := Box'.mk (snA_oneV y vg' vt' vm' vl' (own_sl bd.own.g) (own_sl bd.own.t) (own_sl bd.own.m) (own_sl bd.own.l))
 clear hb bd F4 P4 DD
 go_wp2_with (first
  | (refine wpList_load_row rfl 116 (.tmp 6) rfl p rfl 116 (snA y vg' vt' vm' vl') BD.out.box _ U116.out rfl 44 S116.out rfl ?_)
  | (refine wpList_store_row rfl 32 (.tmp 4) (.tmp 15) rfl (w.heap.size + 1) rfl (snA y vg' vt' vm' vl') rfl 32 44 RR.out S32.out rfl OO.out ?_))
 exact bodyPost_ret (results_sn rfl _ (w.heap.size + 1) rfl _ rfl _ _ (RR.out.setRow _) rfl) rfl ⟨⟨_, _, _, _, rfl, BD.out.own.setRow _ 32 _ RR.out (by decide) (by decide) (by decide)⟩, below_setRow BE.out (by omega) _⟩
/-- A line that was pending is begun. -/
def pnF (x : Sn) : Sn := npF (if x.cur.pend && x.wrap then fdF (c0F x) else x)
def ptF (x : Sn) (c w0 : Int) : Sn := ptD (pnF x) c w0
theorem np_fd (y : Sn) : npF (fdF y) = fdF (npF y) := by
 unfold fdF
 show npF (if y.cur.row = y.bot then rlF y y.top y.bot 1 else if y.cur.row < y.g.ro - 1 then rwF y (y.cur.row + 1) else y) = (if y.cur.row = y.bot then rlF (npF y) y.top y.bot 1 else if y.cur.row < y.g.ro - 1 then rwF (npF y) (y.cur.row + 1) else npF y)
 split
 ·rfl
 ·split <;> rfl
theorem may_pn {x : Sn} (h : mayN x = true) : mayN (pnF x) = true := by
 unfold pnF
 split
 ·rw [np_fd]
  exact may_fd (may_at h x.cur.row 0 (may_Mm h).w1 (may_Mm h).w2 (Int.le_refl _) (may_Mm h).c1)
 ·exact may_np h
theorem bPut_n (N : Nat) (w : World) (p : Nat) (x : Sn) (vg vt vm vl : Value) (h : Bd N w p x vg vt vm vl) (hN : mayN x = true) (c w0 : Int) (hw : w0 = 1 ∨ w0 = 2) (hp : x.cur.pend = false) :
  Calls Tryz.prog 128 #[.pointer (some ⟨p, 0, none⟩), .int .i32 c, .int .i64 w0] w fun e w' => (∃ v, e = .returned v) ∧ Bd N w' p (ptD (npF (x)) c w0) vg vt vm vl ∧ Below N w w' := by
 have MP : Box' (mayN (npF (x)) = true) := ⟨by
  have := may_pn hN
  unfold pnF at this
  rw [hp] at this
  exact this⟩
 have WR : Box' (∀ wx, Bd N wx p x vg vt vm vl → Calls Tryz.prog 169 #[.pointer (some ⟨p, 0, none⟩)] wx fun e w' => (∃ v, e = .returned v) ∧ Bd N w' p (fdF (c0F x)) vg vt vm vl ∧ Below N wx w') := ⟨fun wx hb => bWrap_any N wx p x vg vt vm vl hb (may_Mm hN) (may_G hN) (may_S hN)⟩
 have B0 := Box'.mk h
 have HW := Box'.mk hw
 have c5 : w.cell? ⟨p, 5, none⟩ = some (.bool false) := by rw [← hp]; exact h.box.cell 5
 clear h hN hp hw
 go_enter Tryz.func128, Tryz.ntmps128
 refine wp_seq_k fun K hK => ?_
 have HK := Box'.mk hK
 clear hK
 go_wp2_with fail
 have B1 := B0
 have T1 := Box'.mk (Below.refl N w)
 obtain ⟨w1, e1⟩ : ∃ w1, w1 = w := ⟨w, rfl⟩
 clear c5 WR
 refine HK.out _ _ ?_
 clear HK
 refine wp_seq_k fun K2 hK2 => ?_
 have HK2 := Box'.mk hK2
 clear hK2
 have cc : w.cell? ⟨p, 5, none⟩ = some (.bool _) := B1.out.box.cell 5
 have ff := B1.out.box.frozen 5
 have B2 : Box' (Bd N (w.setCell ⟨p, 5, none⟩ (.bool false)) p (npF (x)) vg vt vm vl) := ⟨B1.out.setCell _ 5 _ rfl rfl rfl rfl rfl⟩
 have T2 : Box' (Below N w (w.setCell ⟨p, 5, none⟩ (.bool false))) := ⟨T1.out.trans (((Tc.refl p w).setCell 5 _).below B1.out.hp (Nat.le_trans B1.out.hp (Nat.le_of_lt B1.out.lt)))⟩
 clear B1 T1
 go_wp2_with fail
 exact HK2.out _ _ (put_t3 N w _ p (npF (x)) vg vt vm vl B2.out T2.out MP.out rfl c w0 HW.out _ _ _ _ _ _ _ _ _ _ _ _ _ _ _ _ _ _ _ _ _ _ _ _ _ _ _ _ _ _ _ _ _ _ _ _ _ _ _ _ _ _ _ _ _ _ _ _ _ _ _ _ _ _ _ _ _ _ _ _ _ _ _ _ _ _ _ _ _ _ _ _ _ _ _ _ _ _ _ _ _ _ _ _ _ _ _ )
theorem bPut_f (N : Nat) (w : World) (p : Nat) (x : Sn) (vg vt vm vl : Value) (h : Bd N w p x vg vt vm vl) (hN : mayN x = true) (c w0 : Int) (hw : w0 = 1 ∨ w0 = 2) (hp : x.cur.pend = true) (hwr : x.wrap = false) :
  Calls Tryz.prog 128 #[.pointer (some ⟨p, 0, none⟩), .int .i32 c, .int .i64 w0] w fun e w' => (∃ v, e = .returned v) ∧ Bd N w' p (ptD (npF (x)) c w0) vg vt vm vl ∧ Below N w w' := by
 have MP : Box' (mayN (npF (x)) = true) := ⟨by
  have := may_pn hN
  unfold pnF at this
  rw [hp, hwr] at this
  exact this⟩
 have WR : Box' (∀ wx, Bd N wx p x vg vt vm vl → Calls Tryz.prog 169 #[.pointer (some ⟨p, 0, none⟩)] wx fun e w' => (∃ v, e = .returned v) ∧ Bd N w' p (fdF (c0F x)) vg vt vm vl ∧ Below N wx w') := ⟨fun wx hb => bWrap_any N wx p x vg vt vm vl hb (may_Mm hN) (may_G hN) (may_S hN)⟩
 have B0 := Box'.mk h
 have HW := Box'.mk hw
 have c5 : w.cell? ⟨p, 5, none⟩ = some (.bool true) := by rw [← hp]; exact h.box.cell 5
 have c19 : w.cell? ⟨p, 19, none⟩ = some (.bool false) := by rw [← hwr]; exact h.box.cell 19
 clear h hN hp hw hwr
 go_enter Tryz.func128, Tryz.ntmps128
 refine wp_seq_k fun K hK => ?_
 have HK := Box'.mk hK
 clear hK
 go_wp2_with fail
 have B1 := B0
 have T1 := Box'.mk (Below.refl N w)
 obtain ⟨w1, e1⟩ : ∃ w1, w1 = w := ⟨w, rfl⟩
 clear c5 WR c19
 refine HK.out _ _ ?_
 clear HK
 refine wp_seq_k fun K2 hK2 => ?_
 have HK2 := Box'.mk hK2
 clear hK2
 have cc : w.cell? ⟨p, 5, none⟩ = some (.bool _) := B1.out.box.cell 5
 have ff := B1.out.box.frozen 5
 have B2 : Box' (Bd N (w.setCell ⟨p, 5, none⟩ (.bool false)) p (npF (x)) vg vt vm vl) := ⟨B1.out.setCell _ 5 _ rfl rfl rfl rfl rfl⟩
 have T2 : Box' (Below N w (w.setCell ⟨p, 5, none⟩ (.bool false))) := ⟨T1.out.trans (((Tc.refl p w).setCell 5 _).below B1.out.hp (Nat.le_trans B1.out.hp (Nat.le_of_lt B1.out.lt)))⟩
 clear B1 T1
 go_wp2_with fail
 exact HK2.out _ _ (put_t3 N w _ p (npF (x)) vg vt vm vl B2.out T2.out MP.out rfl c w0 HW.out _ _ _ _ _ _ _ _ _ _ _ _ _ _ _ _ _ _ _ _ _ _ _ _ _ _ _ _ _ _ _ _ _ _ _ _ _ _ _ _ _ _ _ _ _ _ _ _ _ _ _ _ _ _ _ _ _ _ _ _ _ _ _ _ _ _ _ _ _ _ _ _ _ _ _ _ _ _ _ _ _ _ _ _ _ _ _ )
theorem bPut_t (N : Nat) (w : World) (p : Nat) (x : Sn) (vg vt vm vl : Value) (h : Bd N w p x vg vt vm vl) (hN : mayN x = true) (c w0 : Int) (hw : w0 = 1 ∨ w0 = 2) (hp : x.cur.pend = true) (hwr : x.wrap = true) :
  Calls Tryz.prog 128 #[.pointer (some ⟨p, 0, none⟩), .int .i32 c, .int .i64 w0] w fun e w' => (∃ v, e = .returned v) ∧ Bd N w' p (ptD (npF (fdF (c0F x))) c w0) vg vt vm vl ∧ Below N w w' := by
 have MP : Box' (mayN (npF (fdF (c0F x))) = true) := ⟨by
  have := may_pn hN
  unfold pnF at this
  rw [hp, hwr] at this
  exact this⟩
 have WR : Box' (∀ wx, Bd N wx p x vg vt vm vl → Calls Tryz.prog 169 #[.pointer (some ⟨p, 0, none⟩)] wx fun e w' => (∃ v, e = .returned v) ∧ Bd N w' p (fdF (c0F x)) vg vt vm vl ∧ Below N wx w') := ⟨fun wx hb => bWrap_any N wx p x vg vt vm vl hb (may_Mm hN) (may_G hN) (may_S hN)⟩
 have B0 := Box'.mk h
 have HW := Box'.mk hw
 have c5 : w.cell? ⟨p, 5, none⟩ = some (.bool true) := by rw [← hp]; exact h.box.cell 5
 have c19 : w.cell? ⟨p, 19, none⟩ = some (.bool true) := by rw [← hwr]; exact h.box.cell 19
 clear h hN hp hw hwr
 go_enter Tryz.func128, Tryz.ntmps128
 refine wp_seq_k fun K hK => ?_
 have HK := Box'.mk hK
 clear hK
 go_wp2_with fail
 refine (WR.out _ B0.out).mono ?_
 rintro e w1 ⟨⟨v1, rfl⟩, b1, t1⟩
 have B1 := Box'.mk b1
 have T1 := Box'.mk t1
 clear b1 t1 B0 c5 c19 WR
 go_wp2_with fail
 refine HK.out _ _ ?_
 clear HK
 refine wp_seq_k fun K2 hK2 => ?_
 have HK2 := Box'.mk hK2
 clear hK2
 have cc : w1.cell? ⟨p, 5, none⟩ = some (.bool _) := B1.out.box.cell 5
 have ff := B1.out.box.frozen 5
 have B2 : Box' (Bd N (w1.setCell ⟨p, 5, none⟩ (.bool false)) p (npF (fdF (c0F x))) vg vt vm vl) := ⟨B1.out.setCell _ 5 _ rfl rfl rfl rfl rfl⟩
 have T2 : Box' (Below N w (w1.setCell ⟨p, 5, none⟩ (.bool false))) := ⟨T1.out.trans (((Tc.refl p w1).setCell 5 _).below B1.out.hp (Nat.le_trans B1.out.hp (Nat.le_of_lt B1.out.lt)))⟩
 clear B1 T1
 go_wp2_with fail
 exact HK2.out _ _ (put_t3 N w _ p (npF (fdF (c0F x))) vg vt vm vl B2.out T2.out MP.out rfl c w0 HW.out _ _ _ _ _ _ _ _ _ _ _ _ _ _ _ _ _ _ _ _ _ _ _ _ _ _ _ _ _ _ _ _ _ _ _ _ _ _ _ _ _ _ _ _ _ _ _ _ _ _ _ _ _ _ _ _ _ _ _ _ _ _ _ _ _ _ _ _ _ _ _ _ _ _ _ _ _ _ _ _ _ _ _ _ _ _ _ )
theorem bPut_any (N : Nat) (w : World) (p : Nat) (x : Sn) (vg vt vm vl : Value) (h : Bd N w p x vg vt vm vl) (hN : mayN x = true) (c w0 : Int) (hw : w0 = 1 ∨ w0 = 2) :
  Calls Tryz.prog 128 #[.pointer (some ⟨p, 0, none⟩), .int .i32 c, .int .i64 w0] w fun e w' => (∃ v, e = .returned v) ∧ Bd N w' p (ptF x c w0) vg vt vm vl ∧ Below N w w' := by
 unfold ptF pnF
 cases hp : x.cur.pend with
 | false => exact bPut_n N w p x vg vt vm vl h hN c w0 hw hp
 | true =>
  cases hwr : x.wrap with
  | false => exact bPut_f N w p x vg vt vm vl h hN c w0 hw hp hwr
  | true => exact bPut_t N w p x vg vt vm vl h hN c w0 hw hp hwr
/-- Print. -/
def prS (x : Sn) (c : Int) : Sn := if ofF c = 0 then mkS x c else if ofF c = 1 ∨ ofF c = 2 then ptF x c (ofF c) else x
theorem bPrint_0 (N : Nat) (w : World) (p : Nat) (x : Sn) (vg vt vm vl : Value) (h : Bd N w p x vg vt vm vl) (hN : mayN x = true) (c : Int) (ho : ofF c = 0) :
  Calls Tryz.prog 73 #[.pointer (some ⟨p, 0, none⟩), .int .i32 c] w fun e w' => (∃ v, e = .returned v) ∧ Bd N w' p (mkS x c) vg vt vm vl ∧ Below N w w' := by
 have OF := Box'.mk (of_any c w)
 have B0 := Box'.mk h
 have NW : Box' (N ≤ w.heap.size) := ⟨Nat.le_trans h.hp (Nat.le_of_lt h.lt)⟩
 have CL : Box' (∀ wx, Bd N wx p x vg vt vm vl → Calls Tryz.prog 127 #[.pointer (some ⟨p, 0, none⟩), .int .i32 c] wx fun e w' => (∃ v, e = .returned v) ∧ Bd N w' p (mkS x c) vg vt vm vl ∧ Below N wx w') := ⟨fun wx hb => bMark_any N wx p x vg vt vm vl hb hN c⟩
 rw [ho] at OF
 clear h hN ho
 go_enter Tryz.func73, Tryz.ntmps73
 go_wp2_with fail
 refine OF.out.mono ?_
 rintro e w1 ⟨rfl, hb1⟩
 have B1 := Box'.mk (B0.out.below hb1)
 have T1 : Box' (Below N w w1) := ⟨hb1.mono NW.out⟩
 clear hb1 OF B0
 go_wp2_with fail
 refine (CL.out _ B1.out).mono ?_
 rintro e w2 ⟨⟨v2, rfl⟩, b2, t2⟩
 have B2 := Box'.mk b2
 have T2 : Box' (Below N w w2) := ⟨T1.out.trans t2⟩
 clear b2 t2 B1 T1 CL
 go_wp2_with fail
 exact bodyPost_end (results_none rfl _ _) rfl ⟨⟨_, rfl⟩, B2.out, T2.out⟩
theorem bPrint_1 (N : Nat) (w : World) (p : Nat) (x : Sn) (vg vt vm vl : Value) (h : Bd N w p x vg vt vm vl) (hN : mayN x = true) (c : Int) (ho : ofF c = 1) :
  Calls Tryz.prog 73 #[.pointer (some ⟨p, 0, none⟩), .int .i32 c] w fun e w' => (∃ v, e = .returned v) ∧ Bd N w' p (ptF x c 1) vg vt vm vl ∧ Below N w w' := by
 have OF := Box'.mk (of_any c w)
 have B0 := Box'.mk h
 have NW : Box' (N ≤ w.heap.size) := ⟨Nat.le_trans h.hp (Nat.le_of_lt h.lt)⟩
 have CL : Box' (∀ wx, Bd N wx p x vg vt vm vl → Calls Tryz.prog 128 #[.pointer (some ⟨p, 0, none⟩), .int .i32 c, .int .i64 1] wx fun e w' => (∃ v, e = .returned v) ∧ Bd N w' p (ptF x c 1) vg vt vm vl ∧ Below N wx w') := ⟨fun wx hb => bPut_any N wx p x vg vt vm vl hb hN c 1 (.inl rfl)⟩
 rw [ho] at OF
 clear h hN ho
 go_enter Tryz.func73, Tryz.ntmps73
 go_wp2_with fail
 refine OF.out.mono ?_
 rintro e w1 ⟨rfl, hb1⟩
 have B1 := Box'.mk (B0.out.below hb1)
 have T1 : Box' (Below N w w1) := ⟨hb1.mono NW.out⟩
 clear hb1 OF B0
 go_wp2_with fail
 refine (CL.out _ B1.out).mono ?_
 rintro e w2 ⟨⟨v2, rfl⟩, b2, t2⟩
 have B2 := Box'.mk b2
 have T2 : Box' (Below N w w2) := ⟨T1.out.trans t2⟩
 clear b2 t2 B1 T1 CL
 go_wp2_with fail
 exact bodyPost_end (results_none rfl _ _) rfl ⟨⟨_, rfl⟩, B2.out, T2.out⟩
theorem bPrint_2 (N : Nat) (w : World) (p : Nat) (x : Sn) (vg vt vm vl : Value) (h : Bd N w p x vg vt vm vl) (hN : mayN x = true) (c : Int) (ho : ofF c = 2) :
  Calls Tryz.prog 73 #[.pointer (some ⟨p, 0, none⟩), .int .i32 c] w fun e w' => (∃ v, e = .returned v) ∧ Bd N w' p (ptF x c 2) vg vt vm vl ∧ Below N w w' := by
 have OF := Box'.mk (of_any c w)
 have B0 := Box'.mk h
 have NW : Box' (N ≤ w.heap.size) := ⟨Nat.le_trans h.hp (Nat.le_of_lt h.lt)⟩
 have CL : Box' (∀ wx, Bd N wx p x vg vt vm vl → Calls Tryz.prog 128 #[.pointer (some ⟨p, 0, none⟩), .int .i32 c, .int .i64 2] wx fun e w' => (∃ v, e = .returned v) ∧ Bd N w' p (ptF x c 2) vg vt vm vl ∧ Below N wx w') := ⟨fun wx hb => bPut_any N wx p x vg vt vm vl hb hN c 2 (.inr rfl)⟩
 rw [ho] at OF
 clear h hN ho
 go_enter Tryz.func73, Tryz.ntmps73
 go_wp2_with fail
 refine OF.out.mono ?_
 rintro e w1 ⟨rfl, hb1⟩
 have B1 := Box'.mk (B0.out.below hb1)
 have T1 : Box' (Below N w w1) := ⟨hb1.mono NW.out⟩
 clear hb1 OF B0
 go_wp2_with fail
 refine (CL.out _ B1.out).mono ?_
 rintro e w2 ⟨⟨v2, rfl⟩, b2, t2⟩
 have B2 := Box'.mk b2
 have T2 : Box' (Below N w w2) := ⟨T1.out.trans t2⟩
 clear b2 t2 B1 T1 CL
 go_wp2_with fail
 exact bodyPost_end (results_none rfl _ _) rfl ⟨⟨_, rfl⟩, B2.out, T2.out⟩
theorem bPrint_no (N : Nat) (w : World) (p : Nat) (x : Sn) (vg vt vm vl : Value) (h : Bd N w p x vg vt vm vl) (hN : mayN x = true) (c : Int) (h0 : ¬ ofF c = 0) (h1 : ¬ ofF c = 1) (h2 : ¬ ofF c = 2) :
  Calls Tryz.prog 73 #[.pointer (some ⟨p, 0, none⟩), .int .i32 c] w fun e w' => (∃ v, e = .returned v) ∧ Bd N w' p (x) vg vt vm vl ∧ Below N w w' := by
 have OF := Box'.mk (of_any c w)
 have B0 := Box'.mk h
 have NW : Box' (N ≤ w.heap.size) := ⟨Nat.le_trans h.hp (Nat.le_of_lt h.lt)⟩
 generalize ofF c = z at *
 clear h hN
 go_enter Tryz.func73, Tryz.ntmps73
 go_wp2_with fail
 refine OF.out.mono ?_
 rintro e w1 ⟨rfl, hb1⟩
 have B1 := Box'.mk (B0.out.below hb1)
 have T1 : Box' (Below N w w1) := ⟨hb1.mono NW.out⟩
 clear hb1 OF B0
 go_wp2_with fail
 exact bodyPost_end (results_none rfl _ _) rfl ⟨⟨_, rfl⟩, B1.out, T1.out⟩
theorem bPrint_any (N : Nat) (w : World) (p : Nat) (x : Sn) (vg vt vm vl : Value) (h : Bd N w p x vg vt vm vl) (hN : mayN x = true) (c : Int) :
  Calls Tryz.prog 73 #[.pointer (some ⟨p, 0, none⟩), .int .i32 c] w fun e w' => (∃ v, e = .returned v) ∧ Bd N w' p (prS x c) vg vt vm vl ∧ Below N w w' := by
 unfold prS
 by_cases h0 : ofF c = 0
 ·rw [if_pos h0]; exact bPrint_0 N w p x vg vt vm vl h hN c h0
 rw [if_neg h0]
 by_cases h1 : ofF c = 1
 ·rw [if_pos (.inl h1), h1]; exact bPrint_1 N w p x vg vt vm vl h hN c h1
 by_cases h2 : ofF c = 2
 ·rw [if_pos (.inr h2), h2]; exact bPrint_2 N w p x vg vt vm vl h hN c h2
 rw [if_neg (by omega)]
 exact bPrint_no N w p x vg vt vm vl h hN c h0 h1 h2
theorem print1_any (N : Nat) (w : World) (p : Nat) (x : Sn) (vg vt vm vl : Value) (h : Bd N w p x vg vt vm vl) (hN : mayN x = true) (c : Nat) (n : Int) (hr : Row w c 21 #[.int .i32 n]) :
  Calls Tryz.prog 72 #[.pointer (some ⟨p, 0, none⟩), .pointer (some ⟨c, 0, none⟩)] w fun e w' => (∃ v, e = .returned v) ∧ Bd N w' p (prS x n) vg vt vm vl ∧ Below N w w' := by
 have c0 : w.cell? ⟨c, 0, none⟩ = some (.int .i32 n) := hr.cell 0
 have PL := Box'.mk (bPrint_any N w p x vg vt vm vl h hN n)
 clear h hr hN
 go_enter Tryz.func72, Tryz.ntmps72
 go_wp2_with fail
 refine PL.out.mono ?_
 rintro e w2 ⟨⟨v, rfl⟩, h2, h3⟩
 have H2 := Box'.mk h2
 have H3 := Box'.mk h3
 clear h2 h3 c0
 go_wp2_with fail
 exact bodyPost_end (results_none rfl _ _) rfl ⟨⟨_, rfl⟩, H2.out, H3.out⟩
theorem Print_dr (x : Sn) (vg vt vm vl : Value) (n : Int) (w : World) (hl : Li w.heap.size w x vg vt vm vl) (hb : Bo x) :
  Calls Tryz.prog 21 #[.agg (snA x vg vt vm vl), .int .i32 n] w fun e w' => DR w.heap.size w' e (if mayN x then some (prS x n) else none) ∧ Below w.heap.size w w' := by
 have DO : Box' (∀ wx, Below w.heap.size w wx → w.heap.size + 3 ≤ wx.heap.size → Row wx (w.heap.size + 1) 21 #[.int .i32 n] → Calls Tryz.prog 67 #[.agg (snA x vg vt vm vl), .func (.func 72) #[] #[.pointer (some ⟨w.heap.size + 1, 0, none⟩)]] wx fun e w' => DR wx.heap.size w' e (if mayN x then some (prS x n) else none) ∧ Below wx.heap.size wx w') := ⟨fun wx hbe hsz r0 => by
  cases hN : mayN x with
  | false => exact do1_no x vg vt vm vl 72 (.pointer (some ⟨w.heap.size + 1, 0, none⟩)) wx (hl.at hbe) hb hN
  | true =>
   exact do1_ok x (prS x n) vg vt vm vl 72 (.pointer (some ⟨w.heap.size + 1, 0, none⟩)) wx (hl.at hbe) hb hN (fun _ _ => rfl) (fun wy p vg vt vm vl hby bd hp => by
   have r0 := r0.below hby (by omega)
   refine (print1_any (wx.heap.size + 2) wy p x vg vt vm vl bd hN (w.heap.size + 1) n r0).mono ?_
   rintro e w' ⟨h1, h2, h3⟩
   exact ⟨h1, ⟨_, _, _, _, h2⟩, h3⟩)⟩
 have F := Box'.mk (Wr1.begin w (snA x vg vt vm vl) 21 (.int .i32 n))
 have U32 := Box'.mk Tryz.underlying32
 have S32 := Box'.mk s32
 clear hl hb
 generalize (if mayN x then some (prS x n) else none) = r at *
 go_enter Tryz.func21, Tryz.ntmps21
 go_upto_region 1 with (fail)
 generalize (((w.alloc (.cells (snA x vg vt vm vl) 32)).alloc (.cells #[.int .i32 n] 21)).alloc (.cells z32 32)) = w1 at *
 have hz := F.out.sz
 go_wp2_with (first
  | (refine wpList_load_row rfl 32 (.tmp 2) rfl w.heap.size rfl 32 (snA x vg vt vm vl) F.out.r _ U32.out rfl 44 S32.out rfl ?_))
 refine (DO.out _ F.out.be (by omega) F.out.c0).mono ?_
 rintro e w2 ⟨hd, hb⟩
 obtain ⟨y, yg, yt, ym, yl, er, rfl, ho, hs⟩ := (hd.dn (show w.heap.size ≤ w1.heap.size by omega)).out
 have RR := Box'.mk (F.out.rr.below hb (by omega))
 have BE : Box' (Below w.heap.size w w2) := ⟨F.out.be.trans (hb.mono F.out.be.size)⟩
 have OO := Box'.mk ho
 have HS := Box'.mk hs
 clear hd hb ho hs F DO
 go_wp2_with (first
  | (refine wpList_store_row rfl 32 (.tmp 4) (.tmp 9) rfl (w.heap.size + 2) rfl (snA y yg yt ym yl) rfl 32 44 RR.out S32.out rfl OO.out ?_))
 exact bodyPost_ret (results_sn rfl _ (w.heap.size + 2) rfl _ rfl _ _ (RR.out.setRow _) rfl) rfl ⟨HS.out _ _ RR.out, below_setRow BE.out (by omega) _⟩
theorem Print_no (x : Sn) (vg vt vm vl : Value) (n : Int) (w : World) (hl : Li w.heap.size w x vg vt vm vl) (hb : Bo x) (hN : mayN x = false) :
  Calls Tryz.prog 21 #[.agg (snA x vg vt vm vl), .int .i32 n] w fun e w' => e = .returned sErr ∧ Below w.heap.size w w' := (Print_dr x vg vt vm vl n w hl hb).mono fun e w' q => by
 rw [hN] at q; exact q
theorem Print_ok (x : Sn) (vg vt vm vl : Value) (n : Int) (w : World) (hl : Li w.heap.size w x vg vt vm vl) (hb : Bo x) (hN : mayN x = true) :
  Calls Tryz.prog 21 #[.agg (snA x vg vt vm vl), .int .i32 n] w fun e w' => ScR w.heap.size w' e (prS x n) ∧ Below w.heap.size w w' := (Print_dr x vg vt vm vl n w hl hb).mono fun e w' q => by
 rw [hN] at q; exact q
theorem may_mk {x : Sn} (h : mayN x = true) (c : Int) : mayN (mkS x c) = true := by
 obtain ⟨cols, rows, g⟩ := gd_of (may_G h)
 have m := may_Mm h
 have e1 := g.ec
 have e2 := g.er
 have l1 := m.l1
 have l2 := m.l2
 obtain ⟨row, er⟩ := Int.eq_ofNat_of_zero_le m.w1
 have hr : row < rows := by have := m.w2; omega
 have E : ∀ k : Nat, x.cur.row.toNat * x.g.co.toNat + k = row * cols + k := fun k => by rw [er, e1, Int.toNat_natCast, Int.toNat_natCast]
 have MC : ∀ k : Nat, k < cols → mayC (cat x.g.c (row * cols + k)) = true := fun k hk => by
  have := g.rowM row hr (cat (rowF x.g.c cols row) k) (cat_mem (by rw [g.row row hr]; exact hk))
  rw [cat_row _ _ _ _ hk] at this
  exact this
 have nh := not_half g row hr
 obtain ⟨z, hz⟩ : ∃ z, z = (if x.cur.pend then x.cur.col else x.cur.col - 1) := ⟨_, rfl⟩
 have hz2 : z ≤ x.cur.col := by rw [hz]; split <;> omega
 unfold mkS
 rw [E, E, ← hz]
 split
 ·exact h
 ·obtain ⟨k, rfl⟩ := Int.eq_ofNat_of_zero_le (show 0 ≤ z by omega)
  rw [Int.toNat_natCast]
  split
  ·rename_i hw
   cases k with
   | zero => exact absurd hw (by rw [Nat.add_zero]; exact nh)
   | succ j =>
    rw [show ((j + 1 : Nat) : Int) - 1 = (j : Int) by omega, Int.toNat_natCast]
    exact may_wt h _ (by omega) (by omega) _ (by simp; exact mkC_may (MC j (by omega)) c)
  ·exact may_wt h _ (by omega) (by omega) _ (by simp; exact mkC_may (MC k (by omega)) c)
theorem may_ad {y : Sn} (h : mayN y = true) (w0 : Int) (hw1 : 1 ≤ w0) : mayN (adF y w0) = true := by
 obtain ⟨a1, a2, a3, a4, a5, a6⟩ := (curF_iff _ _ _).1 (Ma.of h).cur
 refine may_cur h _ ((curF_iff _ _ _).2 ⟨a1, a2, ?_, ?_, fun q => ?_, a6⟩)
 ·show 0 ≤ miF (y.cur.col + w0) (y.g.co - 1); unfold miF; split <;> omega
 ·show miF (y.cur.col + w0) (y.g.co - 1) < y.g.co; unfold miF; split <;> omega
 ·have q : decide (y.g.co - 1 < y.cur.col + w0) = true := q
  have q := of_decide_eq_true q
  show miF (y.cur.col + w0) (y.g.co - 1) = y.g.co - 1
  unfold miF
  rw [if_pos q]
theorem may_ptE {y : Sn} (h : mayN y = true) (c w0 : Int) (hw1 : 1 ≤ w0) : mayN (ptE y c w0) = true := by
 have m := may_Mm h
 have hs : mayN (shI y w0) = true := by
  unfold shI
  split
  ·exact may_sf h w0
  ·exact h
 have e1 : (shI y w0).g.co = y.g.co := by unfold shI; split <;> rfl
 exact may_ad (may_wt hs _ m.l1 (by rw [e1]; exact m.l2) _ (put_mayC c y.cur.st (may_S h))) w0 hw1
theorem may_pt {x : Sn} (h : mayN x = true) (c w0 : Int) (hw1 : 1 ≤ w0) : mayN (ptF x c w0) = true := by
 have hp := may_pn h
 unfold ptF ptD
 split
 ·split
  ·exact hp
  ·exact may_ptE (may_fd (may_c0 hp rfl)) c w0 hw1
 ·exact may_ptE hp c w0 hw1
theorem may_pr {x : Sn} (h : mayN x = true) (c : Int) : mayN (prS x c) = true := by
 unfold prS
 split
 ·exact may_mk h c
 ·split
  ·exact may_pt h c _ (by omega)
  ·exact h
end Go.Proofs.YtlekleeckcdcgaaGreat
