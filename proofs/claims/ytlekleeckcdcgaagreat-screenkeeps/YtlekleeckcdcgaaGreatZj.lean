/- The reference's May is the program's. The screen of the anchor. The anchor. ScreenStays, of a screen that may not be. What stands while a law does a deed. ScreenStays: a deed is done. ScreenStays, of a screen that may be. ScreenKeeps: a deed is done. ScreenKeeps, walked. ScreenStays and ScreenKeeps, -/
import Derived.Test.YtlekleeckcdcgaaGreatZd
import Derived.Test.YtlekleeckcdcgaaGreatWf
import Derived.Test.YtlekleeckcdcgaaGreatOa
namespace Go.Proofs.YtlekleeckcdcgaaGreat
open Go.RowKit Go.BigFrame
set_option linter.unusedVariables false
set_option linter.unusedSimpArgs false
set_option maxRecDepth 100000
set_option maxHeartbeats 32000000
theorem cur_pc (co ro : Int) (y : Sv) : curF co ro y = (pcF co ro y.row y.col y.pend && mayS y.st) := by
 unfold curF pcF inN
 simp only [Bool.decide_and, Bool.and_assoc]
theorem reg_eq (top bot ro : Int) : (inN bot ro && (decide (0 ≤ top) && decide (top ≤ bot))) = (!decide (top < 0) && (!decide (bot < top) && !decide (ro ≤ bot))) := by
 unfold inN
 rw [Bool.eq_iff_iff]
 simp only [Bool.and_eq_true, decide_eq_true_eq, Bool.not_eq_true', decide_eq_false_iff_not]
 omega
theorem mn_eq (x : Sn) : mnR x = mnF x := by
 unfold mnR mnF
 split
 ·generalize mayG x.mn.co x.mn.ro x.mn.c = a
  generalize decide (x.mn.co = x.g.co) = b
  generalize decide (x.mn.ro = x.g.ro) = c
  cases a <;> cases b <;> cases c <;> rfl
 ·unfold samG eqL
  cases x.mn.c <;> simp
def refM (x : Sn) : Bool := mayG x.g.co x.g.ro x.g.c && (pcF x.g.co x.g.ro x.cur.row x.cur.col x.cur.pend && (pcF x.g.co x.g.ro x.sv.row x.sv.col x.sv.pend && (!decide (x.top < 0) && (!decide (x.bot < x.top) && (!decide (x.g.ro ≤ x.bot) && (mayS x.cur.st && (mayS x.sv.st && (tabF (-1) x.g.co x.tabs && (titF x.title && mnR x)))))))))
theorem refM_eq (x : Sn) : refM x = mayN x := by
 unfold refM mayN
 rw [mn_eq, cur_pc, cur_pc]
 have e := reg_eq x.top x.bot x.g.ro
 generalize mnF x = m
 generalize mayG x.g.co x.g.ro x.g.c = a
 generalize pcF x.g.co x.g.ro x.cur.row x.cur.col x.cur.pend = p1
 generalize pcF x.g.co x.g.ro x.sv.row x.sv.col x.sv.pend = p2
 generalize mayS x.cur.st = s1
 generalize mayS x.sv.st = s2
 generalize tabF (-1) x.g.co x.tabs = T
 generalize titF x.title = L
 generalize inN x.bot x.g.ro = i at *
 generalize decide (0 ≤ x.top) = z at *
 generalize decide (x.top ≤ x.bot) = b at *
 generalize (!decide (x.top < 0)) = t3 at *
 generalize (!decide (x.bot < x.top)) = t4 at *
 generalize (!decide (x.g.ro ≤ x.bot)) = t5 at *
 have l : (a && (p1 && (p2 && (t3 && (t4 && (t5 && (s1 && (s2 && (T && (L && m)))))))))) = ((t3 && (t4 && t5)) && (a && (p1 && (p2 && (s1 && (s2 && (T && (L && m)))))))) := by ac_rfl
 rw [l, ← e]
 ac_rfl
theorem rm_2 (w wr : World) (q3 : Nat) (x : Sn) (vg vt vm vl : Value) (h : RmM w q3 x vg vt vm vl wr) (R : Bool) (hg : Cls w.heap.size w vg x.g.c) (hv : Cls w.heap.size w vm x.mn.c) (hl : Rs w.heap.size w vl x.title) (ht : Is w.heap.size w vt x.tabs) (hn : x.tabs.length ≤ 140737488355328) (hco : x.g.co ≤ 512 ∨ mayG x.g.co x.g.ro x.g.c = false) (hR : R = refM x) (u0 u2 u4 u5 u6 u7 u8 u9 u10 u11 u12 u13 u14 u15 u16 u17 u18 u19 u20 u21 u22 u23 u24 u25 u26 u27 u28 u29 u30 u31 u32 u33 u34 u35 u36 u37 u38 u39 u40 u41 u42 u43 u44 u45 u46 u47 u48 u49 u50 u51 u52 u53 u54 u55 u56 u57 u58 u59 u60 u61 u62 u63 u64 u65 u66 u67 u68 u69 u70 u71 u72 u73 u74 u75 u76 u77 u78 u79 u80 u81 u82 u83 u84 u85 u86 u87 u88 u89 u90 u91 u92 u93 u94 u95 u96 u97 u98 u99 u100 u101 u102 u103 u104 u105 u106 u107 u108 u109 u110 u111 u112 u113 u114 u115 u116 u117 u118 u119 u120 u121 u122 u123 u124 u125 u126 u127 u128 u129 u130 u131 u132 u133 u134 u135 u136 u137 u138 u139 u140 u141 u142 u143 u144 u145 u146 u147 u148 u149 u150 u151 u152 u153 u154 u155 u156 u157 u158 u159 u160 u161 u162 u163 : Value) :
  Code.wp Tryz.prog (seqR (seqR ((Tryz.f12.body.getD .skip)))) (bodyPost Tryz.prog Tryz.f12 (fun e w' => e = .returned (.bool R) ∧ Below w.heap.size w w')) ⟨List.toArray (u0 :: (.pointer (some ⟨w.heap.size, 0, none⟩)) :: u2 :: (.pointer (some ⟨q3, 0, none⟩)) :: u4 :: u5 :: u6 :: u7 :: u8 :: u9 :: u10 :: u11 :: u12 :: u13 :: u14 :: u15 :: u16 :: u17 :: u18 :: u19 :: u20 :: u21 :: u22 :: u23 :: u24 :: u25 :: u26 :: u27 :: u28 :: u29 :: u30 :: u31 :: u32 :: u33 :: u34 :: u35 :: u36 :: u37 :: u38 :: u39 :: u40 :: u41 :: u42 :: u43 :: u44 :: u45 :: u46 :: u47 :: u48 :: u49 :: u50 :: u51 :: u52 :: u53 :: u54 :: u55 :: u56 :: u57 :: u58 :: u59 :: u60 :: u61 :: u62 :: u63 :: u64 :: u65 :: u66 :: u67 :: u68 :: u69 :: u70 :: u71 :: u72 :: u73 :: u74 :: u75 :: u76 :: u77 :: u78 :: u79 :: u80 :: u81 :: u82 :: u83 :: u84 :: u85 :: u86 :: u87 :: u88 :: u89 :: u90 :: u91 :: u92 :: u93 :: u94 :: u95 :: u96 :: u97 :: u98 :: u99 :: u100 :: u101 :: u102 :: u103 :: u104 :: u105 :: u106 :: u107 :: u108 :: u109 :: u110 :: u111 :: u112 :: u113 :: u114 :: u115 :: u116 :: u117 :: u118 :: u119 :: u120 :: u121 :: u122 :: u123 :: u124 :: u125 :: u126 :: u127 :: u128 :: u129 :: u130 :: u131 :: u132 :: u133 :: u134 :: u135 :: u136 :: u137 :: u138 :: u139 :: u140 :: u141 :: u142 :: u143 :: u144 :: u145 :: u146 :: u147 :: u148 :: u149 :: u150 :: u151 :: u152 :: u153 :: u154 :: u155 :: u156 :: u157 :: u158 :: u159 :: u160 :: u161 :: u162 :: u163 :: []), []⟩ wr := by
 unfold refM at hR
 exact rm_2w w wr q3 x vg vt vm vl h R hg hv hl ht hn hco hR u0 u2 u4 u5 u6 u7 u8 u9 u10 u11 u12 u13 u14 u15 u16 u17 u18 u19 u20 u21 u22 u23 u24 u25 u26 u27 u28 u29 u30 u31 u32 u33 u34 u35 u36 u37 u38 u39 u40 u41 u42 u43 u44 u45 u46 u47 u48 u49 u50 u51 u52 u53 u54 u55 u56 u57 u58 u59 u60 u61 u62 u63 u64 u65 u66 u67 u68 u69 u70 u71 u72 u73 u74 u75 u76 u77 u78 u79 u80 u81 u82 u83 u84 u85 u86 u87 u88 u89 u90 u91 u92 u93 u94 u95 u96 u97 u98 u99 u100 u101 u102 u103 u104 u105 u106 u107 u108 u109 u110 u111 u112 u113 u114 u115 u116 u117 u118 u119 u120 u121 u122 u123 u124 u125 u126 u127 u128 u129 u130 u131 u132 u133 u134 u135 u136 u137 u138 u139 u140 u141 u142 u143 u144 u145 u146 u147 u148 u149 u150 u151 u152 u153 u154 u155 u156 u157 u158 u159 u160 u161 u162 u163
theorem may_co {co ro : Int} {c : List Cl} : co ≤ 512 ∨ mayG co ro c = false := by
 by_cases h : sideF co = true
 ·left; unfold sideF at h; have := of_decide_eq_true h; omega
 ·right; unfold mayG; rw [Bool.eq_false_iff.mpr h]; rfl
theorem rmay_any (x : Sn) (vg vt vm vl : Value) (w : World) (hl : Li w.heap.size w x vg vt vm vl) (hb : Bo x) : Calls Tryz.prog 12 #[.agg (snA x vg vt vm vl)] w fun e w' => e = .returned (.bool (mayN x)) ∧ Below w.heap.size w w' := by
 have HL := Box'.mk hl
 have HB := Box'.mk hb
 have SM := Box'.mk (SnM.begin w (snA x vg vt vm vl))
 clear hl hb
 rw [← refM_eq]
 go_enter Tryz.func12, Tryz.ntmps12
 refine wp_seq_k fun K hK => ?_
 have HK := Box'.mk hK
 clear hK
 go_wp2_with fail
 refine HK.out _ _ ?_
 clear HK
 generalize (w.alloc (.cells (snA x vg vt vm vl) 32)) = w1 at *
 refine wp_seq_k fun K hK => ?_
 have HK := Box'.mk hK
 clear hK
 obtain ⟨ga, gc, eg, _⟩ := HL.out.g
 have O : Box' ((gA x.g.co x.g.ro vg).all (·.oneCell') = true) := ⟨by rw [eg]; exact gA_one _ _ _ _ _⟩
 have S24 : Box' ((Tryz.prog.info? 24).map (·.size) = some 3) := ⟨s24g⟩
 clear eg
 go_wp2_with (first
  | (refine wpList_load_gridM rfl (.tmp 6) rfl w.heap.size 0 x.g.co x.g.ro vg rfl (sn_grid SM.out.r) ?_)
  | (refine wpList_store_row rfl 24 (.tmp 3) (.tmp 7) rfl w1.heap.size rfl (gA x.g.co x.g.ro vg) rfl 24 3 ((Row.new w1 24 _).room rfl) S24.out rfl O.out ?_))
 refine HK.out _ _ ?_
 have hs := SM.out.be.size
 have hlt := SM.out.r.lt
 exact rm_2 w _ w1.heap.size x vg vt vm vl ⟨(SM.out.r.alloc _).setRowOther _ _ (by omega), (Row.new w1 24 _).setRow _, below_setRow (SM.out.be.alloc hs _) hs _⟩ (refM x) HL.out.g HL.out.m HL.out.l HL.out.t HB.out.t may_co rfl _ _ _ _ _ _ _ _ _ _ _ _ _ _ _ _ _ _ _ _ _ _ _ _ _ _ _ _ _ _ _ _ _ _ _ _ _ _ _ _ _ _ _ _ _ _ _ _ _ _ _ _ _ _ _ _ _ _ _ _ _ _ _ _ _ _ _ _ _ _ _ _ _ _ _ _ _ _ _ _ _ _ _ _ _ _ _ _ _ _ _ _ _ _ _ _ _ _ _ _ _ _ _ _ _ _ _ _ _ _ _ _ _ _ _ _ _ _ _ _ _ _ _ _ _ _ _ _ _ _ _ _ _ _ _ _ _ _ _ _ _ _ _ _ _ _ _ _ _ _ _ _ _ _ _ _ _ _ _ _ _ _ 
/-- The screen behind so many characters from a on. -/
def ancS : Nat → Sn
 | 0 => nwS 3 2 (List.replicate (3 * 2) (bl pl))
 | k + 1 => prS (ancS k) ((k : Int) + 97)
theorem anc_row : (ancS 4).cur.row = 1 := by kernel_rfl
theorem anc_col : (ancS 4).cur.col = 1 := by kernel_rfl
theorem anc_len : (ancS 4).g.c.length = 6 := by kernel_rfl
theorem anc_wrap : (ancS 4).wrap = true := by kernel_rfl
theorem anc_vis : (ancS 4).vis = true := by kernel_rfl
theorem OwnN.is {N : Nat} {w : World} {v : Value} {l : List Int} (h : OwnN N w v l) : Is w.heap.size w v l := by
 obtain ⟨a, c, e, hc, h3⟩ := h.cells
 refine ⟨a, c, e, hc, ?_⟩
 by_cases hl : 0 < l.length
 ·obtain ⟨b, e1, hb, _⟩ := h3 0 hl
  refine .inr ⟨b, 0, e1, hb, fun k hk => ?_⟩
  obtain ⟨b', e2, _, h4⟩ := h3 k hk
  rw [e1] at e2
  injection e2 with e2
  injection e2 with e2
  rw [Nat.zero_add, e2]
  exact h4
 ·exact .inl (List.eq_nil_of_length_eq_zero (by omega))
theorem OwnR.rs {N : Nat} {w : World} {v : Value} {l : List Int} (h : OwnR N w v l) : Rs w.heap.size w v l := by
 rcases h.2 with ⟨e1, e2⟩ | ⟨g, cap, cur, e1, e2, e3, e4, e5, e6, e7⟩
 ·exact ⟨none, 0, by rw [e2]; exact e1, by omega, .inl (List.eq_nil_of_length_eq_zero e2)⟩
 ·refine ⟨some ⟨g, 0, none⟩, cap, e1, e4, .inr ⟨g, 0, rfl, (Array.getElem?_eq_some_iff.1 e3).1, fun k hk => ?_⟩⟩
  have hr : Row w g 21 cur := e3
  have hq : w.cell? ⟨g, k, none⟩ = cur[k]? := hr.cell k
  rw [Nat.zero_add, hq]
  have h7 : (cur.toList.take (l.length * 1))[k]? = (l.map (Value.int .i32))[k]? := by rw [e7]
  rw [List.getElem?_take, if_pos (by omega), List.getElem?_map, List.getElem?_eq_getElem hk, Array.getElem?_toList] at h7
  rw [h7, List.getD_eq_getElem?_getD, List.getElem?_eq_getElem hk]
  rfl
theorem OwnL.li {N : Nat} {w : World} {x : Sn} {vg vt vm vl : Value} (h : OwnL N w x vg vt vm vl) : Li w.heap.size w x vg vt vm vl := ⟨h.g.cls, h.t.is, h.m.cls, h.l.rs⟩
theorem Li.one {N : Nat} {w : World} {x : Sn} {vg vt vm vl : Value} (h : Li N w x vg vt vm vl) : (snA x vg vt vm vl).all (·.oneCell') = true := by
 obtain ⟨a1, c1, e1, _⟩ := h.g
 obtain ⟨a2, c2, e2, _⟩ := h.t
 obtain ⟨a3, c3, e3, _⟩ := h.m
 obtain ⟨a4, c4, e4, _⟩ := h.l
 rw [e1, e2, e3, e4]
 exact snA_one _ _ _ _ _ _ _ _ _ _ _ _ _
theorem anc_may : ∀ k, mayN (ancS k) = true
 | 0 => may_nw 3 2 (by omega) (by omega) (by omega) (by omega)
 | k + 1 => may_pr (anc_may k) _
theorem anc_bo : ∀ k, k < 4 → Bo (ancS k)
 | 0, _ => ⟨of_decide_eq_true (by kernel_rfl), of_decide_eq_true (by kernel_rfl), of_decide_eq_true (by kernel_rfl), of_decide_eq_true (by kernel_rfl)⟩
 | 1, _ => ⟨of_decide_eq_true (by kernel_rfl), of_decide_eq_true (by kernel_rfl), of_decide_eq_true (by kernel_rfl), of_decide_eq_true (by kernel_rfl)⟩
 | 2, _ => ⟨of_decide_eq_true (by kernel_rfl), of_decide_eq_true (by kernel_rfl), of_decide_eq_true (by kernel_rfl), of_decide_eq_true (by kernel_rfl)⟩
 | 3, _ => ⟨of_decide_eq_true (by kernel_rfl), of_decide_eq_true (by kernel_rfl), of_decide_eq_true (by kernel_rfl), of_decide_eq_true (by kernel_rfl)⟩
/-- What stands while the anchor's screen is made. -/
structure AnJ (w : World) (p k : Nat) (vg vt vm vl : Value) (wr : World) : Prop where
 r : Row wr p 32 (snA (ancS k) vg vt vm vl)
 l : OwnL w.heap.size wr (ancS k) vg vt vm vl
 be : Below w.heap.size w wr
 hp : w.heap.size ≤ p
theorem AnJ.next {w : World} {p k : Nat} {vg vt vm vl : Value} {wr : World} (h : AnJ w p k vg vt vm vl wr) {w2 : World} (hb : Below wr.heap.size wr w2) {vg' vt' vm' vl' : Value} (hl : OwnL wr.heap.size w2 (ancS (k + 1)) vg' vt' vm' vl') : AnJ w p (k + 1) vg' vt' vm' vl' (w2.setRow p (snA (ancS (k + 1)) vg' vt' vm' vl')) :=
 have hr := h.r.below hb h.r.lt
 ⟨hr.setRow _, (hl.down h.be.size).setRow p 32 _ (hr.room (snA_size _ _ _ _ _)) (by decide) (by decide) (by decide), below_setRow (h.be.trans (hb.mono h.be.size)) h.hp _, h.hp⟩
theorem anchored_any (w : World) : Calls Tryz.prog 14 #[] w fun e w' => e = .returned (.bool true) ∧ Below w.heap.size w w' := by
 have NW := Box'.mk (New_ok 3 2 (by omega) (by omega) (by omega) (by omega) w)
 have PR : Box' (∀ k, k < 4 → ∀ (vg vt vm vl : Value) (wx : World), Li wx.heap.size wx (ancS k) vg vt vm vl → Calls Tryz.prog 21 #[.agg (snA (ancS k) vg vt vm vl), .int .i32 ((k : Int) + 97)] wx fun e w' => ScR wx.heap.size w' e (ancS (k + 1)) ∧ Below wx.heap.size wx w') := ⟨fun k hk vg vt vm vl wx hl => Print_ok (ancS k) vg vt vm vl ((k : Int) + 97) wx hl (anc_bo k hk) (anc_may k)⟩
 have U32 := Box'.mk Tryz.underlying32
 have S32 := Box'.mk s32
 go_enter Tryz.func14, Tryz.ntmps14
 go_wp2_with fail
 refine NW.out.mono ?_
 rintro e w1 ⟨⟨vg, vt, vm, vl, rfl, hl⟩, hb⟩
 have HL : Box' (OwnL w.heap.size w1 (ancS 0) vg vt vm vl) := ⟨hl⟩
 have HB := Box'.mk hb
 have O := Box'.mk (HL.out.li.one)
 clear NW hl hb
 simp only [show nwS 3 2 (List.replicate (3 * 2) (bl pl)) = ancS 0 from rfl]
 generalize hz : ancS 0 = y0 at O
 go_wp2_with (first
  | (refine wpList_store_row rfl 32 (.tmp 1) (.tmp 6) rfl w1.heap.size rfl (snA y0 vg vt vm vl) rfl 32 44 ((Row.new w1 32 _).room rfl) S32.out rfl O.out ?_))
 subst hz
 have J0 : Box' (AnJ w w1.heap.size 0 vg vt vm vl ((w1.alloc (.cells z32 32)).setRow w1.heap.size (snA (ancS 0) vg vt vm vl))) := ⟨⟨(Row.new w1 32 _).setRow _, (HL.out.below (bR.alloc (Nat.le_refl _) _)).setRow w1.heap.size 32 _ ((Row.new w1 32 _).room (n := 44) rfl) (by decide) (by decide) (by decide), below_setRow (HB.out.alloc HB.out.size _) HB.out.size _, HB.out.size⟩⟩
 clear HL HB O
 generalize hp : w1.heap.size = p at *
 generalize ((w1.alloc (.cells z32 32)).setRow p (snA (ancS 0) vg vt vm vl)) = w3 at *
 clear hp
 go_loopw [2, 3] (fun e i wq => ∃ (k : Nat), k ≤ 4 ∧ e = .int .i64 0 ∧ i = .int .i32 ((k : Int) + 97) ∧ ∃ vg vt vm vl, Box' (AnJ w p k vg vt vm vl wq)) (fun _ i _ => 101 - (intOf i).toNat)
 case atStart => exact ⟨0, by omega, rfl, by go_num, vg, vt, vm, vl, J0⟩
 case round =>
  obtain ⟨k, hk, rfl, rfl, ug, ut, um, ul, J⟩ := hrel
  clear J0
  by_cases hlt : k < 4
  case pos =>
   have q1 : (k : Int) + 97 ≤ 100 := by omega
   go_wp2_with (first
    | (refine wpList_load_row rfl 32 (.tmp 1) rfl p rfl 32 (snA (ancS k) ug ut um ul) J.out.r _ U32.out rfl 44 S32.out rfl ?_))
   refine (PR.out k hlt ug ut um ul _ J.out.l.li).mono ?_
   rintro e w2 ⟨⟨zg, zt, zm, zl, rfl, hl⟩, hb⟩
   have J2 := Box'.mk (J.out.next hb hl)
   have HR : Box' (Room w2 p 32 44) := ⟨(J.out.r.below hb J.out.r.lt).room (n := 44) rfl⟩
   have O2 := Box'.mk hl.li.one
   clear hl hb J PR
   generalize ancS (k + 1) = y at *
   go_wp2_with (first
    | (refine wpList_store_row rfl 32 (.tmp 1) (.tmp 20) rfl p rfl (snA y zg zt zm zl) rfl 32 44 HR.out S32.out rfl O2.out ?_))
   exact ⟨⟨k + 1, by omega, rfl, by go_num, zg, zt, zm, zl, J2⟩, by simp [intOf]; omega⟩
  case neg =>
   have hk4 : k = 4 := by omega
   subst hk4
   clear hlt hk PR
   obtain ⟨b, o, cp, e, hb, hc, hf⟩ := J.out.l.g.cls.flat (by rw [anc_len]; omega)
   have c3 : wr.cell? ⟨p, 3, none⟩ = some (.int .i64 1) := (J.out.r.cell 3).trans (congrArg (fun n => some (Value.int .i64 n)) anc_row)
   have c4 : wr.cell? ⟨p, 4, none⟩ = some (.int .i64 1) := (J.out.r.cell 4).trans (congrArg (fun n => some (Value.int .i64 n)) anc_col)
   have c2 : wr.cell? ⟨p, 2, none⟩ = some ug := J.out.r.cell 2
   rw [e, anc_len] at c2
   have c19 : wr.cell? ⟨p, 19, none⟩ = some (.bool true) := (J.out.r.cell 19).trans (congrArg (fun n => some (Value.bool n)) anc_wrap)
   have c24 : wr.cell? ⟨p, 24, none⟩ = some (.bool true) := (J.out.r.cell 24).trans (congrArg (fun n => some (Value.bool n)) anc_vis)
   have d2 := hf 30 (.int .i32 99) (by kernel_rfl)
   have d3 := hf 45 (.int .i32 100) (by kernel_rfl)
   rw [Addr.add_mid] at d2 d3
   rw [anc_len] at hc
   have BE := Box'.mk J.out.be
   clear J hf hb e
   go_wp2_with fail
   go_ret
   exact ⟨rfl, BE.out⟩
theorem DR.below {N : Nat} {w w' : World} {e : Ending} {r : Option Sn} (h : DR N w e r) (hb : Below w.heap.size w w') : DR N w' e r := by
 cases r with
 | some y =>
  obtain ⟨vg, vt, vm, vl, rfl, ow⟩ := h
  exact ⟨vg, vt, vm, vl, rfl, ow.below hb⟩
 | none => exact h
/-- What stands while a deed is done: the call (5), its two answers (7, 8), a box (9), the screen in it (10). -/
structure DnJ (w : World) (r : Option Sn) (D : Nat → Bool) (f : Nat → Value) (wa : World) : Prop where
 be : Below w.heap.size w wa
 k5 : D 5 = true → DR w.heap.size wa (.returned (f 5)) r
 k6 : D 6 = true → D 5 = true ∧ f 6 = f 5
 k7 : D 7 = true → D 5 = true ∧ ∃ S er, f 5 = .tuple #[.agg S, .int .i64 er] ∧ f 7 = .agg S
 k8 : D 8 = true → D 5 = true ∧ ∃ S er, f 5 = .tuple #[.agg S, .int .i64 er] ∧ f 8 = .int .i64 er
 k9 : D 9 = true → ∃ q, f 9 = .pointer (some ⟨q, 0, none⟩) ∧ w.heap.size ≤ q ∧ Room wa q 32 44
 k10 : D 10 = true → D 9 = true ∧ D 7 = true ∧ ∃ q S, f 9 = .pointer (some ⟨q, 0, none⟩) ∧ f 7 = .agg S ∧ Row wa q 32 S
 k11 : D 11 = true → D 8 = true ∧ f 11 = f 8
theorem DnJ.begin (w : World) (r : Option Sn) (f : Nat → Value) : DnJ w r (fun _ => false) f w.drew := ⟨bR.drew, nofun, nofun, nofun, nofun, nofun, nofun, nofun⟩
section
variable {w : World} {r : Option Sn} {D : Nat → Bool} {f : Nat → Value} {wa : World}
theorem DnJ.other (j : DnJ w r D f wa) (k : Nat) (v : Value) (hk : k < 5) : DnJ w r (updB D k) (upd f k v) wa := by
 have h5 : ¬ 5 = k := by omega
 have h6 : ¬ 6 = k := by omega
 have h7 : ¬ 7 = k := by omega
 have h8 : ¬ 8 = k := by omega
 have h9 : ¬ 9 = k := by omega
 have h10 : ¬ 10 = k := by omega
 have h11 : ¬ 11 = k := by omega
 obtain ⟨a0, a5, a6, a7, a8, a9, a10, a11⟩ := j
 refine ⟨a0, ?_, ?_, ?_, ?_, ?_, ?_, ?_⟩ <;> simp only [updB, upd, if_neg h5, if_neg h6, if_neg h7, if_neg h8, if_neg h9, if_neg h10, if_neg h11] <;> assumption
theorem DnJ.grow {wb : World} (j : DnJ w r D f wa) (hb : Below wa.heap.size wa wb) : DnJ w r D f wb := by
 refine ⟨j.be.trans (hb.mono j.be.size), fun h => (j.k5 h).below hb, j.k6, j.k7, j.k8, fun h => ?_, fun h => ?_, j.k11⟩
 ·obtain ⟨q, e, e1, e2⟩ := j.k9 h; exact ⟨q, e, e1, e2.below hb e2.lt⟩
 ·obtain ⟨d0, d1, q, S, e, e1, e2⟩ := j.k10 h; exact ⟨d0, d1, q, S, e, e1, e2.below hb e2.lt⟩
theorem DnJ.o5 (j : DnJ w r D f wa) (hn : D 5 = false) (v : Value) (hv : DR w.heap.size wa (.returned v) r) : DnJ w r (updB D 5) (upd f 5 v) wa := by
 obtain ⟨a0, a5, a6, a7, a8, a9, a10, a11⟩ := j
 have n6 : ¬ D 6 = true := fun h => by have := (a6 h).1; rw [hn] at this; cases this
 have n7 : ¬ D 7 = true := fun h => by have := (a7 h).1; rw [hn] at this; cases this
 have n8 : ¬ D 8 = true := fun h => by have := (a8 h).1; rw [hn] at this; cases this
 refine ⟨a0, fun _ => by simpa [upd] using hv, fun h => ?_, fun h => ?_, fun h => ?_, by simpa [updB, upd] using a9, by simpa [updB, upd] using a10, by simpa [updB, upd] using a11⟩
 ·exact absurd (by simpa [updB] using h) n6
 ·exact absurd (by simpa [updB] using h) n7
 ·exact absurd (by simpa [updB] using h) n8
theorem DnJ.o6 (j : DnJ w r D f wa) (d5 : D 5 = true) : DnJ w r (updB D 6) (upd f 6 (f 5)) wa := by
 obtain ⟨a0, a5, a6, a7, a8, a9, a10, a11⟩ := j
 exact ⟨a0, by simpa [updB, upd] using a5, fun _ => ⟨by simpa [updB] using d5, by simp [upd]⟩, by simpa [updB, upd] using a7, by simpa [updB, upd] using a8, by simpa [updB, upd] using a9, by simpa [updB, upd] using a10, by simpa [updB, upd] using a11⟩
theorem DnJ.o7 (j : DnJ w r D f wa) (hn : D 7 = false) (d5 : D 5 = true) (S : Array Value) (er : Int) (e : f 5 = .tuple #[.agg S, .int .i64 er]) : DnJ w r (updB D 7) (upd f 7 (.agg S)) wa := by
 obtain ⟨a0, a5, a6, a7, a8, a9, a10, a11⟩ := j
 have n10 : ¬ D 10 = true := fun h => by have := (a10 h).2.1; rw [hn] at this; cases this
 refine ⟨a0, by simpa [updB, upd] using a5, by simpa [updB, upd] using a6, fun _ => ⟨by simpa [updB] using d5, S, er, by simpa [upd] using e, by simp [upd]⟩, by simpa [updB, upd] using a8, by simpa [updB, upd] using a9, fun h => ?_, by simpa [updB, upd] using a11⟩
 exact absurd (by simpa [updB] using h) n10
theorem DnJ.o8 (j : DnJ w r D f wa) (hn : D 8 = false) (d5 : D 5 = true) (S : Array Value) (er : Int) (e : f 5 = .tuple #[.agg S, .int .i64 er]) : DnJ w r (updB D 8) (upd f 8 (.int .i64 er)) wa := by
 obtain ⟨a0, a5, a6, a7, a8, a9, a10, a11⟩ := j
 have n11 : ¬ D 11 = true := fun h => by have := (a11 h).1; rw [hn] at this; cases this
 refine ⟨a0, by simpa [updB, upd] using a5, by simpa [updB, upd] using a6, by simpa [updB, upd] using a7, fun _ => ⟨by simpa [updB] using d5, S, er, by simpa [upd] using e, by simp [upd]⟩, by simpa [updB, upd] using a9, by simpa [updB, upd] using a10, fun h => ?_⟩
 exact absurd (by simpa [updB] using h) n11
theorem DnJ.o9 (j : DnJ w r D f wa) (hn : D 9 = false) (q : Nat) (hq : w.heap.size ≤ q) (hr : Room wa q 32 44) : DnJ w r (updB D 9) (upd f 9 (.pointer (some ⟨q, 0, none⟩))) wa := by
 obtain ⟨a0, a5, a6, a7, a8, a9, a10, a11⟩ := j
 have n10 : ¬ D 10 = true := fun h => by have := (a10 h).1; rw [hn] at this; cases this
 refine ⟨a0, by simpa [updB, upd] using a5, by simpa [updB, upd] using a6, by simpa [updB, upd] using a7, by simpa [updB, upd] using a8, fun _ => ⟨q, by simp [upd], hq, hr⟩, fun h => ?_, by simpa [updB, upd] using a11⟩
 exact absurd (by simpa [updB] using h) n10
theorem DnJ.o10 (j : DnJ w r D f wa) (d9 : D 9 = true) (d7 : D 7 = true) (q : Nat) (S : Array Value) (e9 : f 9 = .pointer (some ⟨q, 0, none⟩)) (e7 : f 7 = .agg S) (hS : S.size = 44) (v : Value) : DnJ w r (updB D 10) (upd f 10 v) (wa.setRow q S) := by
 obtain ⟨a0, a5, a6, a7, a8, a9, a10, a11⟩ := j
 obtain ⟨q', x1, x2, x3⟩ := a9 d9
 obtain rfl : q = q' := by rw [e9] at x1; simpa using x1
 have d5 := (a7 d7).1
 obtain ⟨_, _, _, _, _, _, _, _, hset⟩ := (a5 d5).out
 refine ⟨below_setRow a0 x2 _, fun _ => by simpa [upd] using hset q S x3, by simpa [updB, upd] using a6, by simpa [updB, upd] using a7, by simpa [updB, upd] using a8, fun _ => ⟨q, by simpa [upd] using e9, x2, (x3.setRow _).room hS⟩, fun _ => ⟨by simpa [updB] using d9, by simpa [updB] using d7, q, S, by simpa [upd] using e9, by simpa [upd] using e7, x3.setRow _⟩, by simpa [updB, upd] using a11⟩
theorem DnJ.o11 (j : DnJ w r D f wa) (d8 : D 8 = true) : DnJ w r (updB D 11) (upd f 11 (f 8)) wa := by
 obtain ⟨a0, a5, a6, a7, a8, a9, a10, a11⟩ := j
 exact ⟨a0, by simpa [updB, upd] using a5, by simpa [updB, upd] using a6, by simpa [updB, upd] using a7, by simpa [updB, upd] using a8, by simpa [updB, upd] using a9, by simpa [updB, upd] using a10, fun _ => ⟨by simpa [updB] using d8, by simp [upd]⟩⟩
theorem DnJ.fin (j : DnJ w r D f wa) (hD : ∀ k, k < 12 → D k = true) : ∃ q S er, f 5 = .tuple #[.agg S, .int .i64 er] ∧ f 6 = .tuple #[.agg S, .int .i64 er] ∧ f 7 = .agg S ∧ f 8 = .int .i64 er ∧ f 9 = .pointer (some ⟨q, 0, none⟩) ∧ f 11 = .int .i64 er ∧ w.heap.size ≤ q ∧ Row wa q 32 S ∧ DR w.heap.size wa (.returned (.tuple #[.agg S, .int .i64 er])) r := by
 obtain ⟨_, S, er, e5, e7⟩ := j.k7 (hD 7 (by omega))
 obtain ⟨_, S', er', e5', e8⟩ := j.k8 (hD 8 (by omega))
 obtain ⟨rfl, rfl⟩ : S = S' ∧ er = er' := by rw [e5] at e5'; simpa using e5'
 obtain ⟨q, e9, hq, _⟩ := j.k9 (hD 9 (by omega))
 obtain ⟨_, _, q', S', e9', e7', hr⟩ := j.k10 (hD 10 (by omega))
 obtain rfl : q = q' := by rw [e9] at e9'; simpa using e9'
 obtain rfl : S = S' := by rw [e7] at e7'; simpa using e7'
 exact ⟨q, S, er, e5, (j.k6 (hD 6 (by omega))).2.trans e5, e7, e8, e9, (j.k11 (hD 11 (by omega))).2.trans e8, hq, hr, e5 ▸ j.k5 (hD 5 (by omega))⟩
end
theorem tabF_len : ∀ (l : List Int) (ah co : Int), tabF ah co l = true → l = [] ∨ ah + (l.length : Int) < co
 | [], _, _, _ => .inl rfl
 | c :: r, ah, co, h => by
  right
  unfold tabF at h
  split at h
  ·cases h
  ·rename_i hc
   rw [not_or] at hc
   rcases tabF_len r c co h with e | e
   ·subst e; simp only [List.length_cons, List.length_nil]; omega
   ·simp only [List.length_cons]; omega
theorem may_Bo {x : Sn} (h : mayN x = true) : Bo x := by
 have m := Ma.of h
 obtain ⟨co, ro, e1, e2, p1, p2, p3, p4, hl⟩ := mayG_dest (may_G h)
 have hle : co * ro ≤ 512 * 512 := Nat.mul_le_mul p2 p4
 refine ⟨?_, by omega, ?_, by omega⟩
 ·have hmn := m.mn
  unfold mnF at hmn
  by_cases hA : x.alt = true
  ·rw [if_pos hA] at hmn
   simp only [Bool.and_eq_true] at hmn
   obtain ⟨c2, r2, f1, f2, q1, q2, q3, q4, hl2⟩ := mayG_dest hmn.2.2
   have hle2 : c2 * r2 ≤ 512 * 512 := Nat.mul_le_mul q2 q4
   omega
  ·rw [if_neg hA] at hmn
   unfold samG eqL at hmn
   simp only [Bool.and_eq_true, decide_eq_true_eq, List.length_nil] at hmn
   have := hmn.2.2.1
   omega
 ·rcases tabF_len _ _ _ m.tab with e | e
  ·rw [e]; simp
  ·have : x.g.co = (co : Int) := e1
   omega
theorem DR.down {N M : Nat} {w : World} {e : Ending} {r : Option Sn} (h : DR N w e r) (hM : M ≤ N) : DR M w e r := by
 cases r with
 | some y => exact ScR.down h hM
 | none => exact h
theorem kp_r11 (w : World) (p : Nat) (x : Sn) (vg vt vm vl : Value) (hr : Row w p 32 (snA x vg vt vm vl)) (b o n c k : Nat) (hlt : k < n) (hnc : n ≤ 140737488355328) (d : De) (hb : b < w.heap.size) (hrg : w.rangeAt b (o + k * 4) (deA d).toList) (r : Option Sn) (DO0 : ∀ wq, Below w.heap.size w wq → Calls Tryz.prog 8 #[.agg (snA x vg vt vm vl), .agg (deA d)] wq fun e w' => DR w.heap.size w' e r ∧ Below wq.heap.size wq w') (u0 u2 u3 u4 u6 u7 u8 u10 u11 u12 u13 u14 u15 u16 u17 u18 u19 u20 u21 u22 u23 u24 u25 u26 u27 u28 u29 u30 u31 u32 u33 u34 u35 u36 u37 u38 u39 u40 u41 u42 u43 u44 u45 u46 u47 u48 u49 u50 u51 u52 u53 u54 u55 u56 u57 u58 u59 u60 u61 u62 u63 u64 u65 u66 u67 u68 u69 u70 u71 u72 u73 u74 u75 u76 u77 u78 u79 u80 u81 u82 u83 u84 u85 u86 u87 u88 u89 u90 u91 u92 u93 u94 u95 u96 u97 u98 u99 u100 u101 u102 u103 u104 u105 u106 u107 u108 u109 u110 u111 u112 u113 u114 u115 u116 u117 u118 u119 u120 u121 u122 u123 u124 u125 u126 u127 u128 u129 u130 u131 u132 u133 u134 u135 u136 u137 u138 u139 u140 u141 u142 u143 u144 u145 u146 u147 u148 u149 u150 u151 u152 u153 u154 : Value) (df : List Deferred) (Q : Exit → Act → World → Prop) (hQ : ∀ (z5 z6 z7 z8 z9 z11 : Value) (wz : World), (Below w.heap.size w wz ∧ ∃ q S er, z5 = .tuple #[.agg S, .int .i64 er] ∧ z6 = .tuple #[.agg S, .int .i64 er] ∧ z7 = .agg S ∧ z8 = .int .i64 er ∧ z9 = .pointer (some ⟨q, 0, none⟩) ∧ z11 = .int .i64 er ∧ w.heap.size ≤ q ∧ Row wz q 32 S ∧ DR w.heap.size wz (.returned (.tuple #[.agg S, .int .i64 er])) r) → wpList Tryz.prog #[] Q [] ⟨List.toArray (u0 :: (.slice (some ⟨b, o, none⟩) n c) :: u2 :: u3 :: u4 :: (.pointer (some ⟨p, 0, none⟩)) :: u6 :: u7 :: u8 :: (.int .i64 (k : Int)) :: z9 :: z11 :: u12 :: u13 :: u14 :: u15 :: u16 :: u17 :: u18 :: u19 :: u20 :: u21 :: u22 :: u23 :: u24 :: u25 :: u26 :: u27 :: u28 :: u29 :: u30 :: u31 :: u32 :: u33 :: u34 :: u35 :: u36 :: u37 :: u38 :: u39 :: u40 :: u41 :: u42 :: u43 :: u44 :: u45 :: u46 :: u47 :: u48 :: u49 :: u50 :: u51 :: u52 :: u53 :: u54 :: u55 :: u56 :: u57 :: u58 :: u59 :: u60 :: u61 :: u62 :: u63 :: u64 :: u65 :: u66 :: u67 :: u68 :: u69 :: u70 :: u71 :: u72 :: u73 :: u74 :: u75 :: u76 :: u77 :: u78 :: u79 :: u80 :: u81 :: u82 :: u83 :: u84 :: u85 :: u86 :: u87 :: u88 :: u89 :: u90 :: u91 :: u92 :: u93 :: u94 :: u95 :: u96 :: u97 :: u98 :: u99 :: u100 :: u101 :: u102 :: u103 :: u104 :: z6 :: (.agg (snA x vg vt vm vl)) :: (.slice (some ⟨b, o, none⟩) n c) :: (.int .i64 (k : Int)) :: (.pointer (some ⟨b, o + k * 4, none⟩)) :: (.agg (deA d)) :: z5 :: z7 :: z8 :: u114 :: u115 :: u116 :: u117 :: u118 :: u119 :: u120 :: u121 :: u122 :: u123 :: u124 :: u125 :: u126 :: u127 :: u128 :: u129 :: u130 :: u131 :: u132 :: u133 :: u134 :: u135 :: u136 :: u137 :: u138 :: u139 :: u140 :: u141 :: u142 :: u143 :: u144 :: u145 :: u146 :: u147 :: u148 :: u149 :: u150 :: u151 :: u152 :: u153 :: u154 :: []), df⟩ wz) :
  Code.wp Tryz.prog ((Tryz.f6.body.bind (regOf' 11)).getD .skip) Q ⟨List.toArray (u0 :: (.slice (some ⟨b, o, none⟩) n c) :: u2 :: u3 :: u4 :: (.pointer (some ⟨p, 0, none⟩)) :: u6 :: u7 :: u8 :: (.int .i64 (k : Int)) :: u10 :: u11 :: u12 :: u13 :: u14 :: u15 :: u16 :: u17 :: u18 :: u19 :: u20 :: u21 :: u22 :: u23 :: u24 :: u25 :: u26 :: u27 :: u28 :: u29 :: u30 :: u31 :: u32 :: u33 :: u34 :: u35 :: u36 :: u37 :: u38 :: u39 :: u40 :: u41 :: u42 :: u43 :: u44 :: u45 :: u46 :: u47 :: u48 :: u49 :: u50 :: u51 :: u52 :: u53 :: u54 :: u55 :: u56 :: u57 :: u58 :: u59 :: u60 :: u61 :: u62 :: u63 :: u64 :: u65 :: u66 :: u67 :: u68 :: u69 :: u70 :: u71 :: u72 :: u73 :: u74 :: u75 :: u76 :: u77 :: u78 :: u79 :: u80 :: u81 :: u82 :: u83 :: u84 :: u85 :: u86 :: u87 :: u88 :: u89 :: u90 :: u91 :: u92 :: u93 :: u94 :: u95 :: u96 :: u97 :: u98 :: u99 :: u100 :: u101 :: u102 :: u103 :: u104 :: u105 :: u106 :: u107 :: u108 :: u109 :: u110 :: u111 :: u112 :: u113 :: u114 :: u115 :: u116 :: u117 :: u118 :: u119 :: u120 :: u121 :: u122 :: u123 :: u124 :: u125 :: u126 :: u127 :: u128 :: u129 :: u130 :: u131 :: u132 :: u133 :: u134 :: u135 :: u136 :: u137 :: u138 :: u139 :: u140 :: u141 :: u142 :: u143 :: u144 :: u145 :: u146 :: u147 :: u148 :: u149 :: u150 :: u151 :: u152 :: u153 :: u154 :: []), df⟩ w := by
 conv => arg 2; whnf
 have DO := Box'.mk DO0
 clear DO0
 have I34 : Box' ((Tryz.prog.info? 34).map (·.size) = some (deA d).toList.length) := ⟨by kernel_rfl⟩
 have Z32 : Box' ((Tryz.prog.info? 32).map (fun i => (i.zero, i.size)) = some (some (.agg z32), 44)) := ⟨by kernel_rfl⟩
 refine wp_region_walk 12 (by kernel_rfl) (by kernel_rfl) (fun D f wa => (DnJ w r D f wa) ∧ ∀ i, D i = true → (fun kc => kc == 5 || kc == 6 || kc == 7 || kc == 8 || kc == 9 || kc == 10 || kc == 11) i = false → f i = (fun kc => match kc with
   | 0 => .agg (snA x vg vt vm vl)
   | 1 => .slice (some ⟨b, o, none⟩) n c
   | 2 => .int .i64 (k : Int)
   | 3 => .pointer (some ⟨b, o + k * 4, none⟩)
   | 4 => .agg (deA d)
   | _ => undef) i) ?_ ?_ ?_
 ·exact fun f => ⟨DnJ.begin _ _ _, fun i h => by cases h⟩
 ·refine ⟨?wa0, ?wa1, ?wa2, ?wa3, ?wa4, ?wa5, ?wa6, ?wa7, ?wa8, ?wa9, ?wa10, ?wa11, trivial⟩
  all_goals intro D f wq hJ hD hd KK hK
  all_goals have G := fun j h h2 => hJ.2 j (hd j h) h2
  all_goals simp (disch := decide +kernel) only [tkS, tkZ, setAll, siB, stS, stZ, Nat.zero_add, Nat.reduceAdd, G] at hK ⊢
  case wa0 =>
   exact wp_load_row 32 (.tmp 5) rfl p rfl 32 _ (hr.below hJ.1.be hr.lt) _ Tryz.underlying32 rfl 44 s32 rfl (hK _ _ ⟨(hJ.1.other 0 _ (by decide)), vals_upd hJ.2 (.inr rfl)⟩)
  case wa4 =>
   exact wp_mid 34 (.tmp 109) rfl b (o + k * 4) (deA d) _ Tryz.underlying34 rfl I34.out rfl (fun j u hu => by rw [hJ.1.be.cell (p := ⟨b, o + k * 4 + j, none⟩) hb]; exact hrg j u hu) (hK _ _ ⟨(hJ.1.other 4 _ (by decide)), vals_upd hJ.2 (.inr rfl)⟩)
  case wa5 =>
   refine wp_callR 8 #[.agg (snA x vg vt vm vl), .agg (deA d)] (by simp [go_sem]) (fun v w'' => DR w.heap.size w'' (.returned v) r ∧ Below wq.heap.size wq w'') ((DO.out wq hJ.1.be).mono ?_) ?_
   ·rintro e w'' ⟨h1, h2⟩
    obtain ⟨_, _, _, _, _, _, e1, _, _⟩ := h1.out
    subst e1
    exact ⟨_, rfl, h1, h2⟩
   ·rintro v w'' ⟨k1, k2⟩
    exact hK _ _ ⟨(hJ.1.grow k2).o5 hD v k1, vals_upd hJ.2 (.inl rfl)⟩
  case wa6 =>
   exact wp_val (f 5) (by simp [go_sem]) (hK _ _ ⟨hJ.1.o6 (hd 5 (by kernel_rfl)), vals_upd hJ.2 (.inl rfl)⟩)
  case wa7 =>
   obtain ⟨d5, e6⟩ := hJ.1.k6 (hd 6 (by kernel_rfl))
   obtain ⟨y, y1, y2, y3, y4, er, e', ho, _⟩ := (hJ.1.k5 d5).out
   have e5 : f 5 = .tuple #[.agg (snA y y1 y2 y3 y4), .int .i64 er] := Ending.returned.inj e'
   have e6 : f 6 = .tuple #[.agg (snA y y1 y2 y3 y4), .int .i64 er] := e6.trans e5
   simp only [e6] at hK ⊢
   exact wp_val (.agg (snA y y1 y2 y3 y4)) (by simp [go_sem]) (hK _ _ ⟨hJ.1.o7 hD d5 _ er e5, vals_upd hJ.2 (.inl rfl)⟩)
  case wa8 =>
   obtain ⟨d5, e6⟩ := hJ.1.k6 (hd 6 (by kernel_rfl))
   obtain ⟨y, y1, y2, y3, y4, er, e', ho, _⟩ := (hJ.1.k5 d5).out
   have e5 : f 5 = .tuple #[.agg (snA y y1 y2 y3 y4), .int .i64 er] := Ending.returned.inj e'
   have e6 : f 6 = .tuple #[.agg (snA y y1 y2 y3 y4), .int .i64 er] := e6.trans e5
   simp only [e6] at hK ⊢
   exact wp_val (.int .i64 er) (by simp [go_sem]) (hK _ _ ⟨hJ.1.o8 hD d5 _ er e5, vals_upd hJ.2 (.inl rfl)⟩)
  case wa9 =>
   exact wp_alloc_row 32 rfl z32 44 Z32.out (hK _ _ ⟨(hJ.1.grow (bR.alloc (Nat.le_refl _) _)).o9 hD wq.heap.size hJ.1.be.size ((Row.new wq 32 _).room rfl), vals_upd hJ.2 (.inl rfl)⟩)
  case wa10 =>
   obtain ⟨d5, S, er0, e50, e7⟩ := hJ.1.k7 (hd 7 (by kernel_rfl))
   obtain ⟨q, e9, hq, hrm⟩ := hJ.1.k9 (hd 9 (by kernel_rfl))
   obtain ⟨y, y1, y2, y3, y4, er, e', ho, _⟩ := (hJ.1.k5 d5).out
   have e5 : f 5 = .tuple #[.agg (snA y y1 y2 y3 y4), .int .i64 er] := Ending.returned.inj e'
   have hS : S = snA y y1 y2 y3 y4 := by rw [e50] at e5; simp at e5; exact e5.1
   subst hS
   have e7 : f 7 = .agg (snA y y1 y2 y3 y4) := e7
   have e9 : f 9 = .pointer (some ⟨q, 0, none⟩) := e9
   have e7' := Box'.mk e7
   have e9' := Box'.mk e9
   simp only [e7, e9] at hK ⊢
   exact wp_store_row 32 (.tmp 10) (.tmp 112) rfl q rfl (snA y y1 y2 y3 y4) rfl 32 44 hrm s32 rfl ho (hK _ _ ⟨hJ.1.o10 (hd 9 (by kernel_rfl)) (hd 7 (by kernel_rfl)) q _ e9'.out e7'.out rfl _, vals_upd hJ.2 (.inl rfl)⟩)
  case wa11 =>
   exact wp_val (f 8) (by simp [go_sem]) (hK _ _ ⟨hJ.1.o11 (hd 8 (by kernel_rfl)), vals_upd hJ.2 (.inl rfl)⟩)
  all_goals (refine wp_of_quiet rfl ?_; go_big_quiet_step (fail); exact wpQuiet_nil (hK _ _ ⟨(hJ.1.other _ _ (by decide)), vals_upd hJ.2 (.inr rfl)⟩))
 ·intro D f wz hD hJ
  have hW := hJ.1
  have P := fun j h h2 => hJ.2 j (hD j h) h2
  have hz := And.intro hW.be (hW.fin hD)
  clear hJ hD
  simp (disch := decide) only [tkS, tkZ, List.drop_succ_cons, List.drop_zero, setAll, siB, stS, stZ, Nat.zero_add, Nat.reduceAdd, P]
  clear P
  exact hQ _ _ _ _ _ _ wz (hz)
theorem samG_self (co ro : Int) (c : List Cl) : samG co ro c co ro c = true := by
 unfold samG
 rw [decide_eq_true rfl, decide_eq_true rfl, Bool.true_and, Bool.true_and]
 exact eqL_yes rfl fun i hi => (clB_iff _ _).2 rfl
/-- What stands of ScreenKeeps: what came in, the screen x in a box of its own. -/
structure KpF (w : World) (s : Sn) (vg vt vm vl : Value) (x : Sn) (xg xt xm xl : Value) (p : Nat) (wr : World) : Prop where
 r : Row wr w.heap.size 32 (snA s vg vt vm vl)
 l : Li w.heap.size wr s vg vt vm vl
 h : Row wr p 32 (snA x xg xt xm xl)
 hp : w.heap.size < p
 o : OwnL w.heap.size wr x xg xt xm xl
 be : Below w.heap.size w wr
theorem KpF.below {w : World} {s : Sn} {vg vt vm vl : Value} {x : Sn} {xg xt xm xl : Value} {p : Nat} {wr w' : World} (h : KpF w s vg vt vm vl x xg xt xm xl p wr) (hb : Below wr.heap.size wr w') : KpF w s vg vt vm vl x xg xt xm xl p w' :=
 ⟨h.r.below hb h.r.lt, ⟨h.l.g.below hb h.be.size, h.l.t.below hb h.be.size, h.l.m.below hb h.be.size, h.l.l.below hb h.be.size⟩, h.h.below hb h.h.lt, h.hp, h.o.below hb, h.be.trans (hb.mono h.be.size)⟩
/-- The next screen is laid into the box. -/
theorem KpF.put {w : World} {s : Sn} {vg vt vm vl : Value} {x : Sn} {xg xt xm xl : Value} {p : Nat} {wr : World} (h : KpF w s vg vt vm vl x xg xt xm xl p wr) {y : Sn} {yg yt ym yl : Value} (ho : OwnL w.heap.size wr y yg yt ym yl) : KpF w s vg vt vm vl y yg yt ym yl p (wr.setRow p (snA y yg yt ym yl)) :=
 have hb : Below w.heap.size wr (wr.setRow p (snA y yg yt ym yl)) := below_setRow bR (Nat.le_of_lt h.hp) _
 ⟨Row.setRowOther h.r _ _ (Nat.ne_of_lt h.hp), ⟨h.l.g.below hb (Nat.le_refl _), h.l.t.below hb (Nat.le_refl _), h.l.m.below hb (Nat.le_refl _), h.l.l.below hb (Nat.le_refl _)⟩, h.h.setRow _, h.hp, ho.setRow _ 32 _ (h.h.room (n := 44) rfl) (by decide) (by decide) (by decide), h.be.trans hb⟩
theorem KpF.done {w : World} {s : Sn} {vg vt vm vl : Value} {x : Sn} {xg xt xm xl : Value} {p : Nat} {wr : World} (h : KpF w s vg vt vm vl x xg xt xm xl p wr) (hm : mayN x = true) (d : De) : ∀ wq, Below wr.heap.size wr wq → Calls Tryz.prog 8 #[.agg (snA x xg xt xm xl), .agg (deA d)] wq fun e w' => DR wr.heap.size w' e (doS x d.k d.a d.b d.on) ∧ Below wq.heap.size wq w' := fun wq hb =>
 (done_any x xg xt xm xl wq ((h.o.below hb).li) (may_Bo hm) d.k d.a d.b d.on).mono fun e w' q => ⟨q.1.down hb.size, q.2⟩
theorem keeps_no (x : Sn) (vg vt vm vl v : Value) (w : World) (hl : Li w.heap.size w x vg vt vm vl) (hb : Bo x) (hN : mayN x = false) : Calls Tryz.prog 6 #[.agg (snA x vg vt vm vl), v] w fun e w' => e = .returned (.bool true) ∧ Below w.heap.size w w' := by
 have SM := Box'.mk (SnM.begin w (snA x vg vt vm vl))
 have AN := Box'.mk anchored_any
 have KE : Box' (∀ wx, Below w.heap.size w wx → Calls Tryz.prog 18 #[.agg (snA x vg vt vm vl), .bool false] wx fun e w' => e = .returned sErr ∧ Below wx.heap.size wx w') := ⟨fun wx h => Keep_no x vg vt vm vl false wx (hl.at h) hb hN⟩
 have M1 : Box' (∀ wx, Below w.heap.size w wx → Calls Tryz.prog 12 #[.agg (snA x vg vt vm vl)] wx fun e w' => e = .returned (.bool false) ∧ Below wx.heap.size wx w') := ⟨fun wx h => by rw [← hN]; exact rmay_any x vg vt vm vl wx (hl.at h) hb⟩
 have U32 := Box'.mk Tryz.underlying32
 have S32 := Box'.mk s32
 have O := Box'.mk (snA_one zN none none none none 0 0 0 0 0 0 0 0)
 clear hl hb hN
 go_enter Tryz.func6, Tryz.ntmps6
 go_upto_region 1 with (fail)
 generalize (w.alloc (.cells (snA x vg vt vm vl) 32)) = w1 at *
 go_wp2_with (first
  | (refine wpList_load_row rfl 32 (.tmp 2) rfl w.heap.size rfl 32 (snA x vg vt vm vl) SM.out.r _ U32.out rfl 44 S32.out rfl ?_))
 refine (KE.out _ SM.out.be).mono ?_
 rintro e w2 ⟨rfl, hb⟩
 replace SM := Box'.mk (SM.out.below hb)
 clear hb KE
 have S3 : Box' (SnM w (snA x vg vt vm vl) ((w2.alloc (.cells z32 32)).setRow w2.heap.size (snA zN (.slice none 0 0) (.slice none 0 0) (.slice none 0 0) (.slice none 0 0)))) := ⟨SM.out.below (below_setRow (bR.alloc (Nat.le_refl _) _) (Nat.le_refl _) _)⟩
 unfold sErr
 generalize zN = zz at *
 go_upto_region 2 with (first
  | (refine wpList_store_row rfl 32 (.tmp 5) (.tmp 17) rfl w2.heap.size rfl (snA zz (.slice none 0 0) (.slice none 0 0) (.slice none 0 0) (.slice none 0 0)) rfl 32 44 ((Row.new w2 32 _).room rfl) S32.out rfl O.out ?_))
 generalize ((w2.alloc (.cells z32 32)).setRow w2.heap.size (snA zz (.slice none 0 0) (.slice none 0 0) (.slice none 0 0) (.slice none 0 0))) = w3 at *
 clear SM
 go_wp2_with fail
 refine (AN.out _).mono ?_
 rintro e w4 ⟨rfl, hb⟩
 replace S3 := Box'.mk (S3.out.below hb)
 clear hb AN
 go_wp2_with (first
  | (go_big_want; refine wp_load_row 32 (.tmp 2) rfl w.heap.size rfl 32 (snA x vg vt vm vl) S3.out.r _ U32.out rfl 44 S32.out rfl ?_; simp only [Act.put, siB, stS, stZ]))
 refine (M1.out _ S3.out.be).mono ?_
 rintro e w5 ⟨rfl, hb⟩
 replace S3 := Box'.mk (S3.out.below hb)
 clear hb M1
 go_wp2_with fail
 go_ret
 exact ⟨rfl, S3.out.be⟩
theorem keeps_yes (s : Sn) (vg vt vm vl : Value) (aa : Option Addr) (m cp : Nat) (q : Nat → De) (hmc : m ≤ cp) (hm : m ≤ 140737488355328) (w : World) (hq : ∀ i, i < m → 0 ≤ (q i).k ∧ ∃ b o, aa = some ⟨b, o, none⟩ ∧ b < w.heap.size ∧ w.rangeAt b (o + i * 4) (deA (q i)).toList)
  (hl : Li w.heap.size w s vg vt vm vl) (hN : mayN s = true) : Calls Tryz.prog 6 #[.agg (snA s vg vt vm vl), .slice aa m cp] w fun e w' => e = .returned (.bool true) ∧ Below w.heap.size w w' := by
 have AN := Box'.mk anchored_any
 have BS := Box'.mk (may_Bo hN)
 have K1 : Box' (∀ wx, Below w.heap.size w wx → Calls Tryz.prog 18 #[.agg (snA s vg vt vm vl), .bool false] wx fun e w' => ScR wx.heap.size w' e (keF s false) ∧ Below wx.heap.size wx w') := ⟨fun wx h => Keep_ok s vg vt vm vl false wx (hl.at h) (may_Bo hN) hN⟩
 have K2 : Box' (∀ (y : Sn) (yg yt ym yl : Value) (wx : World), Li wx.heap.size wx y yg yt ym yl → mayN y = true → Calls Tryz.prog 18 #[.agg (snA y yg yt ym yl), .bool true] wx fun e w' => ScR wx.heap.size w' e (keF y true) ∧ Below wx.heap.size wx w') := ⟨fun y yg yt ym yl wx h1 h2 => Keep_ok y yg yt ym yl true wx h1 (may_Bo h2) h2⟩
 obtain ⟨x, hx⟩ : ∃ x, x = keF s false := ⟨_, rfl⟩
 have XM : Box' (mayN x = true) := ⟨by rw [hx]; exact may_ke hN false⟩
 have XS : Box' (x.sv = s.cur) := ⟨by rw [hx]; rfl⟩
 obtain ⟨y, hy⟩ : ∃ y, y = keF x true := ⟨_, rfl⟩
 have YG : Box' (y.g = s.g) := ⟨by rw [hy, hx]; rfl⟩
 have YC : Box' (y.cur = s.cur) := ⟨by rw [hy, hx]; rfl⟩
 rw [← hx] at K1
 have HY := Box'.mk hy
 have HQ := Box'.mk hq
 have LI := Box'.mk hl
 have U32 := Box'.mk Tryz.underlying32
 have S32 := Box'.mk s32
 have SM := Box'.mk (SnM.begin w (snA s vg vt vm vl))
 clear hl hN hq hx hy
 go_enter Tryz.func6, Tryz.ntmps6
 go_upto_region 1 with (fail)
 generalize (w.alloc (.cells (snA s vg vt vm vl) 32)) = w1 at *
 go_wp2_with (first
  | (refine wpList_load_row rfl 32 (.tmp 2) rfl w.heap.size rfl 32 (snA s vg vt vm vl) SM.out.r _ U32.out rfl 44 S32.out rfl ?_))
 refine (K1.out _ SM.out.be).mono ?_
 rintro e w2 ⟨⟨xg, xt, xm, xl, rfl, ow⟩, hb⟩
 have OX : Box' (OwnL w.heap.size w2 x xg xt xm xl) := ⟨ow.down SM.out.be.size⟩
 replace SM := Box'.mk (SM.out.below hb)
 have O := Box'.mk OX.out.li.one
 clear hb ow K1
 have F3 : Box' (KpF w s vg vt vm vl x xg xt xm xl w2.heap.size ((w2.alloc (.cells z32 32)).setRow w2.heap.size (snA x xg xt xm xl))) :=
  have hb : Below w2.heap.size w2 ((w2.alloc (.cells z32 32)).setRow w2.heap.size (snA x xg xt xm xl)) := (below_setRow (bR.alloc (Nat.le_refl _) _) (Nat.le_refl _) _)
  have L2 := LI.out
  have hl2 : Li w.heap.size ((w2.alloc (.cells z32 32)).setRow w2.heap.size (snA x xg xt xm xl)) s vg vt vm vl := ⟨(L2.g.below SM.out.be (Nat.le_refl _)).below hb SM.out.be.size, (L2.t.below SM.out.be (Nat.le_refl _)).below hb SM.out.be.size, (L2.m.below SM.out.be (Nat.le_refl _)).below hb SM.out.be.size, (L2.l.below SM.out.be (Nat.le_refl _)).below hb SM.out.be.size⟩
  ⟨⟨SM.out.r.below hb SM.out.r.lt, hl2, (Row.new w2 32 _).setRow _, SM.out.r.lt, (OX.out.below (bR.alloc (Nat.le_refl _) _)).setRow _ 32 _ ((Row.new w2 32 _).room (n := 44) rfl) (by decide) (by decide) (by decide), SM.out.be.trans (hb.mono SM.out.be.size)⟩⟩
 clear LI
 go_upto_region 2 with (first
  | (refine wpList_store_row rfl 32 (.tmp 5) (.tmp 17) rfl w2.heap.size rfl (snA x xg xt xm xl) rfl 32 44 ((Row.new w2 32 _).room rfl) S32.out rfl O.out ?_))
 generalize ((w2.alloc (.cells z32 32)).setRow w2.heap.size (snA x xg xt xm xl)) = w3 at *
 generalize w2.heap.size = p at *
 clear SM OX O
 go_wp2_with (first
  | (refine wpList_load_row rfl 32 (.tmp 5) rfl p rfl 32 (snA x xg xt xm xl) F3.out.h _ U32.out rfl 44 S32.out rfl ?_))
 refine (K2.out x xg xt xm xl _ F3.out.o.li XM.out).mono ?_
 rw [← HY.out]
 rintro e w4 ⟨⟨yg, yt, ym, yl, rfl, ow⟩, hb⟩
 have F4 := Box'.mk (F3.out.below hb)
 have O := Box'.mk ow.li.one
 have OY : Box' (OwnL w.heap.size w4 y yg yt ym yl) := ⟨ow.down F3.out.be.size⟩
 clear hb ow F3 HY
 have F5 : Box' (KpF w s vg vt vm vl x xg xt xm xl p ((w4.alloc (.cells z32 32)).setRow w4.heap.size (snA y yg yt ym yl))) := ⟨F4.out.below (below_setRow (bR.alloc (Nat.le_refl _) _) (Nat.le_refl _) _)⟩
 have Y5 : Box' (Row ((w4.alloc (.cells z32 32)).setRow w4.heap.size (snA y yg yt ym yl)) w4.heap.size 32 (snA y yg yt ym yl)) := ⟨(Row.new w4 32 _).setRow _⟩
 have OY5 : Box' (OwnL w.heap.size ((w4.alloc (.cells z32 32)).setRow w4.heap.size (snA y yg yt ym yl)) y yg yt ym yl) := ⟨OY.out.below (below_setRow (bR.alloc (Nat.le_refl _) _) (Nat.le_refl _) _)⟩
 clear F4 OY
 go_upto_region 5 with (first
  | (refine wpList_store_row rfl 32 (.tmp 7) (.tmp 30) rfl w4.heap.size rfl (snA y yg yt ym yl) rfl 32 44 ((Row.new w4 32 _).room rfl) S32.out rfl O.out ?_))
 generalize ((w4.alloc (.cells z32 32)).setRow w4.heap.size (snA y yg yt ym yl)) = w5 at *
 generalize w4.heap.size = p7 at *
 clear O
 have RS : Box' (Calls Tryz.prog 19 #[.agg (gA s.g.co s.g.ro yg), .agg (gA s.g.co s.g.ro vg)] w5 fun e w' => e = .returned (.bool true) ∧ Below w5.heap.size w5 w') := ⟨by
  have := rsame_any s.g.co s.g.ro s.g.co s.g.ro yg vg s.g.c s.g.c BS.out.g w5 (by have := OY5.out.li.g; rw [YG.out] at this; exact this) (F5.out.l.g.up F5.out.be.size)
  rw [samG_self] at this
  exact this⟩
 have g7 : Box' (w5.rangeAt p7 0 (gA s.g.co s.g.ro yg).toList) := ⟨by have := sn_grid Y5.out; rw [YG.out] at this; exact this⟩
 have g2 : Box' (w5.rangeAt w.heap.size 0 (gA s.g.co s.g.ro vg).toList) := ⟨sn_grid F5.out.r⟩
 go_wp2_with (first
  | (go_big_want; refine wp_load_gridM (.tmp 35) rfl p7 0 s.g.co s.g.ro yg rfl g7.out ?_; simp only [Act.put, siB, stS, stZ])
  | (go_big_want; refine wp_load_gridM (.tmp 37) rfl w.heap.size 0 s.g.co s.g.ro vg rfl g2.out ?_; simp only [Act.put, siB, stS, stZ]))
 refine RS.out.mono ?_
 rintro e w6 ⟨rfl, hb⟩
 have F6 := Box'.mk (F5.out.below hb)
 have Y6 := Box'.mk (Y5.out.below hb Y5.out.lt)
 clear hb F5 Y5 OY5 RS g7 g2
 have c3 : w6.cell? ⟨w.heap.size, 3, none⟩ = some (.int .i64 s.cur.row) := F6.out.r.cell 3
 have c4 : w6.cell? ⟨w.heap.size, 4, none⟩ = some (.int .i64 s.cur.col) := F6.out.r.cell 4
 have c5 : w6.cell? ⟨w.heap.size, 5, none⟩ = some (.bool s.cur.pend) := F6.out.r.cell 5
 have c20 : w6.cell? ⟨w.heap.size, 20, none⟩ = some (.bool s.cur.orig) := F6.out.r.cell 20
 have d3 : w6.cell? ⟨p7, 3, none⟩ = some (.int .i64 s.cur.row) := (Y6.out.cell 3).trans (congrArg (fun n : Sv => some (Value.int .i64 n.row)) YC.out)
 have d4 : w6.cell? ⟨p7, 4, none⟩ = some (.int .i64 s.cur.col) := (Y6.out.cell 4).trans (congrArg (fun n : Sv => some (Value.int .i64 n.col)) YC.out)
 have d5 : w6.cell? ⟨p7, 5, none⟩ = some (.bool s.cur.pend) := (Y6.out.cell 5).trans (congrArg (fun n : Sv => some (Value.bool n.pend)) YC.out)
 have d20 : w6.cell? ⟨p7, 20, none⟩ = some (.bool s.cur.orig) := (Y6.out.cell 20).trans (congrArg (fun n : Sv => some (Value.bool n.orig)) YC.out)
 have h2 : Box' (w6.rangeAt w.heap.size 6 (sA s.cur.st).toList) := ⟨sn_style F6.out.r⟩
 have h7 : Box' (w6.rangeAt p7 6 (sA s.cur.st).toList) := ⟨by have := sn_style Y6.out; rw [YC.out] at this; exact this⟩
 have SN : Box' ((!stB s.cur.st s.cur.st) = false) := ⟨by rw [stB_self]; rfl⟩
 have e1 : (s.cur.row != s.cur.row) = false := by simp
 have e2 : (s.cur.col != s.cur.col) = false := by simp
 go_upto_region 7 with (first
  | (go_big_want; refine wp_load_style (.tmp 57) rfl p7 6 s.cur.st rfl h7.out ?_; simp only [Act.put, siB, stS, stZ])
  | (go_big_want; refine wp_load_style (.tmp 59) rfl w.heap.size 6 s.cur.st rfl h2.out ?_; simp only [Act.put, siB, stS, stZ])
  | (go_big_want; refine wp_val _ (run_neq_op 26 (.tmp 58) (.tmp 60) rfl s.cur.st s.cur.st rfl rfl false SN.out _) ?_; simp only [Act.put, siB, stS, stZ]))
 clear c3 c4 c5 c20 d3 d4 d5 d20 h2 h7 SN e1 e2 Y6 YG YC
 go_wp2_with fail
 go_loopw [9] (fun i wr => ∃ (k : Nat) (x : Sn) (xg xt xm xl : Value), k ≤ m ∧ i = .int .i64 (k : Int) ∧ Box' (mayN x = true) ∧ Box' (x.sv = s.cur) ∧ Box' (KpF w s vg vt vm vl x xg xt xm xl p wr)) (fun i _ => m - (intOf i).toNat)
 case atStart => exact ⟨0, x, xg, xt, xm, xl, by omega, rfl, XM, XS, F6⟩
 case round =>
  clear F6 XM XS
  obtain ⟨k, x, xg, xt, xm, xl, hk, rfl, XM, XS, FF⟩ := hrel
  by_cases hlt : k < m
  case neg => as_aux_lemma =>
   clear HQ
   obtain ⟨z, hz⟩ : ∃ z, z = keF x true := ⟨_, rfl⟩
   have ZC : Box' (z.cur = s.cur) := ⟨by rw [hz, ← XS.out]; rfl⟩
   have KZ : Box' (Calls Tryz.prog 18 #[.agg (snA x xg xt xm xl), .bool true] wr fun e w' => ScR wr.heap.size w' e z ∧ Below wr.heap.size wr w') := ⟨by rw [hz]; exact K2.out x xg xt xm xl _ FF.out.o.li XM.out⟩
   clear hz K2
   go_wp2_with (first
    | (refine wpList_load_row rfl 32 (.tmp 5) rfl p rfl 32 (snA x xg xt xm xl) FF.out.h _ U32.out rfl 44 S32.out rfl ?_))
   refine KZ.out.mono ?_
   rintro e w7 ⟨⟨zg, zt, zm, zl, rfl, ow⟩, hb⟩
   have F7 := Box'.mk (FF.out.below hb)
   have O := Box'.mk ow.li.one
   clear hb ow FF KZ XS XM
   have F8 : Box' (KpF w s vg vt vm vl x xg xt xm xl p ((w7.alloc (.cells z32 32)).setRow w7.heap.size (snA z zg zt zm zl))) := ⟨F7.out.below (below_setRow (bR.alloc (Nat.le_refl _) _) (Nat.le_refl _) _)⟩
   have Z8 : Box' (Row ((w7.alloc (.cells z32 32)).setRow w7.heap.size (snA z zg zt zm zl)) w7.heap.size 32 (snA z zg zt zm zl)) := ⟨(Row.new w7 32 _).setRow _⟩
   clear F7
   go_upto_region 15 with (first
    | (refine wpList_store_row rfl 32 (.tmp 12) (.tmp 120) rfl w7.heap.size rfl (snA z zg zt zm zl) rfl 32 44 ((Row.new w7 32 _).room rfl) S32.out rfl O.out ?_))
   generalize ((w7.alloc (.cells z32 32)).setRow w7.heap.size (snA z zg zt zm zl)) = w8 at *
   generalize w7.heap.size = p12 at *
   clear O
   go_wp2_with fail
   refine (AN.out _).mono ?_
   rintro e w9 ⟨rfl, hb⟩
   have F9 := Box'.mk (F8.out.below hb)
   have Z9 := Box'.mk (Z8.out.below hb Z8.out.lt)
   clear hb F8 Z8
   have c3 : w9.cell? ⟨w.heap.size, 3, none⟩ = some (.int .i64 s.cur.row) := F9.out.r.cell 3
   have c4 : w9.cell? ⟨w.heap.size, 4, none⟩ = some (.int .i64 s.cur.col) := F9.out.r.cell 4
   have c5 : w9.cell? ⟨w.heap.size, 5, none⟩ = some (.bool s.cur.pend) := F9.out.r.cell 5
   have d3 : w9.cell? ⟨p12, 3, none⟩ = some (.int .i64 s.cur.row) := (Z9.out.cell 3).trans (congrArg (fun n : Sv => some (Value.int .i64 n.row)) ZC.out)
   have d4 : w9.cell? ⟨p12, 4, none⟩ = some (.int .i64 s.cur.col) := (Z9.out.cell 4).trans (congrArg (fun n : Sv => some (Value.int .i64 n.col)) ZC.out)
   have d5 : w9.cell? ⟨p12, 5, none⟩ = some (.bool s.cur.pend) := (Z9.out.cell 5).trans (congrArg (fun n : Sv => some (Value.bool n.pend)) ZC.out)
   have h2 : Box' (w9.rangeAt w.heap.size 6 (sA s.cur.st).toList) := ⟨sn_style F9.out.r⟩
   have h7 : Box' (w9.rangeAt p12 6 (sA s.cur.st).toList) := ⟨by have := sn_style Z9.out; rw [ZC.out] at this; exact this⟩
   have SN : Box' (stB s.cur.st s.cur.st = true) := ⟨stB_self _⟩
   have e1 : (s.cur.row == s.cur.row) = true := by simp
   have e2 : (s.cur.col == s.cur.col) = true := by simp
   go_wp2_with (first
    | (go_big_want; refine wp_load_style (.tmp 142) rfl p12 6 s.cur.st rfl h7.out ?_; simp only [Act.put, siB, stS, stZ])
    | (go_big_want; refine wp_load_style (.tmp 144) rfl w.heap.size 6 s.cur.st rfl h2.out ?_; simp only [Act.put, siB, stS, stZ])
    | (go_big_want; refine wp_val _ (run_eql_op 26 (.tmp 143) (.tmp 145) rfl s.cur.st s.cur.st rfl rfl true SN.out _) ?_; simp only [Act.put, siB, stS, stZ]))
   go_ret
   exact ⟨by simp, F9.out.be⟩
  case pos => as_aux_lemma =>
   obtain ⟨hk0, b, o, rfl, hbw, hrg⟩ := HQ.out k hlt
   have RG : Box' (∀ wx, Below w.heap.size w wx → wx.rangeAt b (o + k * 4) (deA (q k)).toList) := ⟨fun wx hb j u hu => by
    rw [hb.cell (p := ⟨b, o + k * 4 + j, none⟩) hbw]
    exact hrg j u hu⟩
   have HB : Box' (b < wr.heap.size) := ⟨Nat.lt_of_lt_of_le hbw FF.out.be.size⟩
   have K0 := Box'.mk hk0
   clear hrg HQ hbw hk0 K2
   generalize q k = d at *
   have cq : wr.cell? ⟨b, o + k * 4, none⟩ = some (.int .u8 d.k) := RG.out _ FF.out.be 0 _ rfl
   by_cases h9 : d.k = 9
   ·have b9 : (d.k == 9) = true := by simp [h9]
    clear h9
    go_wp2_with fail
    exact ⟨⟨k + 1, x, xg, xt, xm, xl, by omega, by go_num, XM, XS, FF⟩, by simp [intOf]; omega⟩
   have b9 : (d.k == 9) = false := by simpa using h9
   by_cases h13 : 13 ≤ d.k
   ·have b13 : decide (13 ≤ d.k) = true := decide_eq_true h13
    clear h9
    go_wp2_with fail
    exact ⟨⟨k + 1, x, xg, xt, xm, xl, by omega, by go_num, XM, XS, FF⟩, by simp [intOf]; omega⟩
   have b13 : decide (13 ≤ d.k) = false := decide_eq_false h13
   by_cases h10 : d.k = 10
   ·have b10 : (d.k == 10) = true := by simp [h10]
    clear h9 h13 h10
    go_wp2_with fail
    exact ⟨⟨k + 1, x, xg, xt, xm, xl, by omega, by go_num, XM, XS, FF⟩, by simp [intOf]; omega⟩
   have b10 : (d.k == 10) = false := by simpa using h10
   have H := Box'.mk (And.intro h9 (And.intro h10 h13))
   clear h9 h10 h13
   go_upto_region 11 with (fail)
   clear b9 b10 b13 cq
   refine kp_r11 wr p x xg xt xm xl FF.out.h b o m cp k hlt hm d HB.out (RG.out _ FF.out.be) _ (FF.out.done XM.out d) _ _ _ _ _ _ _ _ _ _ _ _ _ _ _ _ _ _ _ _ _ _ _ _ _ _ _ _ _ _ _ _ _ _ _ _ _ _ _ _ _ _ _ _ _ _ _ _ _ _ _ _ _ _ _ _ _ _ _ _ _ _ _ _ _ _ _ _ _ _ _ _ _ _ _ _ _ _ _ _ _ _ _ _ _ _ _ _ _ _ _ _ _ _ _ _ _ _ _ _ _ _ _ _ _ _ _ _ _ _ _ _ _ _ _ _ _ _ _ _ _ _ _ _ _ _ _ _ _ _ _ _ _ _ _ _ _ _ _ _ _ _ _ _ _ _ _ _ _ _ _ _ _ _ ?_
   rintro z5 z6 z7 z8 z9 z11 wz ⟨hbe, g, S9, er, rfl, rfl, rfl, rfl, rfl, rfl, hg, hrow, hdr⟩
   have F7 := Box'.mk (FF.out.below hbe)
   have G7 := Box'.mk hrow
   cases hr : doS x d.k d.a d.b d.on with
   | none => as_aux_lemma =>
    rw [hr] at hdr
    have he : er = 2 := by
     have hdr' : Ending.returned (.tuple #[.agg S9, .int .i64 er]) = .returned sErr := hdr
     unfold sErr at hdr'
     simp at hdr'
     exact hdr'.2
    subst he
    clear hdr hr FF hbe hrow hg RG HB
    go_wp2_with fail
    exact ⟨⟨k + 1, x, xg, xt, xm, xl, by omega, by go_num, XM, XS, F7⟩, by simp [intOf]; omega⟩
   | some y => as_aux_lemma =>
    rw [hr] at hdr
    obtain ⟨yg, yt, ym, yl, he, ow⟩ := hdr
    have he' : S9 = snA y yg yt ym yl ∧ er = 0 := by simpa using he
    obtain ⟨rfl, rfl⟩ := he'
    have YM : Box' (mayN y = true) := ⟨(may_do hr).2⟩
    have YS : Box' (y.sv = s.cur) := ⟨(sv_do hr H.out.1 H.out.2.1 (by have := H.out.2.2; omega) K0.out).trans XS.out⟩
    have N7 := Box'.mk (F7.out.put (ow.down FF.out.be.size))
    have O := Box'.mk ow.li.one
    have R7 : Box' (Room wz p 32 44) := ⟨F7.out.h.room (n := 44) rfl⟩
    clear he ow hr FF hbe hrow RG hg K0 HB H XS XM F7
    go_wp2_with (first
     | (refine wpList_load_row rfl 32 (.tmp 10) rfl g rfl 32 (snA y yg yt ym yl) G7.out _ U32.out rfl 44 S32.out rfl ?_)
     | (refine wpList_store_row rfl 32 (.tmp 5) (.tmp 116) rfl p rfl (snA y yg yt ym yl) rfl 32 44 R7.out S32.out rfl O.out ?_))
    exact ⟨⟨k + 1, y, yg, yt, ym, yl, by omega, by go_num, YM, YS, N7⟩, by simp [intOf]; omega⟩
theorem keeps_any (x : Sn) (vg vt vm vl : Value) (aa : Option Addr) (m cp : Nat) (q : Nat → De) (hmc : m ≤ cp) (hm : m ≤ 140737488355328) (w : World) (hq : ∀ i, i < m → 0 ≤ (q i).k ∧ ∃ b o, aa = some ⟨b, o, none⟩ ∧ b < w.heap.size ∧ w.rangeAt b (o + i * 4) (deA (q i)).toList) (hl : Li w.heap.size w x vg vt vm vl) (hb : Bo x) : Calls Tryz.prog 6 #[.agg (snA x vg vt vm vl), .slice aa m cp] w fun e w' => e = .returned (.bool true) ∧ Below w.heap.size w w' := by
 cases hN : mayN x with
 | false => exact keeps_no x vg vt vm vl _ w hl hb hN
 | true => exact keeps_yes x vg vt vm vl aa m cp q hmc hm w hq hl hN
end Go.Proofs.YtlekleeckcdcgaaGreat
