/- The reference's May is the program's. The screen of the anchor. The anchor. ScreenStays, of a screen that may not be. What stands while a law does a deed. ScreenStays: a deed is done. ScreenStays, of a screen that may be. ScreenKeeps: a deed is done. ScreenKeeps, walked. ScreenStays and ScreenKeeps, -/
import Derived.Laws.AppendOwn
import Derived.BigQuiet
import Derived.Shelf.Slices.SearchI
import Derived.Shelf.Slices.Delete
import Derived.Shelf.Slices.Empties
import Derived.Test.YtepepoabbbjmgaaSZd
import Derived.Test.YtepepoabbbjmgaaSYj
import Derived.Test.YtepepoabbbjmgaaSXd
import Derived.Test.YtepepoabbbjmgaaSNg
import Derived.Test.YtepepoabbbjmgaaSGw
import Derived.Test.YtepepoabbbjmgaaSNn
import Derived.Test.YtepepoabbbjmgaaSNj
import Derived.Test.YtepepoabbbjmgaaSEq
import Derived.Test.YtepepoabbbjmgaaSQd
import Derived.Test.YtepepoabbbjmgaaSCa
import Derived.Test.YtepepoabbbjmgaaSOa
namespace Go.Proofs.Ytepepoabbbjmgaa.Sc
open Go.RowKit Go.BigFrame
set_option linter.unusedVariables false
set_option linter.unusedSimpArgs false
set_option maxRecDepth 100000
set_option maxHeartbeats 16000000
theorem cur_pc (co ro : Int) (y : Sv) : curF co ro y = (pcF co ro y.row y.col y.pend && mayS y.st) := by
 unfold curF pcF inN
 simp only [Bool.decide_and, Bool.and_assoc]
theorem reg_eq (top bot ro : Int) : (inN bot ro && (decide (0 ≤ top) && decide (top ≤ bot))) = (!decide (top < 0) && (!decide (bot < top) && !decide (ro ≤ bot))) := by
 unfold inN
 rw [Bool.eq_iff_iff]
 simp only [Bool.and_eq_true, decide_eq_true_eq, Bool.not_eq_true', decide_eq_false_iff_not]
 omega
theorem mn_eq (x : Sn) : mnR x = mnF x := by
 unfold mnR mnF
 split
 ·generalize mayG x.mn.co x.mn.ro x.mn.c = a
  generalize decide (x.mn.co = x.g.co) = b
  generalize decide (x.mn.ro = x.g.ro) = c
  cases a <;> cases b <;> cases c <;> rfl
 ·unfold samG eqL
  cases x.mn.c <;> simp
def refM (x : Sn) : Bool := mayG x.g.co x.g.ro x.g.c && (pcF x.g.co x.g.ro x.cur.row x.cur.col x.cur.pend && (pcF x.g.co x.g.ro x.sv.row x.sv.col x.sv.pend && (!decide (x.top < 0) && (!decide (x.bot < x.top) && (!decide (x.g.ro ≤ x.bot) && (mayS x.cur.st && (mayS x.sv.st && (tabF (-1) x.g.co x.tabs && (titF x.title && mnR x)))))))))
theorem refM_eq (x : Sn) : refM x = mayN x := by
 unfold refM mayN
 rw [mn_eq, cur_pc, cur_pc]
 have e := reg_eq x.top x.bot x.g.ro
 generalize mnF x = m
 generalize mayG x.g.co x.g.ro x.g.c = a
 generalize pcF x.g.co x.g.ro x.cur.row x.cur.col x.cur.pend = p1
 generalize pcF x.g.co x.g.ro x.sv.row x.sv.col x.sv.pend = p2
 generalize mayS x.cur.st = s1
 generalize mayS x.sv.st = s2
 generalize tabF (-1) x.g.co x.tabs = T
 generalize titF x.title = L
 generalize inN x.bot x.g.ro = i at *
 generalize decide (0 ≤ x.top) = z at *
 generalize decide (x.top ≤ x.bot) = b at *
 generalize (!decide (x.top < 0)) = t3 at *
 generalize (!decide (x.bot < x.top)) = t4 at *
 generalize (!decide (x.g.ro ≤ x.bot)) = t5 at *
 have l : (a && (p1 && (p2 && (t3 && (t4 && (t5 && (s1 && (s2 && (T && (L && m)))))))))) = ((t3 && (t4 && t5)) && (a && (p1 && (p2 && (s1 && (s2 && (T && (L && m)))))))) := by ac_rfl
 rw [l, ← e]
 ac_rfl
theorem rm_2 (w wr : World) (q3 : Nat) (x : Sn) (vg vt vm vl : Value) (h : RmM w q3 x vg vt vm vl wr) (R : Bool) (hg : Cls w.heap.size w vg x.g.c) (hv : Cls w.heap.size w vm x.mn.c) (hl : Rs w.heap.size w vl x.title) (ht : Is w.heap.size w vt x.tabs) (hn : x.tabs.length ≤ 140737488355328) (hco : x.g.co ≤ 512 ∨ mayG x.g.co x.g.ro x.g.c = false) (hR : R = refM x) (u0 u2 u4 u5 u6 u7 u8 u9 u10 u11 u12 u13 u14 u15 u16 u17 u18 u19 u20 u21 u22 u23 u24 u25 u26 u27 u28 u29 u30 u31 u32 u33 u34 u35 u36 u37 u38 u39 u40 u41 u42 u43 u44 u45 u46 u47 u48 u49 u50 u51 u52 u53 u54 u55 u56 u57 u58 u59 u60 u61 u62 u63 u64 u65 u66 u67 u68 u69 u70 u71 u72 u73 u74 u75 u76 u77 u78 u79 u80 u81 u82 u83 u84 u85 u86 u87 u88 u89 u90 u91 u92 u93 u94 u95 u96 u97 u98 u99 u100 u101 u102 u103 u104 u105 u106 u107 u108 u109 u110 u111 u112 u113 u114 u115 u116 u117 u118 u119 u120 u121 u122 u123 u124 u125 u126 u127 u128 u129 u130 u131 u132 u133 u134 u135 u136 u137 u138 u139 u140 u141 u142 u143 u144 u145 u146 u147 u148 u149 u150 u151 u152 u153 u154 u155 u156 u157 u158 u159 u160 u161 u162 u163 : Value) :
  Code.wp Try.prog (seqR (seqR ((Try.f20.body.getD .skip)))) (bodyPost Try.prog Try.f20 (fun e w' => e = .returned (.bool R) ∧ Below w.heap.size w w')) ⟨List.toArray (u0 :: (.pointer (some ⟨w.heap.size, 0, none⟩)) :: u2 :: (.pointer (some ⟨q3, 0, none⟩)) :: u4 :: u5 :: u6 :: u7 :: u8 :: u9 :: u10 :: u11 :: u12 :: u13 :: u14 :: u15 :: u16 :: u17 :: u18 :: u19 :: u20 :: u21 :: u22 :: u23 :: u24 :: u25 :: u26 :: u27 :: u28 :: u29 :: u30 :: u31 :: u32 :: u33 :: u34 :: u35 :: u36 :: u37 :: u38 :: u39 :: u40 :: u41 :: u42 :: u43 :: u44 :: u45 :: u46 :: u47 :: u48 :: u49 :: u50 :: u51 :: u52 :: u53 :: u54 :: u55 :: u56 :: u57 :: u58 :: u59 :: u60 :: u61 :: u62 :: u63 :: u64 :: u65 :: u66 :: u67 :: u68 :: u69 :: u70 :: u71 :: u72 :: u73 :: u74 :: u75 :: u76 :: u77 :: u78 :: u79 :: u80 :: u81 :: u82 :: u83 :: u84 :: u85 :: u86 :: u87 :: u88 :: u89 :: u90 :: u91 :: u92 :: u93 :: u94 :: u95 :: u96 :: u97 :: u98 :: u99 :: u100 :: u101 :: u102 :: u103 :: u104 :: u105 :: u106 :: u107 :: u108 :: u109 :: u110 :: u111 :: u112 :: u113 :: u114 :: u115 :: u116 :: u117 :: u118 :: u119 :: u120 :: u121 :: u122 :: u123 :: u124 :: u125 :: u126 :: u127 :: u128 :: u129 :: u130 :: u131 :: u132 :: u133 :: u134 :: u135 :: u136 :: u137 :: u138 :: u139 :: u140 :: u141 :: u142 :: u143 :: u144 :: u145 :: u146 :: u147 :: u148 :: u149 :: u150 :: u151 :: u152 :: u153 :: u154 :: u155 :: u156 :: u157 :: u158 :: u159 :: u160 :: u161 :: u162 :: u163 :: []), []⟩ wr := by
 unfold refM at hR
 exact rm_2w w wr q3 x vg vt vm vl h R hg hv hl ht hn hco hR u0 u2 u4 u5 u6 u7 u8 u9 u10 u11 u12 u13 u14 u15 u16 u17 u18 u19 u20 u21 u22 u23 u24 u25 u26 u27 u28 u29 u30 u31 u32 u33 u34 u35 u36 u37 u38 u39 u40 u41 u42 u43 u44 u45 u46 u47 u48 u49 u50 u51 u52 u53 u54 u55 u56 u57 u58 u59 u60 u61 u62 u63 u64 u65 u66 u67 u68 u69 u70 u71 u72 u73 u74 u75 u76 u77 u78 u79 u80 u81 u82 u83 u84 u85 u86 u87 u88 u89 u90 u91 u92 u93 u94 u95 u96 u97 u98 u99 u100 u101 u102 u103 u104 u105 u106 u107 u108 u109 u110 u111 u112 u113 u114 u115 u116 u117 u118 u119 u120 u121 u122 u123 u124 u125 u126 u127 u128 u129 u130 u131 u132 u133 u134 u135 u136 u137 u138 u139 u140 u141 u142 u143 u144 u145 u146 u147 u148 u149 u150 u151 u152 u153 u154 u155 u156 u157 u158 u159 u160 u161 u162 u163
theorem may_co {co ro : Int} {c : List Cl} : co ≤ 512 ∨ mayG co ro c = false := by
 by_cases h : sideF co = true
 ·left; unfold sideF at h; have := of_decide_eq_true h; omega
 ·right; unfold mayG; rw [Bool.eq_false_iff.mpr h]; rfl
theorem rmay_any (x : Sn) (vg vt vm vl : Value) (w : World) (hl : Li w.heap.size w x vg vt vm vl) (hb : Bo x) : Calls Try.prog 20 #[.agg (snA x vg vt vm vl)] w fun e w' => e = .returned (.bool (mayN x)) ∧ Below w.heap.size w w' := by
 have HL := Box'.mk hl
 have HB := Box'.mk hb
 have SM := Box'.mk (SnM.begin w (snA x vg vt vm vl))
 clear hl hb
 rw [← refM_eq]
 go_enter Try.func20, Try.ntmps20
 refine wp_seq_k fun K hK => ?_
 have HK := Box'.mk hK
 clear hK
 go_wp2_with fail
 refine HK.out _ _ ?_
 clear HK
 generalize (w.alloc (.cells (snA x vg vt vm vl) 47)) = w1 at *
 refine wp_seq_k fun K hK => ?_
 have HK := Box'.mk hK
 clear hK
 obtain ⟨ga, gc, eg, _⟩ := HL.out.g
 have O : Box' ((gA x.g.co x.g.ro vg).all (·.oneCell') = true) := ⟨by rw [eg]; exact gA_one _ _ _ _ _⟩
 have S24 : Box' ((Try.prog.info? 39).map (·.size) = some 3) := ⟨s24g⟩
 clear eg
 go_wp2_with (first
  | (refine wpList_load_gridM rfl (.tmp 6) rfl w.heap.size 0 x.g.co x.g.ro vg rfl (sn_grid SM.out.r) ?_)
  | (refine wpList_store_row rfl 39 (.tmp 3) (.tmp 7) rfl w1.heap.size rfl (gA x.g.co x.g.ro vg) rfl 39 3 ((Row.new w1 39 _).room rfl) S24.out rfl O.out ?_))
 refine HK.out _ _ ?_
 have hs := SM.out.be.size
 have hlt := SM.out.r.lt
 exact rm_2 w _ w1.heap.size x vg vt vm vl ⟨(SM.out.r.alloc _).setRowOther _ _ (by omega), (Row.new w1 39 _).setRow _, below_setRow (SM.out.be.alloc hs _) hs _⟩ (refM x) HL.out.g HL.out.m HL.out.l HL.out.t HB.out.t may_co rfl _ _ _ _ _ _ _ _ _ _ _ _ _ _ _ _ _ _ _ _ _ _ _ _ _ _ _ _ _ _ _ _ _ _ _ _ _ _ _ _ _ _ _ _ _ _ _ _ _ _ _ _ _ _ _ _ _ _ _ _ _ _ _ _ _ _ _ _ _ _ _ _ _ _ _ _ _ _ _ _ _ _ _ _ _ _ _ _ _ _ _ _ _ _ _ _ _ _ _ _ _ _ _ _ _ _ _ _ _ _ _ _ _ _ _ _ _ _ _ _ _ _ _ _ _ _ _ _ _ _ _ _ _ _ _ _ _ _ _ _ _ _ _ _ _ _ _ _ _ _ _ _ _ _ _ _ _ _ _ _ _ _ 
section
variable {w : World} {r : Option Sn} {D : Nat → Bool} {f : Nat → Value} {wa : World}
end
end Go.Proofs.Ytepepoabbbjmgaa.Sc
