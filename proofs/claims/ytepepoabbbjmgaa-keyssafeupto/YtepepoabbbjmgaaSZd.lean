/- The reference's May. -/
import Derived.Test.YtepepoabbbjmgaaSZc
namespace Go.Proofs.Ytepepoabbbjmgaa.Sc
open Go.RowKit Go.BigFrame
set_option linter.unusedVariables false
set_option linter.unusedSimpArgs false
set_option maxHeartbeats 8000000
set_option maxRecDepth 100000
theorem gA_range {w : World} {b : Nat} {t : TypeId} {co ro : Int} {v : Value} (h : Row w b t (gA co ro v)) : w.rangeAt b 0 (gA co ro v).toList :=
 row_sub h 0 _ fun j hj => by
  rcases (show j = 0 ∨ j = 1 ∨ j = 2 by have : j < 3 := hj; omega) with rfl | rfl | rfl <;> rfl
theorem sn_svst {w : World} {b : Nat} {t : TypeId} {x : Sn} {vg vt vm vl : Value} (h : Row w b t (snA x vg vt vm vl)) : w.rangeAt b 29 (sA x.sv.st).toList :=
 row_sub h 29 _ fun j hj => lt10 (P := fun j => (snA x vg vt vm vl)[29 + j]? = (sA x.sv.st).toList[j]?) rfl rfl rfl rfl rfl rfl rfl rfl rfl rfl j hj
theorem rm_2w (w wr : World) (q3 : Nat) (x : Sn) (vg vt vm vl : Value) (h : RmM w q3 x vg vt vm vl wr) (R : Bool) (hg : Cls w.heap.size w vg x.g.c) (hv : Cls w.heap.size w vm x.mn.c) (hl : Rs w.heap.size w vl x.title) (ht : Is w.heap.size w vt x.tabs) (hn : x.tabs.length ≤ 140737488355328) (hco : x.g.co ≤ 512 ∨ mayG x.g.co x.g.ro x.g.c = false) (hR : R = (mayG x.g.co x.g.ro x.g.c && (pcF x.g.co x.g.ro x.cur.row x.cur.col x.cur.pend && (pcF x.g.co x.g.ro x.sv.row x.sv.col x.sv.pend && (!decide (x.top < 0) && (!decide (x.bot < x.top) && (!decide (x.g.ro ≤ x.bot) && (mayS x.cur.st && (mayS x.sv.st && (tabF (-1) x.g.co x.tabs && (titF x.title && mnR x))))))))))) (u0 u2 u4 u5 u6 u7 u8 u9 u10 u11 u12 u13 u14 u15 u16 u17 u18 u19 u20 u21 u22 u23 u24 u25 u26 u27 u28 u29 u30 u31 u32 u33 u34 u35 u36 u37 u38 u39 u40 u41 u42 u43 u44 u45 u46 u47 u48 u49 u50 u51 u52 u53 u54 u55 u56 u57 u58 u59 u60 u61 u62 u63 u64 u65 u66 u67 u68 u69 u70 u71 u72 u73 u74 u75 u76 u77 u78 u79 u80 u81 u82 u83 u84 u85 u86 u87 u88 u89 u90 u91 u92 u93 u94 u95 u96 u97 u98 u99 u100 u101 u102 u103 u104 u105 u106 u107 u108 u109 u110 u111 u112 u113 u114 u115 u116 u117 u118 u119 u120 u121 u122 u123 u124 u125 u126 u127 u128 u129 u130 u131 u132 u133 u134 u135 u136 u137 u138 u139 u140 u141 u142 u143 u144 u145 u146 u147 u148 u149 u150 u151 u152 u153 u154 u155 u156 u157 u158 u159 u160 u161 u162 u163 : Value) :
  Code.wp Try.prog (seqR (seqR ((Try.f20.body.getD .skip)))) (bodyPost Try.prog Try.f20 (fun e w' => e = .returned (.bool R) ∧ Below w.heap.size w w')) ⟨List.toArray (u0 :: (.pointer (some ⟨w.heap.size, 0, none⟩)) :: u2 :: (.pointer (some ⟨q3, 0, none⟩)) :: u4 :: u5 :: u6 :: u7 :: u8 :: u9 :: u10 :: u11 :: u12 :: u13 :: u14 :: u15 :: u16 :: u17 :: u18 :: u19 :: u20 :: u21 :: u22 :: u23 :: u24 :: u25 :: u26 :: u27 :: u28 :: u29 :: u30 :: u31 :: u32 :: u33 :: u34 :: u35 :: u36 :: u37 :: u38 :: u39 :: u40 :: u41 :: u42 :: u43 :: u44 :: u45 :: u46 :: u47 :: u48 :: u49 :: u50 :: u51 :: u52 :: u53 :: u54 :: u55 :: u56 :: u57 :: u58 :: u59 :: u60 :: u61 :: u62 :: u63 :: u64 :: u65 :: u66 :: u67 :: u68 :: u69 :: u70 :: u71 :: u72 :: u73 :: u74 :: u75 :: u76 :: u77 :: u78 :: u79 :: u80 :: u81 :: u82 :: u83 :: u84 :: u85 :: u86 :: u87 :: u88 :: u89 :: u90 :: u91 :: u92 :: u93 :: u94 :: u95 :: u96 :: u97 :: u98 :: u99 :: u100 :: u101 :: u102 :: u103 :: u104 :: u105 :: u106 :: u107 :: u108 :: u109 :: u110 :: u111 :: u112 :: u113 :: u114 :: u115 :: u116 :: u117 :: u118 :: u119 :: u120 :: u121 :: u122 :: u123 :: u124 :: u125 :: u126 :: u127 :: u128 :: u129 :: u130 :: u131 :: u132 :: u133 :: u134 :: u135 :: u136 :: u137 :: u138 :: u139 :: u140 :: u141 :: u142 :: u143 :: u144 :: u145 :: u146 :: u147 :: u148 :: u149 :: u150 :: u151 :: u152 :: u153 :: u154 :: u155 :: u156 :: u157 :: u158 :: u159 :: u160 :: u161 :: u162 :: u163 :: []), []⟩ wr := by
 conv => arg 2; whnf
 have F := Box'.mk h
 refine wp_seq_k fun K hK => ?_
 have HK := Box'.mk hK
 clear hK
 have HV := Box'.mk hv
 have HL := Box'.mk hl
 have HT := Box'.mk ht
 have HN := Box'.mk hn
 have MG : Box' (∀ wx, Below w.heap.size w wx → Calls Try.prog 30 #[.agg (gA x.g.co x.g.ro vg)] wx fun e w' => e = .returned (.bool (mayG x.g.co x.g.ro x.g.c)) ∧ Below wx.heap.size wx w') := ⟨fun wx hb => rmayg_any x.g.co x.g.ro vg x.g.c wx ((hg.below hb (Nat.le_refl _)).up hb.size)⟩
 have PL1 : Box' (mayG x.g.co x.g.ro x.g.c = true → ∀ wx, Calls Try.prog 31 #[.agg (gA x.g.co x.g.ro vg), .int .i64 x.cur.row, .int .i64 x.cur.col, .bool x.cur.pend] wx fun e w' => e = .returned (.bool (pcF x.g.co x.g.ro x.cur.row x.cur.col x.cur.pend)) ∧ Below wx.heap.size wx w') := ⟨fun f0 wx => by
  obtain ⟨a, c, e, _⟩ := hg
  rw [e]
  exact rplace_any x.g.co x.g.ro x.cur.row x.cur.col a _ c x.cur.pend wx (by rcases hco with h | h; exact h; rw [f0] at h; cases h)⟩
 have PL2 : Box' (mayG x.g.co x.g.ro x.g.c = true → ∀ wx, Calls Try.prog 31 #[.agg (gA x.g.co x.g.ro vg), .int .i64 x.sv.row, .int .i64 x.sv.col, .bool x.sv.pend] wx fun e w' => e = .returned (.bool (pcF x.g.co x.g.ro x.sv.row x.sv.col x.sv.pend)) ∧ Below wx.heap.size wx w') := ⟨fun f0 wx => by
  obtain ⟨a, c, e, _⟩ := hg
  rw [e]
  exact rplace_any x.g.co x.g.ro x.sv.row x.sv.col a _ c x.sv.pend wx (by rcases hco with h | h; exact h; rw [f0] at h; cases h)⟩
 clear h hg hv hl ht hn hco
 go_wp2_with (first
  | (refine wpList_load_gridM rfl (.tmp 3) rfl q3 0 x.g.co x.g.ro vg rfl (gA_range F.out.c) ?_)
  | (go_big_want; refine wp_load_gridM (.tmp 3) rfl q3 0 x.g.co x.g.ro vg rfl (gA_range F.out.c) ?_; simp only [Act.put, siB, stS, stZ])
  | (go_big_want; refine wp_load_style (.tmp 56) rfl w.heap.size 6 x.cur.st rfl (sn_style F.out.r) ?_; simp only [Act.put, siB, stS, stZ])
  | (go_big_want; refine wp_load_style (.tmp 63) rfl w.heap.size 29 x.sv.st rfl (sn_svst F.out.r) ?_; simp only [Act.put, siB, stS, stZ]))
 refine (MG.out _ F.out.be).mono ?_
 rintro e w0 ⟨rfl, hb⟩
 replace F := Box'.mk (F.out.below hb)
 clear hb
 cases f0 : mayG x.g.co x.g.ro x.g.c with
 | false =>
  rw [f0] at hR
  go_wp2_with fail
  go_ret
  exact ⟨by rw [hR]; simp, F.out.be⟩
 | true =>
 have c3 : w0.cell? ⟨w.heap.size, 3, none⟩ = some (.int .i64 x.cur.row) := F.out.r.cell 3
 have c4 : w0.cell? ⟨w.heap.size, 4, none⟩ = some (.int .i64 x.cur.col) := F.out.r.cell 4
 have c5 : w0.cell? ⟨w.heap.size, 5, none⟩ = some (.bool x.cur.pend) := F.out.r.cell 5
 go_wp2_with (first
  | (refine wpList_load_gridM rfl (.tmp 3) rfl q3 0 x.g.co x.g.ro vg rfl (gA_range F.out.c) ?_)
  | (go_big_want; refine wp_load_gridM (.tmp 3) rfl q3 0 x.g.co x.g.ro vg rfl (gA_range F.out.c) ?_; simp only [Act.put, siB, stS, stZ])
  | (go_big_want; refine wp_load_style (.tmp 56) rfl w.heap.size 6 x.cur.st rfl (sn_style F.out.r) ?_; simp only [Act.put, siB, stS, stZ])
  | (go_big_want; refine wp_load_style (.tmp 63) rfl w.heap.size 29 x.sv.st rfl (sn_svst F.out.r) ?_; simp only [Act.put, siB, stS, stZ]))
 refine (PL1.out f0 _).mono ?_
 rintro e w1 ⟨rfl, hb⟩
 replace F := Box'.mk (F.out.below hb)
 clear hb c3 c4 c5
 cases f1 : pcF x.g.co x.g.ro x.cur.row x.cur.col x.cur.pend with
 | false =>
  rw [f1] at hR
  go_wp2_with fail
  go_ret
  exact ⟨by rw [hR]; simp, F.out.be⟩
 | true =>
 have c25 : w1.cell? ⟨w.heap.size, 25, none⟩ = some (.int .i64 x.sv.row) := F.out.r.cell 25
 have c26 : w1.cell? ⟨w.heap.size, 26, none⟩ = some (.int .i64 x.sv.col) := F.out.r.cell 26
 have c27 : w1.cell? ⟨w.heap.size, 27, none⟩ = some (.bool x.sv.pend) := F.out.r.cell 27
 go_wp2_with (first
  | (refine wpList_load_gridM rfl (.tmp 3) rfl q3 0 x.g.co x.g.ro vg rfl (gA_range F.out.c) ?_)
  | (go_big_want; refine wp_load_gridM (.tmp 3) rfl q3 0 x.g.co x.g.ro vg rfl (gA_range F.out.c) ?_; simp only [Act.put, siB, stS, stZ])
  | (go_big_want; refine wp_load_style (.tmp 56) rfl w.heap.size 6 x.cur.st rfl (sn_style F.out.r) ?_; simp only [Act.put, siB, stS, stZ])
  | (go_big_want; refine wp_load_style (.tmp 63) rfl w.heap.size 29 x.sv.st rfl (sn_svst F.out.r) ?_; simp only [Act.put, siB, stS, stZ]))
 refine (PL2.out f0 _).mono ?_
 rintro e w2 ⟨rfl, hb⟩
 replace F := Box'.mk (F.out.below hb)
 clear hb c25 c26 c27
 cases f2 : pcF x.g.co x.g.ro x.sv.row x.sv.col x.sv.pend with
 | false =>
  rw [f2] at hR
  go_wp2_with fail
  go_ret
  exact ⟨by rw [hR]; simp, F.out.be⟩
 | true =>
 have c16 : w2.cell? ⟨w.heap.size, 16, none⟩ = some (.int .i64 x.top) := F.out.r.cell 16
 have c17 : w2.cell? ⟨w.heap.size, 17, none⟩ = some (.int .i64 x.bot) := F.out.r.cell 17
 have e1 : w2.cell? ⟨q3, 1, none⟩ = some (.int .i64 x.g.ro) := F.out.c.cell 1
 cases f3 : decide (x.top < 0) with
 | true =>
  rw [f3] at hR
  go_wp2_with fail
  go_ret
  exact ⟨by rw [hR]; simp, F.out.be⟩
 | false =>
 cases f4 : decide (x.bot < x.top) with
 | true =>
  rw [f4] at hR
  go_wp2_with fail
  go_ret
  exact ⟨by rw [hR]; simp, F.out.be⟩
 | false =>
 cases f5 : decide (x.g.ro ≤ x.bot) with
 | true =>
  rw [f5] at hR
  go_wp2_with fail
  go_ret
  exact ⟨by rw [hR]; simp, F.out.be⟩
 | false =>
 go_wp2_with (first
  | (refine wpList_load_gridM rfl (.tmp 3) rfl q3 0 x.g.co x.g.ro vg rfl (gA_range F.out.c) ?_)
  | (go_big_want; refine wp_load_gridM (.tmp 3) rfl q3 0 x.g.co x.g.ro vg rfl (gA_range F.out.c) ?_; simp only [Act.put, siB, stS, stZ])
  | (go_big_want; refine wp_load_style (.tmp 56) rfl w.heap.size 6 x.cur.st rfl (sn_style F.out.r) ?_; simp only [Act.put, siB, stS, stZ])
  | (go_big_want; refine wp_load_style (.tmp 63) rfl w.heap.size 29 x.sv.st rfl (sn_svst F.out.r) ?_; simp only [Act.put, siB, stS, stZ]))
 refine (refMayStyle_any x.cur.st _).mono ?_
 rintro e w6 ⟨rfl, hb⟩
 replace F := Box'.mk (F.out.below hb)
 clear hb c16 c17 e1
 cases f6 : mayS x.cur.st with
 | false =>
  rw [f6] at hR
  go_wp2_with fail
  go_ret
  exact ⟨by rw [hR]; simp, F.out.be⟩
 | true =>
 go_wp2_with (first
  | (refine wpList_load_gridM rfl (.tmp 3) rfl q3 0 x.g.co x.g.ro vg rfl (gA_range F.out.c) ?_)
  | (go_big_want; refine wp_load_gridM (.tmp 3) rfl q3 0 x.g.co x.g.ro vg rfl (gA_range F.out.c) ?_; simp only [Act.put, siB, stS, stZ])
  | (go_big_want; refine wp_load_style (.tmp 56) rfl w.heap.size 6 x.cur.st rfl (sn_style F.out.r) ?_; simp only [Act.put, siB, stS, stZ])
  | (go_big_want; refine wp_load_style (.tmp 63) rfl w.heap.size 29 x.sv.st rfl (sn_svst F.out.r) ?_; simp only [Act.put, siB, stS, stZ]))
 refine (refMayStyle_any x.sv.st _).mono ?_
 rintro e w7 ⟨rfl, hb⟩
 replace F := Box'.mk (F.out.below hb)
 clear hb
 cases f7 : mayS x.sv.st with
 | false =>
  rw [f7] at hR
  go_wp2_with fail
  go_ret
  exact ⟨by rw [hR]; simp, F.out.be⟩
 | true =>
 go_wp2_with fail
 exact HK.out _ _ (rm_3 w _ q3 x vg vt vm vl F.out R HV.out HL.out HT.out HN.out (by rw [hR, f0, f1, f2, f3, f4, f5, f6, f7]; rfl) _ _ _ _ _ _ _ _ _ _ _ _ _ _ _ _ _ _ _ _ _ _ _ _ _ _ _ _ _ _ _ _ _ _ _ _ _ _ _ _ _ _ _ _ _ _ _ _ _ _ _ _ _ _ _ _ _ _ _ _ _ _ _ _ _ _ _ _ _ _ _ _ _ _ _ _ _ _ _ _ _ _ _ _ _ _ _ _ _ _ _ _ _ _ _ _ _ _ _ _ _ _ _ _ _ _ _ _ _ _ _ _ _ _ _ _ _ _ _ _ _ _ _ _ _ _ _ _ _ _ _ _ _ _ _ _ _ _ _ _ _ _ _ _ _ _ _ _ _ _ _ _ _ _ _ _ _ _ _ _ _ _ )
end Go.Proofs.Ytepepoabbbjmgaa.Sc
