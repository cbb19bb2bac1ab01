/- The reference's May. -/
import Derived.Laws.AppendOwn
import Derived.BigQuiet
import Derived.Shelf.Slices.SearchI
import Derived.Shelf.Slices.Delete
import Derived.Shelf.Slices.Empties
import Derived.Test.YtepepoabbbjmgaaSXd
import Derived.Test.YtepepoabbbjmgaaSNg
import Derived.Test.YtepepoabbbjmgaaSGw
import Derived.Test.YtepepoabbbjmgaaSNn
import Derived.Test.YtepepoabbbjmgaaSNj
import Derived.Test.YtepepoabbbjmgaaSEq
import Derived.Test.YtepepoabbbjmgaaSYj
import Derived.Test.YtepepoabbbjmgaaSQd
import Derived.Test.YtepepoabbbjmgaaSCa
namespace Go.Proofs.Ytepepoabbbjmgaa.Sc
open Go.RowKit Go.BigFrame
set_option linter.unusedVariables false
set_option linter.unusedSimpArgs false
set_option maxHeartbeats 8000000
set_option maxRecDepth 100000
def pcF (co ro row col : Int) (pend : Bool) : Bool := decide (0 ≤ row) && (decide (row < ro) && (decide (0 ≤ col) && (decide (col < co) && (!pend || decide (col = co - 1)))))
theorem rplace_1 (co ro row col : Int) (a : Option Addr) (n c : Nat) (pend : Bool) (w : World) (h1 : ¬ 0 ≤ row) : Calls Try.prog 31 #[.agg #[.int .i64 co, .int .i64 ro, .slice a n c], .int .i64 row, .int .i64 col, .bool pend] w fun e w' => e = .returned (.bool false) ∧ Below w.heap.size w w' := by
 go_enter Try.func31, Try.ntmps31
 go_wp2_with fail
 go_ret
 exact ⟨rfl, (Below.refl w.heap.size w).alloc (Nat.le_refl _) _⟩
theorem rplace_2 (co ro row col : Int) (a : Option Addr) (n c : Nat) (pend : Bool) (w : World) (h1 : 0 ≤ row) (h2 : ¬ row < ro) : Calls Try.prog 31 #[.agg #[.int .i64 co, .int .i64 ro, .slice a n c], .int .i64 row, .int .i64 col, .bool pend] w fun e w' => e = .returned (.bool false) ∧ Below w.heap.size w w' := by
 go_enter Try.func31, Try.ntmps31
 go_wp2_with fail
 go_ret
 exact ⟨rfl, (Below.refl w.heap.size w).alloc (Nat.le_refl _) _⟩
theorem rplace_3 (co ro row col : Int) (a : Option Addr) (n c : Nat) (pend : Bool) (w : World) (h1 : 0 ≤ row) (h2 : row < ro) (h3 : ¬ 0 ≤ col) : Calls Try.prog 31 #[.agg #[.int .i64 co, .int .i64 ro, .slice a n c], .int .i64 row, .int .i64 col, .bool pend] w fun e w' => e = .returned (.bool false) ∧ Below w.heap.size w w' := by
 go_enter Try.func31, Try.ntmps31
 go_wp2_with fail
 go_ret
 exact ⟨rfl, (Below.refl w.heap.size w).alloc (Nat.le_refl _) _⟩
theorem rplace_4 (co ro row col : Int) (a : Option Addr) (n c : Nat) (pend : Bool) (w : World) (h1 : 0 ≤ row) (h2 : row < ro) (h3 : 0 ≤ col) (h4 : ¬ col < co) : Calls Try.prog 31 #[.agg #[.int .i64 co, .int .i64 ro, .slice a n c], .int .i64 row, .int .i64 col, .bool pend] w fun e w' => e = .returned (.bool false) ∧ Below w.heap.size w w' := by
 go_enter Try.func31, Try.ntmps31
 go_wp2_with fail
 go_ret
 exact ⟨rfl, (Below.refl w.heap.size w).alloc (Nat.le_refl _) _⟩
theorem rplace_5 (co ro row col : Int) (a : Option Addr) (n c : Nat) (w : World) (h1 : 0 ≤ row) (h2 : row < ro) (h3 : 0 ≤ col) (h4 : col < co) : Calls Try.prog 31 #[.agg #[.int .i64 co, .int .i64 ro, .slice a n c], .int .i64 row, .int .i64 col, .bool false] w fun e w' => e = .returned (.bool true) ∧ Below w.heap.size w w' := by
 go_enter Try.func31, Try.ntmps31
 go_wp2_with fail
 go_ret
 exact ⟨rfl, (Below.refl w.heap.size w).alloc (Nat.le_refl _) _⟩
theorem rplace_6 (co ro row col : Int) (a : Option Addr) (n c : Nat) (w : World) (h1 : 0 ≤ row) (h2 : row < ro) (h3 : 0 ≤ col) (h4 : col < co) (h6 : co ≤ 9000000000000000000) (h5 : ¬ col = co - 1) : Calls Try.prog 31 #[.agg #[.int .i64 co, .int .i64 ro, .slice a n c], .int .i64 row, .int .i64 col, .bool true] w fun e w' => e = .returned (.bool false) ∧ Below w.heap.size w w' := by
 have hq : (col == co - 1) = false := by simpa using h5
 go_enter Try.func31, Try.ntmps31
 go_wp2_with fail
 go_ret
 exact ⟨rfl, (Below.refl w.heap.size w).alloc (Nat.le_refl _) _⟩
theorem rplace_7 (co ro row col : Int) (a : Option Addr) (n c : Nat) (w : World) (h1 : 0 ≤ row) (h2 : row < ro) (h3 : 0 ≤ col) (h4 : col < co) (h6 : co ≤ 9000000000000000000) (h5 : col = co - 1) : Calls Try.prog 31 #[.agg #[.int .i64 co, .int .i64 ro, .slice a n c], .int .i64 row, .int .i64 col, .bool true] w fun e w' => e = .returned (.bool true) ∧ Below w.heap.size w w' := by
 go_enter Try.func31, Try.ntmps31
 go_wp2_with fail
 go_ret
 exact ⟨rfl, (Below.refl w.heap.size w).alloc (Nat.le_refl _) _⟩
theorem rplace_any (co ro row col : Int) (a : Option Addr) (n c : Nat) (pend : Bool) (w : World) (hc : co ≤ 512) : Calls Try.prog 31 #[.agg #[.int .i64 co, .int .i64 ro, .slice a n c], .int .i64 row, .int .i64 col, .bool pend] w fun e w' => e = .returned (.bool (pcF co ro row col pend)) ∧ Below w.heap.size w w' := by
 unfold pcF
 by_cases h1 : 0 ≤ row
 case neg => rw [decide_eq_false h1]; exact rplace_1 co ro row col a n c pend w h1
 by_cases h2 : row < ro
 case neg => rw [decide_eq_true h1, decide_eq_false h2]; exact rplace_2 co ro row col a n c pend w h1 h2
 by_cases h3 : 0 ≤ col
 case neg => rw [decide_eq_true h1, decide_eq_true h2, decide_eq_false h3]; exact rplace_3 co ro row col a n c pend w h1 h2 h3
 by_cases h4 : col < co
 case neg => rw [decide_eq_true h1, decide_eq_true h2, decide_eq_true h3, decide_eq_false h4]; exact rplace_4 co ro row col a n c pend w h1 h2 h3 h4
 rw [decide_eq_true h1, decide_eq_true h2, decide_eq_true h3, decide_eq_true h4]
 cases pend with
 | false => exact rplace_5 co ro row col a n c w h1 h2 h3 h4
 | true =>
  by_cases h5 : col = co - 1
  ·rw [decide_eq_true h5]; exact rplace_7 co ro row col a n c w h1 h2 h3 h4 (by omega) h5
  ·rw [decide_eq_false h5]; exact rplace_6 co ro row col a n c w h1 h2 h3 h4 (by omega) h5
/-- What stands while the reference looks at a screen. -/
structure RmM (w : World) (q3 : Nat) (x : Sn) (vg vt vm vl : Value) (wr : World) : Prop where
 r : Row wr w.heap.size 47 (snA x vg vt vm vl)
 c : Row wr (q3) 39 (gA x.g.co x.g.ro vg)
 be : Below w.heap.size w wr
theorem RmM.below {w : World} {q3 : Nat} {x : Sn} {vg vt vm vl : Value} {wr w' : World} (h : RmM w q3 x vg vt vm vl wr) (hb : Below wr.heap.size wr w') : RmM w q3 x vg vt vm vl w' :=
 ⟨h.r.below hb h.r.lt, h.c.below hb h.c.lt, h.be.trans (hb.mono h.be.size)⟩
theorem RmM.drewN {w : World} {q3 : Nat} {x : Sn} {vg vt vm vl : Value} {wr : World} (h : RmM w q3 x vg vt vm vl wr) (n : Nat) : RmM w q3 x vg vt vm vl (wr.drewN n) := h.below (Below.drewN bR n)
def mnR (x : Sn) : Bool := if x.alt then mayG x.mn.co x.mn.ro x.mn.c && (decide (x.mn.co = x.g.co) && decide (x.mn.ro = x.g.ro)) else decide (x.mn.co = 0) && (decide (x.mn.ro = 0) && decide (x.mn.c.length = 0))
theorem rm_6 (w wr : World) (q3 : Nat) (x : Sn) (vg vt vm vl : Value) (h : RmM w q3 x vg vt vm vl wr) (R : Bool) (hv : Cls w.heap.size w vm x.mn.c) (hR : R = mnR x) (u0 u2 u4 u5 u6 u7 u8 u9 u10 u11 u12 u13 u14 u15 u16 u17 u18 u19 u20 u21 u22 u23 u24 u25 u26 u27 u28 u29 u30 u31 u32 u33 u34 u35 u36 u37 u38 u39 u40 u41 u42 u43 u44 u45 u46 u47 u48 u49 u50 u51 u52 u53 u54 u55 u56 u57 u58 u59 u60 u61 u62 u63 u64 u65 u66 u67 u68 u69 u70 u71 u72 u73 u74 u75 u76 u77 u78 u79 u80 u81 u82 u83 u84 u85 u86 u87 u88 u89 u90 u91 u92 u93 u94 u95 u96 u97 u98 u99 u100 u101 u102 u103 u104 u105 u106 u107 u108 u109 u110 u111 u112 u113 u114 u115 u116 u117 u118 u119 u120 u121 u122 u123 u124 u125 u126 u127 u128 u129 u130 u131 u132 u133 u134 u135 u136 u137 u138 u139 u140 u141 u142 u143 u144 u145 u146 u147 u148 u149 u150 u151 u152 u153 u154 u155 u156 u157 u158 u159 u160 u161 u162 u163 : Value) :
  Code.wp Try.prog (seqR (seqR (seqR (seqR (seqR (seqR ((Try.f20.body.getD .skip)))))))) (bodyPost Try.prog Try.f20 (fun e w' => e = .returned (.bool R) ∧ Below w.heap.size w w')) ⟨List.toArray (u0 :: (.pointer (some ⟨w.heap.size, 0, none⟩)) :: u2 :: (.pointer (some ⟨q3, 0, none⟩)) :: u4 :: u5 :: u6 :: u7 :: u8 :: u9 :: u10 :: u11 :: u12 :: u13 :: u14 :: u15 :: u16 :: u17 :: u18 :: u19 :: u20 :: u21 :: u22 :: u23 :: u24 :: u25 :: u26 :: u27 :: u28 :: u29 :: u30 :: u31 :: u32 :: u33 :: u34 :: u35 :: u36 :: u37 :: u38 :: u39 :: u40 :: u41 :: u42 :: u43 :: u44 :: u45 :: u46 :: u47 :: u48 :: u49 :: u50 :: u51 :: u52 :: u53 :: u54 :: u55 :: u56 :: u57 :: u58 :: u59 :: u60 :: u61 :: u62 :: u63 :: u64 :: u65 :: u66 :: u67 :: u68 :: u69 :: u70 :: u71 :: u72 :: u73 :: u74 :: u75 :: u76 :: u77 :: u78 :: u79 :: u80 :: u81 :: u82 :: u83 :: u84 :: u85 :: u86 :: u87 :: u88 :: u89 :: u90 :: u91 :: u92 :: u93 :: u94 :: u95 :: u96 :: u97 :: u98 :: u99 :: u100 :: u101 :: u102 :: u103 :: u104 :: u105 :: u106 :: u107 :: u108 :: u109 :: u110 :: u111 :: u112 :: u113 :: u114 :: u115 :: u116 :: u117 :: u118 :: u119 :: u120 :: u121 :: u122 :: u123 :: u124 :: u125 :: u126 :: u127 :: u128 :: u129 :: u130 :: u131 :: u132 :: u133 :: u134 :: u135 :: u136 :: u137 :: u138 :: u139 :: u140 :: u141 :: u142 :: u143 :: u144 :: u145 :: u146 :: u147 :: u148 :: u149 :: u150 :: u151 :: u152 :: u153 :: u154 :: u155 :: u156 :: u157 :: u158 :: u159 :: u160 :: u161 :: u162 :: u163 :: []), []⟩ wr := by
 unfold mnR at hR
 have MG : ∀ wx, Below w.heap.size w wx → Calls Try.prog 30 #[.agg (gA x.mn.co x.mn.ro vm)] wx fun e w' => e = .returned (.bool (mayG x.mn.co x.mn.ro x.mn.c)) ∧ Below wx.heap.size wx w' := fun wx hb => rmayg_any x.mn.co x.mn.ro vm x.mn.c wx ((hv.below hb (Nat.le_refl _)).up hb.size)
 by_cases hA : x.alt = true
 ·rw [if_pos hA] at hR
  cases hm : mayG x.mn.co x.mn.ro x.mn.c with
  | false =>
   replace hR : R = false := by rw [hR, hm]; rfl
   clear hv
   conv => arg 2; whnf
   have F := Box'.mk h
   subst hR
   replace MG := Box'.mk MG
   rw [hm] at MG
   have c39 : wr.cell? ⟨w.heap.size, 39, none⟩ = some (.bool true) := by rw [← hA]; exact F.out.r.cell 39
   clear h hA hm
   go_wp2_with (first
    | (refine wpList_load_gridM rfl (.tmp 128) rfl w.heap.size 40 x.mn.co x.mn.ro vm rfl (sn_main F.out.r) ?_))
   refine (MG.out _ F.out.be).mono ?_
   rintro e w2 ⟨rfl, hb⟩
   replace F := Box'.mk (F.out.below hb)
   clear hb MG c39
   go_wp2_with fail
   go_ret
   exact ⟨rfl, F.out.be⟩
  | true =>
   by_cases h1 : x.mn.co = x.g.co
   ·by_cases h2 : x.mn.ro = x.g.ro
    ·replace hR : R = true := by rw [hR, hm, decide_eq_true h1, decide_eq_true h2]; rfl
     clear hv
     conv => arg 2; whnf
     have F := Box'.mk h
     subst hR
     replace MG := Box'.mk MG
     rw [hm] at MG
     have c39 : wr.cell? ⟨w.heap.size, 39, none⟩ = some (.bool true) := by rw [← hA]; exact F.out.r.cell 39
     have q1 : Box' ((x.mn.co == x.g.co) = true) := ⟨by simpa using h1⟩
     have q2 : Box' ((x.mn.ro == x.g.ro) = true) := ⟨by simpa using h2⟩
     clear h hA hm h1 h2
     go_wp2_with (first
      | (refine wpList_load_gridM rfl (.tmp 128) rfl w.heap.size 40 x.mn.co x.mn.ro vm rfl (sn_main F.out.r) ?_))
     refine (MG.out _ F.out.be).mono ?_
     rintro e w2 ⟨rfl, hb⟩
     replace F := Box'.mk (F.out.below hb)
     clear hb MG c39
     have c40 : w2.cell? ⟨w.heap.size, 40, none⟩ = some (.int .i64 x.mn.co) := F.out.r.cell 40
     have c41 : w2.cell? ⟨w.heap.size, 41, none⟩ = some (.int .i64 x.mn.ro) := F.out.r.cell 41
     have e0 : w2.cell? ⟨q3, 0, none⟩ = some (.int .i64 x.g.co) := F.out.c.cell 0
     have e1 : w2.cell? ⟨q3, 1, none⟩ = some (.int .i64 x.g.ro) := F.out.c.cell 1
     replace q1 := q1.out
     replace q2 := q2.out
     generalize x.mn.co = z1 at *
     generalize x.g.co = z2 at *
     generalize x.mn.ro = z3 at *
     generalize x.g.ro = z4 at *
     go_wp2_with fail
     go_ret
     exact ⟨rfl, F.out.be⟩
    ·replace hR : R = false := by rw [hR, hm, decide_eq_true h1, decide_eq_false h2]; rfl
     clear hv
     conv => arg 2; whnf
     have F := Box'.mk h
     subst hR
     replace MG := Box'.mk MG
     rw [hm] at MG
     have c39 : wr.cell? ⟨w.heap.size, 39, none⟩ = some (.bool true) := by rw [← hA]; exact F.out.r.cell 39
     have q1 : Box' ((x.mn.co == x.g.co) = true) := ⟨by simpa using h1⟩
     have q2 : Box' ((x.mn.ro == x.g.ro) = false) := ⟨by simpa using h2⟩
     clear h hA hm h1 h2
     go_wp2_with (first
      | (refine wpList_load_gridM rfl (.tmp 128) rfl w.heap.size 40 x.mn.co x.mn.ro vm rfl (sn_main F.out.r) ?_))
     refine (MG.out _ F.out.be).mono ?_
     rintro e w2 ⟨rfl, hb⟩
     replace F := Box'.mk (F.out.below hb)
     clear hb MG c39
     have c40 : w2.cell? ⟨w.heap.size, 40, none⟩ = some (.int .i64 x.mn.co) := F.out.r.cell 40
     have c41 : w2.cell? ⟨w.heap.size, 41, none⟩ = some (.int .i64 x.mn.ro) := F.out.r.cell 41
     have e0 : w2.cell? ⟨q3, 0, none⟩ = some (.int .i64 x.g.co) := F.out.c.cell 0
     have e1 : w2.cell? ⟨q3, 1, none⟩ = some (.int .i64 x.g.ro) := F.out.c.cell 1
     replace q1 := q1.out
     replace q2 := q2.out
     generalize x.mn.co = z1 at *
     generalize x.g.co = z2 at *
     generalize x.mn.ro = z3 at *
     generalize x.g.ro = z4 at *
     go_wp2_with fail
     go_ret
     exact ⟨rfl, F.out.be⟩
   ·replace hR : R = false := by rw [hR, hm, decide_eq_false h1]; rfl
    clear hv
    conv => arg 2; whnf
    have F := Box'.mk h
    subst hR
    replace MG := Box'.mk MG
    rw [hm] at MG
    have c39 : wr.cell? ⟨w.heap.size, 39, none⟩ = some (.bool true) := by rw [← hA]; exact F.out.r.cell 39
    have q1 : Box' ((x.mn.co == x.g.co) = false) := ⟨by simpa using h1⟩
    clear h hA hm h1
    go_wp2_with (first
     | (refine wpList_load_gridM rfl (.tmp 128) rfl w.heap.size 40 x.mn.co x.mn.ro vm rfl (sn_main F.out.r) ?_))
    refine (MG.out _ F.out.be).mono ?_
    rintro e w2 ⟨rfl, hb⟩
    replace F := Box'.mk (F.out.below hb)
    clear hb MG c39
    have c40 : w2.cell? ⟨w.heap.size, 40, none⟩ = some (.int .i64 x.mn.co) := F.out.r.cell 40
    have c41 : w2.cell? ⟨w.heap.size, 41, none⟩ = some (.int .i64 x.mn.ro) := F.out.r.cell 41
    have e0 : w2.cell? ⟨q3, 0, none⟩ = some (.int .i64 x.g.co) := F.out.c.cell 0
    have e1 : w2.cell? ⟨q3, 1, none⟩ = some (.int .i64 x.g.ro) := F.out.c.cell 1
    replace q1 := q1.out
    generalize x.mn.co = z1 at *
    generalize x.g.co = z2 at *
    generalize x.mn.ro = z3 at *
    generalize x.g.ro = z4 at *
    go_wp2_with fail
    go_ret
    exact ⟨rfl, F.out.be⟩
 ·rw [if_neg hA] at hR
  have hA' : x.alt = false := by cases hq : x.alt with
   | false => rfl
   | true => exact absurd hq hA
  obtain ⟨am, cm, e, _⟩ := hv
  by_cases h1 : x.mn.co = 0
  ·by_cases h2 : x.mn.ro = 0
   ·by_cases h3 : x.mn.c.length = 0
    ·replace hR : R = true := by rw [hR, decide_eq_true h1, decide_eq_true h2, decide_eq_true h3]; rfl
     replace hA := hA'
     clear MG
     conv => arg 2; whnf
     have F := Box'.mk h
     subst hR
     have c39 : wr.cell? ⟨w.heap.size, 39, none⟩ = some (.bool false) := by rw [← hA]; exact F.out.r.cell 39
     have c40 : wr.cell? ⟨w.heap.size, 40, none⟩ = some (.int .i64 x.mn.co) := F.out.r.cell 40
     have c41 : wr.cell? ⟨w.heap.size, 41, none⟩ = some (.int .i64 x.mn.ro) := F.out.r.cell 41
     have c42 : wr.cell? ⟨w.heap.size, 42, none⟩ = some (.slice am x.mn.c.length cm) := by rw [← e]; exact F.out.r.cell 42
     rw [h1] at c40; clear h1
     rw [h2] at c41; clear h2
     rw [h3] at c42; clear h3
     clear h hA hA' e
     go_wp2_with fail
     go_ret
     exact ⟨rfl, F.out.be⟩
    ·replace hR : R = false := by rw [hR, decide_eq_true h1, decide_eq_true h2, decide_eq_false h3]; rfl
     replace hA := hA'
     clear MG
     conv => arg 2; whnf
     have F := Box'.mk h
     subst hR
     have c39 : wr.cell? ⟨w.heap.size, 39, none⟩ = some (.bool false) := by rw [← hA]; exact F.out.r.cell 39
     have c40 : wr.cell? ⟨w.heap.size, 40, none⟩ = some (.int .i64 x.mn.co) := F.out.r.cell 40
     have c41 : wr.cell? ⟨w.heap.size, 41, none⟩ = some (.int .i64 x.mn.ro) := F.out.r.cell 41
     have c42 : wr.cell? ⟨w.heap.size, 42, none⟩ = some (.slice am x.mn.c.length cm) := by rw [← e]; exact F.out.r.cell 42
     rw [h1] at c40; clear h1
     rw [h2] at c41; clear h2
     have hq : ((x.mn.c.length : Int) == 0) = false := by simpa using h3
     clear h hA hA' e
     go_wp2_with fail
     go_ret
     exact ⟨rfl, F.out.be⟩
   ·replace hR : R = false := by rw [hR, decide_eq_true h1, decide_eq_false h2]; rfl
    replace hA := hA'
    clear MG
    conv => arg 2; whnf
    have F := Box'.mk h
    subst hR
    have c39 : wr.cell? ⟨w.heap.size, 39, none⟩ = some (.bool false) := by rw [← hA]; exact F.out.r.cell 39
    have c40 : wr.cell? ⟨w.heap.size, 40, none⟩ = some (.int .i64 x.mn.co) := F.out.r.cell 40
    have c41 : wr.cell? ⟨w.heap.size, 41, none⟩ = some (.int .i64 x.mn.ro) := F.out.r.cell 41
    have c42 : wr.cell? ⟨w.heap.size, 42, none⟩ = some (.slice am x.mn.c.length cm) := by rw [← e]; exact F.out.r.cell 42
    rw [h1] at c40; clear h1
    clear h hA hA' e
    go_wp2_with fail
    go_ret
    exact ⟨rfl, F.out.be⟩
  ·replace hR : R = false := by rw [hR, decide_eq_false h1]; rfl
   replace hA := hA'
   clear MG
   conv => arg 2; whnf
   have F := Box'.mk h
   subst hR
   have c39 : wr.cell? ⟨w.heap.size, 39, none⟩ = some (.bool false) := by rw [← hA]; exact F.out.r.cell 39
   have c40 : wr.cell? ⟨w.heap.size, 40, none⟩ = some (.int .i64 x.mn.co) := F.out.r.cell 40
   have c41 : wr.cell? ⟨w.heap.size, 41, none⟩ = some (.int .i64 x.mn.ro) := F.out.r.cell 41
   have c42 : wr.cell? ⟨w.heap.size, 42, none⟩ = some (.slice am x.mn.c.length cm) := by rw [← e]; exact F.out.r.cell 42
   clear h hA hA' e
   go_wp2_with fail
   go_ret
   exact ⟨rfl, F.out.be⟩
theorem rm_5 (w wr : World) (q3 : Nat) (x : Sn) (vg vt vm vl : Value) (h : RmM w q3 x vg vt vm vl wr) (R : Bool) (hv : Cls w.heap.size w vm x.mn.c) (al : Option Addr) (cl : Nat) (hvl : vl = .slice al x.title.length cl) (hlc : x.title.length ≤ cl) (hlb : ∀ k, k < x.title.length → ∃ b o, al = some ⟨b, o, none⟩ ∧ b < w.heap.size ∧ w.cell? ⟨b, o + k, none⟩ = some (.int .i32 (x.title.getD k 0))) (hn : x.title.length ≤ 256) (hR : R = ((x.title.all fun c => decide (0 ≤ c)) && mnR x)) (u0 u2 u4 u5 u6 u7 u8 u9 u10 u11 u12 u13 u14 u15 u16 u17 u18 u19 u20 u21 u22 u23 u24 u25 u26 u27 u28 u29 u30 u31 u32 u33 u34 u35 u36 u37 u38 u39 u40 u41 u42 u43 u44 u45 u46 u47 u48 u49 u50 u51 u52 u53 u54 u55 u56 u57 u58 u59 u60 u61 u62 u63 u64 u65 u66 u67 u68 u69 u70 u71 u72 u73 u74 u75 u76 u77 u78 u79 u80 u81 u82 u83 u84 u85 u86 u87 u88 u89 u90 u91 u92 u93 u94 u95 u96 u97 u98 u99 u100 u101 u102 u103 u104 u105 u106 u107 u108 u109 u110 u111 u112 u113 u114 u115 u116 u117 u118 u119 u120 u121 u122 u123 u124 u125 u126 u127 u128 u129 u130 u131 u132 u133 u134 u135 u136 u137 u138 u139 u140 u141 u142 u143 u144 u145 u146 u147 u148 u149 u150 u151 u152 u153 u154 u155 u156 u157 u158 u159 u160 u161 u162 u163 : Value) :
  Code.wp Try.prog (seqR (seqR (seqR (seqR (seqR ((Try.f20.body.getD .skip))))))) (bodyPost Try.prog Try.f20 (fun e w' => e = .returned (.bool R) ∧ Below w.heap.size w w')) ⟨List.toArray (u0 :: (.pointer (some ⟨w.heap.size, 0, none⟩)) :: u2 :: (.pointer (some ⟨q3, 0, none⟩)) :: u4 :: u5 :: u6 :: u7 :: u8 :: u9 :: u10 :: u11 :: u12 :: u13 :: u14 :: u15 :: u16 :: u17 :: u18 :: u19 :: u20 :: u21 :: u22 :: u23 :: u24 :: u25 :: u26 :: u27 :: u28 :: u29 :: u30 :: u31 :: u32 :: u33 :: u34 :: u35 :: u36 :: u37 :: u38 :: u39 :: u40 :: u41 :: u42 :: u43 :: u44 :: u45 :: u46 :: u47 :: u48 :: u49 :: u50 :: u51 :: u52 :: u53 :: u54 :: u55 :: u56 :: u57 :: u58 :: u59 :: u60 :: u61 :: u62 :: u63 :: u64 :: u65 :: u66 :: u67 :: u68 :: u69 :: u70 :: u71 :: u72 :: u73 :: u74 :: u75 :: u76 :: u77 :: u78 :: u79 :: u80 :: u81 :: u82 :: u83 :: u84 :: u85 :: u86 :: u87 :: u88 :: u89 :: u90 :: u91 :: u92 :: u93 :: u94 :: u95 :: u96 :: u97 :: u98 :: u99 :: u100 :: u101 :: u102 :: u103 :: u104 :: u105 :: u106 :: u107 :: u108 :: u109 :: u110 :: u111 :: u112 :: u113 :: u114 :: u115 :: u116 :: u117 :: u118 :: u119 :: u120 :: u121 :: u122 :: u123 :: u124 :: u125 :: u126 :: u127 :: u128 :: u129 :: u130 :: u131 :: u132 :: u133 :: u134 :: u135 :: u136 :: u137 :: u138 :: u139 :: u140 :: u141 :: u142 :: u143 :: u144 :: u145 :: u146 :: u147 :: u148 :: u149 :: u150 :: u151 :: u152 :: u153 :: u154 :: u155 :: u156 :: u157 :: u158 :: u159 :: u160 :: u161 :: u162 :: u163 :: []), []⟩ wr := by
 conv => arg 2; whnf
 have F := Box'.mk h
 have T0 : Box' (((x.title.drop 0).all fun c => decide (0 ≤ c)) = (x.title.all fun c => decide (0 ≤ c))) := ⟨by rw [List.drop_zero]⟩
 have TS : Box' (∀ k, k < x.title.length → ((x.title.drop k).all fun c => decide (0 ≤ c)) = (decide (0 ≤ x.title.getD k 0) && ((x.title.drop (k + 1)).all fun c => decide (0 ≤ c)))) := ⟨fun k hk => by rw [List.drop_eq_getElem_cons hk, List.all_cons, List.getD_eq_getElem?_getD, List.getElem?_eq_getElem hk]; rfl⟩
 have TE : Box' (((x.title.drop x.title.length).all fun c => decide (0 ≤ c)) = true) := ⟨by rw [List.drop_length]; rfl⟩
 have HB := Box'.mk hlb
 have HR := Box'.mk hR
 have HV := Box'.mk hv
 have CV : Box' (∀ wx, RmM w q3 x vg vt vm vl wx → wx.cell? ⟨w.heap.size, 43, none⟩ = some (.slice al x.title.length cl)) := ⟨fun wx hw => by rw [← hvl]; exact hw.r.cell 43⟩
 clear h hv hlb hR hvl
 generalize (x.title.all fun c => decide (0 ≤ c)) = A at *
 refine wp_seq_k fun K hK => ?_
 have HK := Box'.mk hK
 clear hK
 go_wp2_with fail
 go_loopw [5] (fun i wq => ∃ (k : Nat), k ≤ x.title.length ∧ i = .int .i64 (k : Int) ∧ Box' (((x.title.drop k).all fun c => decide (0 ≤ c)) = A) ∧ Box' (RmM w q3 x vg vt vm vl wq)) (fun i _ => x.title.length - (intOf i).toNat)
 case atStart => exact ⟨0, by omega, rfl, T0, F⟩
 case round =>
  obtain ⟨k, hk, rfl, TT, FF⟩ := hrel
  clear T0 F
  have c43 := CV.out _ FF.out
  by_cases hlt : k < x.title.length
  case neg =>
   have e : k = x.title.length := by omega
   have E : Box' (R = mnR x) := ⟨by rw [HR.out, ← TT.out, e, TE.out]; rfl⟩
   clear e TT
   go_wp2_with fail
   exact HK.out _ _ (rm_6 w _ q3 x vg vt vm vl FF.out R HV.out E.out _ _ _ _ _ _ _ _ _ _ _ _ _ _ _ _ _ _ _ _ _ _ _ _ _ _ _ _ _ _ _ _ _ _ _ _ _ _ _ _ _ _ _ _ _ _ _ _ _ _ _ _ _ _ _ _ _ _ _ _ _ _ _ _ _ _ _ _ _ _ _ _ _ _ _ _ _ _ _ _ _ _ _ _ _ _ _ _ _ _ _ _ _ _ _ _ _ _ _ _ _ _ _ _ _ _ _ _ _ _ _ _ _ _ _ _ _ _ _ _ _ _ _ _ _ _ _ _ _ _ _ _ _ _ _ _ _ _ _ _ _ _ _ _ _ _ _ _ _ _ _ _ _ _ _ _ _ _ _ _ _ _ )
  case pos =>
   obtain ⟨b, o, rfl, hb, hc⟩ := HB.out k hlt
   have c0 : wr.cell? ⟨b, o + k, none⟩ = some (.int .i32 (x.title.getD k 0)) := by rw [FF.out.be.cell (p := ⟨b, o + k, none⟩) hb]; exact hc
   have S := TS.out k hlt
   rw [TT.out] at S
   have SS := Box'.mk S
   generalize x.title.getD k 0 = z at *
   clear hc hb S TT
   by_cases q1 : z < 0
   case pos =>
    have E : Box' (R = false) := ⟨by rw [HR.out, SS.out, decide_eq_false (by omega)]; rfl⟩
    clear SS
    go_wp2_with fail
    go_ret
    exact ⟨by rw [E.out]; rfl, FF.out.be⟩
   case neg =>
    have E : Box' (((x.title.drop (k + 1)).all fun c => decide (0 ≤ c)) = A) := ⟨by rw [SS.out, decide_eq_true (by omega)]; rfl⟩
    clear SS
    go_wp2_with fail
    exact ⟨⟨k + 1, by omega, by go_num, E, FF⟩, by simp [intOf]; omega⟩
end Go.Proofs.Ytepepoabbbjmgaa.Sc
