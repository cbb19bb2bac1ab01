/- The reference's May: the title's length, the tabulators. -/
import Derived.Test.YtepepoabbbjmgaaSZa
import Derived.Test.YtepepoabbbjmgaaSXd
import Derived.Test.YtepepoabbbjmgaaSNg
import Derived.Test.YtepepoabbbjmgaaSGw
import Derived.Test.YtepepoabbbjmgaaSNn
import Derived.Test.YtepepoabbbjmgaaSNj
import Derived.Test.YtepepoabbbjmgaaSEq
namespace Go.Proofs.Ytepepoabbbjmgaa.Sc
open Go.RowKit Go.BigFrame
set_option linter.unusedVariables false
set_option linter.unusedSimpArgs false
set_option maxHeartbeats 8000000
set_option maxRecDepth 100000
theorem rm_4 (w wr : World) (q3 : Nat) (x : Sn) (vg vt vm vl : Value) (h : RmM w q3 x vg vt vm vl wr) (R : Bool) (hv : Cls w.heap.size w vm x.mn.c) (hl : Rs w.heap.size w vl x.title) (hR : R = (titF x.title && mnR x)) (u0 u2 u4 u5 u6 u7 u8 u9 u10 u11 u12 u13 u14 u15 u16 u17 u18 u19 u20 u21 u22 u23 u24 u25 u26 u27 u28 u29 u30 u31 u32 u33 u34 u35 u36 u37 u38 u39 u40 u41 u42 u43 u44 u45 u46 u47 u48 u49 u50 u51 u52 u53 u54 u55 u56 u57 u58 u59 u60 u61 u62 u63 u64 u65 u66 u67 u68 u69 u70 u71 u72 u73 u74 u75 u76 u77 u78 u79 u80 u81 u82 u83 u84 u85 u86 u87 u88 u89 u90 u91 u92 u93 u94 u95 u96 u97 u98 u99 u100 u101 u102 u103 u104 u105 u106 u107 u108 u109 u110 u111 u112 u113 u114 u115 u116 u117 u118 u119 u120 u121 u122 u123 u124 u125 u126 u127 u128 u129 u130 u131 u132 u133 u134 u135 u136 u137 u138 u139 u140 u141 u142 u143 u144 u145 u146 u147 u148 u149 u150 u151 u152 u153 u154 u155 u156 u157 u158 u159 u160 u161 u162 u163 : Value) :
  Code.wp Try.prog (seqR (seqR (seqR (seqR ((Try.f20.body.getD .skip)))))) (bodyPost Try.prog Try.f20 (fun e w' => e = .returned (.bool R) ∧ Below w.heap.size w w')) ⟨List.toArray (u0 :: (.pointer (some ⟨w.heap.size, 0, none⟩)) :: u2 :: (.pointer (some ⟨q3, 0, none⟩)) :: u4 :: u5 :: u6 :: u7 :: u8 :: u9 :: u10 :: u11 :: u12 :: u13 :: u14 :: u15 :: u16 :: u17 :: u18 :: u19 :: u20 :: u21 :: u22 :: u23 :: u24 :: u25 :: u26 :: u27 :: u28 :: u29 :: u30 :: u31 :: u32 :: u33 :: u34 :: u35 :: u36 :: u37 :: u38 :: u39 :: u40 :: u41 :: u42 :: u43 :: u44 :: u45 :: u46 :: u47 :: u48 :: u49 :: u50 :: u51 :: u52 :: u53 :: u54 :: u55 :: u56 :: u57 :: u58 :: u59 :: u60 :: u61 :: u62 :: u63 :: u64 :: u65 :: u66 :: u67 :: u68 :: u69 :: u70 :: u71 :: u72 :: u73 :: u74 :: u75 :: u76 :: u77 :: u78 :: u79 :: u80 :: u81 :: u82 :: u83 :: u84 :: u85 :: u86 :: u87 :: u88 :: u89 :: u90 :: u91 :: u92 :: u93 :: u94 :: u95 :: u96 :: u97 :: u98 :: u99 :: u100 :: u101 :: u102 :: u103 :: u104 :: u105 :: u106 :: u107 :: u108 :: u109 :: u110 :: u111 :: u112 :: u113 :: u114 :: u115 :: u116 :: u117 :: u118 :: u119 :: u120 :: u121 :: u122 :: u123 :: u124 :: u125 :: u126 :: u127 :: u128 :: u129 :: u130 :: u131 :: u132 :: u133 :: u134 :: u135 :: u136 :: u137 :: u138 :: u139 :: u140 :: u141 :: u142 :: u143 :: u144 :: u145 :: u146 :: u147 :: u148 :: u149 :: u150 :: u151 :: u152 :: u153 :: u154 :: u155 :: u156 :: u157 :: u158 :: u159 :: u160 :: u161 :: u162 :: u163 :: []), []⟩ wr := by
 conv => arg 2; whnf
 have F := Box'.mk h
 obtain ⟨al, cl, hvl, hlc, h3⟩ := hl
 have hlb : ∀ k, k < x.title.length → ∃ b o, al = some ⟨b, o, none⟩ ∧ b < w.heap.size ∧ w.cell? ⟨b, o + k, none⟩ = some (.int .i32 (x.title.getD k 0)) := fun k hk => by
  rcases h3 with h | ⟨b, o, e, hb, hc⟩
  ·rw [h] at hk; simp at hk
  ·exact ⟨b, o, e, hb, hc k hk⟩
 have c43 : wr.cell? ⟨w.heap.size, 43, none⟩ = some (.slice al x.title.length cl) := by rw [← hvl]; exact h.r.cell 43
 have HB := Box'.mk hlb
 have HR := Box'.mk hR
 have HV := Box'.mk hv
 have HL := Box'.mk hvl
 have HC := Box'.mk hlc
 clear h hv hlb hR hvl h3 hlc
 by_cases hn : x.title.length ≤ 256
 case neg =>
  have E : Box' (R = false) := ⟨by rw [HR.out, tit_long (by omega)]; rfl⟩
  go_wp2_with fail
  go_ret
  exact ⟨by rw [E.out]; rfl, F.out.be⟩
 case pos =>
  have E : Box' (R = ((x.title.all fun c => decide (0 ≤ c)) && mnR x)) := ⟨by rw [HR.out]; unfold titF; rw [decide_eq_true hn]; rfl⟩
  refine wp_seq_k fun K hK => ?_
  have HK := Box'.mk hK
  clear hK
  go_wp2_with fail
  exact HK.out _ _ (rm_5 w _ q3 x vg vt vm vl F.out R HV.out al cl HL.out HC.out HB.out hn E.out _ _ _ _ _ _ _ _ _ _ _ _ _ _ _ _ _ _ _ _ _ _ _ _ _ _ _ _ _ _ _ _ _ _ _ _ _ _ _ _ _ _ _ _ _ _ _ _ _ _ _ _ _ _ _ _ _ _ _ _ _ _ _ _ _ _ _ _ _ _ _ _ _ _ _ _ _ _ _ _ _ _ _ _ _ _ _ _ _ _ _ _ _ _ _ _ _ _ _ _ _ _ _ _ _ _ _ _ _ _ _ _ _ _ _ _ _ _ _ _ _ _ _ _ _ _ _ _ _ _ _ _ _ _ _ _ _ _ _ _ _ _ _ _ _ _ _ _ _ _ _ _ _ _ _ _ _ _ _ _ _ _ )
theorem tab_lo {ah co : Int} {l : List Int} {A : Bool} {k : Nat} (hk : k < l.length) (h : tabF ah co (l.drop k) = A) (hq : l.getD k 0 ≤ ah) : A = false := by
 rw [← h, tab_step ah co l k hk, if_pos (.inl hq)]
theorem tab_hi {ah co : Int} {l : List Int} {A : Bool} {k : Nat} (hk : k < l.length) (h : tabF ah co (l.drop k) = A) (hq : co ≤ l.getD k 0) : A = false := by
 rw [← h, tab_step ah co l k hk, if_pos (.inr hq)]
theorem tab_go {ah co : Int} {l : List Int} {A : Bool} {k : Nat} (hk : k < l.length) (h : tabF ah co (l.drop k) = A) (h1 : ah < l.getD k 0) (h2 : l.getD k 0 < co) : tabF (l.getD k 0) co (l.drop (k + 1)) = A := by
 rw [← h, tab_step ah co l k hk, if_neg (by omega)]
/-- What stands ahead of a tabulator. -/
def ahT (l : List Int) : Nat → Int
 | 0 => -1
 | k + 1 => l.getD k 0
theorem rm_3 (w wr : World) (q3 : Nat) (x : Sn) (vg vt vm vl : Value) (h : RmM w q3 x vg vt vm vl wr) (R : Bool) (hv : Cls w.heap.size w vm x.mn.c) (hl : Rs w.heap.size w vl x.title) (ht : Is w.heap.size w vt x.tabs) (hn : x.tabs.length ≤ 140737488355328) (hR : R = (tabF (-1) x.g.co x.tabs && (titF x.title && mnR x))) (u0 u2 u4 u5 u6 u7 u8 u9 u10 u11 u12 u13 u14 u15 u16 u17 u18 u19 u20 u21 u22 u23 u24 u25 u26 u27 u28 u29 u30 u31 u32 u33 u34 u35 u36 u37 u38 u39 u40 u41 u42 u43 u44 u45 u46 u47 u48 u49 u50 u51 u52 u53 u54 u55 u56 u57 u58 u59 u60 u61 u62 u63 u64 u65 u66 u67 u68 u69 u70 u71 u72 u73 u74 u75 u76 u77 u78 u79 u80 u81 u82 u83 u84 u85 u86 u87 u88 u89 u90 u91 u92 u93 u94 u95 u96 u97 u98 u99 u100 u101 u102 u103 u104 u105 u106 u107 u108 u109 u110 u111 u112 u113 u114 u115 u116 u117 u118 u119 u120 u121 u122 u123 u124 u125 u126 u127 u128 u129 u130 u131 u132 u133 u134 u135 u136 u137 u138 u139 u140 u141 u142 u143 u144 u145 u146 u147 u148 u149 u150 u151 u152 u153 u154 u155 u156 u157 u158 u159 u160 u161 u162 u163 : Value) :
  Code.wp Try.prog (seqR (seqR (seqR ((Try.f20.body.getD .skip))))) (bodyPost Try.prog Try.f20 (fun e w' => e = .returned (.bool R) ∧ Below w.heap.size w w')) ⟨List.toArray (u0 :: (.pointer (some ⟨w.heap.size, 0, none⟩)) :: u2 :: (.pointer (some ⟨q3, 0, none⟩)) :: u4 :: u5 :: u6 :: u7 :: u8 :: u9 :: u10 :: u11 :: u12 :: u13 :: u14 :: u15 :: u16 :: u17 :: u18 :: u19 :: u20 :: u21 :: u22 :: u23 :: u24 :: u25 :: u26 :: u27 :: u28 :: u29 :: u30 :: u31 :: u32 :: u33 :: u34 :: u35 :: u36 :: u37 :: u38 :: u39 :: u40 :: u41 :: u42 :: u43 :: u44 :: u45 :: u46 :: u47 :: u48 :: u49 :: u50 :: u51 :: u52 :: u53 :: u54 :: u55 :: u56 :: u57 :: u58 :: u59 :: u60 :: u61 :: u62 :: u63 :: u64 :: u65 :: u66 :: u67 :: u68 :: u69 :: u70 :: u71 :: u72 :: u73 :: u74 :: u75 :: u76 :: u77 :: u78 :: u79 :: u80 :: u81 :: u82 :: u83 :: u84 :: u85 :: u86 :: u87 :: u88 :: u89 :: u90 :: u91 :: u92 :: u93 :: u94 :: u95 :: u96 :: u97 :: u98 :: u99 :: u100 :: u101 :: u102 :: u103 :: u104 :: u105 :: u106 :: u107 :: u108 :: u109 :: u110 :: u111 :: u112 :: u113 :: u114 :: u115 :: u116 :: u117 :: u118 :: u119 :: u120 :: u121 :: u122 :: u123 :: u124 :: u125 :: u126 :: u127 :: u128 :: u129 :: u130 :: u131 :: u132 :: u133 :: u134 :: u135 :: u136 :: u137 :: u138 :: u139 :: u140 :: u141 :: u142 :: u143 :: u144 :: u145 :: u146 :: u147 :: u148 :: u149 :: u150 :: u151 :: u152 :: u153 :: u154 :: u155 :: u156 :: u157 :: u158 :: u159 :: u160 :: u161 :: u162 :: u163 :: []), []⟩ wr := by
 conv => arg 2; whnf
 have F := Box'.mk h
 obtain ⟨at', cp, hvt, hcp, h3⟩ := ht
 have HB : Box' (∀ k, k < x.tabs.length → ∃ b o, at' = some ⟨b, o, none⟩ ∧ ∀ wx, Below w.heap.size w wx → ∀ j, j < x.tabs.length → wx.cell? ⟨b, o + j, none⟩ = some (.int .i64 (x.tabs.getD j 0))) := ⟨fun k hk => by
  rcases h3 with h | ⟨b, o, e, hb, hc⟩
  ·rw [h] at hk; simp at hk
  ·exact ⟨b, o, e, fun wx hbe j hj => by rw [hbe.cell (p := ⟨b, o + j, none⟩) hb]; exact hc j hj⟩⟩
 have CT : Box' (∀ wx, RmM w q3 x vg vt vm vl wx → wx.cell? ⟨w.heap.size, 18, none⟩ = some (.slice at' x.tabs.length cp)) := ⟨fun wx hw => by rw [← hvt]; exact hw.r.cell 18⟩
 have T0 : Box' (tabF (ahT x.tabs 0) x.g.co (x.tabs.drop 0) = tabF (-1) x.g.co x.tabs) := ⟨by rw [List.drop_zero]; rfl⟩
 have TE : Box' (∀ ah, tabF ah x.g.co (x.tabs.drop x.tabs.length) = true) := ⟨fun ah => by rw [List.drop_length]; rfl⟩
 have HR := Box'.mk hR
 have HV := Box'.mk hv
 have HL := Box'.mk hl
 clear h hv hR hvt h3 hl
 generalize tabF (-1) x.g.co x.tabs = A at *
 refine wp_seq_k fun K hK => ?_
 have HK := Box'.mk hK
 clear hK
 go_wp2_with fail
 go_loopw [4] (fun i wq => ∃ (k : Nat), k ≤ x.tabs.length ∧ i = .int .i64 (k : Int) ∧ Box' (-1 ≤ ahT x.tabs k) ∧ Box' (tabF (ahT x.tabs k) x.g.co (x.tabs.drop k) = A) ∧ Box' (RmM w q3 x vg vt vm vl wq)) (fun i _ => x.tabs.length - (intOf i).toNat)
 case atStart => exact ⟨0, by omega, rfl, ⟨by show (-1 : Int) ≤ -1; omega⟩, T0, F⟩
 case round =>
  obtain ⟨k, hk, rfl, LO, TT, FF⟩ := hrel
  clear T0 F
  have c18 := CT.out _ FF.out
  by_cases hlt : k < x.tabs.length
  case neg =>
   have e : k = x.tabs.length := by omega
   have E : Box' (R = (titF x.title && mnR x)) := ⟨by rw [HR.out, ← TT.out, e, TE.out]; rfl⟩
   clear e TT LO
   go_wp2_with fail
   exact HK.out _ _ (rm_4 w _ q3 x vg vt vm vl FF.out R HV.out HL.out E.out _ _ _ _ _ _ _ _ _ _ _ _ _ _ _ _ _ _ _ _ _ _ _ _ _ _ _ _ _ _ _ _ _ _ _ _ _ _ _ _ _ _ _ _ _ _ _ _ _ _ _ _ _ _ _ _ _ _ _ _ _ _ _ _ _ _ _ _ _ _ _ _ _ _ _ _ _ _ _ _ _ _ _ _ _ _ _ _ _ _ _ _ _ _ _ _ _ _ _ _ _ _ _ _ _ _ _ _ _ _ _ _ _ _ _ _ _ _ _ _ _ _ _ _ _ _ _ _ _ _ _ _ _ _ _ _ _ _ _ _ _ _ _ _ _ _ _ _ _ _ _ _ _ _ _ _ _ _ _ _ _ _ )
  case pos =>
   obtain ⟨b, o, rfl, hc⟩ := HB.out k hlt
   clear HB TE
   have CZ : Box' (∀ wq, RmM w q3 x vg vt vm vl wq → wq.cell? ⟨b, o + k, none⟩ = some (.int .i64 (x.tabs.getD k 0))) := ⟨fun wq hq => hc wq hq.be k hlt⟩
   have EL : Box' (x.tabs.getD k 0 ≤ ahT x.tabs k → R = false) := ⟨fun hq => by rw [HR.out, tab_lo hlt TT.out hq]; rfl⟩
   have EH : Box' (x.g.co ≤ x.tabs.getD k 0 → R = false) := ⟨fun hq => by rw [HR.out, tab_hi hlt TT.out hq]; rfl⟩
   have EG : Box' (ahT x.tabs k < x.tabs.getD k 0 → x.tabs.getD k 0 < x.g.co → tabF (ahT x.tabs (k + 1)) x.g.co (x.tabs.drop (k + 1)) = A) := ⟨fun h1 h2 => tab_go hlt TT.out h1 h2⟩
   have EA : Box' (ahT x.tabs (k + 1) = x.tabs.getD k 0) := ⟨rfl⟩
   have A0 : Box' (k = 0 → ahT x.tabs k = -1) := ⟨fun h => by rw [h]; rfl⟩
   have AY : Box' (∀ m, k = m + 1 → ahT x.tabs k = x.tabs.getD m 0 ∧ ∀ wq, RmM w q3 x vg vt vm vl wq → wq.cell? ⟨b, o + m, none⟩ = some (.int .i64 (x.tabs.getD m 0))) := ⟨fun m hm => ⟨by rw [hm]; rfl, fun wq hq => hc wq hq.be m (by omega)⟩⟩
   clear hc TT
   generalize x.tabs.getD k 0 = z at *
   by_cases q1 : z < 0
   case pos =>
    have E : Box' (R = false) := ⟨EL.out (by have := LO.out; omega)⟩
    clear EL EH EG EA A0 AY LO
    go_wp2_with fail
    refine wp_region_lex (fun wa => RmM w q3 x vg vt vm vl wa) (by kernel_rfl) (by kernel_rfl) (FF.out.drewN 1) ?_
    (go_big_quiet_want; go_big_quiet_op; first | go_big_quiet_on | (refine ⟨_, fun _ _ => rfl, ?_⟩; go_big_quiet_on))
    go_big_quiet_want
    refine qC_load27 (.tmp 75) rfl w.heap.size 18 (.slice (some ⟨b, o, none⟩) x.tabs.length cp) rfl (fun wq hq => CT.out wq hq) ?_
    simp only [Act.put, siB, stS, stZ]
    go_big_quiet_on
    iterate 2 (go_big_quiet_want; go_big_quiet_op; first | go_big_quiet_on | (refine ⟨_, fun _ _ => rfl, ?_⟩; go_big_quiet_on))
    go_big_quiet_want
    refine qC_load3 (.tmp 78) rfl b (o + k) (.int .i64 z) rfl (fun wq hq => CZ.out wq hq) ?_
    simp only [Act.put, siB, stS, stZ]
    go_big_quiet_on
    go_big_quiet_want
    refine qC_of (.bool true) (fun wq hq => by unfold execOp; simp [go_sem] <;> omega) ?_
    simp only [Act.put, siB, stS, stZ]
    go_big_quiet_on
    (go_big_quiet_want; go_big_quiet_op; first | go_big_quiet_on | (refine ⟨_, fun _ _ => rfl, ?_⟩; go_big_quiet_on))
    iterate 8 go_big_quiet_skip
    iterate 2 (go_big_quiet_want; go_big_quiet_op; first | go_big_quiet_on | (refine ⟨_, fun _ _ => rfl, ?_⟩; go_big_quiet_on))
    iterate 16 go_big_quiet_skip
    (go_big_quiet_want; go_big_quiet_op; first | go_big_quiet_on | (refine ⟨_, fun _ _ => rfl, ?_⟩; go_big_quiet_on))
    refine wpQuiet_nil ?_
    rintro wz hz
    go_wp2_with fail
    go_ret
    exact ⟨by rw [E.out]; rfl, hz.be⟩
   case neg =>
    by_cases q2 : x.g.co ≤ z
    case pos =>
     have E : Box' (R = false) := ⟨EH.out q2⟩
     clear EL EH EG EA A0 AY LO
     go_wp2_with fail
     refine wp_region_lex (fun wa => RmM w q3 x vg vt vm vl wa) (by kernel_rfl) (by kernel_rfl) (FF.out.drewN 1) ?_
     (go_big_quiet_want; go_big_quiet_op; first | go_big_quiet_on | (refine ⟨_, fun _ _ => rfl, ?_⟩; go_big_quiet_on))
     go_big_quiet_want
     refine qC_load27 (.tmp 75) rfl w.heap.size 18 (.slice (some ⟨b, o, none⟩) x.tabs.length cp) rfl (fun wq hq => CT.out wq hq) ?_
     simp only [Act.put, siB, stS, stZ]
     go_big_quiet_on
     iterate 2 (go_big_quiet_want; go_big_quiet_op; first | go_big_quiet_on | (refine ⟨_, fun _ _ => rfl, ?_⟩; go_big_quiet_on))
     go_big_quiet_want
     refine qC_load3 (.tmp 78) rfl b (o + k) (.int .i64 z) rfl (fun wq hq => CZ.out wq hq) ?_
     simp only [Act.put, siB, stS, stZ]
     go_big_quiet_on
     go_big_quiet_want
     refine qC_of (.bool false) (fun wq hq => by unfold execOp; simp [go_sem] <;> omega) ?_
     simp only [Act.put, siB, stS, stZ]
     go_big_quiet_on
     iterate 2 (go_big_quiet_want; go_big_quiet_op; first | go_big_quiet_on | (refine ⟨_, fun _ _ => rfl, ?_⟩; go_big_quiet_on))
     go_big_quiet_want
     refine qC_load27 (.tmp 82) rfl w.heap.size 18 (.slice (some ⟨b, o, none⟩) x.tabs.length cp) rfl (fun wq hq => CT.out wq hq) ?_
     simp only [Act.put, siB, stS, stZ]
     go_big_quiet_on
     iterate 2 (go_big_quiet_want; go_big_quiet_op; first | go_big_quiet_on | (refine ⟨_, fun _ _ => rfl, ?_⟩; go_big_quiet_on))
     go_big_quiet_want
     refine qC_load3 (.tmp 85) rfl b (o + k) (.int .i64 z) rfl (fun wq hq => CZ.out wq hq) ?_
     simp only [Act.put, siB, stS, stZ]
     go_big_quiet_on
     (go_big_quiet_want; go_big_quiet_op; first | go_big_quiet_on | (refine ⟨_, fun _ _ => rfl, ?_⟩; go_big_quiet_on))
     go_big_quiet_want
     refine qC_load3 (.tmp 87) rfl q3 0 (.int .i64 x.g.co) rfl (fun wq hq => hq.c.cell 0) ?_
     simp only [Act.put, siB, stS, stZ]
     go_big_quiet_on
     go_big_quiet_want
     refine qC_of (.bool true) (fun wq hq => by unfold execOp; simp [go_sem] <;> omega) ?_
     simp only [Act.put, siB, stS, stZ]
     go_big_quiet_on
     iterate 2 (go_big_quiet_want; go_big_quiet_op; first | go_big_quiet_on | (refine ⟨_, fun _ _ => rfl, ?_⟩; go_big_quiet_on))
     iterate 16 go_big_quiet_skip
     (go_big_quiet_want; go_big_quiet_op; first | go_big_quiet_on | (refine ⟨_, fun _ _ => rfl, ?_⟩; go_big_quiet_on))
     refine wpQuiet_nil ?_
     rintro wz hz
     go_wp2_with fail
     go_ret
     exact ⟨by rw [E.out]; rfl, hz.be⟩
    case neg =>
     by_cases q3' : 0 < k
     case neg =>
      have E : Box' (tabF (ahT x.tabs (k + 1)) x.g.co (x.tabs.drop (k + 1)) = A) := ⟨EG.out (by rw [A0.out (by omega)]; omega) (by omega)⟩
      have L1 : Box' (-1 ≤ ahT x.tabs (k + 1)) := ⟨by rw [EA.out]; omega⟩
      clear EL EH EG EA A0 AY LO
      go_wp2_with fail
      refine wp_region_lex (fun wa => RmM w q3 x vg vt vm vl wa) (by kernel_rfl) (by kernel_rfl) (FF.out.drewN 1) ?_
      (go_big_quiet_want; go_big_quiet_op; first | go_big_quiet_on | (refine ⟨_, fun _ _ => rfl, ?_⟩; go_big_quiet_on))
      go_big_quiet_want
      refine qC_load27 (.tmp 75) rfl w.heap.size 18 (.slice (some ⟨b, o, none⟩) x.tabs.length cp) rfl (fun wq hq => CT.out wq hq) ?_
      simp only [Act.put, siB, stS, stZ]
      go_big_quiet_on
      iterate 2 (go_big_quiet_want; go_big_quiet_op; first | go_big_quiet_on | (refine ⟨_, fun _ _ => rfl, ?_⟩; go_big_quiet_on))
      go_big_quiet_want
      refine qC_load3 (.tmp 78) rfl b (o + k) (.int .i64 z) rfl (fun wq hq => CZ.out wq hq) ?_
      simp only [Act.put, siB, stS, stZ]
      go_big_quiet_on
      go_big_quiet_want
      refine qC_of (.bool false) (fun wq hq => by unfold execOp; simp [go_sem] <;> omega) ?_
      simp only [Act.put, siB, stS, stZ]
      go_big_quiet_on
      iterate 2 (go_big_quiet_want; go_big_quiet_op; first | go_big_quiet_on | (refine ⟨_, fun _ _ => rfl, ?_⟩; go_big_quiet_on))
      go_big_quiet_want
      refine qC_load27 (.tmp 82) rfl w.heap.size 18 (.slice (some ⟨b, o, none⟩) x.tabs.length cp) rfl (fun wq hq => CT.out wq hq) ?_
      simp only [Act.put, siB, stS, stZ]
      go_big_quiet_on
      iterate 2 (go_big_quiet_want; go_big_quiet_op; first | go_big_quiet_on | (refine ⟨_, fun _ _ => rfl, ?_⟩; go_big_quiet_on))
      go_big_quiet_want
      refine qC_load3 (.tmp 85) rfl b (o + k) (.int .i64 z) rfl (fun wq hq => CZ.out wq hq) ?_
      simp only [Act.put, siB, stS, stZ]
      go_big_quiet_on
      (go_big_quiet_want; go_big_quiet_op; first | go_big_quiet_on | (refine ⟨_, fun _ _ => rfl, ?_⟩; go_big_quiet_on))
      go_big_quiet_want
      refine qC_load3 (.tmp 87) rfl q3 0 (.int .i64 x.g.co) rfl (fun wq hq => hq.c.cell 0) ?_
      simp only [Act.put, siB, stS, stZ]
      go_big_quiet_on
      go_big_quiet_want
      refine qC_of (.bool false) (fun wq hq => by unfold execOp; simp [go_sem] <;> omega) ?_
      simp only [Act.put, siB, stS, stZ]
      go_big_quiet_on
      iterate 3 (go_big_quiet_want; go_big_quiet_op; first | go_big_quiet_on | (refine ⟨_, fun _ _ => rfl, ?_⟩; go_big_quiet_on))
      go_big_quiet_want
      refine qC_of (.bool false) (fun wq hq => by unfold execOp; simp [go_sem] <;> omega) ?_
      simp only [Act.put, siB, stS, stZ]
      go_big_quiet_on
      (go_big_quiet_want; go_big_quiet_op; first | go_big_quiet_on | (refine ⟨_, fun _ _ => rfl, ?_⟩; go_big_quiet_on))
      iterate 12 go_big_quiet_skip
      iterate 2 (go_big_quiet_want; go_big_quiet_op; first | go_big_quiet_on | (refine ⟨_, fun _ _ => rfl, ?_⟩; go_big_quiet_on))
      refine wpQuiet_nil ?_
      rintro wz hz
      go_wp2_with fail
      exact ⟨⟨k + 1, by omega, by go_num, L1, E, ⟨hz⟩⟩, by simp [intOf]; omega⟩
     case pos =>
      obtain ⟨m, hm⟩ : ∃ m, k = m + 1 := ⟨k - 1, by omega⟩
      obtain ⟨ey, cy⟩ := AY.out m hm
      have CY := Box'.mk cy
      generalize x.tabs.getD m 0 = y at *
      by_cases q4 : z ≤ y
      case pos =>
       have E : Box' (R = false) := ⟨EL.out (by rw [ey]; exact q4)⟩
       clear EL EH EG EA A0 AY LO cy ey
       subst hm
       go_wp2_with fail
       refine wp_region_lex (fun wa => RmM w q3 x vg vt vm vl wa) (by kernel_rfl) (by kernel_rfl) (FF.out.drewN 1) ?_
       (go_big_quiet_want; go_big_quiet_op; first | go_big_quiet_on | (refine ⟨_, fun _ _ => rfl, ?_⟩; go_big_quiet_on))
       go_big_quiet_want
       refine qC_load27 (.tmp 75) rfl w.heap.size 18 (.slice (some ⟨b, o, none⟩) x.tabs.length cp) rfl (fun wq hq => CT.out wq hq) ?_
       simp only [Act.put, siB, stS, stZ]
       go_big_quiet_on
       iterate 2 (go_big_quiet_want; go_big_quiet_op; first | go_big_quiet_on | (refine ⟨_, fun _ _ => rfl, ?_⟩; go_big_quiet_on))
       go_big_quiet_want
       refine qC_load3 (.tmp 78) rfl b (o + (m + 1)) (.int .i64 z) rfl (fun wq hq => CZ.out wq hq) ?_
       simp only [Act.put, siB, stS, stZ]
       go_big_quiet_on
       go_big_quiet_want
       refine qC_of (.bool false) (fun wq hq => by unfold execOp; simp [go_sem] <;> omega) ?_
       simp only [Act.put, siB, stS, stZ]
       go_big_quiet_on
       iterate 2 (go_big_quiet_want; go_big_quiet_op; first | go_big_quiet_on | (refine ⟨_, fun _ _ => rfl, ?_⟩; go_big_quiet_on))
       go_big_quiet_want
       refine qC_load27 (.tmp 82) rfl w.heap.size 18 (.slice (some ⟨b, o, none⟩) x.tabs.length cp) rfl (fun wq hq => CT.out wq hq) ?_
       simp only [Act.put, siB, stS, stZ]
       go_big_quiet_on
       iterate 2 (go_big_quiet_want; go_big_quiet_op; first | go_big_quiet_on | (refine ⟨_, fun _ _ => rfl, ?_⟩; go_big_quiet_on))
       go_big_quiet_want
       refine qC_load3 (.tmp 85) rfl b (o + (m + 1)) (.int .i64 z) rfl (fun wq hq => CZ.out wq hq) ?_
       simp only [Act.put, siB, stS, stZ]
       go_big_quiet_on
       (go_big_quiet_want; go_big_quiet_op; first | go_big_quiet_on | (refine ⟨_, fun _ _ => rfl, ?_⟩; go_big_quiet_on))
       go_big_quiet_want
       refine qC_load3 (.tmp 87) rfl q3 0 (.int .i64 x.g.co) rfl (fun wq hq => hq.c.cell 0) ?_
       simp only [Act.put, siB, stS, stZ]
       go_big_quiet_on
       go_big_quiet_want
       refine qC_of (.bool false) (fun wq hq => by unfold execOp; simp [go_sem] <;> omega) ?_
       simp only [Act.put, siB, stS, stZ]
       go_big_quiet_on
       iterate 3 (go_big_quiet_want; go_big_quiet_op; first | go_big_quiet_on | (refine ⟨_, fun _ _ => rfl, ?_⟩; go_big_quiet_on))
       go_big_quiet_want
       refine qC_of (.bool true) (fun wq hq => by unfold execOp; simp [go_sem] <;> omega) ?_
       simp only [Act.put, siB, stS, stZ]
       go_big_quiet_on
       iterate 2 (go_big_quiet_want; go_big_quiet_op; first | go_big_quiet_on | (refine ⟨_, fun _ _ => rfl, ?_⟩; go_big_quiet_on))
       go_big_quiet_want
       refine qC_load27 (.tmp 95) rfl w.heap.size 18 (.slice (some ⟨b, o, none⟩) x.tabs.length cp) rfl (fun wq hq => CT.out wq hq) ?_
       simp only [Act.put, siB, stS, stZ]
       go_big_quiet_on
       iterate 2 (go_big_quiet_want; go_big_quiet_op; first | go_big_quiet_on | (refine ⟨_, fun _ _ => rfl, ?_⟩; go_big_quiet_on))
       go_big_quiet_want
       refine qC_load3 (.tmp 98) rfl b (o + (m + 1)) (.int .i64 z) rfl (fun wq hq => CZ.out wq hq) ?_
       simp only [Act.put, siB, stS, stZ]
       go_big_quiet_on
       (go_big_quiet_want; go_big_quiet_op; first | go_big_quiet_on | (refine ⟨_, fun _ _ => rfl, ?_⟩; go_big_quiet_on))
       go_big_quiet_want
       refine qC_load27 (.tmp 100) rfl w.heap.size 18 (.slice (some ⟨b, o, none⟩) x.tabs.length cp) rfl (fun wq hq => CT.out wq hq) ?_
       simp only [Act.put, siB, stS, stZ]
       go_big_quiet_on
       iterate 3 (go_big_quiet_want; go_big_quiet_op; first | go_big_quiet_on | (refine ⟨_, fun _ _ => rfl, ?_⟩; go_big_quiet_on))
       go_big_quiet_want
       refine qC_load3 (.tmp 104) rfl b (o + m) (.int .i64 y) rfl (fun wq hq => CY.out wq hq) ?_
       simp only [Act.put, siB, stS, stZ]
       go_big_quiet_on
       go_big_quiet_want
       refine qC_of (.bool true) (fun wq hq => by unfold execOp; simp [go_sem] <;> omega) ?_
       simp only [Act.put, siB, stS, stZ]
       go_big_quiet_on
       iterate 2 (go_big_quiet_want; go_big_quiet_op; first | go_big_quiet_on | (refine ⟨_, fun _ _ => rfl, ?_⟩; go_big_quiet_on))
       refine wpQuiet_nil ?_
       rintro wz hz
       go_wp2_with fail
       go_ret
       exact ⟨by rw [E.out]; rfl, hz.be⟩
      case neg =>
       have E : Box' (tabF (ahT x.tabs (k + 1)) x.g.co (x.tabs.drop (k + 1)) = A) := ⟨EG.out (by rw [ey]; omega) (by omega)⟩
       have L1 : Box' (-1 ≤ ahT x.tabs (k + 1)) := ⟨by rw [EA.out]; omega⟩
       have E1 := EA
       clear EL EH EG EA A0 AY LO cy ey
       subst hm
       go_wp2_with fail
       refine wp_region_lex (fun wa => RmM w q3 x vg vt vm vl wa) (by kernel_rfl) (by kernel_rfl) (FF.out.drewN 1) ?_
       (go_big_quiet_want; go_big_quiet_op; first | go_big_quiet_on | (refine ⟨_, fun _ _ => rfl, ?_⟩; go_big_quiet_on))
       go_big_quiet_want
       refine qC_load27 (.tmp 75) rfl w.heap.size 18 (.slice (some ⟨b, o, none⟩) x.tabs.length cp) rfl (fun wq hq => CT.out wq hq) ?_
       simp only [Act.put, siB, stS, stZ]
       go_big_quiet_on
       iterate 2 (go_big_quiet_want; go_big_quiet_op; first | go_big_quiet_on | (refine ⟨_, fun _ _ => rfl, ?_⟩; go_big_quiet_on))
       go_big_quiet_want
       refine qC_load3 (.tmp 78) rfl b (o + (m + 1)) (.int .i64 z) rfl (fun wq hq => CZ.out wq hq) ?_
       simp only [Act.put, siB, stS, stZ]
       go_big_quiet_on
       go_big_quiet_want
       refine qC_of (.bool false) (fun wq hq => by unfold execOp; simp [go_sem] <;> omega) ?_
       simp only [Act.put, siB, stS, stZ]
       go_big_quiet_on
       iterate 2 (go_big_quiet_want; go_big_quiet_op; first | go_big_quiet_on | (refine ⟨_, fun _ _ => rfl, ?_⟩; go_big_quiet_on))
       go_big_quiet_want
       refine qC_load27 (.tmp 82) rfl w.heap.size 18 (.slice (some ⟨b, o, none⟩) x.tabs.length cp) rfl (fun wq hq => CT.out wq hq) ?_
       simp only [Act.put, siB, stS, stZ]
       go_big_quiet_on
       iterate 2 (go_big_quiet_want; go_big_quiet_op; first | go_big_quiet_on | (refine ⟨_, fun _ _ => rfl, ?_⟩; go_big_quiet_on))
       go_big_quiet_want
       refine qC_load3 (.tmp 85) rfl b (o + (m + 1)) (.int .i64 z) rfl (fun wq hq => CZ.out wq hq) ?_
       simp only [Act.put, siB, stS, stZ]
       go_big_quiet_on
       (go_big_quiet_want; go_big_quiet_op; first | go_big_quiet_on | (refine ⟨_, fun _ _ => rfl, ?_⟩; go_big_quiet_on))
       go_big_quiet_want
       refine qC_load3 (.tmp 87) rfl q3 0 (.int .i64 x.g.co) rfl (fun wq hq => hq.c.cell 0) ?_
       simp only [Act.put, siB, stS, stZ]
       go_big_quiet_on
       go_big_quiet_want
       refine qC_of (.bool false) (fun wq hq => by unfold execOp; simp [go_sem] <;> omega) ?_
       simp only [Act.put, siB, stS, stZ]
       go_big_quiet_on
       iterate 3 (go_big_quiet_want; go_big_quiet_op; first | go_big_quiet_on | (refine ⟨_, fun _ _ => rfl, ?_⟩; go_big_quiet_on))
       go_big_quiet_want
       refine qC_of (.bool true) (fun wq hq => by unfold execOp; simp [go_sem] <;> omega) ?_
       simp only [Act.put, siB, stS, stZ]
       go_big_quiet_on
       iterate 2 (go_big_quiet_want; go_big_quiet_op; first | go_big_quiet_on | (refine ⟨_, fun _ _ => rfl, ?_⟩; go_big_quiet_on))
       go_big_quiet_want
       refine qC_load27 (.tmp 95) rfl w.heap.size 18 (.slice (some ⟨b, o, none⟩) x.tabs.length cp) rfl (fun wq hq => CT.out wq hq) ?_
       simp only [Act.put, siB, stS, stZ]
       go_big_quiet_on
       iterate 2 (go_big_quiet_want; go_big_quiet_op; first | go_big_quiet_on | (refine ⟨_, fun _ _ => rfl, ?_⟩; go_big_quiet_on))
       go_big_quiet_want
       refine qC_load3 (.tmp 98) rfl b (o + (m + 1)) (.int .i64 z) rfl (fun wq hq => CZ.out wq hq) ?_
       simp only [Act.put, siB, stS, stZ]
       go_big_quiet_on
       (go_big_quiet_want; go_big_quiet_op; first | go_big_quiet_on | (refine ⟨_, fun _ _ => rfl, ?_⟩; go_big_quiet_on))
       go_big_quiet_want
       refine qC_load27 (.tmp 100) rfl w.heap.size 18 (.slice (some ⟨b, o, none⟩) x.tabs.length cp) rfl (fun wq hq => CT.out wq hq) ?_
       simp only [Act.put, siB, stS, stZ]
       go_big_quiet_on
       iterate 3 (go_big_quiet_want; go_big_quiet_op; first | go_big_quiet_on | (refine ⟨_, fun _ _ => rfl, ?_⟩; go_big_quiet_on))
       go_big_quiet_want
       refine qC_load3 (.tmp 104) rfl b (o + m) (.int .i64 y) rfl (fun wq hq => CY.out wq hq) ?_
       simp only [Act.put, siB, stS, stZ]
       go_big_quiet_on
       go_big_quiet_want
       refine qC_of (.bool false) (fun wq hq => by unfold execOp; simp [go_sem] <;> omega) ?_
       simp only [Act.put, siB, stS, stZ]
       go_big_quiet_on
       iterate 2 (go_big_quiet_want; go_big_quiet_op; first | go_big_quiet_on | (refine ⟨_, fun _ _ => rfl, ?_⟩; go_big_quiet_on))
       refine wpQuiet_nil ?_
       rintro wz hz
       go_wp2_with fail
       exact ⟨⟨m + 1 + 1, by omega, by go_num, L1, E, ⟨hz⟩⟩, by simp [intOf]; omega⟩
end Go.Proofs.Ytepepoabbbjmgaa.Sc
