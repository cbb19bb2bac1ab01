/- A round of SealPlays: R0. -/
import Derived.Test.YthcokaffbgbanaaDoorYu
namespace Go.Proofs.YthcokaffbgbanaaDoor
open Go.RowKit Go.BigFrame
set_option linter.unusedVariables false
set_option linter.unusedSimpArgs false

set_option maxRecDepth 1000000 in
set_option maxHeartbeats 16000000 in
theorem plR0 (key : List UInt8) (f : Nat) (w : World) (p1 p2 p3 p4 q0 q1 : Nat) (aa : Option Addr) (an ac : Nat) (ln lc : Nat) (hk : key.length = 16) (HF : Box' (f = 1 ∨ f = 2)) (ht : Tab w) (hlt : 1 < w.heap.size) (hln : ln * 32 ≤ 140737488355328) (k : Nat) (vs : List Value) (ds : List (List UInt8)) (n m t o b : Nat) (wr : World) (sa : Option Addr) (sc : Nat) (HP : Box' (PS key f w p1 p2 p3 p4 k wr (.slice sa ds.length sc) vs ds n m t o b)) (hlt2 : k < ln)
    (bb oo pc pa pb : Nat) (pl : List UInt8) (va : Option Addr) (bn vc : Nat) (hbw : bb < w.heap.size) (c0 : w.cell? ⟨bb, oo + k * 4, none⟩ = some (.int .u8 (pc : Int))) (c1 : w.cell? ⟨bb, oo + k * 4 + 1, none⟩ = some (.int .u16 (pa : Int))) (c2 : w.cell? ⟨bb, oo + k * 4 + 2, none⟩ = some (.int .u16 (pb : Int))) (c3 : w.cell? ⟨bb, oo + k * 4 + 3, none⟩ = some (.slice va bn vc)) (hvc : bn ≤ vc) (HIN : Box' (InE w.heap.size w (.slice va bn vc) pl)) (HBN : Box' (pl.length = bn)) (hbn2 : bn ≤ maxLen) (ha : pa < 65536) (hb : pb < 65536) (h0 : pc = 0)
    (c5 c7 c31 c32 c33 c34 c35 c36 c37 c38 c39 c40 c41 c42 c43 c44 c45 c46 c47 c48 c49 c50 c51 c52 c53 c54 c55 c56 c57 c58 c59 c60 c61 c62 c63 c64 c65 c66 c67 c68 c69 c70 c71 c72 c73 c74 c75 c76 c77 c78 c79 c80 c81 c217 : Value) (u6 u18 u19 u20 u21 u22 u23 u24 u25 u26 u27 u28 u29 u30 u82 u83 u84 u85 u86 u87 u88 u89 u90 u91 u92 u93 u94 u95 u96 u97 u98 u99 u100 u101 u102 u103 u104 u105 u106 u107 u108 u109 u110 u111 u112 u113 u114 u115 u116 u117 u118 u119 u120 u121 u122 u123 u124 u125 u126 u127 u128 u129 u130 u131 u132 u133 u134 u135 u136 u137 u138 u139 u140 u141 u142 u143 u144 u145 u146 u147 u148 u149 u150 u151 u152 u153 u154 u155 u156 u157 u158 u159 u160 u161 u162 u163 u164 u165 u166 u167 u168 u169 u170 u171 u172 u173 u174 u175 u176 u177 u178 u179 u180 u181 u182 u183 u184 u185 u186 u187 u188 u189 u190 u191 u192 u193 u194 u195 u196 u197 u198 u199 u200 u201 u202 u203 u204 u205 u206 u207 u208 u209 u210 u211 u212 u213 u214 u215 u216 : Value) (Q0 : Exit → Act → World → Prop) :
    Code.wp Tryd.prog ((Tryd.f4.body.bind firstLoop).getD .skip) (Exit.then (fun a' w'' => plWI key f w p1 p2 p3 p4 q0 q1 aa an ac (some ⟨bb, oo, none⟩) ln lc c5 c7 c31 c32 c33 c34 c35 c36 c37 c38 c39 c40 c41 c42 c43 c44 c45 c46 c47 c48 c49 c50 c51 c52 c53 c54 c55 c56 c57 c58 c59 c60 c61 c62 c63 c64 c65 c66 c67 c68 c69 c70 c71 c72 c73 c74 c75 c76 c77 c78 c79 c80 c81 c217 a' w'' ∧ plMu ln a' w'' < plMu ln ⟨List.toArray (.agg (ag key) :: .agg #[.int .u8 (f : Int), .slice aa an ac] :: .slice (some ⟨bb, oo, none⟩) ln lc :: .pointer (some ⟨q0, 0, none⟩) :: .pointer (some ⟨q1, 0, none⟩) :: c5 :: u6 :: c7 :: .pointer (some ⟨p1, 0, none⟩) :: .int .i64 0 :: .pointer (some ⟨p2, 0, none⟩) :: .int .i64 0 :: .pointer (some ⟨p3, 0, none⟩) :: .int .i64 0 :: .pointer (some ⟨p4, 0, none⟩) :: .int .i64 0 :: .slice sa ds.length sc :: .int .i64 (k : Int) :: u18 :: u19 :: u20 :: u21 :: u22 :: u23 :: u24 :: u25 :: u26 :: u27 :: u28 :: u29 :: u30 :: c31 :: c32 :: c33 :: c34 :: c35 :: c36 :: c37 :: c38 :: c39 :: c40 :: c41 :: c42 :: c43 :: c44 :: c45 :: c46 :: c47 :: c48 :: c49 :: c50 :: c51 :: c52 :: c53 :: c54 :: c55 :: c56 :: c57 :: c58 :: c59 :: c60 :: c61 :: c62 :: c63 :: c64 :: c65 :: c66 :: c67 :: c68 :: c69 :: c70 :: c71 :: c72 :: c73 :: c74 :: c75 :: c76 :: c77 :: c78 :: c79 :: c80 :: c81 :: u82 :: u83 :: u84 :: u85 :: u86 :: u87 :: u88 :: u89 :: u90 :: u91 :: u92 :: u93 :: u94 :: u95 :: u96 :: u97 :: u98 :: u99 :: u100 :: u101 :: u102 :: u103 :: u104 :: u105 :: u106 :: u107 :: u108 :: u109 :: u110 :: u111 :: u112 :: u113 :: u114 :: u115 :: u116 :: u117 :: u118 :: u119 :: u120 :: u121 :: u122 :: u123 :: u124 :: u125 :: u126 :: u127 :: u128 :: u129 :: u130 :: u131 :: u132 :: u133 :: u134 :: u135 :: u136 :: u137 :: u138 :: u139 :: u140 :: u141 :: u142 :: u143 :: u144 :: u145 :: u146 :: u147 :: u148 :: u149 :: u150 :: u151 :: u152 :: u153 :: u154 :: u155 :: u156 :: u157 :: u158 :: u159 :: u160 :: u161 :: u162 :: u163 :: u164 :: u165 :: u166 :: u167 :: u168 :: u169 :: u170 :: u171 :: u172 :: u173 :: u174 :: u175 :: u176 :: u177 :: u178 :: u179 :: u180 :: u181 :: u182 :: u183 :: u184 :: u185 :: u186 :: u187 :: u188 :: u189 :: u190 :: u191 :: u192 :: u193 :: u194 :: u195 :: u196 :: u197 :: u198 :: u199 :: u200 :: u201 :: u202 :: u203 :: u204 :: u205 :: u206 :: u207 :: u208 :: u209 :: u210 :: u211 :: u212 :: u213 :: u214 :: u215 :: u216 :: c217 :: []), []⟩ wr) Q0) ⟨List.toArray (.agg (ag key) :: .agg #[.int .u8 (f : Int), .slice aa an ac] :: .slice (some ⟨bb, oo, none⟩) ln lc :: .pointer (some ⟨q0, 0, none⟩) :: .pointer (some ⟨q1, 0, none⟩) :: c5 :: u6 :: c7 :: .pointer (some ⟨p1, 0, none⟩) :: .int .i64 0 :: .pointer (some ⟨p2, 0, none⟩) :: .int .i64 0 :: .pointer (some ⟨p3, 0, none⟩) :: .int .i64 0 :: .pointer (some ⟨p4, 0, none⟩) :: .int .i64 0 :: .slice sa ds.length sc :: .int .i64 (k : Int) :: u18 :: u19 :: u20 :: u21 :: u22 :: u23 :: u24 :: u25 :: u26 :: u27 :: u28 :: u29 :: u30 :: c31 :: c32 :: c33 :: c34 :: c35 :: c36 :: c37 :: c38 :: c39 :: c40 :: c41 :: c42 :: c43 :: c44 :: c45 :: c46 :: c47 :: c48 :: c49 :: c50 :: c51 :: c52 :: c53 :: c54 :: c55 :: c56 :: c57 :: c58 :: c59 :: c60 :: c61 :: c62 :: c63 :: c64 :: c65 :: c66 :: c67 :: c68 :: c69 :: c70 :: c71 :: c72 :: c73 :: c74 :: c75 :: c76 :: c77 :: c78 :: c79 :: c80 :: c81 :: u82 :: u83 :: u84 :: u85 :: u86 :: u87 :: u88 :: u89 :: u90 :: u91 :: u92 :: u93 :: u94 :: u95 :: u96 :: u97 :: u98 :: u99 :: u100 :: u101 :: u102 :: u103 :: u104 :: u105 :: u106 :: u107 :: u108 :: u109 :: u110 :: u111 :: u112 :: u113 :: u114 :: u115 :: u116 :: u117 :: u118 :: u119 :: u120 :: u121 :: u122 :: u123 :: u124 :: u125 :: u126 :: u127 :: u128 :: u129 :: u130 :: u131 :: u132 :: u133 :: u134 :: u135 :: u136 :: u137 :: u138 :: u139 :: u140 :: u141 :: u142 :: u143 :: u144 :: u145 :: u146 :: u147 :: u148 :: u149 :: u150 :: u151 :: u152 :: u153 :: u154 :: u155 :: u156 :: u157 :: u158 :: u159 :: u160 :: u161 :: u162 :: u163 :: u164 :: u165 :: u166 :: u167 :: u168 :: u169 :: u170 :: u171 :: u172 :: u173 :: u174 :: u175 :: u176 :: u177 :: u178 :: u179 :: u180 :: u181 :: u182 :: u183 :: u184 :: u185 :: u186 :: u187 :: u188 :: u189 :: u190 :: u191 :: u192 :: u193 :: u194 :: u195 :: u196 :: u197 :: u198 :: u199 :: u200 :: u201 :: u202 :: u203 :: u204 :: u205 :: u206 :: u207 :: u208 :: u209 :: u210 :: u211 :: u212 :: u213 :: u214 :: u215 :: u216 :: c217 :: []), []⟩ wr := by
  have i0 : ((pc : Int) == 0) = true := by rw [beq_iff_eq]; omega
  clear h0
  conv => arg 2; whnf
  have B := HP.out.bel
  rw [← B.cell (p := ⟨bb, oo + k * 4, none⟩) hbw] at c0
  rw [← B.cell (p := ⟨bb, oo + k * 4 + 1, none⟩) hbw] at c1
  rw [← B.cell (p := ⟨bb, oo + k * 4 + 2, none⟩) hbw] at c2
  rw [← B.cell (p := ⟨bb, oo + k * 4 + 3, none⟩) hbw] at c3
  obtain ⟨wa, hwa⟩ : ∃ wa, wr.alloc (.cells #[.int .u8 (pc : Int), .int .u16 (pa : Int), .int .u16 (pb : Int), .slice va bn vc] 61) = wa := ⟨_, rfl⟩
  have ab : Below wr.heap.size wr wa := by rw [← hwa]; exact (Below.refl _ _).alloc (Nat.le_refl _) _
  have HPa := Box'.mk (HP.out.below ab)
  have ra : Row wa wr.heap.size 61 #[.int .u8 (pc : Int), .int .u16 (pa : Int), .int .u16 (pb : Int), .slice va bn vc] := by rw [← hwa]; exact Row.new _ _ _
  have Ba := HPa.out.bel
  have HWA := Box'.mk hwa
  have RA := Box'.mk ra
  have x0 : wa.cell? ⟨wr.heap.size, 0, none⟩ = some (.int .u8 (pc : Int)) := ra.cell 0
  have x1 : wa.cell? ⟨wr.heap.size, 1, none⟩ = some (.int .u16 (pa : Int)) := ra.cell 1
  have x2 : wa.cell? ⟨wr.heap.size, 2, none⟩ = some (.int .u16 (pb : Int)) := ra.cell 2
  have x3 : wa.cell? ⟨wr.heap.size, 3, none⟩ = some (.slice va bn vc) := ra.cell 3
  clear hwa ra ab
  go_upto_region 15 with (fail)
  rw [HWA.out]
  clear HWA c0 c1 c2 c3 B HP
  have X := next_any p1 key hk f n HF.out pa pb ha hb (.slice va bn vc) pl wa (ht.below Ba hlt) (by have := HPa.out.g1; omega) HPa.out.r1 ((HIN.out.below Ba (Nat.le_refl _)).up Ba.size)
  have HX := Box'.mk X
  have HY := Box'.mk (fun (w3 : World) (hb3 : Below w.heap.size w w3) (h3 : Row w3 p2 72 (slO key f n)) => rnext_any p2 w.heap.size key hk f n HF.out HPa.out.hn pa pb ha hb (.slice va bn vc) pl w3 HPa.out.g2 h3 (HIN.out.below hb3 (Nat.le_refl _)))
  clear X
  go_wp2_with fail
  refine HX.out.mono ?_
  rintro r w3 ⟨u3, rfl, o3, q3, t3⟩
  have B3 := Ba.trans (t3.below HPa.out.g1 Ba.size)
  have Y := HY.out w3 B3 (t3.row HPa.out.r2 (row_ne HPa.out.r2 HPa.out.r1 (by decide)))
  have RA3 := t3.row RA.out (row_ne RA.out HPa.out.r1 (by decide))
  have y1 : w3.cell? ⟨wr.heap.size, 1, none⟩ = some (.int .u16 (pa : Int)) := RA3.cell 1
  have y2 : w3.cell? ⟨wr.heap.size, 2, none⟩ = some (.int .u16 (pb : Int)) := RA3.cell 2
  have O3 := Box'.mk o3
  have T3 := Box'.mk t3
  have Q3 := Box'.mk q3
  clear HX HY x0 x1 x2 x3 RA o3 q3 t3 RA3
  go_wp2_with fail
  refine Y.mono ?_
  rintro r w4 ⟨u4, rfl, o4, q4, t4⟩
  have x2' := T3.out.row HPa.out.r2 (row_ne HPa.out.r2 HPa.out.r1 (by decide))
  have O3' := O3.out.same' t4 x2' (by decide)
  have SM := refSame_any _ _ _ _ _ _ w4 O3'.bts o4.bts
  rw [decide_eq_true rfl] at SM
  have HP4 := Box'.mk (HPa.out.next (nxN_le HPa.out.hn) T3.out Q3.out t4 q4)
  have O4 := Box'.mk (o4.less B3.size)
  clear Y y1 y2 x2' O3' q4 t4 o4 Q3 T3 O3 HPa
  go_wp2_with fail
  refine SM.mono ?_
  rintro r w5 ⟨rfl, rfl⟩
  clear SM
  by_cases hE : Gf.nxE n pl.length = 0
  · rw [hE]
    have en : Gf.nxL key f n pa pb pl = Gf.dgB key f n pa pb pl := if_pos hE
    rw [en] at O4
    have hD : (Gf.dgB key f n pa pb pl).length ≤ 65028 := by
      rw [Gf.dgB_len]
      unfold Gf.nxE at hE
      split at hE
      · omega
      · omega
    generalize Gf.dgB key f n pa pb pl = D at *
    obtain ⟨da, dc, rfl⟩ := O4.out.slice
    generalize hdn : D.length = dn at *
    have Hsr := Box'.mk (HP4.out.sr.below ((Below.refl _ w5).alloc (Nat.le_refl _) (.cells #[.slice da dn dc] 26)))
    have Ho := Box'.mk (O4.out.alloc (.cells #[.slice da dn dc] 26))
    have HPb := Box'.mk (HP4.out.below ((Below.refl _ w5).alloc (Nat.le_refl _) (.cells #[.slice da dn dc] 26)))
    have Hc : Box' ((w5.alloc (.cells #[.slice da dn dc] 26)).cell? ⟨w5.heap.size, 0, none⟩ = some (.slice da dn dc)) := ⟨by rw [(Row.new w5 26 #[.slice da dn dc]).cell]; rfl⟩
    have HB5 := Box'.mk (HPb.out.bel.size)
    have hdl : (ds.length + 1) * 24 ≤ 140737488355328 := by have := HP4.out.hd; omega
    have HDN := Box'.mk hdn
    clear hdn hE
    go_wp2_with (first | (refine wpList_appS rfl (.tmp 133) (.tmp 135) rfl w.heap.size HB5.out _ _ _ rfl Hsr.out _ _ _ _ rfl Hc.out rfl Ho.out hdl ?_; intro v6 w6 sr6 ap6) | fail)
    refine ⟨plDone hlt2 ⟨sr6, ap6.rows _ _ _ HPb.out.r1 (by decide), ap6.rows _ _ _ HPb.out.r2 (by decide), ap6.rows _ _ _ HPb.out.r3 (by decide), ap6.rows _ _ _ HPb.out.r4 (by decide), by rw [List.length_append]; have := HPb.out.hd; simp; omega, HPb.out.hn, Nat.le_succ_of_le HPb.out.hc, HPb.out.hi, fun j hj => ?_, HPb.out.g1, HPb.out.g2, HPb.out.g3, HPb.out.g4, HPb.out.bel.trans ap6.bel⟩, plLess hlt2⟩
    by_cases hj2 : j < ds.length
    · rw [show (ds ++ [D]).getD j [] = ds.getD j [] by simp [List.getD_eq_getElem?_getD, List.getElem?_append_left hj2]]
      exact HPb.out.hl j hj2
    · have : j = ds.length := by simp at hj; omega
      subst this
      rw [show (ds ++ [D]).getD ds.length [] = D by simp [List.getD_eq_getElem?_getD], HDN.out]
      exact hD
  · have dE : (Gf.nxE n pl.length == 0) = false := by rw [beq_eq_false_iff_ne]; exact hE
    generalize Gf.nxE n pl.length = EE at *
    clear hE
    go_wp2_with fail
    exact ⟨plDone hlt2 (Box'.out (⟨HP4.out.up⟩)), plLess hlt2⟩
end Go.Proofs.YthcokaffbgbanaaDoor
