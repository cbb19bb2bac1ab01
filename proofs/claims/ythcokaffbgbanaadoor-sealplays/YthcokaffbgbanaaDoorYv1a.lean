/- A round of SealPlays: R1a. -/
import Derived.Test.YthcokaffbgbanaaDoorYu
namespace Go.Proofs.YthcokaffbgbanaaDoor
open Go.RowKit Go.BigFrame
set_option linter.unusedVariables false
set_option linter.unusedSimpArgs false

set_option maxRecDepth 1000000 in
set_option maxHeartbeats 16000000 in
theorem plR1a (key : List UInt8) (f : Nat) (w : World) (p1 p2 p3 p4 q0 q1 : Nat) (aa : Option Addr) (an ac : Nat) (ln lc : Nat) (hk : key.length = 16) (HF : Box' (f = 1 ∨ f = 2)) (ht : Tab w) (hlt : 1 < w.heap.size) (hln : ln * 32 ≤ 140737488355328) (k : Nat) (vs : List Value) (ds : List (List UInt8)) (n m t o b : Nat) (wr : World) (sa : Option Addr) (sc : Nat) (HP : Box' (PS key f w p1 p2 p3 p4 k wr (.slice sa ds.length sc) vs ds n m t o b)) (hlt2 : k < ln)
    (bb oo pc pa pb : Nat) (pl : List UInt8) (va : Option Addr) (bn vc : Nat) (hbw : bb < w.heap.size) (c0 : w.cell? ⟨bb, oo + k * 4, none⟩ = some (.int .u8 (pc : Int))) (c1 : w.cell? ⟨bb, oo + k * 4 + 1, none⟩ = some (.int .u16 (pa : Int))) (c2 : w.cell? ⟨bb, oo + k * 4 + 2, none⟩ = some (.int .u16 (pb : Int))) (c3 : w.cell? ⟨bb, oo + k * 4 + 3, none⟩ = some (.slice va bn vc)) (hvc : bn ≤ vc) (HIN : Box' (InE w.heap.size w (.slice va bn vc) pl)) (HBN : Box' (pl.length = bn)) (hbn2 : bn ≤ maxLen) (ha : pa < 65536) (hb : pb < 65536) (h0 : ¬ pc = 0) (h1 : pc = 1) (hd0 : ds.length = 0)
    (c5 c7 c31 c32 c33 c34 c35 c36 c37 c38 c39 c40 c41 c42 c43 c44 c45 c46 c47 c48 c49 c50 c51 c52 c53 c54 c55 c56 c57 c58 c59 c60 c61 c62 c63 c64 c65 c66 c67 c68 c69 c70 c71 c72 c73 c74 c75 c76 c77 c78 c79 c80 c81 c217 : Value) (u6 u18 u19 u20 u21 u22 u23 u24 u25 u26 u27 u28 u29 u30 u82 u83 u84 u85 u86 u87 u88 u89 u90 u91 u92 u93 u94 u95 u96 u97 u98 u99 u100 u101 u102 u103 u104 u105 u106 u107 u108 u109 u110 u111 u112 u113 u114 u115 u116 u117 u118 u119 u120 u121 u122 u123 u124 u125 u126 u127 u128 u129 u130 u131 u132 u133 u134 u135 u136 u137 u138 u139 u140 u141 u142 u143 u144 u145 u146 u147 u148 u149 u150 u151 u152 u153 u154 u155 u156 u157 u158 u159 u160 u161 u162 u163 u164 u165 u166 u167 u168 u169 u170 u171 u172 u173 u174 u175 u176 u177 u178 u179 u180 u181 u182 u183 u184 u185 u186 u187 u188 u189 u190 u191 u192 u193 u194 u195 u196 u197 u198 u199 u200 u201 u202 u203 u204 u205 u206 u207 u208 u209 u210 u211 u212 u213 u214 u215 u216 : Value) (Q0 : Exit → Act → World → Prop) :
    Code.wp Tryd.prog ((Tryd.f4.body.bind firstLoop).getD .skip) (Exit.then (fun a' w'' => plWI key f w p1 p2 p3 p4 q0 q1 aa an ac (some ⟨bb, oo, none⟩) ln lc c5 c7 c31 c32 c33 c34 c35 c36 c37 c38 c39 c40 c41 c42 c43 c44 c45 c46 c47 c48 c49 c50 c51 c52 c53 c54 c55 c56 c57 c58 c59 c60 c61 c62 c63 c64 c65 c66 c67 c68 c69 c70 c71 c72 c73 c74 c75 c76 c77 c78 c79 c80 c81 c217 a' w'' ∧ plMu ln a' w'' < plMu ln ⟨List.toArray (.agg (ag key) :: .agg #[.int .u8 (f : Int), .slice aa an ac] :: .slice (some ⟨bb, oo, none⟩) ln lc :: .pointer (some ⟨q0, 0, none⟩) :: .pointer (some ⟨q1, 0, none⟩) :: c5 :: u6 :: c7 :: .pointer (some ⟨p1, 0, none⟩) :: .int .i64 0 :: .pointer (some ⟨p2, 0, none⟩) :: .int .i64 0 :: .pointer (some ⟨p3, 0, none⟩) :: .int .i64 0 :: .pointer (some ⟨p4, 0, none⟩) :: .int .i64 0 :: .slice sa ds.length sc :: .int .i64 (k : Int) :: u18 :: u19 :: u20 :: u21 :: u22 :: u23 :: u24 :: u25 :: u26 :: u27 :: u28 :: u29 :: u30 :: c31 :: c32 :: c33 :: c34 :: c35 :: c36 :: c37 :: c38 :: c39 :: c40 :: c41 :: c42 :: c43 :: c44 :: c45 :: c46 :: c47 :: c48 :: c49 :: c50 :: c51 :: c52 :: c53 :: c54 :: c55 :: c56 :: c57 :: c58 :: c59 :: c60 :: c61 :: c62 :: c63 :: c64 :: c65 :: c66 :: c67 :: c68 :: c69 :: c70 :: c71 :: c72 :: c73 :: c74 :: c75 :: c76 :: c77 :: c78 :: c79 :: c80 :: c81 :: u82 :: u83 :: u84 :: u85 :: u86 :: u87 :: u88 :: u89 :: u90 :: u91 :: u92 :: u93 :: u94 :: u95 :: u96 :: u97 :: u98 :: u99 :: u100 :: u101 :: u102 :: u103 :: u104 :: u105 :: u106 :: u107 :: u108 :: u109 :: u110 :: u111 :: u112 :: u113 :: u114 :: u115 :: u116 :: u117 :: u118 :: u119 :: u120 :: u121 :: u122 :: u123 :: u124 :: u125 :: u126 :: u127 :: u128 :: u129 :: u130 :: u131 :: u132 :: u133 :: u134 :: u135 :: u136 :: u137 :: u138 :: u139 :: u140 :: u141 :: u142 :: u143 :: u144 :: u145 :: u146 :: u147 :: u148 :: u149 :: u150 :: u151 :: u152 :: u153 :: u154 :: u155 :: u156 :: u157 :: u158 :: u159 :: u160 :: u161 :: u162 :: u163 :: u164 :: u165 :: u166 :: u167 :: u168 :: u169 :: u170 :: u171 :: u172 :: u173 :: u174 :: u175 :: u176 :: u177 :: u178 :: u179 :: u180 :: u181 :: u182 :: u183 :: u184 :: u185 :: u186 :: u187 :: u188 :: u189 :: u190 :: u191 :: u192 :: u193 :: u194 :: u195 :: u196 :: u197 :: u198 :: u199 :: u200 :: u201 :: u202 :: u203 :: u204 :: u205 :: u206 :: u207 :: u208 :: u209 :: u210 :: u211 :: u212 :: u213 :: u214 :: u215 :: u216 :: c217 :: []), []⟩ wr) Q0) ⟨List.toArray (.agg (ag key) :: .agg #[.int .u8 (f : Int), .slice aa an ac] :: .slice (some ⟨bb, oo, none⟩) ln lc :: .pointer (some ⟨q0, 0, none⟩) :: .pointer (some ⟨q1, 0, none⟩) :: c5 :: u6 :: c7 :: .pointer (some ⟨p1, 0, none⟩) :: .int .i64 0 :: .pointer (some ⟨p2, 0, none⟩) :: .int .i64 0 :: .pointer (some ⟨p3, 0, none⟩) :: .int .i64 0 :: .pointer (some ⟨p4, 0, none⟩) :: .int .i64 0 :: .slice sa ds.length sc :: .int .i64 (k : Int) :: u18 :: u19 :: u20 :: u21 :: u22 :: u23 :: u24 :: u25 :: u26 :: u27 :: u28 :: u29 :: u30 :: c31 :: c32 :: c33 :: c34 :: c35 :: c36 :: c37 :: c38 :: c39 :: c40 :: c41 :: c42 :: c43 :: c44 :: c45 :: c46 :: c47 :: c48 :: c49 :: c50 :: c51 :: c52 :: c53 :: c54 :: c55 :: c56 :: c57 :: c58 :: c59 :: c60 :: c61 :: c62 :: c63 :: c64 :: c65 :: c66 :: c67 :: c68 :: c69 :: c70 :: c71 :: c72 :: c73 :: c74 :: c75 :: c76 :: c77 :: c78 :: c79 :: c80 :: c81 :: u82 :: u83 :: u84 :: u85 :: u86 :: u87 :: u88 :: u89 :: u90 :: u91 :: u92 :: u93 :: u94 :: u95 :: u96 :: u97 :: u98 :: u99 :: u100 :: u101 :: u102 :: u103 :: u104 :: u105 :: u106 :: u107 :: u108 :: u109 :: u110 :: u111 :: u112 :: u113 :: u114 :: u115 :: u116 :: u117 :: u118 :: u119 :: u120 :: u121 :: u122 :: u123 :: u124 :: u125 :: u126 :: u127 :: u128 :: u129 :: u130 :: u131 :: u132 :: u133 :: u134 :: u135 :: u136 :: u137 :: u138 :: u139 :: u140 :: u141 :: u142 :: u143 :: u144 :: u145 :: u146 :: u147 :: u148 :: u149 :: u150 :: u151 :: u152 :: u153 :: u154 :: u155 :: u156 :: u157 :: u158 :: u159 :: u160 :: u161 :: u162 :: u163 :: u164 :: u165 :: u166 :: u167 :: u168 :: u169 :: u170 :: u171 :: u172 :: u173 :: u174 :: u175 :: u176 :: u177 :: u178 :: u179 :: u180 :: u181 :: u182 :: u183 :: u184 :: u185 :: u186 :: u187 :: u188 :: u189 :: u190 :: u191 :: u192 :: u193 :: u194 :: u195 :: u196 :: u197 :: u198 :: u199 :: u200 :: u201 :: u202 :: u203 :: u204 :: u205 :: u206 :: u207 :: u208 :: u209 :: u210 :: u211 :: u212 :: u213 :: u214 :: u215 :: u216 :: c217 :: []), []⟩ wr := by
  have i0 : ((pc : Int) == 0) = false := by rw [beq_eq_false_iff_ne]; omega
  have i1 : ((pc : Int) == 1) = true := by rw [beq_iff_eq]; omega
  clear h0 h1
  have hd0' : decide (0 < ds.length) = false := decide_eq_false (by omega)
  clear hd0
  conv => arg 2; whnf
  have B := HP.out.bel
  rw [← B.cell (p := ⟨bb, oo + k * 4, none⟩) hbw] at c0
  rw [← B.cell (p := ⟨bb, oo + k * 4 + 1, none⟩) hbw] at c1
  rw [← B.cell (p := ⟨bb, oo + k * 4 + 2, none⟩) hbw] at c2
  rw [← B.cell (p := ⟨bb, oo + k * 4 + 3, none⟩) hbw] at c3
  obtain ⟨wa, hwa⟩ : ∃ wa, wr.alloc (.cells #[.int .u8 (pc : Int), .int .u16 (pa : Int), .int .u16 (pb : Int), .slice va bn vc] 61) = wa := ⟨_, rfl⟩
  have ab : Below wr.heap.size wr wa := by rw [← hwa]; exact (Below.refl _ _).alloc (Nat.le_refl _) _
  have HPa := Box'.mk (HP.out.below ab)
  have ra : Row wa wr.heap.size 61 #[.int .u8 (pc : Int), .int .u16 (pa : Int), .int .u16 (pb : Int), .slice va bn vc] := by rw [← hwa]; exact Row.new _ _ _
  have Ba := HPa.out.bel
  have HWA := Box'.mk hwa
  have RA := Box'.mk ra
  have x0 : wa.cell? ⟨wr.heap.size, 0, none⟩ = some (.int .u8 (pc : Int)) := ra.cell 0
  have x1 : wa.cell? ⟨wr.heap.size, 1, none⟩ = some (.int .u16 (pa : Int)) := ra.cell 1
  have x2 : wa.cell? ⟨wr.heap.size, 2, none⟩ = some (.int .u16 (pb : Int)) := ra.cell 2
  have x3 : wa.cell? ⟨wr.heap.size, 3, none⟩ = some (.slice va bn vc) := ra.cell 3
  clear hwa ra ab
  go_upto_region 15 with (fail)
  rw [HWA.out]
  clear HWA c0 c1 c2 c3 B HP
  have hzk : Box' (∀ w2, Below w.heap.size w w2 → (∀ b c, Row wa b 5 c → Row w2 b 5 c) → Bts (· < w2.heap.size) w2 (.slice va bn vc) pl) := ⟨fun w2 h2 _ => ((HIN.out.below h2 (Nat.le_refl _)).up h2.size).bts⟩
  have hzm : pl.length ≤ maxLen := by rw [HBN.out]; exact hbn2
  have HTP := Box'.mk (take_any p3 key hk f m t o b HF.out (by have := HPa.out.hc; omega) (.slice va bn vc) pl hzm wa (ht.below Ba hlt) HPa.out.r3 (hzk.out wa Ba (fun _ _ h => h)))
  have HTR := Box'.mk (fun (w2 : World) (h2 : Row w2 p4 69 (opO key f m t o b)) (hb2 : Bts (· < w2.heap.size) w2 (.slice va bn vc) pl) => rtake_any p4 key hk f m t o b HF.out (by have := HPa.out.hc; omega) HPa.out.hi (.slice va bn vc) pl hzm w2 h2 hb2)
  unfold dgv at HTP HTR
  go_wp2_with fail
  clear x0 x1 x2 x3
  refine HTP.out.mono ?_
  rintro r w3 ⟨q, s, e, u3, L, rfl, i3, q3, t3, y3, z3⟩
  have B3 := Ba.trans (t3.below HPa.out.g3 Ba.size)
  have Q3 := Box'.mk q3
  have T3 := Box'.mk t3
  have Y3 := Box'.mk y3
  have Z3 := Box'.mk z3
  obtain ⟨ua, uc, rfl⟩ := i3.slice
  have I3 := Box'.mk i3
  obtain ⟨ll, hll⟩ : ∃ ll, L.length = ll := ⟨_, rfl⟩
  rw [hll] at I3 ⊢
  clear hll
  obtain ⟨C3, hC3⟩ : ∃ C3, w3.alloc (.cells #[.int .u64 (q : Int), .int .u16 (s : Int), .int .u16 (e : Int), .slice ua ll uc] 28) = C3 := ⟨_, rfl⟩
  have bC3 : Below w3.heap.size w3 C3 := by rw [← hC3]; exact (Below.refl _ _).alloc (Nat.le_refl _) _
  have dC3 : Row C3 w3.heap.size 28 #[.int .u64 (q : Int), .int .u16 (s : Int), .int .u16 (e : Int), .slice ua ll uc] := by rw [← hC3]; exact Row.new _ _ _
  have HC3 := Box'.mk hC3
  have x4 := (t3.row HPa.out.r4 (row_ne HPa.out.r4 HPa.out.r3 (by decide)))
  have X4 := Box'.mk (x4.below bC3 x4.lt)
  have HTR2 := Box'.mk (HTR.out C3 X4.out (hzk.out C3 (B3.trans (bC3.mono B3.size)) (fun bq cq hr => (t3.row hr (row_ne hr HPa.out.r3 (by decide))).below bC3 (t3.row hr (row_ne hr HPa.out.r3 (by decide))).lt)))
  have DC3 := Box'.mk dC3
  have BC3 := Box'.mk bC3
  have HB3 := Box'.mk B3
  clear HTP HTR y3 z3 q3 i3 t3 hC3 bC3 dC3 x4 RA B3 hzk
  go_upto_region 29 with (fail)
  rw [HC3.out]
  clear HC3
  go_wp2_with fail
  refine HTR2.out.mono ?_
  rintro r w4 ⟨q', s', e', u4, L', rfl, i4, q4, t4, y4, z4⟩
  have hEE : q = q' ∧ s = s' ∧ e = e' ∧ L = L' := by
    by_cases hE : Gf.tkE key f m pl = 0
    · obtain ⟨j1, j2, j3, j4⟩ := Y3.out hE
      obtain ⟨l1, l2, l3, l4⟩ := y4 hE
      exact ⟨j1.trans l1.symm, j2.trans l2.symm, j3.trans l3.symm, j4.trans l4.symm⟩
    · obtain ⟨j1, j2, j3, j4⟩ := Z3.out hE
      obtain ⟨l1, l2, l3, l4⟩ := z4 hE
      exact ⟨j1.trans l1.symm, j2.trans l2.symm, j3.trans l3.symm, j4.trans l4.symm⟩
  obtain ⟨rfl, rfl, rfl, rfl⟩ := hEE
  have HPt := Box'.mk (HPa.out.take T3.out Q3.out ((Bt.of BC3.out).trans t4) q4)
  have D4 := t4.row DC3.out (row_ne DC3.out X4.out (by decide))
  have J3 := (I3.out.below BC3.out).same (fun bq cq hr => t4.row hr (row_ne hr X4.out (by decide)))
  obtain ⟨va4, vc4, rfl⟩ := i4.slice
  obtain ⟨l4, hl4⟩ : ∃ l4, L.length = l4 := ⟨_, rfl⟩
  rw [hl4] at i4 ⊢
  clear hl4
  have I4 := Box'.mk i4
  obtain ⟨C4, hC4⟩ : ∃ C4, w4.alloc (.cells #[.int .u64 (q : Int), .int .u16 (s : Int), .int .u16 (e : Int), .slice va4 l4 vc4] 28) = C4 := ⟨_, rfl⟩
  have bC4 : Below w4.heap.size w4 C4 := by rw [← hC4]; exact (Below.refl _ _).alloc (Nat.le_refl _) _
  have dC4b : Row C4 w4.heap.size 28 #[.int .u64 (q : Int), .int .u16 (s : Int), .int .u16 (e : Int), .slice va4 l4 vc4] := by rw [← hC4]; exact Row.new _ _ _
  have dC4a := D4.below bC4 D4.lt
  have HC4 := Box'.mk hC4
  have SM := same8_any q s e q s e (.slice ua ll uc) (.slice va4 l4 vc4) L L C4 ((J3.below bC4).inE.bts) ((I4.out.below bC4).inE.bts)
  rw [decide_eq_true ⟨rfl, rfl, rfl, rfl⟩] at SM
  unfold dgv at SM
  have HSM := Box'.mk SM
  have BC4 := Box'.mk bC4
  clear SM i4 D4 J3 y4 z4 q4 t4 hC4 bC4 HTR2 Y3 Z3 Q3 T3 I3 I4 DC3 BC3 X4 HPa HB3
  go_upto_region 30 with (fail)
  rw [HC4.out]
  clear HC4
  go_wp2_with (first | (refine wpList_load_row rfl 28 (.tmp 24) rfl _ rfl _ _ dC4a _ Tryd.underlying28 rfl 4 Tryd.size28 rfl ?_) | (refine wpList_load_row rfl 28 (.tmp 26) rfl _ rfl _ _ dC4b _ Tryd.underlying28 rfl 4 Tryd.size28 rfl ?_) | fail)
  refine HSM.out.mono ?_
  rintro r w5 ⟨rfl, b5⟩
  obtain ⟨m', t', o', b', HPu⟩ := HPt.out
  have HPv := Box'.mk ((HPu.below BC4.out).below b5)
  clear HSM b5 dC4a dC4b HPt HPu BC4
  generalize Gf.tkE key f m pl = EE at *
  go_wp2_with fail
  exact ⟨plDone hlt2 (Box'.out (HPv)), plLess hlt2⟩
end Go.Proofs.YthcokaffbgbanaaDoor
