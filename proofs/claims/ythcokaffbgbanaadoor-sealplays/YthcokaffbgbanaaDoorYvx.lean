/- A round of SealPlays: Rx. -/
import Derived.Test.YthcokaffbgbanaaDoorYu
namespace Go.Proofs.YthcokaffbgbanaaDoor
open Go.RowKit Go.BigFrame
set_option linter.unusedVariables false
set_option linter.unusedSimpArgs false

set_option maxRecDepth 1000000 in
set_option maxHeartbeats 16000000 in
theorem plRx (key : List UInt8) (f : Nat) (w : World) (p1 p2 p3 p4 q0 q1 : Nat) (aa : Option Addr) (an ac : Nat) (ln lc : Nat) (hk : key.length = 16) (HF : Box' (f = 1 ∨ f = 2)) (ht : Tab w) (hlt : 1 < w.heap.size) (hln : ln * 32 ≤ 140737488355328) (k : Nat) (vs : List Value) (ds : List (List UInt8)) (n m t o b : Nat) (wr : World) (sa : Option Addr) (sc : Nat) (HP : Box' (PS key f w p1 p2 p3 p4 k wr (.slice sa ds.length sc) vs ds n m t o b)) (hlt2 : k < ln)
    (bb oo pc pa pb : Nat) (pl : List UInt8) (va : Option Addr) (bn vc : Nat) (hbw : bb < w.heap.size) (c0 : w.cell? ⟨bb, oo + k * 4, none⟩ = some (.int .u8 (pc : Int))) (c1 : w.cell? ⟨bb, oo + k * 4 + 1, none⟩ = some (.int .u16 (pa : Int))) (c2 : w.cell? ⟨bb, oo + k * 4 + 2, none⟩ = some (.int .u16 (pb : Int))) (c3 : w.cell? ⟨bb, oo + k * 4 + 3, none⟩ = some (.slice va bn vc)) (hvc : bn ≤ vc) (HIN : Box' (InE w.heap.size w (.slice va bn vc) pl)) (HBN : Box' (pl.length = bn)) (hbn2 : bn ≤ maxLen) (ha : pa < 65536) (hb : pb < 65536) (h0 : ¬ pc = 0) (h1 : ¬ pc = 1) (h2 : ¬ pc = 2) (h3 : ¬ pc = 3)
    (c5 c7 c31 c32 c33 c34 c35 c36 c37 c38 c39 c40 c41 c42 c43 c44 c45 c46 c47 c48 c49 c50 c51 c52 c53 c54 c55 c56 c57 c58 c59 c60 c61 c62 c63 c64 c65 c66 c67 c68 c69 c70 c71 c72 c73 c74 c75 c76 c77 c78 c79 c80 c81 c217 : Value) (u6 u18 u19 u20 u21 u22 u23 u24 u25 u26 u27 u28 u29 u30 u82 u83 u84 u85 u86 u87 u88 u89 u90 u91 u92 u93 u94 u95 u96 u97 u98 u99 u100 u101 u102 u103 u104 u105 u106 u107 u108 u109 u110 u111 u112 u113 u114 u115 u116 u117 u118 u119 u120 u121 u122 u123 u124 u125 u126 u127 u128 u129 u130 u131 u132 u133 u134 u135 u136 u137 u138 u139 u140 u141 u142 u143 u144 u145 u146 u147 u148 u149 u150 u151 u152 u153 u154 u155 u156 u157 u158 u159 u160 u161 u162 u163 u164 u165 u166 u167 u168 u169 u170 u171 u172 u173 u174 u175 u176 u177 u178 u179 u180 u181 u182 u183 u184 u185 u186 u187 u188 u189 u190 u191 u192 u193 u194 u195 u196 u197 u198 u199 u200 u201 u202 u203 u204 u205 u206 u207 u208 u209 u210 u211 u212 u213 u214 u215 u216 : Value) (Q0 : Exit → Act → World → Prop) :
    Code.wp Tryd.prog ((Tryd.f4.body.bind firstLoop).getD .skip) (Exit.then (fun a' w'' => plWI key f w p1 p2 p3 p4 q0 q1 aa an ac (some ⟨bb, oo, none⟩) ln lc c5 c7 c31 c32 c33 c34 c35 c36 c37 c38 c39 c40 c41 c42 c43 c44 c45 c46 c47 c48 c49 c50 c51 c52 c53 c54 c55 c56 c57 c58 c59 c60 c61 c62 c63 c64 c65 c66 c67 c68 c69 c70 c71 c72 c73 c74 c75 c76 c77 c78 c79 c80 c81 c217 a' w'' ∧ plMu ln a' w'' < plMu ln ⟨List.toArray (.agg (ag key) :: .agg #[.int .u8 (f : Int), .slice aa an ac] :: .slice (some ⟨bb, oo, none⟩) ln lc :: .pointer (some ⟨q0, 0, none⟩) :: .pointer (some ⟨q1, 0, none⟩) :: c5 :: u6 :: c7 :: .pointer (some ⟨p1, 0, none⟩) :: .int .i64 0 :: .pointer (some ⟨p2, 0, none⟩) :: .int .i64 0 :: .pointer (some ⟨p3, 0, none⟩) :: .int .i64 0 :: .pointer (some ⟨p4, 0, none⟩) :: .int .i64 0 :: .slice sa ds.length sc :: .int .i64 (k : Int) :: u18 :: u19 :: u20 :: u21 :: u22 :: u23 :: u24 :: u25 :: u26 :: u27 :: u28 :: u29 :: u30 :: c31 :: c32 :: c33 :: c34 :: c35 :: c36 :: c37 :: c38 :: c39 :: c40 :: c41 :: c42 :: c43 :: c44 :: c45 :: c46 :: c47 :: c48 :: c49 :: c50 :: c51 :: c52 :: c53 :: c54 :: c55 :: c56 :: c57 :: c58 :: c59 :: c60 :: c61 :: c62 :: c63 :: c64 :: c65 :: c66 :: c67 :: c68 :: c69 :: c70 :: c71 :: c72 :: c73 :: c74 :: c75 :: c76 :: c77 :: c78 :: c79 :: c80 :: c81 :: u82 :: u83 :: u84 :: u85 :: u86 :: u87 :: u88 :: u89 :: u90 :: u91 :: u92 :: u93 :: u94 :: u95 :: u96 :: u97 :: u98 :: u99 :: u100 :: u101 :: u102 :: u103 :: u104 :: u105 :: u106 :: u107 :: u108 :: u109 :: u110 :: u111 :: u112 :: u113 :: u114 :: u115 :: u116 :: u117 :: u118 :: u119 :: u120 :: u121 :: u122 :: u123 :: u124 :: u125 :: u126 :: u127 :: u128 :: u129 :: u130 :: u131 :: u132 :: u133 :: u134 :: u135 :: u136 :: u137 :: u138 :: u139 :: u140 :: u141 :: u142 :: u143 :: u144 :: u145 :: u146 :: u147 :: u148 :: u149 :: u150 :: u151 :: u152 :: u153 :: u154 :: u155 :: u156 :: u157 :: u158 :: u159 :: u160 :: u161 :: u162 :: u163 :: u164 :: u165 :: u166 :: u167 :: u168 :: u169 :: u170 :: u171 :: u172 :: u173 :: u174 :: u175 :: u176 :: u177 :: u178 :: u179 :: u180 :: u181 :: u182 :: u183 :: u184 :: u185 :: u186 :: u187 :: u188 :: u189 :: u190 :: u191 :: u192 :: u193 :: u194 :: u195 :: u196 :: u197 :: u198 :: u199 :: u200 :: u201 :: u202 :: u203 :: u204 :: u205 :: u206 :: u207 :: u208 :: u209 :: u210 :: u211 :: u212 :: u213 :: u214 :: u215 :: u216 :: c217 :: []), []⟩ wr) Q0) ⟨List.toArray (.agg (ag key) :: .agg #[.int .u8 (f : Int), .slice aa an ac] :: .slice (some ⟨bb, oo, none⟩) ln lc :: .pointer (some ⟨q0, 0, none⟩) :: .pointer (some ⟨q1, 0, none⟩) :: c5 :: u6 :: c7 :: .pointer (some ⟨p1, 0, none⟩) :: .int .i64 0 :: .pointer (some ⟨p2, 0, none⟩) :: .int .i64 0 :: .pointer (some ⟨p3, 0, none⟩) :: .int .i64 0 :: .pointer (some ⟨p4, 0, none⟩) :: .int .i64 0 :: .slice sa ds.length sc :: .int .i64 (k : Int) :: u18 :: u19 :: u20 :: u21 :: u22 :: u23 :: u24 :: u25 :: u26 :: u27 :: u28 :: u29 :: u30 :: c31 :: c32 :: c33 :: c34 :: c35 :: c36 :: c37 :: c38 :: c39 :: c40 :: c41 :: c42 :: c43 :: c44 :: c45 :: c46 :: c47 :: c48 :: c49 :: c50 :: c51 :: c52 :: c53 :: c54 :: c55 :: c56 :: c57 :: c58 :: c59 :: c60 :: c61 :: c62 :: c63 :: c64 :: c65 :: c66 :: c67 :: c68 :: c69 :: c70 :: c71 :: c72 :: c73 :: c74 :: c75 :: c76 :: c77 :: c78 :: c79 :: c80 :: c81 :: u82 :: u83 :: u84 :: u85 :: u86 :: u87 :: u88 :: u89 :: u90 :: u91 :: u92 :: u93 :: u94 :: u95 :: u96 :: u97 :: u98 :: u99 :: u100 :: u101 :: u102 :: u103 :: u104 :: u105 :: u106 :: u107 :: u108 :: u109 :: u110 :: u111 :: u112 :: u113 :: u114 :: u115 :: u116 :: u117 :: u118 :: u119 :: u120 :: u121 :: u122 :: u123 :: u124 :: u125 :: u126 :: u127 :: u128 :: u129 :: u130 :: u131 :: u132 :: u133 :: u134 :: u135 :: u136 :: u137 :: u138 :: u139 :: u140 :: u141 :: u142 :: u143 :: u144 :: u145 :: u146 :: u147 :: u148 :: u149 :: u150 :: u151 :: u152 :: u153 :: u154 :: u155 :: u156 :: u157 :: u158 :: u159 :: u160 :: u161 :: u162 :: u163 :: u164 :: u165 :: u166 :: u167 :: u168 :: u169 :: u170 :: u171 :: u172 :: u173 :: u174 :: u175 :: u176 :: u177 :: u178 :: u179 :: u180 :: u181 :: u182 :: u183 :: u184 :: u185 :: u186 :: u187 :: u188 :: u189 :: u190 :: u191 :: u192 :: u193 :: u194 :: u195 :: u196 :: u197 :: u198 :: u199 :: u200 :: u201 :: u202 :: u203 :: u204 :: u205 :: u206 :: u207 :: u208 :: u209 :: u210 :: u211 :: u212 :: u213 :: u214 :: u215 :: u216 :: c217 :: []), []⟩ wr := by
  have i0 : ((pc : Int) == 0) = false := by rw [beq_eq_false_iff_ne]; omega
  have i1 : ((pc : Int) == 1) = false := by rw [beq_eq_false_iff_ne]; omega
  have i2 : ((pc : Int) == 2) = false := by rw [beq_eq_false_iff_ne]; omega
  have i3 : ((pc : Int) == 3) = false := by rw [beq_eq_false_iff_ne]; omega
  clear h0 h1 h2 h3
  conv => arg 2; whnf
  have B := HP.out.bel
  rw [← B.cell (p := ⟨bb, oo + k * 4, none⟩) hbw] at c0
  rw [← B.cell (p := ⟨bb, oo + k * 4 + 1, none⟩) hbw] at c1
  rw [← B.cell (p := ⟨bb, oo + k * 4 + 2, none⟩) hbw] at c2
  rw [← B.cell (p := ⟨bb, oo + k * 4 + 3, none⟩) hbw] at c3
  obtain ⟨wa, hwa⟩ : ∃ wa, wr.alloc (.cells #[.int .u8 (pc : Int), .int .u16 (pa : Int), .int .u16 (pb : Int), .slice va bn vc] 61) = wa := ⟨_, rfl⟩
  have ab : Below wr.heap.size wr wa := by rw [← hwa]; exact (Below.refl _ _).alloc (Nat.le_refl _) _
  have HPa := Box'.mk (HP.out.below ab)
  have ra : Row wa wr.heap.size 61 #[.int .u8 (pc : Int), .int .u16 (pa : Int), .int .u16 (pb : Int), .slice va bn vc] := by rw [← hwa]; exact Row.new _ _ _
  have Ba := HPa.out.bel
  have HWA := Box'.mk hwa
  have RA := Box'.mk ra
  have x0 : wa.cell? ⟨wr.heap.size, 0, none⟩ = some (.int .u8 (pc : Int)) := ra.cell 0
  have x1 : wa.cell? ⟨wr.heap.size, 1, none⟩ = some (.int .u16 (pa : Int)) := ra.cell 1
  have x2 : wa.cell? ⟨wr.heap.size, 2, none⟩ = some (.int .u16 (pb : Int)) := ra.cell 2
  have x3 : wa.cell? ⟨wr.heap.size, 3, none⟩ = some (.slice va bn vc) := ra.cell 3
  clear hwa ra ab
  go_upto_region 15 with (fail)
  rw [HWA.out]
  clear HWA c0 c1 c2 c3 B HP
  go_wp2_with fail
  exact ⟨plDone hlt2 (Box'.out (⟨HPa.out.up⟩)), plLess hlt2⟩
end Go.Proofs.YthcokaffbgbanaaDoor
