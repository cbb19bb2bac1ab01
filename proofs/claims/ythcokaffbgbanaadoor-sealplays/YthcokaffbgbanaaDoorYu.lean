/- What stands between two plays, and what a loop over plays keeps. -/
import Derived.Test.YthcokaffbgbanaaDoorYp
import Derived.Test.YthcokaffbgbanaaDoorYr
import Derived.Test.YthcokaffbgbanaaDoorYm
import Derived.Test.YthcokaffbgbanaaDoorYl
import Derived.Test.YthcokaffbgbanaaDoorXn
import Derived.Test.YthcokaffbgbanaaDoorXo
import Derived.Test.YthcokaffbgbanaaDoorXm
import Derived.Deep.QuietTactic
import Derived.BigQuiet
namespace Go.Proofs.YthcokaffbgbanaaDoor
open Go.RowKit Go.BigFrame
set_option linter.unusedVariables false

/-- What stands between two plays. -/
structure PS (key : List UInt8) (f : Nat) (w : World) (p1 p2 p3 p4 k : Nat) (wr : World) (u : Value) (vs : List Value) (ds : List (List UInt8)) (n m t o b : Nat) : Prop where
  sr : SR w.heap.size wr u vs ds
  r1 : Row wr p1 92 (slO key f n)
  r2 : Row wr p2 72 (slO key f n)
  r3 : Row wr p3 94 (opO key f m t o b)
  r4 : Row wr p4 69 (opO key f m t o b)
  hd : ds.length ≤ k
  hn : n ≤ 4611686018427387904
  hc : t + o + b ≤ k
  hi : t = 0 → m = 0
  hl : ∀ j, j < ds.length → (ds.getD j []).length ≤ 65028
  g1 : w.heap.size ≤ p1
  g2 : w.heap.size ≤ p2
  g3 : w.heap.size ≤ p3
  g4 : w.heap.size ≤ p4
  bel : Below w.heap.size w wr
variable {key : List UInt8} {f : Nat} {w : World} {p1 p2 p3 p4 k : Nat} {wr : World} {u : Value} {vs : List Value} {ds : List (List UInt8)} {n m t o b : Nat}
theorem PS.below (h : PS key f w p1 p2 p3 p4 k wr u vs ds n m t o b) {w' : World} (hb : Below wr.heap.size wr w') : PS key f w p1 p2 p3 p4 k w' u vs ds n m t o b :=
  ⟨h.sr.below hb, h.r1.below hb h.r1.lt, h.r2.below hb h.r2.lt, h.r3.below hb h.r3.lt, h.r4.below hb h.r4.lt, h.hd, h.hn, h.hc, h.hi, h.hl, h.g1, h.g2, h.g3, h.g4, h.bel.trans (hb.mono h.bel.size)⟩
theorem PS.up (h : PS key f w p1 p2 p3 p4 k wr u vs ds n m t o b) : PS key f w p1 p2 p3 p4 (k + 1) wr u vs ds n m t o b :=
  ⟨h.sr, h.r1, h.r2, h.r3, h.r4, Nat.le_succ_of_le h.hd, h.hn, Nat.le_succ_of_le h.hc, h.hi, h.hl, h.g1, h.g2, h.g3, h.g4, h.bel⟩
theorem nxN_le {n m : Nat} (h : n ≤ 4611686018427387904) : Gf.nxN n m ≤ 4611686018427387904 := by
  unfold Gf.nxN
  split
  · rename_i h0
    unfold Gf.nxE at h0
    split at h0
    · omega
    · split at h0
      · omega
      · omega
  · exact h
theorem PS.next (h : PS key f w p1 p2 p3 p4 k wr u vs ds n m t o b) {w3 w4 : World} {n' : Nat} (hn' : n' ≤ 4611686018427387904) (t3 : Bt p1 wr w3) (q3 : Row w3 p1 92 (slO key f n')) (t4 : Bt p2 w3 w4) (q4 : Row w4 p2 72 (slO key f n')) : PS key f w p1 p2 p3 p4 k w4 u vs ds n' m t o b := by
  have x2 := t3.row h.r2 (row_ne h.r2 h.r1 (by decide))
  have x3 := t3.row h.r3 (row_ne h.r3 h.r1 (by decide))
  have x4 := t3.row h.r4 (row_ne h.r4 h.r1 (by decide))
  have b3 := t3.below h.g1 h.bel.size
  have b4 := t4.below h.g2 (Nat.le_trans h.bel.size t3.size)
  exact ⟨(h.sr.bt t3 h.r1 (by decide) (by decide)).bt t4 x2 (by decide) (by decide), t4.row q3 (row_ne q3 x2 (by decide)), q4, t4.row x3 (row_ne x3 x2 (by decide)), t4.row x4 (row_ne x4 x2 (by decide)), h.hd, hn', h.hc, h.hi, h.hl, h.g1, h.g2, h.g3, h.g4, (h.bel.trans b3).trans b4⟩
theorem tkO_is (key : List UInt8) (f m t o b : Nat) (l : List UInt8) (hi : t = 0 → m = 0) : ∃ m' t' o' b', tkO key f m t o b l = opO key f m' t' o' b' ∧ t' + o' + b' = t + o + b + 1 ∧ (t' = 0 → m' = 0) := by
  unfold tkO
  split
  · split
    · exact ⟨m, t, o + 1, b, rfl, by omega, hi⟩
    · exact ⟨Gf.dgQ key f l + 1, t + 1, o, b, rfl, by omega, fun h => by omega⟩
  · exact ⟨m, t, o, b + 1, rfl, by omega, hi⟩
theorem PS.take (h : PS key f w p1 p2 p3 p4 k wr u vs ds n m t o b) {w3 w4 : World} {l : List UInt8} (t3 : Bt p3 wr w3) (q3 : Row w3 p3 94 (tkO key f m t o b l)) (t4 : Bt p4 w3 w4) (q4 : Row w4 p4 69 (tkO key f m t o b l)) : ∃ m' t' o' b', PS key f w p1 p2 p3 p4 (k + 1) w4 u vs ds n m' t' o' b' := by
  obtain ⟨m', t', o', b', e, hs, hi'⟩ := tkO_is key f m t o b l h.hi
  rw [e] at q3 q4
  have x1 := t3.row h.r1 (row_ne h.r1 h.r3 (by decide))
  have x2 := t3.row h.r2 (row_ne h.r2 h.r3 (by decide))
  have x4 := t3.row h.r4 (row_ne h.r4 h.r3 (by decide))
  have b3 := t3.below h.g3 h.bel.size
  have b4 := t4.below h.g4 (Nat.le_trans h.bel.size t3.size)
  have := h.hc
  exact ⟨m', t', o', b', (h.sr.bt t3 h.r3 (by decide) (by decide)).bt t4 x4 (by decide) (by decide), t4.row x1 (row_ne x1 x4 (by decide)), t4.row x2 (row_ne x2 x4 (by decide)), t4.row q3 (row_ne q3 x4 (by decide)), q4, Nat.le_succ_of_le h.hd, h.hn, by omega, hi', h.hl, h.g1, h.g2, h.g3, h.g4, (h.bel.trans b3).trans b4⟩
/-- A play, as it lies in memory. -/
structure Ply where
  c : Nat
  a : Nat
  b : Nat
  l : List UInt8
def Plys (N : Nat) (w : World) (la : Option Addr) (ls : List Ply) : Prop :=
  ∀ k, k < ls.length → ∃ bb o vk, la = some ⟨bb, o, none⟩ ∧ bb < N ∧ w.cell? ⟨bb, o + k * 4, none⟩ = some (.int .u8 ((ls.getD k ⟨0, 0, 0, []⟩).c : Int)) ∧ w.cell? ⟨bb, o + k * 4 + 1, none⟩ = some (.int .u16 ((ls.getD k ⟨0, 0, 0, []⟩).a : Int)) ∧ w.cell? ⟨bb, o + k * 4 + 2, none⟩ = some (.int .u16 ((ls.getD k ⟨0, 0, 0, []⟩).b : Int)) ∧ w.cell? ⟨bb, o + k * 4 + 3, none⟩ = some vk ∧ InE N w vk (ls.getD k ⟨0, 0, 0, []⟩).l ∧ (ls.getD k ⟨0, 0, 0, []⟩).l.length ≤ maxLen ∧ (ls.getD k ⟨0, 0, 0, []⟩).c < 256 ∧ (ls.getD k ⟨0, 0, 0, []⟩).a < 65536 ∧ (ls.getD k ⟨0, 0, 0, []⟩).b < 65536
def nx0 (n : Nat) : Nat := if 3 < n then 4611686018427387902 else n
theorem nx0_le (n : Nat) : nx0 n ≤ 4611686018427387904 := by unfold nx0; split <;> omega
def firstLoop : Code → Option Code
  | .loop c => some c
  | .seq a b => match firstLoop a with
    | some c => some c
    | none => firstLoop b
  | .block _ c => firstLoop c
  | .scope c => firstLoop c
  | .cond _ a b => match firstLoop a with
    | some c => some c
    | none => firstLoop b
  | _ => none
def plMu (ln : Nat) (a : Act) (w : World) : Nat := ln - (intOf (a.tmps.getD 17 undef)).toNat
set_option maxRecDepth 1000000 in
def plWI (key : List UInt8) (f : Nat) (w : World) (p1 p2 p3 p4 q0 q1 : Nat) (aa : Option Addr) (an ac : Nat) (la : Option Addr) (ln lc : Nat) (c5 c7 c31 c32 c33 c34 c35 c36 c37 c38 c39 c40 c41 c42 c43 c44 c45 c46 c47 c48 c49 c50 c51 c52 c53 c54 c55 c56 c57 c58 c59 c60 c61 c62 c63 c64 c65 c66 c67 c68 c69 c70 c71 c72 c73 c74 c75 c76 c77 c78 c79 c80 c81 c217 : Value) (a : Act) (wr : World) : Prop :=
  ∃ (u6 u18 u19 u20 u21 u22 u23 u24 u25 u26 u27 u28 u29 u30 u82 u83 u84 u85 u86 u87 u88 u89 u90 u91 u92 u93 u94 u95 u96 u97 u98 u99 u100 u101 u102 u103 u104 u105 u106 u107 u108 u109 u110 u111 u112 u113 u114 u115 u116 u117 u118 u119 u120 u121 u122 u123 u124 u125 u126 u127 u128 u129 u130 u131 u132 u133 u134 u135 u136 u137 u138 u139 u140 u141 u142 u143 u144 u145 u146 u147 u148 u149 u150 u151 u152 u153 u154 u155 u156 u157 u158 u159 u160 u161 u162 u163 u164 u165 u166 u167 u168 u169 u170 u171 u172 u173 u174 u175 u176 u177 u178 u179 u180 u181 u182 u183 u184 u185 u186 u187 u188 u189 u190 u191 u192 u193 u194 u195 u196 u197 u198 u199 u200 u201 u202 u203 u204 u205 u206 u207 u208 u209 u210 u211 u212 u213 u214 u215 u216 : Value) (s16 : Value) (k : Nat) (vs : List Value) (ds : List (List UInt8)) (n m t o b : Nat), k ≤ ln ∧ Box' (PS key f w p1 p2 p3 p4 k wr s16 vs ds n m t o b) ∧ a = ⟨List.toArray (.agg (ag key) :: .agg #[.int .u8 (f : Int), .slice aa an ac] :: .slice la ln lc :: .pointer (some ⟨q0, 0, none⟩) :: .pointer (some ⟨q1, 0, none⟩) :: c5 :: u6 :: c7 :: .pointer (some ⟨p1, 0, none⟩) :: .int .i64 0 :: .pointer (some ⟨p2, 0, none⟩) :: .int .i64 0 :: .pointer (some ⟨p3, 0, none⟩) :: .int .i64 0 :: .pointer (some ⟨p4, 0, none⟩) :: .int .i64 0 :: s16 :: .int .i64 (k : Int) :: u18 :: u19 :: u20 :: u21 :: u22 :: u23 :: u24 :: u25 :: u26 :: u27 :: u28 :: u29 :: u30 :: c31 :: c32 :: c33 :: c34 :: c35 :: c36 :: c37 :: c38 :: c39 :: c40 :: c41 :: c42 :: c43 :: c44 :: c45 :: c46 :: c47 :: c48 :: c49 :: c50 :: c51 :: c52 :: c53 :: c54 :: c55 :: c56 :: c57 :: c58 :: c59 :: c60 :: c61 :: c62 :: c63 :: c64 :: c65 :: c66 :: c67 :: c68 :: c69 :: c70 :: c71 :: c72 :: c73 :: c74 :: c75 :: c76 :: c77 :: c78 :: c79 :: c80 :: c81 :: u82 :: u83 :: u84 :: u85 :: u86 :: u87 :: u88 :: u89 :: u90 :: u91 :: u92 :: u93 :: u94 :: u95 :: u96 :: u97 :: u98 :: u99 :: u100 :: u101 :: u102 :: u103 :: u104 :: u105 :: u106 :: u107 :: u108 :: u109 :: u110 :: u111 :: u112 :: u113 :: u114 :: u115 :: u116 :: u117 :: u118 :: u119 :: u120 :: u121 :: u122 :: u123 :: u124 :: u125 :: u126 :: u127 :: u128 :: u129 :: u130 :: u131 :: u132 :: u133 :: u134 :: u135 :: u136 :: u137 :: u138 :: u139 :: u140 :: u141 :: u142 :: u143 :: u144 :: u145 :: u146 :: u147 :: u148 :: u149 :: u150 :: u151 :: u152 :: u153 :: u154 :: u155 :: u156 :: u157 :: u158 :: u159 :: u160 :: u161 :: u162 :: u163 :: u164 :: u165 :: u166 :: u167 :: u168 :: u169 :: u170 :: u171 :: u172 :: u173 :: u174 :: u175 :: u176 :: u177 :: u178 :: u179 :: u180 :: u181 :: u182 :: u183 :: u184 :: u185 :: u186 :: u187 :: u188 :: u189 :: u190 :: u191 :: u192 :: u193 :: u194 :: u195 :: u196 :: u197 :: u198 :: u199 :: u200 :: u201 :: u202 :: u203 :: u204 :: u205 :: u206 :: u207 :: u208 :: u209 :: u210 :: u211 :: u212 :: u213 :: u214 :: u215 :: u216 :: c217 :: []), []⟩
set_option maxRecDepth 1000000 in
theorem plDone {key : List UInt8} {f : Nat} {w : World} {p1 p2 p3 p4 q0 q1 : Nat} {aa : Option Addr} {an ac : Nat} {la : Option Addr} {ln lc : Nat} {c5 c7 c31 c32 c33 c34 c35 c36 c37 c38 c39 c40 c41 c42 c43 c44 c45 c46 c47 c48 c49 c50 c51 c52 c53 c54 c55 c56 c57 c58 c59 c60 c61 c62 c63 c64 c65 c66 c67 c68 c69 c70 c71 c72 c73 c74 c75 c76 c77 c78 c79 c80 c81 c217 : Value} {u6 u18 u19 u20 u21 u22 u23 u24 u25 u26 u27 u28 u29 u30 u82 u83 u84 u85 u86 u87 u88 u89 u90 u91 u92 u93 u94 u95 u96 u97 u98 u99 u100 u101 u102 u103 u104 u105 u106 u107 u108 u109 u110 u111 u112 u113 u114 u115 u116 u117 u118 u119 u120 u121 u122 u123 u124 u125 u126 u127 u128 u129 u130 u131 u132 u133 u134 u135 u136 u137 u138 u139 u140 u141 u142 u143 u144 u145 u146 u147 u148 u149 u150 u151 u152 u153 u154 u155 u156 u157 u158 u159 u160 u161 u162 u163 u164 u165 u166 u167 u168 u169 u170 u171 u172 u173 u174 u175 u176 u177 u178 u179 u180 u181 u182 u183 u184 u185 u186 u187 u188 u189 u190 u191 u192 u193 u194 u195 u196 u197 u198 u199 u200 u201 u202 u203 u204 u205 u206 u207 u208 u209 u210 u211 u212 u213 u214 u215 u216 : Value} {s16 : Value} {k : Nat} {vs : List Value} {ds : List (List UInt8)} {n m t o b : Nat} {wr : World} (hk : k + 1 ≤ ln) (h : PS key f w p1 p2 p3 p4 (k + 1) wr s16 vs ds n m t o b) :
    plWI key f w p1 p2 p3 p4 q0 q1 aa an ac la ln lc c5 c7 c31 c32 c33 c34 c35 c36 c37 c38 c39 c40 c41 c42 c43 c44 c45 c46 c47 c48 c49 c50 c51 c52 c53 c54 c55 c56 c57 c58 c59 c60 c61 c62 c63 c64 c65 c66 c67 c68 c69 c70 c71 c72 c73 c74 c75 c76 c77 c78 c79 c80 c81 c217 ⟨List.toArray (.agg (ag key) :: .agg #[.int .u8 (f : Int), .slice aa an ac] :: .slice la ln lc :: .pointer (some ⟨q0, 0, none⟩) :: .pointer (some ⟨q1, 0, none⟩) :: c5 :: u6 :: c7 :: .pointer (some ⟨p1, 0, none⟩) :: .int .i64 0 :: .pointer (some ⟨p2, 0, none⟩) :: .int .i64 0 :: .pointer (some ⟨p3, 0, none⟩) :: .int .i64 0 :: .pointer (some ⟨p4, 0, none⟩) :: .int .i64 0 :: s16 :: .int .i64 ((k : Int) + 1) :: u18 :: u19 :: u20 :: u21 :: u22 :: u23 :: u24 :: u25 :: u26 :: u27 :: u28 :: u29 :: u30 :: c31 :: c32 :: c33 :: c34 :: c35 :: c36 :: c37 :: c38 :: c39 :: c40 :: c41 :: c42 :: c43 :: c44 :: c45 :: c46 :: c47 :: c48 :: c49 :: c50 :: c51 :: c52 :: c53 :: c54 :: c55 :: c56 :: c57 :: c58 :: c59 :: c60 :: c61 :: c62 :: c63 :: c64 :: c65 :: c66 :: c67 :: c68 :: c69 :: c70 :: c71 :: c72 :: c73 :: c74 :: c75 :: c76 :: c77 :: c78 :: c79 :: c80 :: c81 :: u82 :: u83 :: u84 :: u85 :: u86 :: u87 :: u88 :: u89 :: u90 :: u91 :: u92 :: u93 :: u94 :: u95 :: u96 :: u97 :: u98 :: u99 :: u100 :: u101 :: u102 :: u103 :: u104 :: u105 :: u106 :: u107 :: u108 :: u109 :: u110 :: u111 :: u112 :: u113 :: u114 :: u115 :: u116 :: u117 :: u118 :: u119 :: u120 :: u121 :: u122 :: u123 :: u124 :: u125 :: u126 :: u127 :: u128 :: u129 :: u130 :: u131 :: u132 :: u133 :: u134 :: u135 :: u136 :: u137 :: u138 :: u139 :: u140 :: u141 :: u142 :: u143 :: u144 :: u145 :: u146 :: u147 :: u148 :: u149 :: u150 :: u151 :: u152 :: u153 :: u154 :: u155 :: u156 :: u157 :: u158 :: u159 :: u160 :: u161 :: u162 :: u163 :: u164 :: u165 :: u166 :: u167 :: u168 :: u169 :: u170 :: u171 :: u172 :: u173 :: u174 :: u175 :: u176 :: u177 :: u178 :: u179 :: u180 :: u181 :: u182 :: u183 :: u184 :: u185 :: u186 :: u187 :: u188 :: u189 :: u190 :: u191 :: u192 :: u193 :: u194 :: u195 :: u196 :: u197 :: u198 :: u199 :: u200 :: u201 :: u202 :: u203 :: u204 :: u205 :: u206 :: u207 :: u208 :: u209 :: u210 :: u211 :: u212 :: u213 :: u214 :: u215 :: u216 :: c217 :: []), []⟩ wr :=
  ⟨u6, u18, u19, u20, u21, u22, u23, u24, u25, u26, u27, u28, u29, u30, u82, u83, u84, u85, u86, u87, u88, u89, u90, u91, u92, u93, u94, u95, u96, u97, u98, u99, u100, u101, u102, u103, u104, u105, u106, u107, u108, u109, u110, u111, u112, u113, u114, u115, u116, u117, u118, u119, u120, u121, u122, u123, u124, u125, u126, u127, u128, u129, u130, u131, u132, u133, u134, u135, u136, u137, u138, u139, u140, u141, u142, u143, u144, u145, u146, u147, u148, u149, u150, u151, u152, u153, u154, u155, u156, u157, u158, u159, u160, u161, u162, u163, u164, u165, u166, u167, u168, u169, u170, u171, u172, u173, u174, u175, u176, u177, u178, u179, u180, u181, u182, u183, u184, u185, u186, u187, u188, u189, u190, u191, u192, u193, u194, u195, u196, u197, u198, u199, u200, u201, u202, u203, u204, u205, u206, u207, u208, u209, u210, u211, u212, u213, u214, u215, u216, s16, k + 1, vs, ds, n, m, t, o, b, hk, ⟨h⟩, rfl⟩
theorem plLess {ln k : Nat} (h : k < ln) : ln - ((k : Int) + 1).toNat < ln - ((k : Int)).toNat := by omega
end Go.Proofs.YthcokaffbgbanaaDoor
