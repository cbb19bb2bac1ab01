/- The reference's Tick. -/
import Derived.Test.YtikkekdmahdgaaaRs
namespace Go.Proofs.Ytikkekdmahdgaaa
open Go.RowKit Go.BigFrame
set_option linter.unusedSimpArgs false
set_option linter.unusedVariables false
set_option maxRecDepth 100000
set_option maxHeartbeats 8000000

theorem tick_6e (timeout : Int) (w wx : World) (p p8 b11 g n c : Nat) (s : Sd) (F : Nat → Prop) (hF : F = fun k => k = p ∨ (Value.slice (some ⟨g, 0, none⟩) n c).ownBlock = some k) (now : UInt64) (fr ag he : Bool) (ea : agF s now timeout = ag) (eh : heF s now = he) (H0 : SnR w F p s) (hp : p < w.heap.size) (hr : Row w p 34 (sdA s (.slice (some ⟨g, 0, none⟩) n c))) (ho : OwnR 0 w (.slice (some ⟨g, 0, none⟩) n c) s.l) (hb : Below w.heap.size w wx) (hln : s.l.length = n) (h1 : 0 < s.l.length) (h2 : s.l.length ≤ 32) (hfr : fr = true → s.l.length < 32) (hp8 : w.heap.size ≤ p8) (hz : Row wx p8 41 (insA Ins.none (.slice none 0 0))) (h11 : w.heap.size ≤ b11) (hl : Row wx b11 50 (rC (lastR s.l)).toArray) (ht : ∀ y, y ∈ s.l → y.t.length ≤ 4398046511104) (htn : s.now.length ≤ 4398046511104) (u2 u3 u4 u5 u6 u7 u15 u16 u17 u18 u19 u20 u21 u22 u23 u24 u25 u26 u27 u28 u29 u30 u31 u32 u33 u34 u35 u36 u37 u38 u39 u40 u41 u42 u43 u44 u45 u46 u47 u48 u49 u50 u51 u52 u53 u54 u55 u56 u57 u58 u59 u60 u61 u62 u63 u64 u65 u66 u67 u68 u69 u70 u71 u72 u73 u74 u75 u76 u77 u78 u79 u80 u81 u82 u83 u84 u85 u86 u87 u88 u89 u90 u91 u92 u93 u94 u95 u96 u97 u98 u99 u100 u101 u102 u103 u104 u105 u106 u107 u108 u109 u110 u111 u112 u113 u114 u115 u116 u117 u118 u119 u120 u121 u122 u123 u124 u125 u126 u127 u128 u129 u130 u131 u132 u133 u134 u135 u136 u137 u138 u139 u140 u141 u142 u143 u144 u145 u146 u147 u148 u149 u150 u151 u152 u153 u154 u155 u156 u157 u158 u159 u160 u161 u162 u163 u164 u165 u166 u167 u168 u169 u170 u171 u172 u173 u174 u175 u176 u177 u178 u179 u180 u181 u182 u183 u184 u185 u186 u187 u188 u189 u190 u191 u192 u193 u194 u195 u196 u197 u198 u199 u200 u201 : Value) :
    Code.wp Try.prog (seqR (seqR (seqR (seqR (seqR (seqR (Try.f14.body.getD .skip))))))) (bodyPost Try.prog Try.f14 fun e w' => (∃ F' vb, e = .returned (.tuple #[.agg (insA (tk6 s now fr (agF s now timeout) (heF s now)).2.1 vb), .bool (tk6 s now fr (agF s now timeout) (heF s now)).2.2.1, .int .i64 (tk6 s now fr (agF s now timeout) (heF s now)).2.2.2]) ∧ SnR w' F' p (tk6 s now fr (agF s now timeout) (heF s now)).1 ∧ InX (fun b => w.heap.size ≤ b ∧ b < w'.heap.size ∧ ¬ F' b) w' vb (tk6 s now fr (agF s now timeout) (heF s now)).2.1.dif ∧ Tch F w w' ∧ ∀ k, F' k → F k ∨ w.heap.size ≤ k)) ⟨List.toArray (.pointer (some ⟨p, 0, none⟩) :: .int .u64 (now.toNat : Int) :: u2 :: u3 :: u4 :: u5 :: u6 :: u7 :: .pointer (some ⟨p8, 0, none⟩) :: .bool false :: .int .i64 0 :: .pointer (some ⟨b11, 0, none⟩) :: .bool fr :: .bool ag :: .bool he :: u15 :: u16 :: u17 :: u18 :: u19 :: u20 :: u21 :: u22 :: u23 :: u24 :: u25 :: u26 :: u27 :: u28 :: u29 :: u30 :: u31 :: u32 :: u33 :: u34 :: u35 :: u36 :: u37 :: u38 :: u39 :: u40 :: u41 :: u42 :: u43 :: u44 :: u45 :: u46 :: u47 :: u48 :: u49 :: u50 :: u51 :: u52 :: u53 :: u54 :: u55 :: u56 :: u57 :: u58 :: u59 :: u60 :: u61 :: u62 :: u63 :: u64 :: u65 :: u66 :: u67 :: u68 :: u69 :: u70 :: u71 :: u72 :: u73 :: u74 :: u75 :: u76 :: u77 :: u78 :: u79 :: u80 :: u81 :: u82 :: u83 :: u84 :: u85 :: u86 :: u87 :: u88 :: u89 :: u90 :: u91 :: u92 :: u93 :: u94 :: u95 :: u96 :: u97 :: u98 :: u99 :: u100 :: u101 :: u102 :: u103 :: u104 :: u105 :: u106 :: u107 :: u108 :: u109 :: u110 :: u111 :: u112 :: u113 :: u114 :: u115 :: u116 :: u117 :: u118 :: u119 :: u120 :: u121 :: u122 :: u123 :: u124 :: u125 :: u126 :: u127 :: u128 :: u129 :: u130 :: u131 :: u132 :: u133 :: u134 :: u135 :: u136 :: u137 :: u138 :: u139 :: u140 :: u141 :: u142 :: u143 :: u144 :: u145 :: u146 :: u147 :: u148 :: u149 :: u150 :: u151 :: u152 :: u153 :: u154 :: u155 :: u156 :: u157 :: u158 :: u159 :: u160 :: u161 :: u162 :: u163 :: u164 :: u165 :: u166 :: u167 :: u168 :: u169 :: u170 :: u171 :: u172 :: u173 :: u174 :: u175 :: u176 :: u177 :: u178 :: u179 :: u180 :: u181 :: u182 :: u183 :: u184 :: u185 :: u186 :: u187 :: u188 :: u189 :: u190 :: u191 :: u192 :: u193 :: u194 :: u195 :: u196 :: u197 :: u198 :: u199 :: u200 :: u201 :: []), []⟩ wx := by
  subst ea eh
  exact tick_6 w wx p p8 b11 g n c s F hF now fr _ _ H0 hp hr ho hb hln h1 h2 hfr hp8 hz h11 hl ht htn _ _ _ _ _ _ _ _ _ _ _ _ _ _ _ _ _ _ _ _ _ _ _ _ _ _ _ _ _ _ _ _ _ _ _ _ _ _ _ _ _ _ _ _ _ _ _ _ _ _ _ _ _ _ _ _ _ _ _ _ _ _ _ _ _ _ _ _ _ _ _ _ _ _ _ _ _ _ _ _ _ _ _ _ _ _ _ _ _ _ _ _ _ _ _ _ _ _ _ _ _ _ _ _ _ _ _ _ _ _ _ _ _ _ _ _ _ _ _ _ _ _ _ _ _ _ _ _ _ _ _ _ _ _ _ _ _ _ _ _ _ _ _ _ _ _ _ _ _ _ _ _ _ _ _ _ _ _ _ _ _ _ _ _ _ _ _ _ _ _ _ _ _ _ _ _ _ _ _ _ _ _ _ _ _ _ _ _ _ _ _ _ _
theorem tick_4 (timeout : Int) (t0 : 0 ≤ timeout) (t1 : timeout < 9223372036854775808) (w wx : World) (p p8 b11 g n c : Nat) (s : Sd) (F : Nat → Prop) (hF : F = fun k => k = p ∨ (Value.slice (some ⟨g, 0, none⟩) n c).ownBlock = some k) (now : UInt64) (fr : Bool) (H0 : SnR w F p s) (hp : p < w.heap.size) (hr : Row w p 34 (sdA s (.slice (some ⟨g, 0, none⟩) n c))) (ho : OwnR 0 w (.slice (some ⟨g, 0, none⟩) n c) s.l) (hb : Below w.heap.size w wx) (hln : s.l.length = n) (h1 : 0 < s.l.length) (h2 : s.l.length ≤ 32) (hfr : fr = true → s.l.length < 32) (hp8 : w.heap.size ≤ p8) (hz : Row wx p8 41 (insA Ins.none (.slice none 0 0))) (h11 : w.heap.size ≤ b11) (hl : Row wx b11 50 (rC (lastR s.l)).toArray) (ht : ∀ y, y ∈ s.l → y.t.length ≤ 4398046511104) (htn : s.now.length ≤ 4398046511104) (u2 u4 u5 u6 u7 u13 u14 u15 u16 u17 u18 u19 u20 u21 u22 u23 u24 u25 u26 u27 u28 u29 u30 u31 u32 u33 u34 u35 u36 u37 u38 u39 u40 u41 u42 u43 u44 u45 u46 u47 u48 u49 u50 u51 u52 u53 u54 u55 u56 u57 u58 u59 u60 u61 u62 u63 u64 u65 u66 u67 u68 u69 u70 u71 u72 u73 u74 u75 u76 u77 u78 u79 u80 u81 u82 u83 u84 u85 u86 u87 u88 u89 u90 u91 u92 u93 u94 u95 u96 u97 u98 u99 u100 u101 u102 u103 u104 u105 u106 u107 u108 u109 u110 u111 u112 u113 u114 u115 u116 u117 u118 u119 u120 u121 u122 u123 u124 u125 u126 u127 u128 u129 u130 u131 u132 u133 u134 u135 u136 u137 u138 u139 u140 u141 u142 u143 u144 u145 u146 u147 u148 u149 u150 u151 u152 u153 u154 u155 u156 u157 u158 u159 u160 u161 u162 u163 u164 u165 u166 u167 u168 u169 u170 u171 u172 u173 u174 u175 u176 u177 u178 u179 u180 u181 u182 u183 u184 u185 u186 u187 u188 u189 u190 u191 u192 u193 u194 u195 u196 u197 u198 u199 u200 u201 : Value) :
    Code.wp Try.prog (seqR (seqR (seqR (seqR (Try.f14.body.getD .skip))))) (bodyPost Try.prog Try.f14 fun e w' => (∃ F' vb, e = .returned (.tuple #[.agg (insA (tk6 s now fr (agF s now timeout) (heF s now)).2.1 vb), .bool (tk6 s now fr (agF s now timeout) (heF s now)).2.2.1, .int .i64 (tk6 s now fr (agF s now timeout) (heF s now)).2.2.2]) ∧ SnR w' F' p (tk6 s now fr (agF s now timeout) (heF s now)).1 ∧ InX (fun b => w.heap.size ≤ b ∧ b < w'.heap.size ∧ ¬ F' b) w' vb (tk6 s now fr (agF s now timeout) (heF s now)).2.1.dif ∧ Tch F w w' ∧ ∀ k, F' k → F k ∨ w.heap.size ≤ k)) ⟨List.toArray (.pointer (some ⟨p, 0, none⟩) :: .int .u64 (now.toNat : Int) :: u2 :: .int .i64 timeout :: u4 :: u5 :: u6 :: u7 :: .pointer (some ⟨p8, 0, none⟩) :: .bool false :: .int .i64 0 :: .pointer (some ⟨b11, 0, none⟩) :: .bool fr :: u13 :: u14 :: u15 :: u16 :: u17 :: u18 :: u19 :: u20 :: u21 :: u22 :: u23 :: u24 :: u25 :: u26 :: u27 :: u28 :: u29 :: u30 :: u31 :: u32 :: u33 :: u34 :: u35 :: u36 :: u37 :: u38 :: u39 :: u40 :: u41 :: u42 :: u43 :: u44 :: u45 :: u46 :: u47 :: u48 :: u49 :: u50 :: u51 :: u52 :: u53 :: u54 :: u55 :: u56 :: u57 :: u58 :: u59 :: u60 :: u61 :: u62 :: u63 :: u64 :: u65 :: u66 :: u67 :: u68 :: u69 :: u70 :: u71 :: u72 :: u73 :: u74 :: u75 :: u76 :: u77 :: u78 :: u79 :: u80 :: u81 :: u82 :: u83 :: u84 :: u85 :: u86 :: u87 :: u88 :: u89 :: u90 :: u91 :: u92 :: u93 :: u94 :: u95 :: u96 :: u97 :: u98 :: u99 :: u100 :: u101 :: u102 :: u103 :: u104 :: u105 :: u106 :: u107 :: u108 :: u109 :: u110 :: u111 :: u112 :: u113 :: u114 :: u115 :: u116 :: u117 :: u118 :: u119 :: u120 :: u121 :: u122 :: u123 :: u124 :: u125 :: u126 :: u127 :: u128 :: u129 :: u130 :: u131 :: u132 :: u133 :: u134 :: u135 :: u136 :: u137 :: u138 :: u139 :: u140 :: u141 :: u142 :: u143 :: u144 :: u145 :: u146 :: u147 :: u148 :: u149 :: u150 :: u151 :: u152 :: u153 :: u154 :: u155 :: u156 :: u157 :: u158 :: u159 :: u160 :: u161 :: u162 :: u163 :: u164 :: u165 :: u166 :: u167 :: u168 :: u169 :: u170 :: u171 :: u172 :: u173 :: u174 :: u175 :: u176 :: u177 :: u178 :: u179 :: u180 :: u181 :: u182 :: u183 :: u184 :: u185 :: u186 :: u187 :: u188 :: u189 :: u190 :: u191 :: u192 :: u193 :: u194 :: u195 :: u196 :: u197 :: u198 :: u199 :: u200 :: u201 :: []), []⟩ wx := by
  conv => arg 2; whnf
  have T6 := Box'.mk (fun ag he ea eh => tick_6e timeout w wx p p8 b11 g n c s F hF now fr ag he ea eh H0 hp hr ho hb hln h1 h2 hfr hp8 hz h11 hl ht htn)
  have r7 := hr.below hb hp
  have c1 : wx.cell? ⟨p, 1, none⟩ = some (.slice (some ⟨g, 0, none⟩) n c) := r7.cell 1
  have c2 : wx.cell? ⟨p, 2, none⟩ = some (.bool s.any) := r7.cell 2
  have c3 : wx.cell? ⟨p, 3, none⟩ = some (.int .u64 (s.tm.toNat : Int)) := r7.cell 3
  have l2 : wx.cell? ⟨b11, 2, none⟩ = some (.int .u64 ((lastR s.l).a.toNat : Int)) := hl.cell 2
  have P1 := past_any now (lastR s.l).a timeout t0 t1 wx
  have P2 := past_any now s.tm 3000 (by omega) (by omega) wx
  have EA : Box' (agF s now timeout = (decide (1 < n) && pastF now (lastR s.l).a timeout)) := ⟨by unfold agF; rw [hln]⟩
  have EH : Box' (heF s now = (!s.any || pastF now s.tm 3000)) := ⟨rfl⟩
  have hn32 : n ≤ 32 := by omega
  unfold uV at P1 P2
  generalize pastF now (lastR s.l).a timeout = A at *
  generalize pastF now s.tm 3000 = H at *
  generalize hany : s.any = any at c2 EH
  generalize htm : s.tm.toNat = tm at c3 P2
  generalize hla : (lastR s.l).a.toNat = la at l2 P1
  clear H0 hr ho hz hl ht htn r7 hany htm hla
  refine wp_seq_k fun K hK => ?_
  have HK := Box'.mk hK
  clear hK
  by_cases hn1 : 1 < n
  · go_wp2_with fail
    refine P1.mono ?_
    rintro e w2 ⟨rfl, hw⟩
    obtain rfl : wx = w2 := hw.symm
    have EA' : agF s now timeout = A := by rw [EA.out, decide_eq_true hn1]; rfl
    have EA' := Box'.mk EA'
    clear P1 hw EA
    go_wp2_with fail
    refine HK.out _ _ ?_
    refine wp_seq_k fun K2 hK2 => ?_
    have HK2 := Box'.mk hK2
    clear hK2
    cases any with
    | false =>
      have EH' : heF s now = true := by rw [EH.out]; rfl
      have EH' := Box'.mk EH'
      clear P2 EH
      go_wp2_with fail
      refine HK2.out _ _ ?_
      exact T6.out _ _ EA'.out EH'.out _ _ _ _ _ _ _ _ _ _ _ _ _ _ _ _ _ _ _ _ _ _ _ _ _ _ _ _ _ _ _ _ _ _ _ _ _ _ _ _ _ _ _ _ _ _ _ _ _ _ _ _ _ _ _ _ _ _ _ _ _ _ _ _ _ _ _ _ _ _ _ _ _ _ _ _ _ _ _ _ _ _ _ _ _ _ _ _ _ _ _ _ _ _ _ _ _ _ _ _ _ _ _ _ _ _ _ _ _ _ _ _ _ _ _ _ _ _ _ _ _ _ _ _ _ _ _ _ _ _ _ _ _ _ _ _ _ _ _ _ _ _ _ _ _ _ _ _ _ _ _ _ _ _ _ _ _ _ _ _ _ _ _ _ _ _ _ _ _ _ _ _ _ _ _ _ _ _ _ _ _ _ _ _ _ _ _ _ _ _ _ _ _
    | true =>
      have EH' : heF s now = H := by rw [EH.out]; simp
      have EH' := Box'.mk EH'
      clear EH
      go_wp2_with fail
      refine P2.mono ?_
      rintro e w2 ⟨rfl, hw⟩
      obtain rfl : wx = w2 := hw.symm
      clear P2 hw
      go_wp2_with fail
      refine HK2.out _ _ ?_
      exact T6.out _ _ EA'.out EH'.out _ _ _ _ _ _ _ _ _ _ _ _ _ _ _ _ _ _ _ _ _ _ _ _ _ _ _ _ _ _ _ _ _ _ _ _ _ _ _ _ _ _ _ _ _ _ _ _ _ _ _ _ _ _ _ _ _ _ _ _ _ _ _ _ _ _ _ _ _ _ _ _ _ _ _ _ _ _ _ _ _ _ _ _ _ _ _ _ _ _ _ _ _ _ _ _ _ _ _ _ _ _ _ _ _ _ _ _ _ _ _ _ _ _ _ _ _ _ _ _ _ _ _ _ _ _ _ _ _ _ _ _ _ _ _ _ _ _ _ _ _ _ _ _ _ _ _ _ _ _ _ _ _ _ _ _ _ _ _ _ _ _ _ _ _ _ _ _ _ _ _ _ _ _ _ _ _ _ _ _ _ _ _ _ _ _ _ _ _ _ _ _ _
  · have EA' : agF s now timeout = false := by rw [EA.out, decide_eq_false hn1]; rfl
    have EA' := Box'.mk EA'
    clear P1 EA
    go_wp2_with fail
    refine HK.out _ _ ?_
    refine wp_seq_k fun K2 hK2 => ?_
    have HK2 := Box'.mk hK2
    clear hK2
    cases any with
    | false =>
      have EH' : heF s now = true := by rw [EH.out]; rfl
      have EH' := Box'.mk EH'
      clear P2 EH
      go_wp2_with fail
      refine HK2.out _ _ ?_
      exact T6.out _ _ EA'.out EH'.out _ _ _ _ _ _ _ _ _ _ _ _ _ _ _ _ _ _ _ _ _ _ _ _ _ _ _ _ _ _ _ _ _ _ _ _ _ _ _ _ _ _ _ _ _ _ _ _ _ _ _ _ _ _ _ _ _ _ _ _ _ _ _ _ _ _ _ _ _ _ _ _ _ _ _ _ _ _ _ _ _ _ _ _ _ _ _ _ _ _ _ _ _ _ _ _ _ _ _ _ _ _ _ _ _ _ _ _ _ _ _ _ _ _ _ _ _ _ _ _ _ _ _ _ _ _ _ _ _ _ _ _ _ _ _ _ _ _ _ _ _ _ _ _ _ _ _ _ _ _ _ _ _ _ _ _ _ _ _ _ _ _ _ _ _ _ _ _ _ _ _ _ _ _ _ _ _ _ _ _ _ _ _ _ _ _ _ _ _ _ _ _ _
    | true =>
      have EH' : heF s now = H := by rw [EH.out]; simp
      have EH' := Box'.mk EH'
      clear EH
      go_wp2_with fail
      refine P2.mono ?_
      rintro e w2 ⟨rfl, hw⟩
      obtain rfl : wx = w2 := hw.symm
      clear P2 hw
      go_wp2_with fail
      refine HK2.out _ _ ?_
      exact T6.out _ _ EA'.out EH'.out _ _ _ _ _ _ _ _ _ _ _ _ _ _ _ _ _ _ _ _ _ _ _ _ _ _ _ _ _ _ _ _ _ _ _ _ _ _ _ _ _ _ _ _ _ _ _ _ _ _ _ _ _ _ _ _ _ _ _ _ _ _ _ _ _ _ _ _ _ _ _ _ _ _ _ _ _ _ _ _ _ _ _ _ _ _ _ _ _ _ _ _ _ _ _ _ _ _ _ _ _ _ _ _ _ _ _ _ _ _ _ _ _ _ _ _ _ _ _ _ _ _ _ _ _ _ _ _ _ _ _ _ _ _ _ _ _ _ _ _ _ _ _ _ _ _ _ _ _ _ _ _ _ _ _ _ _ _ _ _ _ _ _ _ _ _ _ _ _ _ _ _ _ _ _ _ _ _ _ _ _ _ _ _ _ _ _ _ _ _ _ _ _
theorem tick_4e (pace timeout : Int) (t0 : 0 ≤ timeout) (t1 : timeout < 9223372036854775808) (w wx : World) (p p8 b11 g n c : Nat) (s : Sd) (F : Nat → Prop) (hF : F = fun k => k = p ∨ (Value.slice (some ⟨g, 0, none⟩) n c).ownBlock = some k) (now : UInt64) (fr : Bool) (ef : frF s now pace = fr) (H0 : SnR w F p s) (hp : p < w.heap.size) (hr : Row w p 34 (sdA s (.slice (some ⟨g, 0, none⟩) n c))) (ho : OwnR 0 w (.slice (some ⟨g, 0, none⟩) n c) s.l) (hb : Below w.heap.size w wx) (hln : s.l.length = n) (h1 : 0 < s.l.length) (h2 : s.l.length ≤ 32) (hp8 : w.heap.size ≤ p8) (hz : Row wx p8 41 (insA Ins.none (.slice none 0 0))) (h11 : w.heap.size ≤ b11) (hl : Row wx b11 50 (rC (lastR s.l)).toArray) (ht : ∀ y, y ∈ s.l → y.t.length ≤ 4398046511104) (htn : s.now.length ≤ 4398046511104) (u2 u4 u5 u6 u7 u13 u14 u15 u16 u17 u18 u19 u20 u21 u22 u23 u24 u25 u26 u27 u28 u29 u30 u31 u32 u33 u34 u35 u36 u37 u38 u39 u40 u41 u42 u43 u44 u45 u46 u47 u48 u49 u50 u51 u52 u53 u54 u55 u56 u57 u58 u59 u60 u61 u62 u63 u64 u65 u66 u67 u68 u69 u70 u71 u72 u73 u74 u75 u76 u77 u78 u79 u80 u81 u82 u83 u84 u85 u86 u87 u88 u89 u90 u91 u92 u93 u94 u95 u96 u97 u98 u99 u100 u101 u102 u103 u104 u105 u106 u107 u108 u109 u110 u111 u112 u113 u114 u115 u116 u117 u118 u119 u120 u121 u122 u123 u124 u125 u126 u127 u128 u129 u130 u131 u132 u133 u134 u135 u136 u137 u138 u139 u140 u141 u142 u143 u144 u145 u146 u147 u148 u149 u150 u151 u152 u153 u154 u155 u156 u157 u158 u159 u160 u161 u162 u163 u164 u165 u166 u167 u168 u169 u170 u171 u172 u173 u174 u175 u176 u177 u178 u179 u180 u181 u182 u183 u184 u185 u186 u187 u188 u189 u190 u191 u192 u193 u194 u195 u196 u197 u198 u199 u200 u201 : Value) :
    Code.wp Try.prog (seqR (seqR (seqR (seqR (Try.f14.body.getD .skip))))) (bodyPost Try.prog Try.f14 fun e w' => (∃ F' vb, e = .returned (.tuple #[.agg (insA (tk6 s now (frF s now pace) (agF s now timeout) (heF s now)).2.1 vb), .bool (tk6 s now (frF s now pace) (agF s now timeout) (heF s now)).2.2.1, .int .i64 (tk6 s now (frF s now pace) (agF s now timeout) (heF s now)).2.2.2]) ∧ SnR w' F' p (tk6 s now (frF s now pace) (agF s now timeout) (heF s now)).1 ∧ InX (fun b => w.heap.size ≤ b ∧ b < w'.heap.size ∧ ¬ F' b) w' vb (tk6 s now (frF s now pace) (agF s now timeout) (heF s now)).2.1.dif ∧ Tch F w w' ∧ ∀ k, F' k → F k ∨ w.heap.size ≤ k)) ⟨List.toArray (.pointer (some ⟨p, 0, none⟩) :: .int .u64 (now.toNat : Int) :: u2 :: .int .i64 timeout :: u4 :: u5 :: u6 :: u7 :: .pointer (some ⟨p8, 0, none⟩) :: .bool false :: .int .i64 0 :: .pointer (some ⟨b11, 0, none⟩) :: .bool fr :: u13 :: u14 :: u15 :: u16 :: u17 :: u18 :: u19 :: u20 :: u21 :: u22 :: u23 :: u24 :: u25 :: u26 :: u27 :: u28 :: u29 :: u30 :: u31 :: u32 :: u33 :: u34 :: u35 :: u36 :: u37 :: u38 :: u39 :: u40 :: u41 :: u42 :: u43 :: u44 :: u45 :: u46 :: u47 :: u48 :: u49 :: u50 :: u51 :: u52 :: u53 :: u54 :: u55 :: u56 :: u57 :: u58 :: u59 :: u60 :: u61 :: u62 :: u63 :: u64 :: u65 :: u66 :: u67 :: u68 :: u69 :: u70 :: u71 :: u72 :: u73 :: u74 :: u75 :: u76 :: u77 :: u78 :: u79 :: u80 :: u81 :: u82 :: u83 :: u84 :: u85 :: u86 :: u87 :: u88 :: u89 :: u90 :: u91 :: u92 :: u93 :: u94 :: u95 :: u96 :: u97 :: u98 :: u99 :: u100 :: u101 :: u102 :: u103 :: u104 :: u105 :: u106 :: u107 :: u108 :: u109 :: u110 :: u111 :: u112 :: u113 :: u114 :: u115 :: u116 :: u117 :: u118 :: u119 :: u120 :: u121 :: u122 :: u123 :: u124 :: u125 :: u126 :: u127 :: u128 :: u129 :: u130 :: u131 :: u132 :: u133 :: u134 :: u135 :: u136 :: u137 :: u138 :: u139 :: u140 :: u141 :: u142 :: u143 :: u144 :: u145 :: u146 :: u147 :: u148 :: u149 :: u150 :: u151 :: u152 :: u153 :: u154 :: u155 :: u156 :: u157 :: u158 :: u159 :: u160 :: u161 :: u162 :: u163 :: u164 :: u165 :: u166 :: u167 :: u168 :: u169 :: u170 :: u171 :: u172 :: u173 :: u174 :: u175 :: u176 :: u177 :: u178 :: u179 :: u180 :: u181 :: u182 :: u183 :: u184 :: u185 :: u186 :: u187 :: u188 :: u189 :: u190 :: u191 :: u192 :: u193 :: u194 :: u195 :: u196 :: u197 :: u198 :: u199 :: u200 :: u201 :: []), []⟩ wx := by
  subst ef
  refine tick_4 timeout t0 t1 w wx p p8 b11 g n c s F hF now _ H0 hp hr ho hb hln h1 h2 (fun h => ?_) hp8 hz h11 hl ht htn _ _ _ _ _ _ _ _ _ _ _ _ _ _ _ _ _ _ _ _ _ _ _ _ _ _ _ _ _ _ _ _ _ _ _ _ _ _ _ _ _ _ _ _ _ _ _ _ _ _ _ _ _ _ _ _ _ _ _ _ _ _ _ _ _ _ _ _ _ _ _ _ _ _ _ _ _ _ _ _ _ _ _ _ _ _ _ _ _ _ _ _ _ _ _ _ _ _ _ _ _ _ _ _ _ _ _ _ _ _ _ _ _ _ _ _ _ _ _ _ _ _ _ _ _ _ _ _ _ _ _ _ _ _ _ _ _ _ _ _ _ _ _ _ _ _ _ _ _ _ _ _ _ _ _ _ _ _ _ _ _ _ _ _ _ _ _ _ _ _ _ _ _ _ _ _ _ _ _ _ _ _ _ _ _ _ _ _ _ _ _ _ _ _
  unfold frF at h
  simp only [Bool.and_eq_true, decide_eq_true_eq] at h
  exact h.1.2
theorem tick_3 (pace timeout : Int) (p0 : 0 ≤ pace) (p1 : pace < 9223372036854775808) (t0 : 0 ≤ timeout) (t1 : timeout < 9223372036854775808) (w wx : World) (p p8 b11 g n c : Nat) (s : Sd) (F : Nat → Prop) (hF : F = fun k => k = p ∨ (Value.slice (some ⟨g, 0, none⟩) n c).ownBlock = some k) (now : UInt64) (H0 : SnR w F p s) (hp : p < w.heap.size) (hr : Row w p 34 (sdA s (.slice (some ⟨g, 0, none⟩) n c))) (ho : OwnR 0 w (.slice (some ⟨g, 0, none⟩) n c) s.l) (hb : Below w.heap.size w wx) (hln : s.l.length = n) (h1 : 0 < s.l.length) (h2 : s.l.length ≤ 32) (hp8 : w.heap.size ≤ p8) (hz : Row wx p8 41 (insA Ins.none (.slice none 0 0))) (h11 : w.heap.size ≤ b11) (hl : Row wx b11 50 (rC (lastR s.l)).toArray) (ht : ∀ y, y ∈ s.l → y.t.length ≤ 4398046511104) (htn : s.now.length ≤ 4398046511104) (u4 u5 u6 u7 u12 u13 u14 u15 u16 u17 u18 u19 u20 u21 u22 u23 u24 u25 u26 u27 u28 u29 u30 u31 u32 u33 u34 u35 u36 u37 u38 u39 u40 u41 u42 u43 u44 u45 u46 u47 u48 u49 u50 u51 u52 u53 u54 u55 u56 u57 u58 u59 u60 u61 u62 u63 u64 u65 u66 u67 u68 u69 u70 u71 u72 u73 u74 u75 u76 u77 u78 u79 u80 u81 u82 u83 u84 u85 u86 u87 u88 u89 u90 u91 u92 u93 u94 u95 u96 u97 u98 u99 u100 u101 u102 u103 u104 u105 u106 u107 u108 u109 u110 u111 u112 u113 u114 u115 u116 u117 u118 u119 u120 u121 u122 u123 u124 u125 u126 u127 u128 u129 u130 u131 u132 u133 u134 u135 u136 u137 u138 u139 u140 u141 u142 u143 u144 u145 u146 u147 u148 u149 u150 u151 u152 u153 u154 u155 u156 u157 u158 u159 u160 u161 u162 u163 u164 u165 u166 u167 u168 u169 u170 u171 u172 u173 u174 u175 u176 u177 u178 u179 u180 u181 u182 u183 u184 u185 u186 u187 u188 u189 u190 u191 u192 u193 u194 u195 u196 u197 u198 u199 u200 u201 : Value) :
    Code.wp Try.prog (seqR (seqR (seqR (Try.f14.body.getD .skip)))) (bodyPost Try.prog Try.f14 fun e w' => (∃ F' vb, e = .returned (.tuple #[.agg (insA (tk6 s now (frF s now pace) (agF s now timeout) (heF s now)).2.1 vb), .bool (tk6 s now (frF s now pace) (agF s now timeout) (heF s now)).2.2.1, .int .i64 (tk6 s now (frF s now pace) (agF s now timeout) (heF s now)).2.2.2]) ∧ SnR w' F' p (tk6 s now (frF s now pace) (agF s now timeout) (heF s now)).1 ∧ InX (fun b => w.heap.size ≤ b ∧ b < w'.heap.size ∧ ¬ F' b) w' vb (tk6 s now (frF s now pace) (agF s now timeout) (heF s now)).2.1.dif ∧ Tch F w w' ∧ ∀ k, F' k → F k ∨ w.heap.size ≤ k)) ⟨List.toArray (.pointer (some ⟨p, 0, none⟩) :: .int .u64 (now.toNat : Int) :: .int .i64 pace :: .int .i64 timeout :: u4 :: u5 :: u6 :: u7 :: .pointer (some ⟨p8, 0, none⟩) :: .bool false :: .int .i64 0 :: .pointer (some ⟨b11, 0, none⟩) :: u12 :: u13 :: u14 :: u15 :: u16 :: u17 :: u18 :: u19 :: u20 :: u21 :: u22 :: u23 :: u24 :: u25 :: u26 :: u27 :: u28 :: u29 :: u30 :: u31 :: u32 :: u33 :: u34 :: u35 :: u36 :: u37 :: u38 :: u39 :: u40 :: u41 :: u42 :: u43 :: u44 :: u45 :: u46 :: u47 :: u48 :: u49 :: u50 :: u51 :: u52 :: u53 :: u54 :: u55 :: u56 :: u57 :: u58 :: u59 :: u60 :: u61 :: u62 :: u63 :: u64 :: u65 :: u66 :: u67 :: u68 :: u69 :: u70 :: u71 :: u72 :: u73 :: u74 :: u75 :: u76 :: u77 :: u78 :: u79 :: u80 :: u81 :: u82 :: u83 :: u84 :: u85 :: u86 :: u87 :: u88 :: u89 :: u90 :: u91 :: u92 :: u93 :: u94 :: u95 :: u96 :: u97 :: u98 :: u99 :: u100 :: u101 :: u102 :: u103 :: u104 :: u105 :: u106 :: u107 :: u108 :: u109 :: u110 :: u111 :: u112 :: u113 :: u114 :: u115 :: u116 :: u117 :: u118 :: u119 :: u120 :: u121 :: u122 :: u123 :: u124 :: u125 :: u126 :: u127 :: u128 :: u129 :: u130 :: u131 :: u132 :: u133 :: u134 :: u135 :: u136 :: u137 :: u138 :: u139 :: u140 :: u141 :: u142 :: u143 :: u144 :: u145 :: u146 :: u147 :: u148 :: u149 :: u150 :: u151 :: u152 :: u153 :: u154 :: u155 :: u156 :: u157 :: u158 :: u159 :: u160 :: u161 :: u162 :: u163 :: u164 :: u165 :: u166 :: u167 :: u168 :: u169 :: u170 :: u171 :: u172 :: u173 :: u174 :: u175 :: u176 :: u177 :: u178 :: u179 :: u180 :: u181 :: u182 :: u183 :: u184 :: u185 :: u186 :: u187 :: u188 :: u189 :: u190 :: u191 :: u192 :: u193 :: u194 :: u195 :: u196 :: u197 :: u198 :: u199 :: u200 :: u201 :: []), []⟩ wx := by
  conv => arg 2; whnf
  have T4 := Box'.mk (fun wz (bz : Below wx.heap.size wx wz) fr ef => tick_4e pace timeout t0 t1 w wz p p8 b11 g n c s F hF now fr ef H0 hp hr ho (hb.trans (bz.mono hb.size)) hln h1 h2 hp8 (hz.below bz hz.lt) h11 (hl.below bz hl.lt) ht htn)
  have r7 := hr.below hb hp
  have C0 : Box' (∀ wa, Below wx.heap.size wx wa → wa.cell? ⟨p, 0, none⟩ = some (.string ⟨s.now.toArray⟩)) := ⟨fun wa hb => (r7.below hb r7.lt).cell 0⟩
  have C1 : Box' (∀ wa, Below wx.heap.size wx wa → wa.cell? ⟨p, 1, none⟩ = some (.slice (some ⟨g, 0, none⟩) n c)) := ⟨fun wa hb => (r7.below hb r7.lt).cell 1⟩
  have C2 : Box' (∀ wa, Below wx.heap.size wx wa → wa.cell? ⟨p, 2, none⟩ = some (.bool s.any)) := ⟨fun wa hb => (r7.below hb r7.lt).cell 2⟩
  have C3 : Box' (∀ wa, Below wx.heap.size wx wa → wa.cell? ⟨p, 3, none⟩ = some (.int .u64 (s.tm.toNat : Int))) := ⟨fun wa hb => (r7.below hb r7.lt).cell 3⟩
  have L1 : Box' (∀ wa, Below wx.heap.size wx wa → wa.cell? ⟨b11, 1, none⟩ = some (.string ⟨(lastR s.l).t.toArray⟩)) := ⟨fun wa hb => (hl.below hb hl.lt).cell 1⟩
  have PA := Box'.mk (fun wa => past_any now s.tm pace p0 p1 wa)
  have EF : Box' (frF s now pace = (!decide ((lastR s.l).t = s.now) && decide (n < 32) && (!s.any || pastF now s.tm pace))) := ⟨by unfold frF; rw [hln]⟩
  have hn32 : n ≤ 32 := by omega
  unfold uV at PA
  generalize pastF now s.tm pace = P at PA EF
  generalize s.any = any at C2 EF
  generalize s.tm = tm at C3 PA
  generalize s.now = tn at C0 EF
  generalize (lastR s.l).t = lt at L1 EF
  clear H0 hr ho hz hl ht htn r7
  refine wp_seq_k fun K hK => ?_
  have HK := Box'.mk hK
  clear hK
  go_upto_region 4 with (fail)
  by_cases hlt : lt = tn
  · have hA : (lt == tn) = true := by rw [beq_iff_eq]; exact hlt
    have ef : frF s now pace = false := by rw [EF.out, decide_eq_true hlt]; rfl
    have EFB := Box'.mk ef
    clear EF ef hlt
    refine wp_region_lex (fun wa => Below wx.heap.size wx wa) (by kernel_rfl) (by kernel_rfl) (Below.refl _ _).drew ?_
    go_big_quiet_want
    go_big_quiet_op
    first | go_big_quiet_on | (refine ⟨_, fun _ _ => rfl, ?_⟩; go_big_quiet_on) | (refine ⟨_, fun _ _ _ => rfl, ?_⟩; go_big_quiet_on)
    go_big_quiet_want
    refine qC_load9 (.tmp 45) rfl b11 1 _ rfl L1.out ?_
    simp only [Act.put, List.setIfInBounds_toArray, List.set_cons_succ, List.set_cons_zero]
    go_big_quiet_on
    go_big_quiet_want
    go_big_quiet_op
    first | go_big_quiet_on | (refine ⟨_, fun _ _ => rfl, ?_⟩; go_big_quiet_on) | (refine ⟨_, fun _ _ _ => rfl, ?_⟩; go_big_quiet_on)
    go_big_quiet_want
    go_big_quiet_op
    first | go_big_quiet_on | (refine ⟨_, fun _ _ => rfl, ?_⟩; go_big_quiet_on) | (refine ⟨_, fun _ _ _ => rfl, ?_⟩; go_big_quiet_on)
    go_big_quiet_want
    go_big_quiet_op
    first | go_big_quiet_on | (refine ⟨_, fun _ _ => rfl, ?_⟩; go_big_quiet_on) | (refine ⟨_, fun _ _ _ => rfl, ?_⟩; go_big_quiet_on)
    go_big_quiet_want
    refine qC_load9 (.tmp 49) rfl p 0 _ rfl C0.out ?_
    simp only [Act.put, List.setIfInBounds_toArray, List.set_cons_succ, List.set_cons_zero]
    go_big_quiet_on
    go_big_quiet_want
    refine qC_of (.bool false) (fun wq hC => by unfold execOp; simp [go_sem, hA]) ?_
    simp only [Act.put, List.setIfInBounds_toArray, List.set_cons_succ, List.set_cons_zero]
    go_big_quiet_on
    go_big_quiet_want
    go_big_quiet_op
    first | go_big_quiet_on | (refine ⟨_, fun _ _ => rfl, ?_⟩; go_big_quiet_on) | (refine ⟨_, fun _ _ _ => rfl, ?_⟩; go_big_quiet_on)
    go_big_quiet_skip
    go_big_quiet_skip
    go_big_quiet_skip
    go_big_quiet_skip
    go_big_quiet_skip
    go_big_quiet_skip
    go_big_quiet_want
    go_big_quiet_op
    first | go_big_quiet_on | (refine ⟨_, fun _ _ => rfl, ?_⟩; go_big_quiet_on) | (refine ⟨_, fun _ _ _ => rfl, ?_⟩; go_big_quiet_on)
    go_big_quiet_want
    go_big_quiet_op
    first | go_big_quiet_on | (refine ⟨_, fun _ _ => rfl, ?_⟩; go_big_quiet_on) | (refine ⟨_, fun _ _ _ => rfl, ?_⟩; go_big_quiet_on)
    go_big_quiet_skip
    go_big_quiet_skip
    go_big_quiet_skip
    go_big_quiet_skip
    go_big_quiet_skip
    go_big_quiet_skip
    go_big_quiet_skip
    go_big_quiet_skip
    go_big_quiet_skip
    go_big_quiet_skip
    go_big_quiet_skip
    go_big_quiet_skip
    go_big_quiet_skip
    go_big_quiet_skip
    go_big_quiet_want
    go_big_quiet_op
    first | go_big_quiet_on | (refine ⟨_, fun _ _ => rfl, ?_⟩; go_big_quiet_on) | (refine ⟨_, fun _ _ _ => rfl, ?_⟩; go_big_quiet_on)
    go_big_quiet_want
    go_big_quiet_op
    first | go_big_quiet_on | (refine ⟨_, fun _ _ => rfl, ?_⟩; go_big_quiet_on) | (refine ⟨_, fun _ _ _ => rfl, ?_⟩; go_big_quiet_on)
    refine wpQuiet_nil ?_
    intro wz hz
    have bz := hz
    clear C0 C1 C2 C3 L1 PA
    go_wp2_with fail
    refine HK.out _ _ ?_
    exact T4.out wz bz _ EFB.out _ _ _ _ _ _ _ _ _ _ _ _ _ _ _ _ _ _ _ _ _ _ _ _ _ _ _ _ _ _ _ _ _ _ _ _ _ _ _ _ _ _ _ _ _ _ _ _ _ _ _ _ _ _ _ _ _ _ _ _ _ _ _ _ _ _ _ _ _ _ _ _ _ _ _ _ _ _ _ _ _ _ _ _ _ _ _ _ _ _ _ _ _ _ _ _ _ _ _ _ _ _ _ _ _ _ _ _ _ _ _ _ _ _ _ _ _ _ _ _ _ _ _ _ _ _ _ _ _ _ _ _ _ _ _ _ _ _ _ _ _ _ _ _ _ _ _ _ _ _ _ _ _ _ _ _ _ _ _ _ _ _ _ _ _ _ _ _ _ _ _ _ _ _ _ _ _ _ _ _ _ _ _ _ _ _ _ _ _ _ _ _ _ _
  · have hA : (lt == tn) = false := by rw [beq_eq_false_iff_ne]; exact hlt
    by_cases hn : n < 32
    · cases any with
      | false =>
        have ef : frF s now pace = true := by rw [EF.out, decide_eq_false hlt, decide_eq_true hn]; rfl
        have EFB := Box'.mk ef
        clear EF ef hlt
        refine wp_region_lex (fun wa => Below wx.heap.size wx wa) (by kernel_rfl) (by kernel_rfl) (Below.refl _ _).drew ?_
        go_big_quiet_want
        go_big_quiet_op
        first | go_big_quiet_on | (refine ⟨_, fun _ _ => rfl, ?_⟩; go_big_quiet_on) | (refine ⟨_, fun _ _ _ => rfl, ?_⟩; go_big_quiet_on)
        go_big_quiet_want
        refine qC_load9 (.tmp 45) rfl b11 1 _ rfl L1.out ?_
        simp only [Act.put, List.setIfInBounds_toArray, List.set_cons_succ, List.set_cons_zero]
        go_big_quiet_on
        go_big_quiet_want
        go_big_quiet_op
        first | go_big_quiet_on | (refine ⟨_, fun _ _ => rfl, ?_⟩; go_big_quiet_on) | (refine ⟨_, fun _ _ _ => rfl, ?_⟩; go_big_quiet_on)
        go_big_quiet_want
        go_big_quiet_op
        first | go_big_quiet_on | (refine ⟨_, fun _ _ => rfl, ?_⟩; go_big_quiet_on) | (refine ⟨_, fun _ _ _ => rfl, ?_⟩; go_big_quiet_on)
        go_big_quiet_want
        go_big_quiet_op
        first | go_big_quiet_on | (refine ⟨_, fun _ _ => rfl, ?_⟩; go_big_quiet_on) | (refine ⟨_, fun _ _ _ => rfl, ?_⟩; go_big_quiet_on)
        go_big_quiet_want
        refine qC_load9 (.tmp 49) rfl p 0 _ rfl C0.out ?_
        simp only [Act.put, List.setIfInBounds_toArray, List.set_cons_succ, List.set_cons_zero]
        go_big_quiet_on
        go_big_quiet_want
        refine qC_of (.bool true) (fun wq hC => by unfold execOp; simp [go_sem, hA]) ?_
        simp only [Act.put, List.setIfInBounds_toArray, List.set_cons_succ, List.set_cons_zero]
        go_big_quiet_on
        go_big_quiet_want
        go_big_quiet_op
        first | go_big_quiet_on | (refine ⟨_, fun _ _ => rfl, ?_⟩; go_big_quiet_on) | (refine ⟨_, fun _ _ _ => rfl, ?_⟩; go_big_quiet_on)
        go_big_quiet_want
        go_big_quiet_op
        first | go_big_quiet_on | (refine ⟨_, fun _ _ => rfl, ?_⟩; go_big_quiet_on) | (refine ⟨_, fun _ _ _ => rfl, ?_⟩; go_big_quiet_on)
        go_big_quiet_want
        go_big_quiet_op
        first | go_big_quiet_on | (refine ⟨_, fun _ _ => rfl, ?_⟩; go_big_quiet_on) | (refine ⟨_, fun _ _ _ => rfl, ?_⟩; go_big_quiet_on)
        go_big_quiet_want
        go_big_quiet_op
        first | go_big_quiet_on | (refine ⟨_, fun _ _ => rfl, ?_⟩; go_big_quiet_on) | (refine ⟨_, fun _ _ _ => rfl, ?_⟩; go_big_quiet_on)
        go_big_quiet_want
        refine qC_load32 (.tmp 55) rfl p 1 _ rfl C1.out ?_
        simp only [Act.put, List.setIfInBounds_toArray, List.set_cons_succ, List.set_cons_zero]
        go_big_quiet_on
        go_big_quiet_want
        go_big_quiet_op
        first | go_big_quiet_on | (refine ⟨_, fun _ _ => rfl, ?_⟩; go_big_quiet_on) | (refine ⟨_, fun _ _ _ => rfl, ?_⟩; go_big_quiet_on)
        go_big_quiet_want
        refine qC_of (.bool true) (fun wq hC => by unfold execOp; simp [go_sem] <;> omega) ?_
        simp only [Act.put, List.setIfInBounds_toArray, List.set_cons_succ, List.set_cons_zero]
        go_big_quiet_on
        go_big_quiet_want
        go_big_quiet_op
        first | go_big_quiet_on | (refine ⟨_, fun _ _ => rfl, ?_⟩; go_big_quiet_on) | (refine ⟨_, fun _ _ _ => rfl, ?_⟩; go_big_quiet_on)
        go_big_quiet_want
        go_big_quiet_op
        first | go_big_quiet_on | (refine ⟨_, fun _ _ => rfl, ?_⟩; go_big_quiet_on) | (refine ⟨_, fun _ _ _ => rfl, ?_⟩; go_big_quiet_on)
        go_big_quiet_want
        go_big_quiet_op
        first | go_big_quiet_on | (refine ⟨_, fun _ _ => rfl, ?_⟩; go_big_quiet_on) | (refine ⟨_, fun _ _ _ => rfl, ?_⟩; go_big_quiet_on)
        go_big_quiet_want
        go_big_quiet_op
        first | go_big_quiet_on | (refine ⟨_, fun _ _ => rfl, ?_⟩; go_big_quiet_on) | (refine ⟨_, fun _ _ _ => rfl, ?_⟩; go_big_quiet_on)
        go_big_quiet_want
        go_big_quiet_op
        first | go_big_quiet_on | (refine ⟨_, fun _ _ => rfl, ?_⟩; go_big_quiet_on) | (refine ⟨_, fun _ _ _ => rfl, ?_⟩; go_big_quiet_on)
        go_big_quiet_want
        refine qC_load4 (.tmp 63) rfl p 2 _ rfl C2.out ?_
        simp only [Act.put, List.setIfInBounds_toArray, List.set_cons_succ, List.set_cons_zero]
        go_big_quiet_on
        go_big_quiet_want
        go_big_quiet_op
        first | go_big_quiet_on | (refine ⟨_, fun _ _ => rfl, ?_⟩; go_big_quiet_on) | (refine ⟨_, fun _ _ _ => rfl, ?_⟩; go_big_quiet_on)
        go_big_quiet_want
        go_big_quiet_op
        first | go_big_quiet_on | (refine ⟨_, fun _ _ => rfl, ?_⟩; go_big_quiet_on) | (refine ⟨_, fun _ _ _ => rfl, ?_⟩; go_big_quiet_on)
        go_big_quiet_skip
        go_big_quiet_skip
        go_big_quiet_skip
        go_big_quiet_skip
        go_big_quiet_skip
        go_big_quiet_skip
        go_big_quiet_skip
        go_big_quiet_want
        go_big_quiet_op
        first | go_big_quiet_on | (refine ⟨_, fun _ _ => rfl, ?_⟩; go_big_quiet_on) | (refine ⟨_, fun _ _ _ => rfl, ?_⟩; go_big_quiet_on)
        go_big_quiet_want
        go_big_quiet_op
        first | go_big_quiet_on | (refine ⟨_, fun _ _ => rfl, ?_⟩; go_big_quiet_on) | (refine ⟨_, fun _ _ _ => rfl, ?_⟩; go_big_quiet_on)
        go_big_quiet_want
        go_big_quiet_op
        first | go_big_quiet_on | (refine ⟨_, fun _ _ => rfl, ?_⟩; go_big_quiet_on) | (refine ⟨_, fun _ _ _ => rfl, ?_⟩; go_big_quiet_on)
        refine wpQuiet_nil ?_
        intro wz hz
        have bz := hz
        clear C0 C1 C2 C3 L1 PA
        go_wp2_with fail
        refine HK.out _ _ ?_
        exact T4.out wz bz _ EFB.out _ _ _ _ _ _ _ _ _ _ _ _ _ _ _ _ _ _ _ _ _ _ _ _ _ _ _ _ _ _ _ _ _ _ _ _ _ _ _ _ _ _ _ _ _ _ _ _ _ _ _ _ _ _ _ _ _ _ _ _ _ _ _ _ _ _ _ _ _ _ _ _ _ _ _ _ _ _ _ _ _ _ _ _ _ _ _ _ _ _ _ _ _ _ _ _ _ _ _ _ _ _ _ _ _ _ _ _ _ _ _ _ _ _ _ _ _ _ _ _ _ _ _ _ _ _ _ _ _ _ _ _ _ _ _ _ _ _ _ _ _ _ _ _ _ _ _ _ _ _ _ _ _ _ _ _ _ _ _ _ _ _ _ _ _ _ _ _ _ _ _ _ _ _ _ _ _ _ _ _ _ _ _ _ _ _ _ _ _ _ _ _ _ _
      | true =>
        have ef : frF s now pace = P := by rw [EF.out, decide_eq_false hlt, decide_eq_true hn]; simp
        have EFB := Box'.mk ef
        clear EF ef hlt
        refine wp_region_lex (fun wa => Below wx.heap.size wx wa) (by kernel_rfl) (by kernel_rfl) (Below.refl _ _).drew ?_
        go_big_quiet_want
        go_big_quiet_op
        first | go_big_quiet_on | (refine ⟨_, fun _ _ => rfl, ?_⟩; go_big_quiet_on) | (refine ⟨_, fun _ _ _ => rfl, ?_⟩; go_big_quiet_on)
        go_big_quiet_want
        refine qC_load9 (.tmp 45) rfl b11 1 _ rfl L1.out ?_
        simp only [Act.put, List.setIfInBounds_toArray, List.set_cons_succ, List.set_cons_zero]
        go_big_quiet_on
        go_big_quiet_want
        go_big_quiet_op
        first | go_big_quiet_on | (refine ⟨_, fun _ _ => rfl, ?_⟩; go_big_quiet_on) | (refine ⟨_, fun _ _ _ => rfl, ?_⟩; go_big_quiet_on)
        go_big_quiet_want
        go_big_quiet_op
        first | go_big_quiet_on | (refine ⟨_, fun _ _ => rfl, ?_⟩; go_big_quiet_on) | (refine ⟨_, fun _ _ _ => rfl, ?_⟩; go_big_quiet_on)
        go_big_quiet_want
        go_big_quiet_op
        first | go_big_quiet_on | (refine ⟨_, fun _ _ => rfl, ?_⟩; go_big_quiet_on) | (refine ⟨_, fun _ _ _ => rfl, ?_⟩; go_big_quiet_on)
        go_big_quiet_want
        refine qC_load9 (.tmp 49) rfl p 0 _ rfl C0.out ?_
        simp only [Act.put, List.setIfInBounds_toArray, List.set_cons_succ, List.set_cons_zero]
        go_big_quiet_on
        go_big_quiet_want
        refine qC_of (.bool true) (fun wq hC => by unfold execOp; simp [go_sem, hA]) ?_
        simp only [Act.put, List.setIfInBounds_toArray, List.set_cons_succ, List.set_cons_zero]
        go_big_quiet_on
        go_big_quiet_want
        go_big_quiet_op
        first | go_big_quiet_on | (refine ⟨_, fun _ _ => rfl, ?_⟩; go_big_quiet_on) | (refine ⟨_, fun _ _ _ => rfl, ?_⟩; go_big_quiet_on)
        go_big_quiet_want
        go_big_quiet_op
        first | go_big_quiet_on | (refine ⟨_, fun _ _ => rfl, ?_⟩; go_big_quiet_on) | (refine ⟨_, fun _ _ _ => rfl, ?_⟩; go_big_quiet_on)
        go_big_quiet_want
        go_big_quiet_op
        first | go_big_quiet_on | (refine ⟨_, fun _ _ => rfl, ?_⟩; go_big_quiet_on) | (refine ⟨_, fun _ _ _ => rfl, ?_⟩; go_big_quiet_on)
        go_big_quiet_want
        go_big_quiet_op
        first | go_big_quiet_on | (refine ⟨_, fun _ _ => rfl, ?_⟩; go_big_quiet_on) | (refine ⟨_, fun _ _ _ => rfl, ?_⟩; go_big_quiet_on)
        go_big_quiet_want
        refine qC_load32 (.tmp 55) rfl p 1 _ rfl C1.out ?_
        simp only [Act.put, List.setIfInBounds_toArray, List.set_cons_succ, List.set_cons_zero]
        go_big_quiet_on
        go_big_quiet_want
        go_big_quiet_op
        first | go_big_quiet_on | (refine ⟨_, fun _ _ => rfl, ?_⟩; go_big_quiet_on) | (refine ⟨_, fun _ _ _ => rfl, ?_⟩; go_big_quiet_on)
        go_big_quiet_want
        refine qC_of (.bool true) (fun wq hC => by unfold execOp; simp [go_sem] <;> omega) ?_
        simp only [Act.put, List.setIfInBounds_toArray, List.set_cons_succ, List.set_cons_zero]
        go_big_quiet_on
        go_big_quiet_want
        go_big_quiet_op
        first | go_big_quiet_on | (refine ⟨_, fun _ _ => rfl, ?_⟩; go_big_quiet_on) | (refine ⟨_, fun _ _ _ => rfl, ?_⟩; go_big_quiet_on)
        go_big_quiet_want
        go_big_quiet_op
        first | go_big_quiet_on | (refine ⟨_, fun _ _ => rfl, ?_⟩; go_big_quiet_on) | (refine ⟨_, fun _ _ _ => rfl, ?_⟩; go_big_quiet_on)
        go_big_quiet_want
        go_big_quiet_op
        first | go_big_quiet_on | (refine ⟨_, fun _ _ => rfl, ?_⟩; go_big_quiet_on) | (refine ⟨_, fun _ _ _ => rfl, ?_⟩; go_big_quiet_on)
        go_big_quiet_want
        go_big_quiet_op
        first | go_big_quiet_on | (refine ⟨_, fun _ _ => rfl, ?_⟩; go_big_quiet_on) | (refine ⟨_, fun _ _ _ => rfl, ?_⟩; go_big_quiet_on)
        go_big_quiet_want
        go_big_quiet_op
        first | go_big_quiet_on | (refine ⟨_, fun _ _ => rfl, ?_⟩; go_big_quiet_on) | (refine ⟨_, fun _ _ _ => rfl, ?_⟩; go_big_quiet_on)
        go_big_quiet_want
        refine qC_load4 (.tmp 63) rfl p 2 _ rfl C2.out ?_
        simp only [Act.put, List.setIfInBounds_toArray, List.set_cons_succ, List.set_cons_zero]
        go_big_quiet_on
        go_big_quiet_want
        go_big_quiet_op
        first | go_big_quiet_on | (refine ⟨_, fun _ _ => rfl, ?_⟩; go_big_quiet_on) | (refine ⟨_, fun _ _ _ => rfl, ?_⟩; go_big_quiet_on)
        go_big_quiet_want
        go_big_quiet_op
        first | go_big_quiet_on | (refine ⟨_, fun _ _ => rfl, ?_⟩; go_big_quiet_on) | (refine ⟨_, fun _ _ _ => rfl, ?_⟩; go_big_quiet_on)
        go_big_quiet_want
        go_big_quiet_op
        first | go_big_quiet_on | (refine ⟨_, fun _ _ => rfl, ?_⟩; go_big_quiet_on) | (refine ⟨_, fun _ _ _ => rfl, ?_⟩; go_big_quiet_on)
        go_big_quiet_want
        go_big_quiet_op
        first | go_big_quiet_on | (refine ⟨_, fun _ _ => rfl, ?_⟩; go_big_quiet_on) | (refine ⟨_, fun _ _ _ => rfl, ?_⟩; go_big_quiet_on)
        go_big_quiet_want
        go_big_quiet_op
        first | go_big_quiet_on | (refine ⟨_, fun _ _ => rfl, ?_⟩; go_big_quiet_on) | (refine ⟨_, fun _ _ _ => rfl, ?_⟩; go_big_quiet_on)
        go_big_quiet_want
        go_big_quiet_op
        first | go_big_quiet_on | (refine ⟨_, fun _ _ => rfl, ?_⟩; go_big_quiet_on) | (refine ⟨_, fun _ _ _ => rfl, ?_⟩; go_big_quiet_on)
        go_big_quiet_want
        refine qC_load29 (.tmp 70) rfl p 3 _ rfl C3.out ?_
        simp only [Act.put, List.setIfInBounds_toArray, List.set_cons_succ, List.set_cons_zero]
        go_big_quiet_on
        go_big_quiet_want
        go_big_quiet_op
        first | go_big_quiet_on | (refine ⟨_, fun _ _ => rfl, ?_⟩; go_big_quiet_on) | (refine ⟨_, fun _ _ _ => rfl, ?_⟩; go_big_quiet_on)
        go_big_quiet_want
        refine qC_call 31 #[.int .u64 (now.toNat : Int), .int .u64 (tm.toNat : Int), .int .i64 pace] (.bool P) (fun w => by simp [go_sem]) (fun wa hC => (PA.out wa).mono fun e w' h => ⟨h.1, by rw [h.2]; exact hC⟩) ?_
        simp only [Act.put, List.setIfInBounds_toArray, List.set_cons_succ, List.set_cons_zero]
        go_big_quiet_on
        go_big_quiet_want
        go_big_quiet_op
        first | go_big_quiet_on | (refine ⟨_, fun _ _ => rfl, ?_⟩; go_big_quiet_on) | (refine ⟨_, fun _ _ _ => rfl, ?_⟩; go_big_quiet_on)
        go_big_quiet_want
        go_big_quiet_op
        first | go_big_quiet_on | (refine ⟨_, fun _ _ => rfl, ?_⟩; go_big_quiet_on) | (refine ⟨_, fun _ _ _ => rfl, ?_⟩; go_big_quiet_on)
        go_big_quiet_want
        go_big_quiet_op
        first | go_big_quiet_on | (refine ⟨_, fun _ _ => rfl, ?_⟩; go_big_quiet_on) | (refine ⟨_, fun _ _ _ => rfl, ?_⟩; go_big_quiet_on)
        refine wpQuiet_nil ?_
        intro wz hz
        have bz := hz
        clear C0 C1 C2 C3 L1 PA
        go_wp2_with fail
        refine HK.out _ _ ?_
        exact T4.out wz bz _ EFB.out _ _ _ _ _ _ _ _ _ _ _ _ _ _ _ _ _ _ _ _ _ _ _ _ _ _ _ _ _ _ _ _ _ _ _ _ _ _ _ _ _ _ _ _ _ _ _ _ _ _ _ _ _ _ _ _ _ _ _ _ _ _ _ _ _ _ _ _ _ _ _ _ _ _ _ _ _ _ _ _ _ _ _ _ _ _ _ _ _ _ _ _ _ _ _ _ _ _ _ _ _ _ _ _ _ _ _ _ _ _ _ _ _ _ _ _ _ _ _ _ _ _ _ _ _ _ _ _ _ _ _ _ _ _ _ _ _ _ _ _ _ _ _ _ _ _ _ _ _ _ _ _ _ _ _ _ _ _ _ _ _ _ _ _ _ _ _ _ _ _ _ _ _ _ _ _ _ _ _ _ _ _ _ _ _ _ _ _ _ _ _ _ _ _
    · have ef : frF s now pace = false := by rw [EF.out, decide_eq_false hlt, decide_eq_false hn]; rfl
      have EFB := Box'.mk ef
      clear EF ef hlt
      refine wp_region_lex (fun wa => Below wx.heap.size wx wa) (by kernel_rfl) (by kernel_rfl) (Below.refl _ _).drew ?_
      go_big_quiet_want
      go_big_quiet_op
      first | go_big_quiet_on | (refine ⟨_, fun _ _ => rfl, ?_⟩; go_big_quiet_on) | (refine ⟨_, fun _ _ _ => rfl, ?_⟩; go_big_quiet_on)
      go_big_quiet_want
      refine qC_load9 (.tmp 45) rfl b11 1 _ rfl L1.out ?_
      simp only [Act.put, List.setIfInBounds_toArray, List.set_cons_succ, List.set_cons_zero]
      go_big_quiet_on
      go_big_quiet_want
      go_big_quiet_op
      first | go_big_quiet_on | (refine ⟨_, fun _ _ => rfl, ?_⟩; go_big_quiet_on) | (refine ⟨_, fun _ _ _ => rfl, ?_⟩; go_big_quiet_on)
      go_big_quiet_want
      go_big_quiet_op
      first | go_big_quiet_on | (refine ⟨_, fun _ _ => rfl, ?_⟩; go_big_quiet_on) | (refine ⟨_, fun _ _ _ => rfl, ?_⟩; go_big_quiet_on)
      go_big_quiet_want
      go_big_quiet_op
      first | go_big_quiet_on | (refine ⟨_, fun _ _ => rfl, ?_⟩; go_big_quiet_on) | (refine ⟨_, fun _ _ _ => rfl, ?_⟩; go_big_quiet_on)
      go_big_quiet_want
      refine qC_load9 (.tmp 49) rfl p 0 _ rfl C0.out ?_
      simp only [Act.put, List.setIfInBounds_toArray, List.set_cons_succ, List.set_cons_zero]
      go_big_quiet_on
      go_big_quiet_want
      refine qC_of (.bool true) (fun wq hC => by unfold execOp; simp [go_sem, hA]) ?_
      simp only [Act.put, List.setIfInBounds_toArray, List.set_cons_succ, List.set_cons_zero]
      go_big_quiet_on
      go_big_quiet_want
      go_big_quiet_op
      first | go_big_quiet_on | (refine ⟨_, fun _ _ => rfl, ?_⟩; go_big_quiet_on) | (refine ⟨_, fun _ _ _ => rfl, ?_⟩; go_big_quiet_on)
      go_big_quiet_want
      go_big_quiet_op
      first | go_big_quiet_on | (refine ⟨_, fun _ _ => rfl, ?_⟩; go_big_quiet_on) | (refine ⟨_, fun _ _ _ => rfl, ?_⟩; go_big_quiet_on)
      go_big_quiet_want
      go_big_quiet_op
      first | go_big_quiet_on | (refine ⟨_, fun _ _ => rfl, ?_⟩; go_big_quiet_on) | (refine ⟨_, fun _ _ _ => rfl, ?_⟩; go_big_quiet_on)
      go_big_quiet_want
      go_big_quiet_op
      first | go_big_quiet_on | (refine ⟨_, fun _ _ => rfl, ?_⟩; go_big_quiet_on) | (refine ⟨_, fun _ _ _ => rfl, ?_⟩; go_big_quiet_on)
      go_big_quiet_want
      refine qC_load32 (.tmp 55) rfl p 1 _ rfl C1.out ?_
      simp only [Act.put, List.setIfInBounds_toArray, List.set_cons_succ, List.set_cons_zero]
      go_big_quiet_on
      go_big_quiet_want
      go_big_quiet_op
      first | go_big_quiet_on | (refine ⟨_, fun _ _ => rfl, ?_⟩; go_big_quiet_on) | (refine ⟨_, fun _ _ _ => rfl, ?_⟩; go_big_quiet_on)
      go_big_quiet_want
      refine qC_of (.bool false) (fun wq hC => by unfold execOp; simp [go_sem] <;> omega) ?_
      simp only [Act.put, List.setIfInBounds_toArray, List.set_cons_succ, List.set_cons_zero]
      go_big_quiet_on
      go_big_quiet_want
      go_big_quiet_op
      first | go_big_quiet_on | (refine ⟨_, fun _ _ => rfl, ?_⟩; go_big_quiet_on) | (refine ⟨_, fun _ _ _ => rfl, ?_⟩; go_big_quiet_on)
      go_big_quiet_want
      go_big_quiet_op
      first | go_big_quiet_on | (refine ⟨_, fun _ _ => rfl, ?_⟩; go_big_quiet_on) | (refine ⟨_, fun _ _ _ => rfl, ?_⟩; go_big_quiet_on)
      go_big_quiet_skip
      go_big_quiet_skip
      go_big_quiet_skip
      go_big_quiet_skip
      go_big_quiet_skip
      go_big_quiet_skip
      go_big_quiet_skip
      go_big_quiet_skip
      go_big_quiet_skip
      go_big_quiet_skip
      go_big_quiet_skip
      go_big_quiet_skip
      go_big_quiet_skip
      go_big_quiet_skip
      go_big_quiet_want
      go_big_quiet_op
      first | go_big_quiet_on | (refine ⟨_, fun _ _ => rfl, ?_⟩; go_big_quiet_on) | (refine ⟨_, fun _ _ _ => rfl, ?_⟩; go_big_quiet_on)
      go_big_quiet_want
      go_big_quiet_op
      first | go_big_quiet_on | (refine ⟨_, fun _ _ => rfl, ?_⟩; go_big_quiet_on) | (refine ⟨_, fun _ _ _ => rfl, ?_⟩; go_big_quiet_on)
      refine wpQuiet_nil ?_
      intro wz hz
      have bz := hz
      clear C0 C1 C2 C3 L1 PA
      go_wp2_with fail
      refine HK.out _ _ ?_
      exact T4.out wz bz _ EFB.out _ _ _ _ _ _ _ _ _ _ _ _ _ _ _ _ _ _ _ _ _ _ _ _ _ _ _ _ _ _ _ _ _ _ _ _ _ _ _ _ _ _ _ _ _ _ _ _ _ _ _ _ _ _ _ _ _ _ _ _ _ _ _ _ _ _ _ _ _ _ _ _ _ _ _ _ _ _ _ _ _ _ _ _ _ _ _ _ _ _ _ _ _ _ _ _ _ _ _ _ _ _ _ _ _ _ _ _ _ _ _ _ _ _ _ _ _ _ _ _ _ _ _ _ _ _ _ _ _ _ _ _ _ _ _ _ _ _ _ _ _ _ _ _ _ _ _ _ _ _ _ _ _ _ _ _ _ _ _ _ _ _ _ _ _ _ _ _ _ _ _ _ _ _ _ _ _ _ _ _ _ _ _ _ _ _ _ _ _ _ _ _ _ _
end Go.Proofs.Ytikkekdmahdgaaa
