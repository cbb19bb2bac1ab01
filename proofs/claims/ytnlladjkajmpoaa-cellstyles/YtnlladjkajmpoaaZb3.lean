/- The reference's Apply: ways through its loop (3). -/
import Derived.Test.YtnlladjkajmpoaaZa
namespace Go.Proofs.Ytnlladjkajmpoaa
open Go.RowKit Go.BigFrame
set_option linter.unusedVariables false
set_option linter.unusedSimpArgs false

set_option maxRecDepth 1000000 in
set_option maxHeartbeats 8000000 in
theorem z_l48 (s s' : St) (l : List Int) (w wr : World) (b o cp n k : Nat) (hl : n ≤ 140737488355328) (hcp : n ≤ cp) (hk4 : k ≤ n + 4) (hlt : k < n) (hbN : b < w.heap.size) (p p1 p2 : Int) (RS' : Box' (Row wr w.heap.size 24 (sA s'))) (RM' : Box' (Room wr (w.heap.size + 1) 24 10)) (BB' : Box' (Below w.heap.size w wr)) (d0 : wr.cell? ⟨b, o + k, none⟩ = some (.int .i64 p)) (hp : Box' ((l.drop k).getD 0 0 = p)) (SE : Box' (∀ s2 z, stp s' (l.drop k) = (s2, z) → apG s2 (l.drop (k + z)) = apG s l)) (hp1 : Box' ((l.drop k).getD 1 0 = p1)) (hp2 : Box' ((l.drop k).getD 2 0 = p2)) (D1 : Box' (k + 1 < n → wr.cell? ⟨b, o + (k + 1), none⟩ = some (.int .i64 p1))) (D2 : Box' (k + 2 < n → wr.cell? ⟨b, o + (k + 2), none⟩ = some (.int .i64 p2))) (LK : Box' ((l.drop k).length = n - k)) (P2 : Box' (∀ s2, n ≤ k + 5 → apG s2 (l.drop (n - k + k)) = apG s2 (l.drop (k + 5)))) (FZ : Box' (∀ j, wr.frozen? ⟨w.heap.size, j, none⟩ = false)) (CZ : Box' (∀ j, wr.cell? ⟨w.heap.size, j, none⟩ = (sA s')[j]?)) (MS : Box' (∀ j v, Room (wr.setCell ⟨w.heap.size, j, none⟩ v) (w.heap.size + 1) 24 10)) (BS : Box' (∀ j v, Below w.heap.size w (wr.setCell ⟨w.heap.size, j, none⟩ v))) (hq : p = 48) (u6 u7 u12 u13 u14 u15 u16 u17 u18 u19 u20 u21 u22 u23 u24 u25 u26 u27 u28 u29 u30 u31 u32 u33 u34 u35 u36 u37 u38 u39 u40 u41 u42 u43 u44 u45 u46 u47 u48 u49 u50 u51 u52 u53 u54 u55 u56 u57 u58 u59 u60 u61 u62 u63 u64 u65 u66 u67 u68 u69 u70 u71 u72 u73 u74 u75 u76 u77 u78 u79 u80 u81 u82 u83 u84 u85 u86 u87 u88 u89 u90 u91 u92 u93 u94 u95 u96 u97 u98 u99 u100 u101 u102 u103 u104 u105 u106 u107 u108 u109 u110 u111 u112 u113 u114 u115 u116 u117 u118 u119 u120 u121 u122 u123 u124 u125 u126 u127 u128 u129 u130 u131 u132 u133 u134 u135 u136 u137 u138 u139 u140 u141 u142 u143 u144 u145 u146 u147 u148 u149 u150 u151 u152 u153 u154 u155 u156 u157 u158 u159 u160 : Value) (Q0 : Exit → Act → World → Prop) :
    Code.wp Try.prog ((Try.f19.body.bind firstLoop).getD .skip) (Exit.then (fun a' w'' => zI s l w b o cp n a' w'' ∧ zMu n a' w'' < zMu n ⟨List.toArray (.agg (sA s) :: .slice (some ⟨b, o, none⟩) n cp :: .pointer (some ⟨w.heap.size, 0, none⟩) :: undef :: .pointer (some ⟨w.heap.size + 1, 0, none⟩) :: .int .i64 (k : Int) :: u6 :: u7 :: .slice (some ⟨b, o, none⟩) n cp :: .int .i64 (n : Int) :: .bool false :: undef :: u12 :: u13 :: u14 :: u15 :: u16 :: u17 :: u18 :: u19 :: u20 :: u21 :: u22 :: u23 :: u24 :: u25 :: u26 :: u27 :: u28 :: u29 :: u30 :: u31 :: u32 :: u33 :: u34 :: u35 :: u36 :: u37 :: u38 :: u39 :: u40 :: u41 :: u42 :: u43 :: u44 :: u45 :: u46 :: u47 :: u48 :: u49 :: u50 :: u51 :: u52 :: u53 :: u54 :: u55 :: u56 :: u57 :: u58 :: u59 :: u60 :: u61 :: u62 :: u63 :: u64 :: u65 :: u66 :: u67 :: u68 :: u69 :: u70 :: u71 :: u72 :: u73 :: u74 :: u75 :: u76 :: u77 :: u78 :: u79 :: u80 :: u81 :: u82 :: u83 :: u84 :: u85 :: u86 :: u87 :: u88 :: u89 :: u90 :: u91 :: u92 :: u93 :: u94 :: u95 :: u96 :: u97 :: u98 :: u99 :: u100 :: u101 :: u102 :: u103 :: u104 :: u105 :: u106 :: u107 :: u108 :: u109 :: u110 :: u111 :: u112 :: u113 :: u114 :: u115 :: u116 :: u117 :: u118 :: u119 :: u120 :: u121 :: u122 :: u123 :: u124 :: u125 :: u126 :: u127 :: u128 :: u129 :: u130 :: u131 :: u132 :: u133 :: u134 :: u135 :: u136 :: u137 :: u138 :: u139 :: u140 :: u141 :: u142 :: u143 :: u144 :: u145 :: u146 :: u147 :: u148 :: u149 :: u150 :: u151 :: u152 :: u153 :: u154 :: u155 :: u156 :: u157 :: u158 :: u159 :: u160 :: undef :: []), []⟩ wr) Q0) ⟨List.toArray (.agg (sA s) :: .slice (some ⟨b, o, none⟩) n cp :: .pointer (some ⟨w.heap.size, 0, none⟩) :: undef :: .pointer (some ⟨w.heap.size + 1, 0, none⟩) :: .int .i64 (k : Int) :: u6 :: u7 :: .slice (some ⟨b, o, none⟩) n cp :: .int .i64 (n : Int) :: .bool false :: undef :: u12 :: u13 :: u14 :: u15 :: u16 :: u17 :: u18 :: u19 :: u20 :: u21 :: u22 :: u23 :: u24 :: u25 :: u26 :: u27 :: u28 :: u29 :: u30 :: u31 :: u32 :: u33 :: u34 :: u35 :: u36 :: u37 :: u38 :: u39 :: u40 :: u41 :: u42 :: u43 :: u44 :: u45 :: u46 :: u47 :: u48 :: u49 :: u50 :: u51 :: u52 :: u53 :: u54 :: u55 :: u56 :: u57 :: u58 :: u59 :: u60 :: u61 :: u62 :: u63 :: u64 :: u65 :: u66 :: u67 :: u68 :: u69 :: u70 :: u71 :: u72 :: u73 :: u74 :: u75 :: u76 :: u77 :: u78 :: u79 :: u80 :: u81 :: u82 :: u83 :: u84 :: u85 :: u86 :: u87 :: u88 :: u89 :: u90 :: u91 :: u92 :: u93 :: u94 :: u95 :: u96 :: u97 :: u98 :: u99 :: u100 :: u101 :: u102 :: u103 :: u104 :: u105 :: u106 :: u107 :: u108 :: u109 :: u110 :: u111 :: u112 :: u113 :: u114 :: u115 :: u116 :: u117 :: u118 :: u119 :: u120 :: u121 :: u122 :: u123 :: u124 :: u125 :: u126 :: u127 :: u128 :: u129 :: u130 :: u131 :: u132 :: u133 :: u134 :: u135 :: u136 :: u137 :: u138 :: u139 :: u140 :: u141 :: u142 :: u143 :: u144 :: u145 :: u146 :: u147 :: u148 :: u149 :: u150 :: u151 :: u152 :: u153 :: u154 :: u155 :: u156 :: u157 :: u158 :: u159 :: u160 :: undef :: []), []⟩ wr := by
  conv => arg 2; whnf
  have S24 := Box'.mk s24
  have U24 := Box'.mk Try.underlying24
  subst hq
  have LG : Box' (stp s' (l.drop k) = ({ s' with bg := (lng s'.bg (l.drop k)).1 }, (lng s'.bg (l.drop k)).2)) := ⟨by simp only [stp, hp.out]; rfl⟩
  have LN : Box' (lng s'.bg (l.drop k) = if 2 < n - k ∧ p1 = 5 then (if 0 ≤ p2 ∧ p2 ≤ 255 then p2 else s'.bg, 3) else if 1 < n - k ∧ p1 = 2 then (s'.bg, min (n - k) 5) else (s'.bg, 1)) := ⟨by unfold lng; rw [LK.out, hp1.out, hp2.out]⟩
  by_cases h1 : k + 1 < n
  case neg =>
    have EQ : Box' (apG s' (l.drop (k + 1)) = apG s l) := ⟨SE.out s' 1 (by rw [LG.out, LN.out, if_neg (by omega), if_neg (by omega)])⟩
    clear P2 D1 D2 hp1 hp2 LK LG LN SE hp CZ FZ MS BS
    go_wp2_with fail
    exact ⟨zDone (k + 1) _ (by omega) (s') (by omega) EQ (RS') (RM') (BB'), by simp [zMu, intOf]; omega⟩
  case pos =>
    have d1 := D1.out h1
    by_cases h5 : p1 = 5
    case pos =>
      subst h5
      by_cases h2 : k + 2 < n
      case neg =>
        have EQ : Box' (apG s' (l.drop (k + 1)) = apG s l) := ⟨SE.out s' 1 (by rw [LG.out, LN.out, if_neg (by omega), if_neg (by omega)])⟩
        clear P2 D1 D2 hp1 hp2 LK LG LN SE hp CZ FZ MS BS
        go_wp2_with fail
        exact ⟨zDone (k + 1) _ (by omega) (s') (by omega) EQ (RS') (RM') (BB'), by simp [zMu, intOf]; omega⟩
      case pos =>
        have d2 := D2.out h2
        by_cases hc0 : 0 ≤ p2
        case pos =>
          by_cases hc1 : p2 ≤ 255
          case pos =>
            have EQ : Box' (apG { s' with bg := p2 } (l.drop (k + 3)) = apG s l) := ⟨SE.out _ 3 (by rw [LG.out, LN.out, if_pos ⟨by omega, rfl⟩, if_pos ⟨hc0, hc1⟩])⟩
            have c := CZ.out 1
            have f := FZ.out 1
            clear P2 D1 D2 hp1 hp2 LK LG LN SE hp
            go_wp2_with fail
            exact ⟨zDone (k + 3) _ (by omega) ({ s' with bg := p2 }) (by omega) EQ (Box'.mk (RS'.out.setCell 1 _)) (Box'.mk (MS.out _ _)) (Box'.mk (BS.out _ _)), by simp [zMu, intOf]; omega⟩
          case neg =>
            have EQ : Box' (apG s' (l.drop (k + 3)) = apG s l) := ⟨SE.out s' 3 (by rw [LG.out, LN.out, if_pos ⟨by omega, rfl⟩, if_neg (fun h => hc1 h.2)])⟩
            clear P2 D1 D2 hp1 hp2 LK LG LN SE hp CZ FZ MS BS
            go_wp2_with fail
            exact ⟨zDone (k + 3) _ (by omega) (s') (by omega) EQ (RS') (RM') (BB'), by simp [zMu, intOf]; omega⟩
        case neg =>
          have EQ : Box' (apG s' (l.drop (k + 3)) = apG s l) := ⟨SE.out s' 3 (by rw [LG.out, LN.out, if_pos ⟨by omega, rfl⟩, if_neg (fun h => hc0 h.1)])⟩
          clear P2 D1 D2 hp1 hp2 LK LG LN SE hp CZ FZ MS BS
          go_wp2_with fail
          exact ⟨zDone (k + 3) _ (by omega) (s') (by omega) EQ (RS') (RM') (BB'), by simp [zMu, intOf]; omega⟩
    case neg =>
      by_cases h6 : p1 = 2
      case pos =>
        subst h6
        have EQ : Box' (apG s' (l.drop (k + 5)) = apG s l) := ⟨by
          have q := SE.out s' (min (n - k) 5) (by rw [LG.out, LN.out, if_neg (by omega), if_pos ⟨by omega, rfl⟩])
          rcases Nat.lt_or_ge (n - k) 5 with h9 | h9
          · rw [Nat.min_eq_left (by omega), Nat.add_comm] at q; rw [← P2.out s' (by omega)]; exact q
          · rw [Nat.min_eq_right h9] at q; exact q⟩
        clear P2 D1 D2 hp1 hp2 LK LG LN SE hp CZ FZ MS BS
        go_wp2_with fail
        exact ⟨zDone (k + 5) _ (by omega) (s') (by omega) EQ (RS') (RM') (BB'), by simp [zMu, intOf]; omega⟩
      case neg =>
        have EQ : Box' (apG s' (l.drop (k + 1)) = apG s l) := ⟨SE.out s' 1 (by rw [LG.out, LN.out, if_neg (fun h => h5 h.2), if_neg (fun h => h6 h.2)])⟩
        clear P2 D1 D2 hp1 hp2 LK LG LN SE hp CZ FZ MS BS
        go_wp2_with fail
        exact ⟨zDone (k + 1) _ (by omega) (s') (by omega) EQ (RS') (RM') (BB'), by simp [zMu, intOf]; omega⟩
end Go.Proofs.Ytnlladjkajmpoaa
