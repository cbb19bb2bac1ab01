/- The reference's Apply. -/
import Derived.Test.YtnlladjkajmpoaaZb0
import Derived.Test.YtnlladjkajmpoaaZb1
import Derived.Test.YtnlladjkajmpoaaZb2
import Derived.Test.YtnlladjkajmpoaaZb3
import Derived.Test.YtnlladjkajmpoaaZb4
namespace Go.Proofs.Ytnlladjkajmpoaa
open Go.RowKit Go.BigFrame
set_option linter.unusedVariables false
set_option linter.unusedSimpArgs false

set_option maxRecDepth 1000000 in
def zX (s : St) (l : List Int) (w : World) (b o cp n : Nat) (a : Act) (wr : World) : Prop :=
  ∃ (u6 u7 u12 u13 u14 u15 u16 u17 u18 u19 u20 u21 u22 u23 u24 u25 u26 u27 u28 u29 u30 u31 u32 u33 u34 u35 u36 u37 u38 u39 u40 u41 u42 u43 u44 u45 u46 u47 u48 u49 u50 u51 u52 u53 u54 u55 u56 u57 u58 u59 u60 u61 u62 u63 u64 u65 u66 u67 u68 u69 u70 u71 u72 u73 u74 u75 u76 u77 u78 u79 u80 u81 u82 u83 u84 u85 u86 u87 u88 u89 u90 u91 u92 u93 u94 u95 u96 u97 u98 u99 u100 u101 u102 u103 u104 u105 u106 u107 u108 u109 u110 u111 u112 u113 u114 u115 u116 u117 u118 u119 u120 u121 u122 u123 u124 u125 u126 u127 u128 u129 u130 u131 u132 u133 u134 u135 u136 u137 u138 u139 u140 u141 u142 u143 u144 u145 u146 u147 u148 u149 u150 u151 u152 u153 u154 u155 u156 u157 u158 u159 u160 : Value) (k : Nat) (s' : St), n ≤ k ∧ k ≤ n + 4 ∧ Box' (apG s' (l.drop k) = apG s l) ∧ Box' (Row wr w.heap.size 24 (sA s')) ∧ Box' (Room wr (w.heap.size + 1) 24 10) ∧ Box' (Below w.heap.size w wr) ∧ a = ⟨List.toArray (.agg (sA s) :: .slice (some ⟨b, o, none⟩) n cp :: .pointer (some ⟨w.heap.size, 0, none⟩) :: undef :: .pointer (some ⟨w.heap.size + 1, 0, none⟩) :: .int .i64 (k : Int) :: u6 :: u7 :: .slice (some ⟨b, o, none⟩) n cp :: .int .i64 (n : Int) :: .bool false :: undef :: u12 :: u13 :: u14 :: u15 :: u16 :: u17 :: u18 :: u19 :: u20 :: u21 :: u22 :: u23 :: u24 :: u25 :: u26 :: u27 :: u28 :: u29 :: u30 :: u31 :: u32 :: u33 :: u34 :: u35 :: u36 :: u37 :: u38 :: u39 :: u40 :: u41 :: u42 :: u43 :: u44 :: u45 :: u46 :: u47 :: u48 :: u49 :: u50 :: u51 :: u52 :: u53 :: u54 :: u55 :: u56 :: u57 :: u58 :: u59 :: u60 :: u61 :: u62 :: u63 :: u64 :: u65 :: u66 :: u67 :: u68 :: u69 :: u70 :: u71 :: u72 :: u73 :: u74 :: u75 :: u76 :: u77 :: u78 :: u79 :: u80 :: u81 :: u82 :: u83 :: u84 :: u85 :: u86 :: u87 :: u88 :: u89 :: u90 :: u91 :: u92 :: u93 :: u94 :: u95 :: u96 :: u97 :: u98 :: u99 :: u100 :: u101 :: u102 :: u103 :: u104 :: u105 :: u106 :: u107 :: u108 :: u109 :: u110 :: u111 :: u112 :: u113 :: u114 :: u115 :: u116 :: u117 :: u118 :: u119 :: u120 :: u121 :: u122 :: u123 :: u124 :: u125 :: u126 :: u127 :: u128 :: u129 :: u130 :: u131 :: u132 :: u133 :: u134 :: u135 :: u136 :: u137 :: u138 :: u139 :: u140 :: u141 :: u142 :: u143 :: u144 :: u145 :: u146 :: u147 :: u148 :: u149 :: u150 :: u151 :: u152 :: u153 :: u154 :: u155 :: u156 :: u157 :: u158 :: u159 :: u160 :: undef :: []), []⟩
set_option maxRecDepth 1000000 in
set_option maxHeartbeats 8000000 in
theorem z_end (s : St) (l : List Int) (w : World) (b o cp n : Nat) (k : Nat) (s' : St) (wr : World) (hk : n ≤ k) (hk4 : k ≤ n + 4) (hl : n ≤ 140737488355328) (HA : Box' (apG s' (l.drop k) = apG s l)) (RS' : Box' (Row wr w.heap.size 24 (sA s'))) (RM' : Box' (Room wr (w.heap.size + 1) 24 10)) (BB' : Box' (Below w.heap.size w wr)) (u6 u7 u12 u13 u14 u15 u16 u17 u18 u19 u20 u21 u22 u23 u24 u25 u26 u27 u28 u29 u30 u31 u32 u33 u34 u35 u36 u37 u38 u39 u40 u41 u42 u43 u44 u45 u46 u47 u48 u49 u50 u51 u52 u53 u54 u55 u56 u57 u58 u59 u60 u61 u62 u63 u64 u65 u66 u67 u68 u69 u70 u71 u72 u73 u74 u75 u76 u77 u78 u79 u80 u81 u82 u83 u84 u85 u86 u87 u88 u89 u90 u91 u92 u93 u94 u95 u96 u97 u98 u99 u100 u101 u102 u103 u104 u105 u106 u107 u108 u109 u110 u111 u112 u113 u114 u115 u116 u117 u118 u119 u120 u121 u122 u123 u124 u125 u126 u127 u128 u129 u130 u131 u132 u133 u134 u135 u136 u137 u138 u139 u140 u141 u142 u143 u144 u145 u146 u147 u148 u149 u150 u151 u152 u153 u154 u155 u156 u157 u158 u159 u160 : Value) (R : Act → World → Prop) (Q0 : Exit → Act → World → Prop) (hQ : Box' (∀ a' w', zX s l w b o cp n a' w' → Q0 (.exit 0) a' w')) :
    Code.wp Try.prog ((Try.f19.body.bind firstLoop).getD .skip) (Exit.then R Q0) ⟨List.toArray (.agg (sA s) :: .slice (some ⟨b, o, none⟩) n cp :: .pointer (some ⟨w.heap.size, 0, none⟩) :: undef :: .pointer (some ⟨w.heap.size + 1, 0, none⟩) :: .int .i64 (k : Int) :: u6 :: u7 :: .slice (some ⟨b, o, none⟩) n cp :: .int .i64 (n : Int) :: .bool false :: undef :: u12 :: u13 :: u14 :: u15 :: u16 :: u17 :: u18 :: u19 :: u20 :: u21 :: u22 :: u23 :: u24 :: u25 :: u26 :: u27 :: u28 :: u29 :: u30 :: u31 :: u32 :: u33 :: u34 :: u35 :: u36 :: u37 :: u38 :: u39 :: u40 :: u41 :: u42 :: u43 :: u44 :: u45 :: u46 :: u47 :: u48 :: u49 :: u50 :: u51 :: u52 :: u53 :: u54 :: u55 :: u56 :: u57 :: u58 :: u59 :: u60 :: u61 :: u62 :: u63 :: u64 :: u65 :: u66 :: u67 :: u68 :: u69 :: u70 :: u71 :: u72 :: u73 :: u74 :: u75 :: u76 :: u77 :: u78 :: u79 :: u80 :: u81 :: u82 :: u83 :: u84 :: u85 :: u86 :: u87 :: u88 :: u89 :: u90 :: u91 :: u92 :: u93 :: u94 :: u95 :: u96 :: u97 :: u98 :: u99 :: u100 :: u101 :: u102 :: u103 :: u104 :: u105 :: u106 :: u107 :: u108 :: u109 :: u110 :: u111 :: u112 :: u113 :: u114 :: u115 :: u116 :: u117 :: u118 :: u119 :: u120 :: u121 :: u122 :: u123 :: u124 :: u125 :: u126 :: u127 :: u128 :: u129 :: u130 :: u131 :: u132 :: u133 :: u134 :: u135 :: u136 :: u137 :: u138 :: u139 :: u140 :: u141 :: u142 :: u143 :: u144 :: u145 :: u146 :: u147 :: u148 :: u149 :: u150 :: u151 :: u152 :: u153 :: u154 :: u155 :: u156 :: u157 :: u158 :: u159 :: u160 :: undef :: []), []⟩ wr := by
  conv => arg 2; whnf
  have hlt : ¬ k < n := by omega
  go_wp2_with fail
  exact hQ.out _ _ ⟨_, _, _, _, _, _, _, _, _, _, _, _, _, _, _, _, _, _, _, _, _, _, _, _, _, _, _, _, _, _, _, _, _, _, _, _, _, _, _, _, _, _, _, _, _, _, _, _, _, _, _, _, _, _, _, _, _, _, _, _, _, _, _, _, _, _, _, _, _, _, _, _, _, _, _, _, _, _, _, _, _, _, _, _, _, _, _, _, _, _, _, _, _, _, _, _, _, _, _, _, _, _, _, _, _, _, _, _, _, _, _, _, _, _, _, _, _, _, _, _, _, _, _, _, _, _, _, _, _, _, _, _, _, _, _, _, _, _, _, _, _, _, _, _, _, _, _, _, _, _, _, k, s', hk, hk4, HA, RS', RM', BB', rfl⟩
set_option maxRecDepth 1000000 in
set_option maxHeartbeats 8000000 in
theorem z_round (s : St) (l : List Int) (w : World) (b o cp n : Nat) (hl : n ≤ 140737488355328) (hcp : n ≤ cp) (hbN : b < w.heap.size) (CL : Box' (∀ k, k < n → w.cell? ⟨b, o + k, none⟩ = some (.int .i64 (l.getD k 0)))) (AT : Box' (∀ s s' (k z : Nat), k < n → stp s (l.drop k) = (s', z) → apG s (l.drop k) = apG s' (l.drop (k + z)))) (PA : Box' (∀ s (k : Nat), n ≤ k → apG s (l.drop k) = s)) (LL : Box' (∀ k, (l.drop k).length = n - k)) (Q0 : Exit → Act → World → Prop) (hQ : Box' (∀ a' w', zX s l w b o cp n a' w' → Q0 (.exit 0) a' w')) (a : Act) (wr : World) (hI : zI s l w b o cp n a wr) :
    Code.wp Try.prog ((Try.f19.body.bind firstLoop).getD .skip) (Exit.then (fun a' w'' => zI s l w b o cp n a' w'' ∧ zMu n a' w'' < zMu n a wr) Q0) a wr := by
  unfold zI at hI
  obtain ⟨u6, hI⟩ := hI
  obtain ⟨u7, hI⟩ := hI
  obtain ⟨u12, hI⟩ := hI
  obtain ⟨u13, hI⟩ := hI
  obtain ⟨u14, hI⟩ := hI
  obtain ⟨u15, hI⟩ := hI
  obtain ⟨u16, hI⟩ := hI
  obtain ⟨u17, hI⟩ := hI
  obtain ⟨u18, hI⟩ := hI
  obtain ⟨u19, hI⟩ := hI
  obtain ⟨u20, hI⟩ := hI
  obtain ⟨u21, hI⟩ := hI
  obtain ⟨u22, hI⟩ := hI
  obtain ⟨u23, hI⟩ := hI
  obtain ⟨u24, hI⟩ := hI
  obtain ⟨u25, hI⟩ := hI
  obtain ⟨u26, hI⟩ := hI
  obtain ⟨u27, hI⟩ := hI
  obtain ⟨u28, hI⟩ := hI
  obtain ⟨u29, hI⟩ := hI
  obtain ⟨u30, hI⟩ := hI
  obtain ⟨u31, hI⟩ := hI
  obtain ⟨u32, hI⟩ := hI
  obtain ⟨u33, hI⟩ := hI
  obtain ⟨u34, hI⟩ := hI
  obtain ⟨u35, hI⟩ := hI
  obtain ⟨u36, hI⟩ := hI
  obtain ⟨u37, hI⟩ := hI
  obtain ⟨u38, hI⟩ := hI
  obtain ⟨u39, hI⟩ := hI
  obtain ⟨u40, hI⟩ := hI
  obtain ⟨u41, hI⟩ := hI
  obtain ⟨u42, hI⟩ := hI
  obtain ⟨u43, hI⟩ := hI
  obtain ⟨u44, hI⟩ := hI
  obtain ⟨u45, hI⟩ := hI
  obtain ⟨u46, hI⟩ := hI
  obtain ⟨u47, hI⟩ := hI
  obtain ⟨u48, hI⟩ := hI
  obtain ⟨u49, hI⟩ := hI
  obtain ⟨u50, hI⟩ := hI
  obtain ⟨u51, hI⟩ := hI
  obtain ⟨u52, hI⟩ := hI
  obtain ⟨u53, hI⟩ := hI
  obtain ⟨u54, hI⟩ := hI
  obtain ⟨u55, hI⟩ := hI
  obtain ⟨u56, hI⟩ := hI
  obtain ⟨u57, hI⟩ := hI
  obtain ⟨u58, hI⟩ := hI
  obtain ⟨u59, hI⟩ := hI
  obtain ⟨u60, hI⟩ := hI
  obtain ⟨u61, hI⟩ := hI
  obtain ⟨u62, hI⟩ := hI
  obtain ⟨u63, hI⟩ := hI
  obtain ⟨u64, hI⟩ := hI
  obtain ⟨u65, hI⟩ := hI
  obtain ⟨u66, hI⟩ := hI
  obtain ⟨u67, hI⟩ := hI
  obtain ⟨u68, hI⟩ := hI
  obtain ⟨u69, hI⟩ := hI
  obtain ⟨u70, hI⟩ := hI
  obtain ⟨u71, hI⟩ := hI
  obtain ⟨u72, hI⟩ := hI
  obtain ⟨u73, hI⟩ := hI
  obtain ⟨u74, hI⟩ := hI
  obtain ⟨u75, hI⟩ := hI
  obtain ⟨u76, hI⟩ := hI
  obtain ⟨u77, hI⟩ := hI
  obtain ⟨u78, hI⟩ := hI
  obtain ⟨u79, hI⟩ := hI
  obtain ⟨u80, hI⟩ := hI
  obtain ⟨u81, hI⟩ := hI
  obtain ⟨u82, hI⟩ := hI
  obtain ⟨u83, hI⟩ := hI
  obtain ⟨u84, hI⟩ := hI
  obtain ⟨u85, hI⟩ := hI
  obtain ⟨u86, hI⟩ := hI
  obtain ⟨u87, hI⟩ := hI
  obtain ⟨u88, hI⟩ := hI
  obtain ⟨u89, hI⟩ := hI
  obtain ⟨u90, hI⟩ := hI
  obtain ⟨u91, hI⟩ := hI
  obtain ⟨u92, hI⟩ := hI
  obtain ⟨u93, hI⟩ := hI
  obtain ⟨u94, hI⟩ := hI
  obtain ⟨u95, hI⟩ := hI
  obtain ⟨u96, hI⟩ := hI
  obtain ⟨u97, hI⟩ := hI
  obtain ⟨u98, hI⟩ := hI
  obtain ⟨u99, hI⟩ := hI
  obtain ⟨u100, hI⟩ := hI
  obtain ⟨u101, hI⟩ := hI
  obtain ⟨u102, hI⟩ := hI
  obtain ⟨u103, hI⟩ := hI
  obtain ⟨u104, hI⟩ := hI
  obtain ⟨u105, hI⟩ := hI
  obtain ⟨u106, hI⟩ := hI
  obtain ⟨u107, hI⟩ := hI
  obtain ⟨u108, hI⟩ := hI
  obtain ⟨u109, hI⟩ := hI
  obtain ⟨u110, hI⟩ := hI
  obtain ⟨u111, hI⟩ := hI
  obtain ⟨u112, hI⟩ := hI
  obtain ⟨u113, hI⟩ := hI
  obtain ⟨u114, hI⟩ := hI
  obtain ⟨u115, hI⟩ := hI
  obtain ⟨u116, hI⟩ := hI
  obtain ⟨u117, hI⟩ := hI
  obtain ⟨u118, hI⟩ := hI
  obtain ⟨u119, hI⟩ := hI
  obtain ⟨u120, hI⟩ := hI
  obtain ⟨u121, hI⟩ := hI
  obtain ⟨u122, hI⟩ := hI
  obtain ⟨u123, hI⟩ := hI
  obtain ⟨u124, hI⟩ := hI
  obtain ⟨u125, hI⟩ := hI
  obtain ⟨u126, hI⟩ := hI
  obtain ⟨u127, hI⟩ := hI
  obtain ⟨u128, hI⟩ := hI
  obtain ⟨u129, hI⟩ := hI
  obtain ⟨u130, hI⟩ := hI
  obtain ⟨u131, hI⟩ := hI
  obtain ⟨u132, hI⟩ := hI
  obtain ⟨u133, hI⟩ := hI
  obtain ⟨u134, hI⟩ := hI
  obtain ⟨u135, hI⟩ := hI
  obtain ⟨u136, hI⟩ := hI
  obtain ⟨u137, hI⟩ := hI
  obtain ⟨u138, hI⟩ := hI
  obtain ⟨u139, hI⟩ := hI
  obtain ⟨u140, hI⟩ := hI
  obtain ⟨u141, hI⟩ := hI
  obtain ⟨u142, hI⟩ := hI
  obtain ⟨u143, hI⟩ := hI
  obtain ⟨u144, hI⟩ := hI
  obtain ⟨u145, hI⟩ := hI
  obtain ⟨u146, hI⟩ := hI
  obtain ⟨u147, hI⟩ := hI
  obtain ⟨u148, hI⟩ := hI
  obtain ⟨u149, hI⟩ := hI
  obtain ⟨u150, hI⟩ := hI
  obtain ⟨u151, hI⟩ := hI
  obtain ⟨u152, hI⟩ := hI
  obtain ⟨u153, hI⟩ := hI
  obtain ⟨u154, hI⟩ := hI
  obtain ⟨u155, hI⟩ := hI
  obtain ⟨u156, hI⟩ := hI
  obtain ⟨u157, hI⟩ := hI
  obtain ⟨u158, hI⟩ := hI
  obtain ⟨u159, hI⟩ := hI
  obtain ⟨u160, hI⟩ := hI
  obtain ⟨k, hI⟩ := hI
  obtain ⟨s', hI⟩ := hI
  have hk4 := hI.1
  have HA := hI.2.1
  have RS' := hI.2.2.1
  have RM' := hI.2.2.2.1
  have BB' := hI.2.2.2.2.1
  have ea := hI.2.2.2.2.2
  clear hI
  subst ea
  by_cases hlt : k < n
  case neg => exact z_end s l w b o cp n k s' wr (by omega) hk4 hl HA RS' RM' BB' u6 u7 u12 u13 u14 u15 u16 u17 u18 u19 u20 u21 u22 u23 u24 u25 u26 u27 u28 u29 u30 u31 u32 u33 u34 u35 u36 u37 u38 u39 u40 u41 u42 u43 u44 u45 u46 u47 u48 u49 u50 u51 u52 u53 u54 u55 u56 u57 u58 u59 u60 u61 u62 u63 u64 u65 u66 u67 u68 u69 u70 u71 u72 u73 u74 u75 u76 u77 u78 u79 u80 u81 u82 u83 u84 u85 u86 u87 u88 u89 u90 u91 u92 u93 u94 u95 u96 u97 u98 u99 u100 u101 u102 u103 u104 u105 u106 u107 u108 u109 u110 u111 u112 u113 u114 u115 u116 u117 u118 u119 u120 u121 u122 u123 u124 u125 u126 u127 u128 u129 u130 u131 u132 u133 u134 u135 u136 u137 u138 u139 u140 u141 u142 u143 u144 u145 u146 u147 u148 u149 u150 u151 u152 u153 u154 u155 u156 u157 u158 u159 u160 _ Q0 hQ
  case pos =>
    have d0 := CL.out k hlt
    have bc := (bcell BB'.out).1
    rw [← bc _ _ hbN] at d0
    have hp := Box'.mk (drop_get l k 0)
    rw [Nat.add_zero] at hp
    have SE : Box' (∀ s2 z, stp s' (l.drop k) = (s2, z) → apG s2 (l.drop (k + z)) = apG s l) := ⟨fun s2 z h => by rw [← AT.out s' s2 k z hlt h, HA.out]⟩
    have hp1 := Box'.mk (drop_get l k 1)
    have hp2 := Box'.mk (drop_get l k 2)
    have D1 : Box' (k + 1 < n → wr.cell? ⟨b, o + (k + 1), none⟩ = some (.int .i64 (l.getD (k + 1) 0))) := ⟨fun h => by rw [bc _ _ hbN]; exact CL.out _ h⟩
    have D2 : Box' (k + 2 < n → wr.cell? ⟨b, o + (k + 2), none⟩ = some (.int .i64 (l.getD (k + 2) 0))) := ⟨fun h => by rw [bc _ _ hbN]; exact CL.out _ h⟩
    have LK := Box'.mk (LL.out k)
    have P2 : Box' (∀ s2, n ≤ k + 5 → apG s2 (l.drop (n - k + k)) = apG s2 (l.drop (k + 5))) := ⟨fun s2 h => by rw [PA.out s2 _ (by omega), PA.out s2 _ (by omega)]⟩
    generalize l.getD k 0 = p at *
    generalize l.getD (k + 1) 0 = p1 at *
    generalize l.getD (k + 2) 0 = p2 at *
    have fz : ∀ j, wr.frozen? ⟨w.heap.size, j, none⟩ = false := RS'.out.frozen
    have cz : ∀ j, wr.cell? ⟨w.heap.size, j, none⟩ = (sA s')[j]? := RS'.out.cell
    have FZ := Box'.mk fz
    have CZ := Box'.mk cz
    have MS : Box' (∀ j v, Room (wr.setCell ⟨w.heap.size, j, none⟩ v) (w.heap.size + 1) 24 10) := ⟨fun j v => RM'.out.setOther _ _ (by show w.heap.size + 1 ≠ w.heap.size; omega)⟩
    have BS : Box' (∀ j v, Below w.heap.size w (wr.setCell ⟨w.heap.size, j, none⟩ v)) := ⟨fun j v => BB'.out.setCell (Nat.le_refl _) v⟩
    rcases (show (30 ≤ p ∧ p ≤ 37) ∨ (40 ≤ p ∧ p ≤ 47) ∨ (90 ≤ p ∧ p ≤ 97) ∨ (100 ≤ p ∧ p ≤ 107) ∨ (p = 39) ∨ (p = 49) ∨ (p = 22) ∨ (p = 0) ∨ (1 ≤ p ∧ p ≤ 9) ∨ (23 ≤ p ∧ p ≤ 29) ∨ (p = 38) ∨ (p = 48) ∨ (p < 0) ∨ (10 ≤ p ∧ p ≤ 21) ∨ (50 ≤ p ∧ p ≤ 89) ∨ (98 ≤ p ∧ p ≤ 99) ∨ (108 ≤ p) by omega) with hq | hq | hq | hq | hq | hq | hq | hq | hq | hq | hq | hq | hq | hq | hq | hq | hq
    · exact z_f30 s s' l w wr b o cp n k hl hcp hk4 hlt hbN p p1 p2 RS' RM' BB' d0 hp SE hp1 hp2 D1 D2 LK P2 FZ CZ MS BS hq u6 u7 u12 u13 u14 u15 u16 u17 u18 u19 u20 u21 u22 u23 u24 u25 u26 u27 u28 u29 u30 u31 u32 u33 u34 u35 u36 u37 u38 u39 u40 u41 u42 u43 u44 u45 u46 u47 u48 u49 u50 u51 u52 u53 u54 u55 u56 u57 u58 u59 u60 u61 u62 u63 u64 u65 u66 u67 u68 u69 u70 u71 u72 u73 u74 u75 u76 u77 u78 u79 u80 u81 u82 u83 u84 u85 u86 u87 u88 u89 u90 u91 u92 u93 u94 u95 u96 u97 u98 u99 u100 u101 u102 u103 u104 u105 u106 u107 u108 u109 u110 u111 u112 u113 u114 u115 u116 u117 u118 u119 u120 u121 u122 u123 u124 u125 u126 u127 u128 u129 u130 u131 u132 u133 u134 u135 u136 u137 u138 u139 u140 u141 u142 u143 u144 u145 u146 u147 u148 u149 u150 u151 u152 u153 u154 u155 u156 u157 u158 u159 u160 Q0
    · exact z_f40 s s' l w wr b o cp n k hl hcp hk4 hlt hbN p p1 p2 RS' RM' BB' d0 hp SE hp1 hp2 D1 D2 LK P2 FZ CZ MS BS hq u6 u7 u12 u13 u14 u15 u16 u17 u18 u19 u20 u21 u22 u23 u24 u25 u26 u27 u28 u29 u30 u31 u32 u33 u34 u35 u36 u37 u38 u39 u40 u41 u42 u43 u44 u45 u46 u47 u48 u49 u50 u51 u52 u53 u54 u55 u56 u57 u58 u59 u60 u61 u62 u63 u64 u65 u66 u67 u68 u69 u70 u71 u72 u73 u74 u75 u76 u77 u78 u79 u80 u81 u82 u83 u84 u85 u86 u87 u88 u89 u90 u91 u92 u93 u94 u95 u96 u97 u98 u99 u100 u101 u102 u103 u104 u105 u106 u107 u108 u109 u110 u111 u112 u113 u114 u115 u116 u117 u118 u119 u120 u121 u122 u123 u124 u125 u126 u127 u128 u129 u130 u131 u132 u133 u134 u135 u136 u137 u138 u139 u140 u141 u142 u143 u144 u145 u146 u147 u148 u149 u150 u151 u152 u153 u154 u155 u156 u157 u158 u159 u160 Q0
    · exact z_f90 s s' l w wr b o cp n k hl hcp hk4 hlt hbN p p1 p2 RS' RM' BB' d0 hp SE hp1 hp2 D1 D2 LK P2 FZ CZ MS BS hq u6 u7 u12 u13 u14 u15 u16 u17 u18 u19 u20 u21 u22 u23 u24 u25 u26 u27 u28 u29 u30 u31 u32 u33 u34 u35 u36 u37 u38 u39 u40 u41 u42 u43 u44 u45 u46 u47 u48 u49 u50 u51 u52 u53 u54 u55 u56 u57 u58 u59 u60 u61 u62 u63 u64 u65 u66 u67 u68 u69 u70 u71 u72 u73 u74 u75 u76 u77 u78 u79 u80 u81 u82 u83 u84 u85 u86 u87 u88 u89 u90 u91 u92 u93 u94 u95 u96 u97 u98 u99 u100 u101 u102 u103 u104 u105 u106 u107 u108 u109 u110 u111 u112 u113 u114 u115 u116 u117 u118 u119 u120 u121 u122 u123 u124 u125 u126 u127 u128 u129 u130 u131 u132 u133 u134 u135 u136 u137 u138 u139 u140 u141 u142 u143 u144 u145 u146 u147 u148 u149 u150 u151 u152 u153 u154 u155 u156 u157 u158 u159 u160 Q0
    · exact z_f100 s s' l w wr b o cp n k hl hcp hk4 hlt hbN p p1 p2 RS' RM' BB' d0 hp SE hp1 hp2 D1 D2 LK P2 FZ CZ MS BS hq u6 u7 u12 u13 u14 u15 u16 u17 u18 u19 u20 u21 u22 u23 u24 u25 u26 u27 u28 u29 u30 u31 u32 u33 u34 u35 u36 u37 u38 u39 u40 u41 u42 u43 u44 u45 u46 u47 u48 u49 u50 u51 u52 u53 u54 u55 u56 u57 u58 u59 u60 u61 u62 u63 u64 u65 u66 u67 u68 u69 u70 u71 u72 u73 u74 u75 u76 u77 u78 u79 u80 u81 u82 u83 u84 u85 u86 u87 u88 u89 u90 u91 u92 u93 u94 u95 u96 u97 u98 u99 u100 u101 u102 u103 u104 u105 u106 u107 u108 u109 u110 u111 u112 u113 u114 u115 u116 u117 u118 u119 u120 u121 u122 u123 u124 u125 u126 u127 u128 u129 u130 u131 u132 u133 u134 u135 u136 u137 u138 u139 u140 u141 u142 u143 u144 u145 u146 u147 u148 u149 u150 u151 u152 u153 u154 u155 u156 u157 u158 u159 u160 Q0
    · exact z_e39 s s' l w wr b o cp n k hl hcp hk4 hlt hbN p p1 p2 RS' RM' BB' d0 hp SE hp1 hp2 D1 D2 LK P2 FZ CZ MS BS hq u6 u7 u12 u13 u14 u15 u16 u17 u18 u19 u20 u21 u22 u23 u24 u25 u26 u27 u28 u29 u30 u31 u32 u33 u34 u35 u36 u37 u38 u39 u40 u41 u42 u43 u44 u45 u46 u47 u48 u49 u50 u51 u52 u53 u54 u55 u56 u57 u58 u59 u60 u61 u62 u63 u64 u65 u66 u67 u68 u69 u70 u71 u72 u73 u74 u75 u76 u77 u78 u79 u80 u81 u82 u83 u84 u85 u86 u87 u88 u89 u90 u91 u92 u93 u94 u95 u96 u97 u98 u99 u100 u101 u102 u103 u104 u105 u106 u107 u108 u109 u110 u111 u112 u113 u114 u115 u116 u117 u118 u119 u120 u121 u122 u123 u124 u125 u126 u127 u128 u129 u130 u131 u132 u133 u134 u135 u136 u137 u138 u139 u140 u141 u142 u143 u144 u145 u146 u147 u148 u149 u150 u151 u152 u153 u154 u155 u156 u157 u158 u159 u160 Q0
    · exact z_e49 s s' l w wr b o cp n k hl hcp hk4 hlt hbN p p1 p2 RS' RM' BB' d0 hp SE hp1 hp2 D1 D2 LK P2 FZ CZ MS BS hq u6 u7 u12 u13 u14 u15 u16 u17 u18 u19 u20 u21 u22 u23 u24 u25 u26 u27 u28 u29 u30 u31 u32 u33 u34 u35 u36 u37 u38 u39 u40 u41 u42 u43 u44 u45 u46 u47 u48 u49 u50 u51 u52 u53 u54 u55 u56 u57 u58 u59 u60 u61 u62 u63 u64 u65 u66 u67 u68 u69 u70 u71 u72 u73 u74 u75 u76 u77 u78 u79 u80 u81 u82 u83 u84 u85 u86 u87 u88 u89 u90 u91 u92 u93 u94 u95 u96 u97 u98 u99 u100 u101 u102 u103 u104 u105 u106 u107 u108 u109 u110 u111 u112 u113 u114 u115 u116 u117 u118 u119 u120 u121 u122 u123 u124 u125 u126 u127 u128 u129 u130 u131 u132 u133 u134 u135 u136 u137 u138 u139 u140 u141 u142 u143 u144 u145 u146 u147 u148 u149 u150 u151 u152 u153 u154 u155 u156 u157 u158 u159 u160 Q0
    · exact z_e22 s s' l w wr b o cp n k hl hcp hk4 hlt hbN p p1 p2 RS' RM' BB' d0 hp SE hp1 hp2 D1 D2 LK P2 FZ CZ MS BS hq u6 u7 u12 u13 u14 u15 u16 u17 u18 u19 u20 u21 u22 u23 u24 u25 u26 u27 u28 u29 u30 u31 u32 u33 u34 u35 u36 u37 u38 u39 u40 u41 u42 u43 u44 u45 u46 u47 u48 u49 u50 u51 u52 u53 u54 u55 u56 u57 u58 u59 u60 u61 u62 u63 u64 u65 u66 u67 u68 u69 u70 u71 u72 u73 u74 u75 u76 u77 u78 u79 u80 u81 u82 u83 u84 u85 u86 u87 u88 u89 u90 u91 u92 u93 u94 u95 u96 u97 u98 u99 u100 u101 u102 u103 u104 u105 u106 u107 u108 u109 u110 u111 u112 u113 u114 u115 u116 u117 u118 u119 u120 u121 u122 u123 u124 u125 u126 u127 u128 u129 u130 u131 u132 u133 u134 u135 u136 u137 u138 u139 u140 u141 u142 u143 u144 u145 u146 u147 u148 u149 u150 u151 u152 u153 u154 u155 u156 u157 u158 u159 u160 Q0
    · exact z_e0 s s' l w wr b o cp n k hl hcp hk4 hlt hbN p p1 p2 RS' RM' BB' d0 hp SE hp1 hp2 D1 D2 LK P2 FZ CZ MS BS hq u6 u7 u12 u13 u14 u15 u16 u17 u18 u19 u20 u21 u22 u23 u24 u25 u26 u27 u28 u29 u30 u31 u32 u33 u34 u35 u36 u37 u38 u39 u40 u41 u42 u43 u44 u45 u46 u47 u48 u49 u50 u51 u52 u53 u54 u55 u56 u57 u58 u59 u60 u61 u62 u63 u64 u65 u66 u67 u68 u69 u70 u71 u72 u73 u74 u75 u76 u77 u78 u79 u80 u81 u82 u83 u84 u85 u86 u87 u88 u89 u90 u91 u92 u93 u94 u95 u96 u97 u98 u99 u100 u101 u102 u103 u104 u105 u106 u107 u108 u109 u110 u111 u112 u113 u114 u115 u116 u117 u118 u119 u120 u121 u122 u123 u124 u125 u126 u127 u128 u129 u130 u131 u132 u133 u134 u135 u136 u137 u138 u139 u140 u141 u142 u143 u144 u145 u146 u147 u148 u149 u150 u151 u152 u153 u154 u155 u156 u157 u158 u159 u160 Q0
    · exact z_fl1 s s' l w wr b o cp n k hl hcp hk4 hlt hbN p p1 p2 RS' RM' BB' d0 hp SE hp1 hp2 D1 D2 LK P2 FZ CZ MS BS hq u6 u7 u12 u13 u14 u15 u16 u17 u18 u19 u20 u21 u22 u23 u24 u25 u26 u27 u28 u29 u30 u31 u32 u33 u34 u35 u36 u37 u38 u39 u40 u41 u42 u43 u44 u45 u46 u47 u48 u49 u50 u51 u52 u53 u54 u55 u56 u57 u58 u59 u60 u61 u62 u63 u64 u65 u66 u67 u68 u69 u70 u71 u72 u73 u74 u75 u76 u77 u78 u79 u80 u81 u82 u83 u84 u85 u86 u87 u88 u89 u90 u91 u92 u93 u94 u95 u96 u97 u98 u99 u100 u101 u102 u103 u104 u105 u106 u107 u108 u109 u110 u111 u112 u113 u114 u115 u116 u117 u118 u119 u120 u121 u122 u123 u124 u125 u126 u127 u128 u129 u130 u131 u132 u133 u134 u135 u136 u137 u138 u139 u140 u141 u142 u143 u144 u145 u146 u147 u148 u149 u150 u151 u152 u153 u154 u155 u156 u157 u158 u159 u160 Q0
    · exact z_fl23 s s' l w wr b o cp n k hl hcp hk4 hlt hbN p p1 p2 RS' RM' BB' d0 hp SE hp1 hp2 D1 D2 LK P2 FZ CZ MS BS hq u6 u7 u12 u13 u14 u15 u16 u17 u18 u19 u20 u21 u22 u23 u24 u25 u26 u27 u28 u29 u30 u31 u32 u33 u34 u35 u36 u37 u38 u39 u40 u41 u42 u43 u44 u45 u46 u47 u48 u49 u50 u51 u52 u53 u54 u55 u56 u57 u58 u59 u60 u61 u62 u63 u64 u65 u66 u67 u68 u69 u70 u71 u72 u73 u74 u75 u76 u77 u78 u79 u80 u81 u82 u83 u84 u85 u86 u87 u88 u89 u90 u91 u92 u93 u94 u95 u96 u97 u98 u99 u100 u101 u102 u103 u104 u105 u106 u107 u108 u109 u110 u111 u112 u113 u114 u115 u116 u117 u118 u119 u120 u121 u122 u123 u124 u125 u126 u127 u128 u129 u130 u131 u132 u133 u134 u135 u136 u137 u138 u139 u140 u141 u142 u143 u144 u145 u146 u147 u148 u149 u150 u151 u152 u153 u154 u155 u156 u157 u158 u159 u160 Q0
    · exact z_l38 s s' l w wr b o cp n k hl hcp hk4 hlt hbN p p1 p2 RS' RM' BB' d0 hp SE hp1 hp2 D1 D2 LK P2 FZ CZ MS BS hq u6 u7 u12 u13 u14 u15 u16 u17 u18 u19 u20 u21 u22 u23 u24 u25 u26 u27 u28 u29 u30 u31 u32 u33 u34 u35 u36 u37 u38 u39 u40 u41 u42 u43 u44 u45 u46 u47 u48 u49 u50 u51 u52 u53 u54 u55 u56 u57 u58 u59 u60 u61 u62 u63 u64 u65 u66 u67 u68 u69 u70 u71 u72 u73 u74 u75 u76 u77 u78 u79 u80 u81 u82 u83 u84 u85 u86 u87 u88 u89 u90 u91 u92 u93 u94 u95 u96 u97 u98 u99 u100 u101 u102 u103 u104 u105 u106 u107 u108 u109 u110 u111 u112 u113 u114 u115 u116 u117 u118 u119 u120 u121 u122 u123 u124 u125 u126 u127 u128 u129 u130 u131 u132 u133 u134 u135 u136 u137 u138 u139 u140 u141 u142 u143 u144 u145 u146 u147 u148 u149 u150 u151 u152 u153 u154 u155 u156 u157 u158 u159 u160 Q0
    · exact z_l48 s s' l w wr b o cp n k hl hcp hk4 hlt hbN p p1 p2 RS' RM' BB' d0 hp SE hp1 hp2 D1 D2 LK P2 FZ CZ MS BS hq u6 u7 u12 u13 u14 u15 u16 u17 u18 u19 u20 u21 u22 u23 u24 u25 u26 u27 u28 u29 u30 u31 u32 u33 u34 u35 u36 u37 u38 u39 u40 u41 u42 u43 u44 u45 u46 u47 u48 u49 u50 u51 u52 u53 u54 u55 u56 u57 u58 u59 u60 u61 u62 u63 u64 u65 u66 u67 u68 u69 u70 u71 u72 u73 u74 u75 u76 u77 u78 u79 u80 u81 u82 u83 u84 u85 u86 u87 u88 u89 u90 u91 u92 u93 u94 u95 u96 u97 u98 u99 u100 u101 u102 u103 u104 u105 u106 u107 u108 u109 u110 u111 u112 u113 u114 u115 u116 u117 u118 u119 u120 u121 u122 u123 u124 u125 u126 u127 u128 u129 u130 u131 u132 u133 u134 u135 u136 u137 u138 u139 u140 u141 u142 u143 u144 u145 u146 u147 u148 u149 u150 u151 u152 u153 u154 u155 u156 u157 u158 u159 u160 Q0
    · exact z_r0 s s' l w wr b o cp n k hl hcp hk4 hlt hbN p p1 p2 RS' RM' BB' d0 hp SE hp1 hp2 D1 D2 LK P2 FZ CZ MS BS hq u6 u7 u12 u13 u14 u15 u16 u17 u18 u19 u20 u21 u22 u23 u24 u25 u26 u27 u28 u29 u30 u31 u32 u33 u34 u35 u36 u37 u38 u39 u40 u41 u42 u43 u44 u45 u46 u47 u48 u49 u50 u51 u52 u53 u54 u55 u56 u57 u58 u59 u60 u61 u62 u63 u64 u65 u66 u67 u68 u69 u70 u71 u72 u73 u74 u75 u76 u77 u78 u79 u80 u81 u82 u83 u84 u85 u86 u87 u88 u89 u90 u91 u92 u93 u94 u95 u96 u97 u98 u99 u100 u101 u102 u103 u104 u105 u106 u107 u108 u109 u110 u111 u112 u113 u114 u115 u116 u117 u118 u119 u120 u121 u122 u123 u124 u125 u126 u127 u128 u129 u130 u131 u132 u133 u134 u135 u136 u137 u138 u139 u140 u141 u142 u143 u144 u145 u146 u147 u148 u149 u150 u151 u152 u153 u154 u155 u156 u157 u158 u159 u160 Q0
    · exact z_r10 s s' l w wr b o cp n k hl hcp hk4 hlt hbN p p1 p2 RS' RM' BB' d0 hp SE hp1 hp2 D1 D2 LK P2 FZ CZ MS BS hq u6 u7 u12 u13 u14 u15 u16 u17 u18 u19 u20 u21 u22 u23 u24 u25 u26 u27 u28 u29 u30 u31 u32 u33 u34 u35 u36 u37 u38 u39 u40 u41 u42 u43 u44 u45 u46 u47 u48 u49 u50 u51 u52 u53 u54 u55 u56 u57 u58 u59 u60 u61 u62 u63 u64 u65 u66 u67 u68 u69 u70 u71 u72 u73 u74 u75 u76 u77 u78 u79 u80 u81 u82 u83 u84 u85 u86 u87 u88 u89 u90 u91 u92 u93 u94 u95 u96 u97 u98 u99 u100 u101 u102 u103 u104 u105 u106 u107 u108 u109 u110 u111 u112 u113 u114 u115 u116 u117 u118 u119 u120 u121 u122 u123 u124 u125 u126 u127 u128 u129 u130 u131 u132 u133 u134 u135 u136 u137 u138 u139 u140 u141 u142 u143 u144 u145 u146 u147 u148 u149 u150 u151 u152 u153 u154 u155 u156 u157 u158 u159 u160 Q0
    · exact z_r50 s s' l w wr b o cp n k hl hcp hk4 hlt hbN p p1 p2 RS' RM' BB' d0 hp SE hp1 hp2 D1 D2 LK P2 FZ CZ MS BS hq u6 u7 u12 u13 u14 u15 u16 u17 u18 u19 u20 u21 u22 u23 u24 u25 u26 u27 u28 u29 u30 u31 u32 u33 u34 u35 u36 u37 u38 u39 u40 u41 u42 u43 u44 u45 u46 u47 u48 u49 u50 u51 u52 u53 u54 u55 u56 u57 u58 u59 u60 u61 u62 u63 u64 u65 u66 u67 u68 u69 u70 u71 u72 u73 u74 u75 u76 u77 u78 u79 u80 u81 u82 u83 u84 u85 u86 u87 u88 u89 u90 u91 u92 u93 u94 u95 u96 u97 u98 u99 u100 u101 u102 u103 u104 u105 u106 u107 u108 u109 u110 u111 u112 u113 u114 u115 u116 u117 u118 u119 u120 u121 u122 u123 u124 u125 u126 u127 u128 u129 u130 u131 u132 u133 u134 u135 u136 u137 u138 u139 u140 u141 u142 u143 u144 u145 u146 u147 u148 u149 u150 u151 u152 u153 u154 u155 u156 u157 u158 u159 u160 Q0
    · exact z_r98 s s' l w wr b o cp n k hl hcp hk4 hlt hbN p p1 p2 RS' RM' BB' d0 hp SE hp1 hp2 D1 D2 LK P2 FZ CZ MS BS hq u6 u7 u12 u13 u14 u15 u16 u17 u18 u19 u20 u21 u22 u23 u24 u25 u26 u27 u28 u29 u30 u31 u32 u33 u34 u35 u36 u37 u38 u39 u40 u41 u42 u43 u44 u45 u46 u47 u48 u49 u50 u51 u52 u53 u54 u55 u56 u57 u58 u59 u60 u61 u62 u63 u64 u65 u66 u67 u68 u69 u70 u71 u72 u73 u74 u75 u76 u77 u78 u79 u80 u81 u82 u83 u84 u85 u86 u87 u88 u89 u90 u91 u92 u93 u94 u95 u96 u97 u98 u99 u100 u101 u102 u103 u104 u105 u106 u107 u108 u109 u110 u111 u112 u113 u114 u115 u116 u117 u118 u119 u120 u121 u122 u123 u124 u125 u126 u127 u128 u129 u130 u131 u132 u133 u134 u135 u136 u137 u138 u139 u140 u141 u142 u143 u144 u145 u146 u147 u148 u149 u150 u151 u152 u153 u154 u155 u156 u157 u158 u159 u160 Q0
    · exact z_r108 s s' l w wr b o cp n k hl hcp hk4 hlt hbN p p1 p2 RS' RM' BB' d0 hp SE hp1 hp2 D1 D2 LK P2 FZ CZ MS BS hq u6 u7 u12 u13 u14 u15 u16 u17 u18 u19 u20 u21 u22 u23 u24 u25 u26 u27 u28 u29 u30 u31 u32 u33 u34 u35 u36 u37 u38 u39 u40 u41 u42 u43 u44 u45 u46 u47 u48 u49 u50 u51 u52 u53 u54 u55 u56 u57 u58 u59 u60 u61 u62 u63 u64 u65 u66 u67 u68 u69 u70 u71 u72 u73 u74 u75 u76 u77 u78 u79 u80 u81 u82 u83 u84 u85 u86 u87 u88 u89 u90 u91 u92 u93 u94 u95 u96 u97 u98 u99 u100 u101 u102 u103 u104 u105 u106 u107 u108 u109 u110 u111 u112 u113 u114 u115 u116 u117 u118 u119 u120 u121 u122 u123 u124 u125 u126 u127 u128 u129 u130 u131 u132 u133 u134 u135 u136 u137 u138 u139 u140 u141 u142 u143 u144 u145 u146 u147 u148 u149 u150 u151 u152 u153 u154 u155 u156 u157 u158 u159 u160 Q0
set_option maxRecDepth 1000000 in
theorem z_loop (s : St) (l : List Int) (w : World) (b o cp n : Nat) (hl : n ≤ 140737488355328) (hcp : n ≤ cp) (hbN : b < w.heap.size) (CL : Box' (∀ k, k < n → w.cell? ⟨b, o + k, none⟩ = some (.int .i64 (l.getD k 0)))) (AT : Box' (∀ s s' (k z : Nat), k < n → stp s (l.drop k) = (s', z) → apG s (l.drop k) = apG s' (l.drop (k + z)))) (PA : Box' (∀ s (k : Nat), n ≤ k → apG s (l.drop k) = s)) (LL : Box' (∀ k, (l.drop k).length = n - k)) (u6 u7 u12 u13 u14 u15 u16 u17 u18 u19 u20 u21 u22 u23 u24 u25 u26 u27 u28 u29 u30 u31 u32 u33 u34 u35 u36 u37 u38 u39 u40 u41 u42 u43 u44 u45 u46 u47 u48 u49 u50 u51 u52 u53 u54 u55 u56 u57 u58 u59 u60 u61 u62 u63 u64 u65 u66 u67 u68 u69 u70 u71 u72 u73 u74 u75 u76 u77 u78 u79 u80 u81 u82 u83 u84 u85 u86 u87 u88 u89 u90 u91 u92 u93 u94 u95 u96 u97 u98 u99 u100 u101 u102 u103 u104 u105 u106 u107 u108 u109 u110 u111 u112 u113 u114 u115 u116 u117 u118 u119 u120 u121 u122 u123 u124 u125 u126 u127 u128 u129 u130 u131 u132 u133 u134 u135 u136 u137 u138 u139 u140 u141 u142 u143 u144 u145 u146 u147 u148 u149 u150 u151 u152 u153 u154 u155 u156 u157 u158 u159 u160 : Value) (wr : World) (RS : Box' (Row wr w.heap.size 24 (sA s))) (RM : Box' (Room wr (w.heap.size + 1) 24 10)) (BB : Box' (Below w.heap.size w wr)) (Q0 : Exit → Act → World → Prop) (hQ : Box' (∀ a' w', zX s l w b o cp n a' w' → Q0 (.exit 0) a' w')) :
    Code.wp Try.prog (Code.loop ((Try.f19.body.bind firstLoop).getD .skip)) Q0 ⟨List.toArray (.agg (sA s) :: .slice (some ⟨b, o, none⟩) n cp :: .pointer (some ⟨w.heap.size, 0, none⟩) :: undef :: .pointer (some ⟨w.heap.size + 1, 0, none⟩) :: .int .i64 0 :: u6 :: u7 :: .slice (some ⟨b, o, none⟩) n cp :: .int .i64 (n : Int) :: .bool false :: undef :: u12 :: u13 :: u14 :: u15 :: u16 :: u17 :: u18 :: u19 :: u20 :: u21 :: u22 :: u23 :: u24 :: u25 :: u26 :: u27 :: u28 :: u29 :: u30 :: u31 :: u32 :: u33 :: u34 :: u35 :: u36 :: u37 :: u38 :: u39 :: u40 :: u41 :: u42 :: u43 :: u44 :: u45 :: u46 :: u47 :: u48 :: u49 :: u50 :: u51 :: u52 :: u53 :: u54 :: u55 :: u56 :: u57 :: u58 :: u59 :: u60 :: u61 :: u62 :: u63 :: u64 :: u65 :: u66 :: u67 :: u68 :: u69 :: u70 :: u71 :: u72 :: u73 :: u74 :: u75 :: u76 :: u77 :: u78 :: u79 :: u80 :: u81 :: u82 :: u83 :: u84 :: u85 :: u86 :: u87 :: u88 :: u89 :: u90 :: u91 :: u92 :: u93 :: u94 :: u95 :: u96 :: u97 :: u98 :: u99 :: u100 :: u101 :: u102 :: u103 :: u104 :: u105 :: u106 :: u107 :: u108 :: u109 :: u110 :: u111 :: u112 :: u113 :: u114 :: u115 :: u116 :: u117 :: u118 :: u119 :: u120 :: u121 :: u122 :: u123 :: u124 :: u125 :: u126 :: u127 :: u128 :: u129 :: u130 :: u131 :: u132 :: u133 :: u134 :: u135 :: u136 :: u137 :: u138 :: u139 :: u140 :: u141 :: u142 :: u143 :: u144 :: u145 :: u146 :: u147 :: u148 :: u149 :: u150 :: u151 :: u152 :: u153 :: u154 :: u155 :: u156 :: u157 :: u158 :: u159 :: u160 :: undef :: []), []⟩ wr :=
  wp_loop (zI s l w b o cp n) (zMu n) ⟨u6, u7, u12, u13, u14, u15, u16, u17, u18, u19, u20, u21, u22, u23, u24, u25, u26, u27, u28, u29, u30, u31, u32, u33, u34, u35, u36, u37, u38, u39, u40, u41, u42, u43, u44, u45, u46, u47, u48, u49, u50, u51, u52, u53, u54, u55, u56, u57, u58, u59, u60, u61, u62, u63, u64, u65, u66, u67, u68, u69, u70, u71, u72, u73, u74, u75, u76, u77, u78, u79, u80, u81, u82, u83, u84, u85, u86, u87, u88, u89, u90, u91, u92, u93, u94, u95, u96, u97, u98, u99, u100, u101, u102, u103, u104, u105, u106, u107, u108, u109, u110, u111, u112, u113, u114, u115, u116, u117, u118, u119, u120, u121, u122, u123, u124, u125, u126, u127, u128, u129, u130, u131, u132, u133, u134, u135, u136, u137, u138, u139, u140, u141, u142, u143, u144, u145, u146, u147, u148, u149, u150, u151, u152, u153, u154, u155, u156, u157, u158, u159, u160, 0, s, Nat.zero_le _, ⟨by rw [List.drop_zero]⟩, RS, RM, BB, rfl⟩ (fun a w'' hI => z_round s l w b o cp n hl hcp hbN CL AT PA LL Q0 hQ a w'' hI)
set_option maxRecDepth 100000 in
set_option maxHeartbeats 8000000 in
theorem refApply_any (s : St) (v : Value) (l : List Int) (hl : l.length ≤ 140737488355328) (w : World) (h : Is w.heap.size w v l) :
    Calls Try.prog 19 #[.agg (sA s), v] w fun e w' => e = .returned (.agg (sA (apF s l))) ∧ Below w.heap.size w w' := by
  have H := Box'.mk h
  have S24 := Box'.mk s24
  have RS : Box' (Row ((w.alloc (.cells (sA s) 24)).alloc (.cells #[.int .i64 0, .int .i64 0, .bool false, .bool false, .bool false, .bool false, .bool false, .bool false, .bool false, .bool false] 24)) w.heap.size 24 (sA s)) := ⟨(Row.new _ _ _).alloc _⟩
  have RM : Box' (Room ((w.alloc (.cells (sA s) 24)).alloc (.cells #[.int .i64 0, .int .i64 0, .bool false, .bool false, .bool false, .bool false, .bool false, .bool false, .bool false, .bool false] 24)) (w.heap.size + 1) 24 10) := ⟨Room.made _ _ _ _ _ rfl (by simp)⟩
  have BB : Box' (Below w.heap.size w ((w.alloc (.cells (sA s) 24)).alloc (.cells #[.int .i64 0, .int .i64 0, .bool false, .bool false, .bool false, .bool false, .bool false, .bool false, .bool false, .bool false] 24))) := ⟨((Below.refl w.heap.size w).alloc (Nat.le_refl _) _).alloc (by simp) _⟩
  have SZ : Box' (w.heap.size + 2 ≤ ((w.alloc (.cells (sA s) 24)).alloc (.cells #[.int .i64 0, .int .i64 0, .bool false, .bool false, .bool false, .bool false, .bool false, .bool false, .bool false, .bool false] 24)).heap.size) := ⟨by simp⟩
  have U24 := Box'.mk Try.underlying24
  obtain ⟨a, cp, rfl, hcp, h3⟩ := h
  rcases h3 with h0 | ⟨b, o, rfl, hbN, hcl⟩
  · subst h0
    clear hcp hl
    have O := Box'.mk (one10 pl)
    have E : Box' (apF s [] = pl) := ⟨rfl⟩
    simp only [List.length_nil]
    go_enter Try.func19, Try.ntmps19
    go_wp2_with fail
    have PL := Box'.mk (refPlain_any ((w.alloc (.cells (sA s) 24)).alloc (.cells #[.int .i64 0, .int .i64 0, .bool false, .bool false, .bool false, .bool false, .bool false, .bool false, .bool false, .bool false] 24)))
    refine PL.out.mono ?_
    rintro e w1 ⟨rfl, hb1⟩
    have R1 := Box'.mk (RM.out.below hb1 (Nat.lt_of_lt_of_le (by omega) SZ.out))
    have B1 := Box'.mk (BB.out.trans (hb1.mono BB.out.size))
    clear PL RS RM BB SZ H
    go_wp2_with (first
      | (refine wpList_store_row rfl 24 (.tmp 4) (.tmp 11) rfl (w.heap.size + 1) rfl (sA pl) rfl 24 10 R1.out S24.out rfl O.out ?_))
    exact bodyPost_ret (results19 _ (w.heap.size + 1) rfl _ _ (R1.out.setRow _) rfl) rfl ⟨by rw [E.out], below_setRow B1.out (by omega) _⟩
  · by_cases h0 : l = []
    · subst h0
      clear hcp hl hcl
      have O := Box'.mk (one10 pl)
      have E : Box' (apF s [] = pl) := ⟨rfl⟩
      simp only [List.length_nil]
      go_enter Try.func19, Try.ntmps19
      go_wp2_with fail
      have PL := Box'.mk (refPlain_any ((w.alloc (.cells (sA s) 24)).alloc (.cells #[.int .i64 0, .int .i64 0, .bool false, .bool false, .bool false, .bool false, .bool false, .bool false, .bool false, .bool false] 24)))
      refine PL.out.mono ?_
      rintro e w1 ⟨rfl, hb1⟩
      have R1 := Box'.mk (RM.out.below hb1 (Nat.lt_of_lt_of_le (by omega) SZ.out))
      have B1 := Box'.mk (BB.out.trans (hb1.mono BB.out.size))
      clear PL RS RM BB SZ H
      go_wp2_with (first
        | (refine wpList_store_row rfl 24 (.tmp 4) (.tmp 11) rfl (w.heap.size + 1) rfl (sA pl) rfl 24 10 R1.out S24.out rfl O.out ?_))
      exact bodyPost_ret (results19 _ (w.heap.size + 1) rfl _ _ (R1.out.setRow _) rfl) rfl ⟨by rw [E.out], below_setRow B1.out (by omega) _⟩
    have E : Box' (apF s l = apG s l) := ⟨if_neg h0⟩
    have h0n : 0 < l.length := List.length_pos_iff.2 h0
    have CL : Box' (∀ k, k < l.length → w.cell? ⟨b, o + k, none⟩ = some (.int .i64 (l.getD k 0))) := ⟨hcl⟩
    have AT : Box' (∀ s s' (k z : Nat), k < l.length → stp s (l.drop k) = (s', z) → apG s (l.drop k) = apG s' (l.drop (k + z))) := ⟨fun s s' k z => apG_at s s' l k z⟩
    have PA : Box' (∀ s (k : Nat), l.length ≤ k → apG s (l.drop k) = s) := ⟨fun s k => apG_past s l k⟩
    have LL : Box' (∀ k, (l.drop k).length = l.length - k) := ⟨fun k => List.length_drop⟩
    obtain ⟨n, hn⟩ : ∃ n, l.length = n := ⟨_, rfl⟩
    rw [hn] at hl hcp h0n CL AT PA LL ⊢
    clear hn h0 H hcl
    have i0 : ((n : Int) == 0) = false := by rw [beq_eq_false_iff_ne]; omega
    go_enter Try.func19, Try.ntmps19
    go_wp2_with fail
    generalize ((w.alloc (.cells (sA s) 24)).alloc (.cells #[.int .i64 0, .int .i64 0, .bool false, .bool false, .bool false, .bool false, .bool false, .bool false, .bool false, .bool false] 24)) = wa at *
    refine z_loop s l w b o cp n hl hcp hbN CL AT PA LL _ _ _ _ _ _ _ _ _ _ _ _ _ _ _ _ _ _ _ _ _ _ _ _ _ _ _ _ _ _ _ _ _ _ _ _ _ _ _ _ _ _ _ _ _ _ _ _ _ _ _ _ _ _ _ _ _ _ _ _ _ _ _ _ _ _ _ _ _ _ _ _ _ _ _ _ _ _ _ _ _ _ _ _ _ _ _ _ _ _ _ _ _ _ _ _ _ _ _ _ _ _ _ _ _ _ _ _ _ _ _ _ _ _ _ _ _ _ _ _ _ _ _ _ _ _ _ _ _ _ _ _ _ _ _ _ _ _ _ _ _ _ _ _ _ _ _ _ _ _ _ wa RS RM BB _ (Box'.mk ?_)
    rintro a' w5 hX
    unfold zX at hX
    obtain ⟨u6, hX⟩ := hX
    obtain ⟨u7, hX⟩ := hX
    obtain ⟨u12, hX⟩ := hX
    obtain ⟨u13, hX⟩ := hX
    obtain ⟨u14, hX⟩ := hX
    obtain ⟨u15, hX⟩ := hX
    obtain ⟨u16, hX⟩ := hX
    obtain ⟨u17, hX⟩ := hX
    obtain ⟨u18, hX⟩ := hX
    obtain ⟨u19, hX⟩ := hX
    obtain ⟨u20, hX⟩ := hX
    obtain ⟨u21, hX⟩ := hX
    obtain ⟨u22, hX⟩ := hX
    obtain ⟨u23, hX⟩ := hX
    obtain ⟨u24, hX⟩ := hX
    obtain ⟨u25, hX⟩ := hX
    obtain ⟨u26, hX⟩ := hX
    obtain ⟨u27, hX⟩ := hX
    obtain ⟨u28, hX⟩ := hX
    obtain ⟨u29, hX⟩ := hX
    obtain ⟨u30, hX⟩ := hX
    obtain ⟨u31, hX⟩ := hX
    obtain ⟨u32, hX⟩ := hX
    obtain ⟨u33, hX⟩ := hX
    obtain ⟨u34, hX⟩ := hX
    obtain ⟨u35, hX⟩ := hX
    obtain ⟨u36, hX⟩ := hX
    obtain ⟨u37, hX⟩ := hX
    obtain ⟨u38, hX⟩ := hX
    obtain ⟨u39, hX⟩ := hX
    obtain ⟨u40, hX⟩ := hX
    obtain ⟨u41, hX⟩ := hX
    obtain ⟨u42, hX⟩ := hX
    obtain ⟨u43, hX⟩ := hX
    obtain ⟨u44, hX⟩ := hX
    obtain ⟨u45, hX⟩ := hX
    obtain ⟨u46, hX⟩ := hX
    obtain ⟨u47, hX⟩ := hX
    obtain ⟨u48, hX⟩ := hX
    obtain ⟨u49, hX⟩ := hX
    obtain ⟨u50, hX⟩ := hX
    obtain ⟨u51, hX⟩ := hX
    obtain ⟨u52, hX⟩ := hX
    obtain ⟨u53, hX⟩ := hX
    obtain ⟨u54, hX⟩ := hX
    obtain ⟨u55, hX⟩ := hX
    obtain ⟨u56, hX⟩ := hX
    obtain ⟨u57, hX⟩ := hX
    obtain ⟨u58, hX⟩ := hX
    obtain ⟨u59, hX⟩ := hX
    obtain ⟨u60, hX⟩ := hX
    obtain ⟨u61, hX⟩ := hX
    obtain ⟨u62, hX⟩ := hX
    obtain ⟨u63, hX⟩ := hX
    obtain ⟨u64, hX⟩ := hX
    obtain ⟨u65, hX⟩ := hX
    obtain ⟨u66, hX⟩ := hX
    obtain ⟨u67, hX⟩ := hX
    obtain ⟨u68, hX⟩ := hX
    obtain ⟨u69, hX⟩ := hX
    obtain ⟨u70, hX⟩ := hX
    obtain ⟨u71, hX⟩ := hX
    obtain ⟨u72, hX⟩ := hX
    obtain ⟨u73, hX⟩ := hX
    obtain ⟨u74, hX⟩ := hX
    obtain ⟨u75, hX⟩ := hX
    obtain ⟨u76, hX⟩ := hX
    obtain ⟨u77, hX⟩ := hX
    obtain ⟨u78, hX⟩ := hX
    obtain ⟨u79, hX⟩ := hX
    obtain ⟨u80, hX⟩ := hX
    obtain ⟨u81, hX⟩ := hX
    obtain ⟨u82, hX⟩ := hX
    obtain ⟨u83, hX⟩ := hX
    obtain ⟨u84, hX⟩ := hX
    obtain ⟨u85, hX⟩ := hX
    obtain ⟨u86, hX⟩ := hX
    obtain ⟨u87, hX⟩ := hX
    obtain ⟨u88, hX⟩ := hX
    obtain ⟨u89, hX⟩ := hX
    obtain ⟨u90, hX⟩ := hX
    obtain ⟨u91, hX⟩ := hX
    obtain ⟨u92, hX⟩ := hX
    obtain ⟨u93, hX⟩ := hX
    obtain ⟨u94, hX⟩ := hX
    obtain ⟨u95, hX⟩ := hX
    obtain ⟨u96, hX⟩ := hX
    obtain ⟨u97, hX⟩ := hX
    obtain ⟨u98, hX⟩ := hX
    obtain ⟨u99, hX⟩ := hX
    obtain ⟨u100, hX⟩ := hX
    obtain ⟨u101, hX⟩ := hX
    obtain ⟨u102, hX⟩ := hX
    obtain ⟨u103, hX⟩ := hX
    obtain ⟨u104, hX⟩ := hX
    obtain ⟨u105, hX⟩ := hX
    obtain ⟨u106, hX⟩ := hX
    obtain ⟨u107, hX⟩ := hX
    obtain ⟨u108, hX⟩ := hX
    obtain ⟨u109, hX⟩ := hX
    obtain ⟨u110, hX⟩ := hX
    obtain ⟨u111, hX⟩ := hX
    obtain ⟨u112, hX⟩ := hX
    obtain ⟨u113, hX⟩ := hX
    obtain ⟨u114, hX⟩ := hX
    obtain ⟨u115, hX⟩ := hX
    obtain ⟨u116, hX⟩ := hX
    obtain ⟨u117, hX⟩ := hX
    obtain ⟨u118, hX⟩ := hX
    obtain ⟨u119, hX⟩ := hX
    obtain ⟨u120, hX⟩ := hX
    obtain ⟨u121, hX⟩ := hX
    obtain ⟨u122, hX⟩ := hX
    obtain ⟨u123, hX⟩ := hX
    obtain ⟨u124, hX⟩ := hX
    obtain ⟨u125, hX⟩ := hX
    obtain ⟨u126, hX⟩ := hX
    obtain ⟨u127, hX⟩ := hX
    obtain ⟨u128, hX⟩ := hX
    obtain ⟨u129, hX⟩ := hX
    obtain ⟨u130, hX⟩ := hX
    obtain ⟨u131, hX⟩ := hX
    obtain ⟨u132, hX⟩ := hX
    obtain ⟨u133, hX⟩ := hX
    obtain ⟨u134, hX⟩ := hX
    obtain ⟨u135, hX⟩ := hX
    obtain ⟨u136, hX⟩ := hX
    obtain ⟨u137, hX⟩ := hX
    obtain ⟨u138, hX⟩ := hX
    obtain ⟨u139, hX⟩ := hX
    obtain ⟨u140, hX⟩ := hX
    obtain ⟨u141, hX⟩ := hX
    obtain ⟨u142, hX⟩ := hX
    obtain ⟨u143, hX⟩ := hX
    obtain ⟨u144, hX⟩ := hX
    obtain ⟨u145, hX⟩ := hX
    obtain ⟨u146, hX⟩ := hX
    obtain ⟨u147, hX⟩ := hX
    obtain ⟨u148, hX⟩ := hX
    obtain ⟨u149, hX⟩ := hX
    obtain ⟨u150, hX⟩ := hX
    obtain ⟨u151, hX⟩ := hX
    obtain ⟨u152, hX⟩ := hX
    obtain ⟨u153, hX⟩ := hX
    obtain ⟨u154, hX⟩ := hX
    obtain ⟨u155, hX⟩ := hX
    obtain ⟨u156, hX⟩ := hX
    obtain ⟨u157, hX⟩ := hX
    obtain ⟨u158, hX⟩ := hX
    obtain ⟨u159, hX⟩ := hX
    obtain ⟨u160, hX⟩ := hX
    obtain ⟨k, hX⟩ := hX
    obtain ⟨s', hX⟩ := hX
    have hk := hX.1
    have HA := hX.2.2.1
    have RS' := hX.2.2.2.1
    have RM' := hX.2.2.2.2.1
    have BB' := hX.2.2.2.2.2.1
    have ea := hX.2.2.2.2.2.2
    clear hX
    subst ea
    have EE : Box' (apF s l = s') := ⟨by rw [E.out, ← HA.out, PA.out s' k hk]⟩
    have O := Box'.mk (one10 s')
    clear HA E AT PA CL LL RS RM BB SZ
    go_wp2_with (first
      | (refine wpList_load_row rfl 24 (.tmp 2) rfl w.heap.size rfl 24 (sA s') RS'.out _ U24.out rfl 10 S24.out rfl ?_)
      | (refine wpList_store_row rfl 24 (.tmp 4) (.tmp 161) rfl (w.heap.size + 1) rfl (sA s') rfl 24 10 RM'.out S24.out rfl O.out ?_))
    exact bodyPost_ret (results19 _ (w.heap.size + 1) rfl _ _ (RM'.out.setRow _) rfl) rfl ⟨by rw [EE.out], below_setRow BB'.out (by omega) _⟩
end Go.Proofs.Ytnlladjkajmpoaa
