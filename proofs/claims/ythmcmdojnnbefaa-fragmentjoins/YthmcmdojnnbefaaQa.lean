/- The drawn regions of whole and of Take's looking up, by themselves. -/
import Derived.Test.YthmcmdojnnbefaaGz
namespace Go.Proofs.Ythmcmdojnnbefaa
open Go.RowKit Go.BigFrame
set_option linter.unusedVariables false
def regOf' (n : Nat) : Code → Option Code
  | .region m o b => if m = n then some (.region m o b) else none
  | .block _ c => regOf' n c
  | .seq a b => match regOf' n a with
    | some c => some c
    | none => regOf' n b
  | .loop c => regOf' n c
  | .scope c => regOf' n c
  | .cond _ a b => match regOf' n a with
    | some c => some c
    | none => regOf' n b
  | _ => none
theorem fld74 (la : Bool) (a : Option Addr) (n c : Nat) (w : World) : (Instr.field 74 (.agg #[.bool la, .slice a n c]) 1).run Try.prog w = .ok (.slice a n c) w := by
  simp [Instr.field, underlying, Try.underlying74, part, isAgg, Try.underlying23, asAgg]
theorem Try.info72 : (Try.prog.info? 72).map (·.size) = some 2 := by kernel_rfl
set_option maxRecDepth 1000000 in
set_option maxHeartbeats 4000000 in
theorem whReg (jb g id n : Nat) (la ha : Bool) (vs : Value) (hvs : ∃ a n c, vs = .slice a n c) (u1 u2 u3 u5 u6 u7 u8 u9 u10 u11 u12 u13 u14 u15 u16 u17 u18 u19 u20 u21 u22 u23 u24 u25 u26 u27 u28 u29 u30 : Value) (w : World) (hC2 : ∀ w1, Below w.heap.size w w1 → w1.cell? ⟨jb, 2, none⟩ = some (.map (some g))) (hC0 : ∀ w1, Below w.heap.size w w1 → w1.cell? ⟨jb, 0, none⟩ = some (.int .u64 (id : Int))) (hL : ∀ w1, Below w.heap.size w w1 → (Instr.lookup 67 (.map (some g)) (ky id n) true).run Try.prog w1 = .ok (.tuple #[.agg #[.bool la, vs], .bool ha]) w1) :
    Code.wp Try.prog ((Try.f33.body.bind (regOf' 4)).getD .skip) (fun e a' w' => e = .normal ∧ ∃ v5 v6 v10 v11 v12 v13 v14 v15 v16 v17 v18 v19 v20 v21 v22 v23 : Value, a' = ⟨List.toArray (.pointer (some ⟨jb, 0, none⟩) :: u1 :: u2 :: u3 :: .int .i64 (n : Int) :: v5 :: v6 :: u7 :: u8 :: u9 :: v10 :: v11 :: v12 :: v13 :: v14 :: v15 :: v16 :: v17 :: v18 :: v19 :: v20 :: v21 :: v22 :: v23 :: u24 :: u25 :: u26 :: u27 :: u28 :: u29 :: u30 :: []), []⟩ ∧ ∃ q, v5 = .pointer (some ⟨q, 0, none⟩) ∧ w.heap.size ≤ q ∧ Row w' q 74 #[.bool la, vs] ∧ v6 = .bool ha ∧ Below w.heap.size w w') ⟨List.toArray (.pointer (some ⟨jb, 0, none⟩) :: u1 :: u2 :: u3 :: .int .i64 (n : Int) :: u5 :: u6 :: u7 :: u8 :: u9 :: u10 :: u11 :: u12 :: u13 :: u14 :: u15 :: u16 :: u17 :: u18 :: u19 :: u20 :: u21 :: u22 :: u23 :: u24 :: u25 :: u26 :: u27 :: u28 :: u29 :: u30 :: []), []⟩ w := by
  conv => arg 2; whnf
  have HC2 := Box'.mk hC2
  have HL := Box'.mk hL
  clear hC2 hL
  have HC0 := Box'.mk hC0
  clear hC0
  have hone : (#[.bool la, vs] : Array Value).all (·.oneCell') = true := by obtain ⟨a, n, c, rfl⟩ := hvs; simp [Value.oneCell']
  refine wp_region_wr 16 15 (by kernel_rfl) (by kernel_rfl) _ rfl (by kernel_rfl) (by kernel_rfl) (fun a b => Below a.heap.size a b) (fun a b => Wr w.heap.size 74 a b) (fun w1 => Below w.heap.size w w1) (fun k w1 v => match k with
      | 0 => v = .pointer (some ⟨jb, 0, none⟩)
      | 1 => v = .pointer (some ⟨jb, 0, none⟩)
      | 2 => v = .pointer (some ⟨jb, 2, none⟩)
      | 3 => v = .map (some g)
      | 4 => v = .pointer (some ⟨jb, 0, none⟩)
      | 5 => v = .pointer (some ⟨jb, 0, none⟩)
      | 6 => v = .pointer (some ⟨jb, 0, none⟩)
      | 7 => v = .int .u64 (id : Int)
      | 8 => v = .int .i64 (n : Int)
      | 9 => v = ky id n
      | 10 => v = .tuple #[.agg #[.bool la, vs], .bool ha]
      | 11 => v = .tuple #[.agg #[.bool la, vs], .bool ha]
      | 12 => v = .agg #[.bool la, vs]
      | 13 => v = .bool ha
      | 14 => ∃ q, v = .pointer (some ⟨q, 0, none⟩) ∧ w.heap.size ≤ q ∧ Room w1 q 74 2
      | _ => True) (fun f w1 => ∃ q, f 14 = .pointer (some ⟨q, 0, none⟩) ∧ w.heap.size ≤ q ∧ Row w1 q 74 #[.bool la, vs]) ?_ ?_ ?_ ?_ ?_ ?_ ?_ ?_ ?_ ?_
  · intro a b' hb hC; exact hC.trans (hb.mono hC.size)
  · intro k v w1 w2 hC1 hb h
    match k, h with
    | 0, h => exact h
    | 1, h => exact h
    | 2, h => exact h
    | 3, h => exact h
    | 4, h => exact h
    | 5, h => exact h
    | 6, h => exact h
    | 7, h => exact h
    | 8, h => exact h
    | 9, h => exact h
    | 10, h => exact h
    | 11, h => exact h
    | 12, h => exact h
    | 13, h => exact h
    | 14, h => exact Exists.elim h fun q hq => ⟨q, hq.1, hq.2.1, hq.2.2.below hb (hq.2.2.elim fun _ x => x.1.lt)⟩
    | 15, h => trivial
    | k + 16, h => trivial
  · intro f a b' hC hb h; obtain ⟨q, h1, h2, h3⟩ := h; exact ⟨q, h1, h2, h3.below hb h3.lt⟩
  · intro a b' hb hC; exact hC.trans hb.bel
  · intro k v w1 w2 hkj hC1 hb h
    match k, h with
    | 0, h => exact h
    | 1, h => exact h
    | 2, h => exact h
    | 3, h => exact h
    | 4, h => exact h
    | 5, h => exact h
    | 6, h => exact h
    | 7, h => exact h
    | 8, h => exact h
    | 9, h => exact h
    | 10, h => exact h
    | 11, h => exact h
    | 12, h => exact h
    | 13, h => exact h
    | 14, h => exact Exists.elim h fun q hq => ⟨q, hq.1, hq.2.1, hb.room _ _ hq.2.2⟩
    | 15, h => trivial
    | k + 16, h => trivial
  · intro f k v w1 hk hR
    have hn14 : upd f k v 14 = f 14 := if_neg (fun e => by subst e; exact (by decide : ¬ (false = true)) (hk.symm.trans (by kernel_rfl)))
    obtain ⟨q, h1, h2, h3⟩ := hR; exact ⟨q, by rw [hn14]; exact h1, h2, h3⟩
  · exact (Below.refl _ _).drew
  · refine ⟨?_, ?_, ?_, ?_, ?_, ?_, ?_, ?_, ?_, ?_, ?_, ?_, ?_, ?_, ?_, ?_, trivial⟩
    · intro _ f w1 hC hd KK hK
      clear hd
      simp only [List.take_succ_cons, List.take_zero, setAll, List.setIfInBounds_toArray, List.set_cons_succ, List.set_cons_zero, Nat.zero_add, Nat.reduceAdd] at hK ⊢
      refine wp_of_quiet rfl ?_
      go_big_quiet_step (fail)
      exact wpQuiet_nil (hK _ _ rfl (Below.refl _ _))
    · intro _ f w1 hC hd KK hK
      have g0 : f 0 = _ := hd 0 (by kernel_rfl)
      clear hd
      simp only [List.take_succ_cons, List.take_zero, setAll, List.setIfInBounds_toArray, List.set_cons_succ, List.set_cons_zero, Nat.zero_add, Nat.reduceAdd, g0] at hK ⊢
      refine wp_of_quiet rfl ?_
      go_big_quiet_step (fail)
      exact wpQuiet_nil (hK _ _ rfl (Below.refl _ _))
    · intro _ f w1 hC hd KK hK
      have g1 : f 1 = _ := hd 1 (by kernel_rfl)
      clear hd
      simp only [List.take_succ_cons, List.take_zero, setAll, List.setIfInBounds_toArray, List.set_cons_succ, List.set_cons_zero, Nat.zero_add, Nat.reduceAdd, g1] at hK ⊢
      refine wp_of_quiet rfl ?_
      go_big_quiet_step (fail)
      exact wpQuiet_nil (hK _ _ rfl (Below.refl _ _))
    · intro _ f w1 hC hd KK hK
      have g2 : f 2 = _ := hd 2 (by kernel_rfl)
      clear hd
      simp only [List.take_succ_cons, List.take_zero, setAll, List.setIfInBounds_toArray, List.set_cons_succ, List.set_cons_zero, Nat.zero_add, Nat.reduceAdd, g2] at hK ⊢
      have cc := HC2.out w1 hC
      refine wp_of_quiet rfl ?_
      go_big_quiet_step (fail)
      exact wpQuiet_nil (hK _ _ rfl (Below.refl _ _))
    · intro _ f w1 hC hd KK hK
      clear hd
      simp only [List.take_succ_cons, List.take_zero, setAll, List.setIfInBounds_toArray, List.set_cons_succ, List.set_cons_zero, Nat.zero_add, Nat.reduceAdd] at hK ⊢
      refine wp_of_quiet rfl ?_
      go_big_quiet_step (fail)
      exact wpQuiet_nil (hK _ _ rfl (Below.refl _ _))
    · intro _ f w1 hC hd KK hK
      have g4 : f 4 = _ := hd 4 (by kernel_rfl)
      clear hd
      simp only [List.take_succ_cons, List.take_zero, setAll, List.setIfInBounds_toArray, List.set_cons_succ, List.set_cons_zero, Nat.zero_add, Nat.reduceAdd, g4] at hK ⊢
      refine wp_of_quiet rfl ?_
      go_big_quiet_step (fail)
      exact wpQuiet_nil (hK _ _ rfl (Below.refl _ _))
    · intro _ f w1 hC hd KK hK
      have g5 : f 5 = _ := hd 5 (by kernel_rfl)
      clear hd
      simp only [List.take_succ_cons, List.take_zero, setAll, List.setIfInBounds_toArray, List.set_cons_succ, List.set_cons_zero, Nat.zero_add, Nat.reduceAdd, g5] at hK ⊢
      refine wp_of_quiet rfl ?_
      go_big_quiet_step (fail)
      exact wpQuiet_nil (hK _ _ rfl (Below.refl _ _))
    · intro _ f w1 hC hd KK hK
      have g6 : f 6 = _ := hd 6 (by kernel_rfl)
      clear hd
      simp only [List.take_succ_cons, List.take_zero, setAll, List.setIfInBounds_toArray, List.set_cons_succ, List.set_cons_zero, Nat.zero_add, Nat.reduceAdd, g6] at hK ⊢
      have cc := HC0.out w1 hC
      refine wp_of_quiet rfl ?_
      go_big_quiet_step (fail)
      exact wpQuiet_nil (hK _ _ rfl (Below.refl _ _))
    · intro _ f w1 hC hd KK hK
      clear hd
      simp only [List.take_succ_cons, List.take_zero, setAll, List.setIfInBounds_toArray, List.set_cons_succ, List.set_cons_zero, Nat.zero_add, Nat.reduceAdd] at hK ⊢
      refine wp_of_quiet rfl ?_
      go_big_quiet_step (fail)
      exact wpQuiet_nil (hK _ _ rfl (Below.refl _ _))
    · intro _ f w1 hC hd KK hK
      have g7 : f 7 = _ := hd 7 (by kernel_rfl)
      have g8 : f 8 = _ := hd 8 (by kernel_rfl)
      clear hd
      simp only [List.take_succ_cons, List.take_zero, setAll, List.setIfInBounds_toArray, List.set_cons_succ, List.set_cons_zero, Nat.zero_add, Nat.reduceAdd, g7, g8] at hK ⊢
      refine wp_of_quiet rfl ?_
      go_big_quiet_step (fail)
      exact wpQuiet_nil (hK _ _ rfl (Below.refl _ _))
    · intro _ f w1 hC hd KK hK
      have g3 : f 3 = _ := hd 3 (by kernel_rfl)
      have g9 : f 9 = _ := hd 9 (by kernel_rfl)
      clear hd
      simp only [List.take_succ_cons, List.take_zero, setAll, List.setIfInBounds_toArray, List.set_cons_succ, List.set_cons_zero, Nat.zero_add, Nat.reduceAdd, g3, g9] at hK ⊢
      refine wp_lookup _ _ true rfl (.tuple #[.agg #[.bool la, vs], .bool ha]) (HL.out w1 hC) ?_
      exact hK _ _ rfl (Below.refl _ _)
    · intro _ f w1 hC hd KK hK
      have g10 : f 10 = _ := hd 10 (by kernel_rfl)
      clear hd
      simp only [List.take_succ_cons, List.take_zero, setAll, List.setIfInBounds_toArray, List.set_cons_succ, List.set_cons_zero, Nat.zero_add, Nat.reduceAdd, g10] at hK ⊢
      refine wp_of_quiet rfl ?_
      go_big_quiet_step (fail)
      exact wpQuiet_nil (hK _ _ rfl (Below.refl _ _))
    · intro _ f w1 hC hd KK hK
      have g11 : f 11 = _ := hd 11 (by kernel_rfl)
      clear hd
      simp only [List.take_succ_cons, List.take_zero, setAll, List.setIfInBounds_toArray, List.set_cons_succ, List.set_cons_zero, Nat.zero_add, Nat.reduceAdd, g11] at hK ⊢
      refine wp_of_quiet rfl ?_
      go_big_quiet_step (fail)
      exact wpQuiet_nil (hK _ _ rfl (Below.refl _ _))
    · intro _ f w1 hC hd KK hK
      have g11 : f 11 = _ := hd 11 (by kernel_rfl)
      clear hd
      simp only [List.take_succ_cons, List.take_zero, setAll, List.setIfInBounds_toArray, List.set_cons_succ, List.set_cons_zero, Nat.zero_add, Nat.reduceAdd, g11] at hK ⊢
      refine wp_of_quiet rfl ?_
      go_big_quiet_step (fail)
      exact wpQuiet_nil (hK _ _ rfl (Below.refl _ _))
    · intro _ f w1 hC hd KK hK
      clear hd
      simp only [List.take_succ_cons, List.take_zero, setAll, List.setIfInBounds_toArray, List.set_cons_succ, List.set_cons_zero, Nat.zero_add, Nat.reduceAdd] at hK ⊢
      refine wp_alloc_row 74 rfl _ 2 Try.zero74' ?_
      exact hK _ _ ⟨_, rfl, hC.size, Room.new _ _ _ _ rfl⟩ ((Below.refl _ _).alloc (Nat.le_refl _) _)
    · intro h
      exact (h (by decide)).elim
  · intro f w1 hC hd KK hK
    have g12 : f 12 = _ := hd 12 (by kernel_rfl)
    have x14 : ∃ q, (f 14) = .pointer (some ⟨q, 0, none⟩) ∧ w.heap.size ≤ q ∧ Room w1 q 74 2 := hd 14 (by kernel_rfl)
    clear hd
    cases x14 with | intro u14 y140 =>
    have g14 := y140.1
    have z140 := y140.2
    clear y140
    have p14 := z140.1
    have z141 := z140.2
    clear z140
    have q14 := z141
    clear z141
    simp only [List.take_succ_cons, List.take_zero, setAll, List.setIfInBounds_toArray, List.set_cons_succ, List.set_cons_zero, Nat.zero_add, Nat.reduceAdd, g12, g14] at hK ⊢
    have X14 := g14
    refine wp_store_row 74 _ _ rfl u14 rfl _ rfl 74 2 q14 Try.size74 rfl hone ?_
    exact hK _ _ ⟨u14, rfl, p14, q14.setRow _⟩ (Wr.setRow q14 p14 _ rfl)
  · intro f w1 hC hv hr
    have hR := hr (by decide)
    have g0 : f 0 = _ := hv 0 (by decide) (by decide)
    have g1 : f 1 = _ := hv 1 (by decide) (by decide)
    have g2 : f 2 = _ := hv 2 (by decide) (by decide)
    have g3 : f 3 = _ := hv 3 (by decide) (by decide)
    have g4 : f 4 = _ := hv 4 (by decide) (by decide)
    have g5 : f 5 = _ := hv 5 (by decide) (by decide)
    have g6 : f 6 = _ := hv 6 (by decide) (by decide)
    have g7 : f 7 = _ := hv 7 (by decide) (by decide)
    have g8 : f 8 = _ := hv 8 (by decide) (by decide)
    have g9 : f 9 = _ := hv 9 (by decide) (by decide)
    have g10 : f 10 = _ := hv 10 (by decide) (by decide)
    have g11 : f 11 = _ := hv 11 (by decide) (by decide)
    have g12 : f 12 = _ := hv 12 (by decide) (by decide)
    have g13 : f 13 = _ := hv 13 (by decide) (by decide)
    simp only [List.take_succ_cons, List.take_zero, List.drop_succ_cons, List.drop_zero, setAll, List.setIfInBounds_toArray, List.set_cons_succ, List.set_cons_zero, Nat.zero_add, Nat.reduceAdd, g0, g1, g2, g3, g4, g5, g6, g7, g8, g9, g10, g11, g12, g13]
    clear hv
    cases hR with | intro q hR2 =>
    have g14 := hR2.1
    have hNq := hR2.2.1
    have hRow := hR2.2.2
    clear hR2
    simp only [g14]
    have q8 := hC
    go_wp2_with fail
    exact ⟨_, _, ⟨rfl, rfl⟩, q, rfl, hNq, hRow, rfl⟩

set_option maxRecDepth 1000000 in
set_option maxHeartbeats 4000000 in
theorem tkReg (jb g kb id n : Nat) (la ha : Bool) (vs : Value) (hvs : ∃ a n c, vs = .slice a n c) (u1 u2 u3 u4 u5 u6 u8 u9 u10 u11 u12 u13 u14 u15 u16 u17 u18 u19 u20 u21 u22 u23 u24 u25 u26 u27 u28 u29 u30 u31 u32 u33 u34 u35 u36 u37 u38 u39 u40 u41 u42 u43 u44 u45 u46 u47 u48 u49 u50 u51 u52 u53 u54 u55 u56 u57 u58 u59 u60 u61 u62 u63 u64 u65 u66 u67 u68 u69 u70 u71 u72 u73 u74 u75 u76 u77 u78 u79 u80 u81 u82 u83 u84 u85 u86 u87 : Value) (w : World) (hC2 : ∀ w1, Below w.heap.size w w1 → w1.cell? ⟨jb, 2, none⟩ = some (.map (some g))) (hKk : ∀ w1, Below w.heap.size w w1 → Row w1 kb 72 #[.int .u64 (id : Int), .int .i64 (n : Int)]) (hL : ∀ w1, Below w.heap.size w w1 → (Instr.lookup 67 (.map (some g)) (ky id n) true).run Try.prog w1 = .ok (.tuple #[.agg #[.bool la, vs], .bool ha]) w1) :
    Code.wp Try.prog ((Try.f19.body.bind (regOf' 12)).getD .skip) (fun e a' w' => e = .normal ∧ ∃ v8 v9 v49 v50 v51 v52 v53 v54 v55 v56 v57 : Value, a' = ⟨List.toArray (.pointer (some ⟨jb, 0, none⟩) :: u1 :: u2 :: u3 :: u4 :: u5 :: u6 :: .pointer (some ⟨kb, 0, none⟩) :: v8 :: v9 :: u10 :: u11 :: u12 :: u13 :: u14 :: u15 :: u16 :: u17 :: u18 :: u19 :: u20 :: u21 :: u22 :: u23 :: u24 :: u25 :: u26 :: u27 :: u28 :: u29 :: u30 :: u31 :: u32 :: u33 :: u34 :: u35 :: u36 :: u37 :: u38 :: u39 :: u40 :: u41 :: u42 :: u43 :: u44 :: u45 :: u46 :: u47 :: u48 :: v49 :: v50 :: v51 :: v52 :: v53 :: v54 :: v55 :: v56 :: v57 :: u58 :: u59 :: u60 :: u61 :: u62 :: u63 :: u64 :: u65 :: u66 :: u67 :: u68 :: u69 :: u70 :: u71 :: u72 :: u73 :: u74 :: u75 :: u76 :: u77 :: u78 :: u79 :: u80 :: u81 :: u82 :: u83 :: u84 :: u85 :: u86 :: u87 :: []), []⟩ ∧ v9 = .bool ha ∧ Below w.heap.size w w') ⟨List.toArray (.pointer (some ⟨jb, 0, none⟩) :: u1 :: u2 :: u3 :: u4 :: u5 :: u6 :: .pointer (some ⟨kb, 0, none⟩) :: u8 :: u9 :: u10 :: u11 :: u12 :: u13 :: u14 :: u15 :: u16 :: u17 :: u18 :: u19 :: u20 :: u21 :: u22 :: u23 :: u24 :: u25 :: u26 :: u27 :: u28 :: u29 :: u30 :: u31 :: u32 :: u33 :: u34 :: u35 :: u36 :: u37 :: u38 :: u39 :: u40 :: u41 :: u42 :: u43 :: u44 :: u45 :: u46 :: u47 :: u48 :: u49 :: u50 :: u51 :: u52 :: u53 :: u54 :: u55 :: u56 :: u57 :: u58 :: u59 :: u60 :: u61 :: u62 :: u63 :: u64 :: u65 :: u66 :: u67 :: u68 :: u69 :: u70 :: u71 :: u72 :: u73 :: u74 :: u75 :: u76 :: u77 :: u78 :: u79 :: u80 :: u81 :: u82 :: u83 :: u84 :: u85 :: u86 :: u87 :: []), []⟩ w := by
  conv => arg 2; whnf
  have HC2 := Box'.mk hC2
  have HL := Box'.mk hL
  clear hC2 hL
  have HK := Box'.mk hKk
  clear hKk
  have hone : (#[.bool la, vs] : Array Value).all (·.oneCell') = true := by obtain ⟨a, n, c, rfl⟩ := hvs; simp [Value.oneCell']
  refine wp_region_wr 11 10 (by kernel_rfl) (by kernel_rfl) _ rfl (by kernel_rfl) (by kernel_rfl) (fun a b => Below a.heap.size a b) (fun a b => Wr w.heap.size 74 a b) (fun w1 => Below w.heap.size w w1) (fun k w1 v => match k with
      | 0 => v = .pointer (some ⟨jb, 0, none⟩)
      | 1 => v = .pointer (some ⟨jb, 0, none⟩)
      | 2 => v = .pointer (some ⟨jb, 2, none⟩)
      | 3 => v = .map (some g)
      | 4 => v = ky id n
      | 5 => v = .tuple #[.agg #[.bool la, vs], .bool ha]
      | 6 => v = .tuple #[.agg #[.bool la, vs], .bool ha]
      | 7 => v = .agg #[.bool la, vs]
      | 8 => v = .bool ha
      | 9 => ∃ q, v = .pointer (some ⟨q, 0, none⟩) ∧ w.heap.size ≤ q ∧ Room w1 q 74 2
      | _ => True) (fun f w1 => ∃ q, f 9 = .pointer (some ⟨q, 0, none⟩) ∧ w.heap.size ≤ q ∧ Row w1 q 74 #[.bool la, vs]) ?_ ?_ ?_ ?_ ?_ ?_ ?_ ?_ ?_ ?_
  · intro a b' hb hC; exact hC.trans (hb.mono hC.size)
  · intro k v w1 w2 hC1 hb h
    match k, h with
    | 0, h => exact h
    | 1, h => exact h
    | 2, h => exact h
    | 3, h => exact h
    | 4, h => exact h
    | 5, h => exact h
    | 6, h => exact h
    | 7, h => exact h
    | 8, h => exact h
    | 9, h => exact Exists.elim h fun q hq => ⟨q, hq.1, hq.2.1, hq.2.2.below hb (hq.2.2.elim fun _ x => x.1.lt)⟩
    | 10, h => trivial
    | k + 11, h => trivial
  · intro f a b' hC hb h; obtain ⟨q, h1, h2, h3⟩ := h; exact ⟨q, h1, h2, h3.below hb h3.lt⟩
  · intro a b' hb hC; exact hC.trans hb.bel
  · intro k v w1 w2 hkj hC1 hb h
    match k, h with
    | 0, h => exact h
    | 1, h => exact h
    | 2, h => exact h
    | 3, h => exact h
    | 4, h => exact h
    | 5, h => exact h
    | 6, h => exact h
    | 7, h => exact h
    | 8, h => exact h
    | 9, h => exact Exists.elim h fun q hq => ⟨q, hq.1, hq.2.1, hb.room _ _ hq.2.2⟩
    | 10, h => trivial
    | k + 11, h => trivial
  · intro f k v w1 hk hR
    have hn9 : upd f k v 9 = f 9 := if_neg (fun e => by subst e; exact (by decide : ¬ (false = true)) (hk.symm.trans (by kernel_rfl)))
    obtain ⟨q, h1, h2, h3⟩ := hR; exact ⟨q, by rw [hn9]; exact h1, h2, h3⟩
  · exact (Below.refl _ _).drew
  · refine ⟨?_, ?_, ?_, ?_, ?_, ?_, ?_, ?_, ?_, ?_, ?_, trivial⟩
    · intro _ f w1 hC hd KK hK
      clear hd
      simp only [List.take_succ_cons, List.take_zero, setAll, List.setIfInBounds_toArray, List.set_cons_succ, List.set_cons_zero, Nat.zero_add, Nat.reduceAdd] at hK ⊢
      refine wp_of_quiet rfl ?_
      go_big_quiet_step (fail)
      exact wpQuiet_nil (hK _ _ rfl (Below.refl _ _))
    · intro _ f w1 hC hd KK hK
      have g0 : f 0 = _ := hd 0 (by kernel_rfl)
      clear hd
      simp only [List.take_succ_cons, List.take_zero, setAll, List.setIfInBounds_toArray, List.set_cons_succ, List.set_cons_zero, Nat.zero_add, Nat.reduceAdd, g0] at hK ⊢
      refine wp_of_quiet rfl ?_
      go_big_quiet_step (fail)
      exact wpQuiet_nil (hK _ _ rfl (Below.refl _ _))
    · intro _ f w1 hC hd KK hK
      have g1 : f 1 = _ := hd 1 (by kernel_rfl)
      clear hd
      simp only [List.take_succ_cons, List.take_zero, setAll, List.setIfInBounds_toArray, List.set_cons_succ, List.set_cons_zero, Nat.zero_add, Nat.reduceAdd, g1] at hK ⊢
      refine wp_of_quiet rfl ?_
      go_big_quiet_step (fail)
      exact wpQuiet_nil (hK _ _ rfl (Below.refl _ _))
    · intro _ f w1 hC hd KK hK
      have g2 : f 2 = _ := hd 2 (by kernel_rfl)
      clear hd
      simp only [List.take_succ_cons, List.take_zero, setAll, List.setIfInBounds_toArray, List.set_cons_succ, List.set_cons_zero, Nat.zero_add, Nat.reduceAdd, g2] at hK ⊢
      have cc := HC2.out w1 hC
      refine wp_of_quiet rfl ?_
      go_big_quiet_step (fail)
      exact wpQuiet_nil (hK _ _ rfl (Below.refl _ _))
    · intro _ f w1 hC hd KK hK
      clear hd
      simp only [List.take_succ_cons, List.take_zero, setAll, List.setIfInBounds_toArray, List.set_cons_succ, List.set_cons_zero, Nat.zero_add, Nat.reduceAdd] at hK ⊢
      have cc := HK.out w1 hC
      refine wp_load_row 72 _ rfl _ rfl _ _ cc _ Try.underlying72 rfl 2 Try.info72 rfl ?_
      exact hK _ _ rfl (Below.refl _ _)
    · intro _ f w1 hC hd KK hK
      have g3 : f 3 = _ := hd 3 (by kernel_rfl)
      have g4 : f 4 = _ := hd 4 (by kernel_rfl)
      clear hd
      simp only [List.take_succ_cons, List.take_zero, setAll, List.setIfInBounds_toArray, List.set_cons_succ, List.set_cons_zero, Nat.zero_add, Nat.reduceAdd, g3, g4] at hK ⊢
      refine wp_lookup _ _ true rfl (.tuple #[.agg #[.bool la, vs], .bool ha]) (HL.out w1 hC) ?_
      exact hK _ _ rfl (Below.refl _ _)
    · intro _ f w1 hC hd KK hK
      have g5 : f 5 = _ := hd 5 (by kernel_rfl)
      clear hd
      simp only [List.take_succ_cons, List.take_zero, setAll, List.setIfInBounds_toArray, List.set_cons_succ, List.set_cons_zero, Nat.zero_add, Nat.reduceAdd, g5] at hK ⊢
      refine wp_of_quiet rfl ?_
      go_big_quiet_step (fail)
      exact wpQuiet_nil (hK _ _ rfl (Below.refl _ _))
    · intro _ f w1 hC hd KK hK
      have g6 : f 6 = _ := hd 6 (by kernel_rfl)
      clear hd
      simp only [List.take_succ_cons, List.take_zero, setAll, List.setIfInBounds_toArray, List.set_cons_succ, List.set_cons_zero, Nat.zero_add, Nat.reduceAdd, g6] at hK ⊢
      refine wp_of_quiet rfl ?_
      go_big_quiet_step (fail)
      exact wpQuiet_nil (hK _ _ rfl (Below.refl _ _))
    · intro _ f w1 hC hd KK hK
      have g6 : f 6 = _ := hd 6 (by kernel_rfl)
      clear hd
      simp only [List.take_succ_cons, List.take_zero, setAll, List.setIfInBounds_toArray, List.set_cons_succ, List.set_cons_zero, Nat.zero_add, Nat.reduceAdd, g6] at hK ⊢
      refine wp_of_quiet rfl ?_
      go_big_quiet_step (fail)
      exact wpQuiet_nil (hK _ _ rfl (Below.refl _ _))
    · intro _ f w1 hC hd KK hK
      clear hd
      simp only [List.take_succ_cons, List.take_zero, setAll, List.setIfInBounds_toArray, List.set_cons_succ, List.set_cons_zero, Nat.zero_add, Nat.reduceAdd] at hK ⊢
      refine wp_alloc_row 74 rfl _ 2 Try.zero74' ?_
      exact hK _ _ ⟨_, rfl, hC.size, Room.new _ _ _ _ rfl⟩ ((Below.refl _ _).alloc (Nat.le_refl _) _)
    · intro h
      exact (h (by decide)).elim
  · intro f w1 hC hd KK hK
    have g7 : f 7 = _ := hd 7 (by kernel_rfl)
    have x9 : ∃ q, (f 9) = .pointer (some ⟨q, 0, none⟩) ∧ w.heap.size ≤ q ∧ Room w1 q 74 2 := hd 9 (by kernel_rfl)
    clear hd
    cases x9 with | intro u9 y90 =>
    have g9 := y90.1
    have z90 := y90.2
    clear y90
    have p9 := z90.1
    have z91 := z90.2
    clear z90
    have q9 := z91
    clear z91
    simp only [List.take_succ_cons, List.take_zero, setAll, List.setIfInBounds_toArray, List.set_cons_succ, List.set_cons_zero, Nat.zero_add, Nat.reduceAdd, g7, g9] at hK ⊢
    have X9 := g9
    refine wp_store_row 74 _ _ rfl u9 rfl _ rfl 74 2 q9 Try.size74 rfl hone ?_
    exact hK _ _ ⟨u9, rfl, p9, q9.setRow _⟩ (Wr.setRow q9 p9 _ rfl)
  · intro f w1 hC hv hr
    have hR := hr (by decide)
    have g0 : f 0 = _ := hv 0 (by decide) (by decide)
    have g1 : f 1 = _ := hv 1 (by decide) (by decide)
    have g2 : f 2 = _ := hv 2 (by decide) (by decide)
    have g3 : f 3 = _ := hv 3 (by decide) (by decide)
    have g4 : f 4 = _ := hv 4 (by decide) (by decide)
    have g5 : f 5 = _ := hv 5 (by decide) (by decide)
    have g6 : f 6 = _ := hv 6 (by decide) (by decide)
    have g7 : f 7 = _ := hv 7 (by decide) (by decide)
    have g8 : f 8 = _ := hv 8 (by decide) (by decide)
    simp only [List.take_succ_cons, List.take_zero, List.drop_succ_cons, List.drop_zero, setAll, List.setIfInBounds_toArray, List.set_cons_succ, List.set_cons_zero, Nat.zero_add, Nat.reduceAdd, g0, g1, g2, g3, g4, g5, g6, g7, g8]
    clear hv
    cases hR with | intro q hR2 =>
    have g9 := hR2.1
    have hNq := hR2.2.1
    have hRow := hR2.2.2
    clear hR2
    simp only [g9]
    have q8 := hC
    go_wp2_with fail

set_option maxRecDepth 1000000 in
set_option maxHeartbeats 4000000 in
theorem tgReg (N jb g id n : Nat) (la : Bool) (vo vs : Value) (d l : List UInt8) (hvo : ∃ a n c, vo = .slice a n c) (hvs : ∃ a n c, vs = .slice a n c) (u1 u2 u3 u4 u7 u8 u9 u10 u11 u12 u13 u14 u15 u16 u17 u18 u19 u20 u21 u22 u23 u24 u25 u26 : Value) (w : World) (hC2 : ∀ w1, Below w.heap.size w w1 → w1.cell? ⟨jb, 2, none⟩ = some (.map (some g))) (hC0 : ∀ w1, Below w.heap.size w w1 → w1.cell? ⟨jb, 0, none⟩ = some (.int .u64 (id : Int))) (hL : ∀ w1, Below w.heap.size w w1 → (Instr.lookup 67 (.map (some g)) (ky id n) false).run Try.prog w1 = .ok (.agg #[.bool la, vs]) w1) (hN : N ≤ w.heap.size) (ho : OwnB N w vo d) (hi : ∀ w1, Below w.heap.size w w1 → InB w1.heap.size w1 vs l) (hmx : d.length + l.length ≤ 140737488355328) :
    Code.wp Try.prog ((Try.f34.body.bind (regOf' 5)).getD .skip) (fun e a' w' => e = .normal ∧ ∃ v5 v11 v12 v13 v14 v15 v16 v17 v18 v19 v20 v21 v22 v23 v24 : Value, a' = ⟨List.toArray (.pointer (some ⟨jb, 0, none⟩) :: u1 :: u2 :: u3 :: u4 :: v5 :: .int .i64 (n : Int) :: u7 :: u8 :: u9 :: u10 :: v11 :: v12 :: v13 :: v14 :: v15 :: v16 :: v17 :: v18 :: v19 :: v20 :: v21 :: v22 :: v23 :: v24 :: u25 :: u26 :: []), []⟩ ∧ OwnB N w' v5 (d ++ l) ∧ Fr N w w') ⟨List.toArray (.pointer (some ⟨jb, 0, none⟩) :: u1 :: u2 :: u3 :: u4 :: vo :: .int .i64 (n : Int) :: u7 :: u8 :: u9 :: u10 :: u11 :: u12 :: u13 :: u14 :: u15 :: u16 :: u17 :: u18 :: u19 :: u20 :: u21 :: u22 :: u23 :: u24 :: u25 :: u26 :: []), []⟩ w := by
  conv => arg 2; whnf
  have HC2 := Box'.mk hC2
  have HL := Box'.mk hL
  clear hC2 hL
  have HC0 := Box'.mk hC0
  clear hC0
  have HO := Box'.mk ho
  have HI := Box'.mk hi
  clear ho hi
  obtain ⟨a0, n0, c0, rfl⟩ := hvo
  obtain ⟨a1, n1, c1, rfl⟩ := hvs
  refine wp_region_grow 13 (by kernel_rfl) (by kernel_rfl) (fun a b => Below a.heap.size a b) (fun w1 => Below w.heap.size w w1) (fun k w1 v => match k with
      | 0 => v = .slice a0 n0 c0
      | 1 => v = .pointer (some ⟨jb, 0, none⟩)
      | 2 => v = .pointer (some ⟨jb, 0, none⟩)
      | 3 => v = .pointer (some ⟨jb, 2, none⟩)
      | 4 => v = .map (some g)
      | 5 => v = .pointer (some ⟨jb, 0, none⟩)
      | 6 => v = .pointer (some ⟨jb, 0, none⟩)
      | 7 => v = .pointer (some ⟨jb, 0, none⟩)
      | 8 => v = .int .u64 (id : Int)
      | 9 => v = .int .i64 (n : Int)
      | 10 => v = ky id n
      | 11 => v = .agg #[.bool la, .slice a1 n1 c1]
      | 12 => v = .slice a1 n1 c1
      | _ => True) ?_ ?_ ?_ ?_ ?_
  · intro a b' hb hC; exact hC.trans (hb.mono hC.size)
  · intro k v w1 w2 hC1 hb h
    match k, h with
    | 0, h => exact h
    | 1, h => exact h
    | 2, h => exact h
    | 3, h => exact h
    | 4, h => exact h
    | 5, h => exact h
    | 6, h => exact h
    | 7, h => exact h
    | 8, h => exact h
    | 9, h => exact h
    | 10, h => exact h
    | 11, h => exact h
    | 12, h => exact h
    | k + 13, h => trivial
  · exact (Below.refl _ _).drew
  · refine ⟨?_, ?_, ?_, ?_, ?_, ?_, ?_, ?_, ?_, ?_, ?_, ?_, ?_, trivial⟩
    · intro f w1 hC hd KK hK
      clear hd
      simp only [List.take_succ_cons, List.take_zero, setAll, List.setIfInBounds_toArray, List.set_cons_succ, List.set_cons_zero, Nat.zero_add, Nat.reduceAdd] at hK ⊢
      refine wp_of_quiet rfl ?_
      go_big_quiet_step (fail)
      exact wpQuiet_nil (hK _ _ rfl (Below.refl _ _))
    · intro f w1 hC hd KK hK
      clear hd
      simp only [List.take_succ_cons, List.take_zero, setAll, List.setIfInBounds_toArray, List.set_cons_succ, List.set_cons_zero, Nat.zero_add, Nat.reduceAdd] at hK ⊢
      refine wp_of_quiet rfl ?_
      go_big_quiet_step (fail)
      exact wpQuiet_nil (hK _ _ rfl (Below.refl _ _))
    · intro f w1 hC hd KK hK
      have g1 : f 1 = _ := hd 1 (by kernel_rfl)
      clear hd
      simp only [List.take_succ_cons, List.take_zero, setAll, List.setIfInBounds_toArray, List.set_cons_succ, List.set_cons_zero, Nat.zero_add, Nat.reduceAdd, g1] at hK ⊢
      refine wp_of_quiet rfl ?_
      go_big_quiet_step (fail)
      exact wpQuiet_nil (hK _ _ rfl (Below.refl _ _))
    · intro f w1 hC hd KK hK
      have g2 : f 2 = _ := hd 2 (by kernel_rfl)
      clear hd
      simp only [List.take_succ_cons, List.take_zero, setAll, List.setIfInBounds_toArray, List.set_cons_succ, List.set_cons_zero, Nat.zero_add, Nat.reduceAdd, g2] at hK ⊢
      refine wp_of_quiet rfl ?_
      go_big_quiet_step (fail)
      exact wpQuiet_nil (hK _ _ rfl (Below.refl _ _))
    · intro f w1 hC hd KK hK
      have g3 : f 3 = _ := hd 3 (by kernel_rfl)
      clear hd
      simp only [List.take_succ_cons, List.take_zero, setAll, List.setIfInBounds_toArray, List.set_cons_succ, List.set_cons_zero, Nat.zero_add, Nat.reduceAdd, g3] at hK ⊢
      have cc := HC2.out w1 hC
      refine wp_of_quiet rfl ?_
      go_big_quiet_step (fail)
      exact wpQuiet_nil (hK _ _ rfl (Below.refl _ _))
    · intro f w1 hC hd KK hK
      clear hd
      simp only [List.take_succ_cons, List.take_zero, setAll, List.setIfInBounds_toArray, List.set_cons_succ, List.set_cons_zero, Nat.zero_add, Nat.reduceAdd] at hK ⊢
      refine wp_of_quiet rfl ?_
      go_big_quiet_step (fail)
      exact wpQuiet_nil (hK _ _ rfl (Below.refl _ _))
    · intro f w1 hC hd KK hK
      have g5 : f 5 = _ := hd 5 (by kernel_rfl)
      clear hd
      simp only [List.take_succ_cons, List.take_zero, setAll, List.setIfInBounds_toArray, List.set_cons_succ, List.set_cons_zero, Nat.zero_add, Nat.reduceAdd, g5] at hK ⊢
      refine wp_of_quiet rfl ?_
      go_big_quiet_step (fail)
      exact wpQuiet_nil (hK _ _ rfl (Below.refl _ _))
    · intro f w1 hC hd KK hK
      have g6 : f 6 = _ := hd 6 (by kernel_rfl)
      clear hd
      simp only [List.take_succ_cons, List.take_zero, setAll, List.setIfInBounds_toArray, List.set_cons_succ, List.set_cons_zero, Nat.zero_add, Nat.reduceAdd, g6] at hK ⊢
      refine wp_of_quiet rfl ?_
      go_big_quiet_step (fail)
      exact wpQuiet_nil (hK _ _ rfl (Below.refl _ _))
    · intro f w1 hC hd KK hK
      have g7 : f 7 = _ := hd 7 (by kernel_rfl)
      clear hd
      simp only [List.take_succ_cons, List.take_zero, setAll, List.setIfInBounds_toArray, List.set_cons_succ, List.set_cons_zero, Nat.zero_add, Nat.reduceAdd, g7] at hK ⊢
      have cc := HC0.out w1 hC
      refine wp_of_quiet rfl ?_
      go_big_quiet_step (fail)
      exact wpQuiet_nil (hK _ _ rfl (Below.refl _ _))
    · intro f w1 hC hd KK hK
      clear hd
      simp only [List.take_succ_cons, List.take_zero, setAll, List.setIfInBounds_toArray, List.set_cons_succ, List.set_cons_zero, Nat.zero_add, Nat.reduceAdd] at hK ⊢
      refine wp_of_quiet rfl ?_
      go_big_quiet_step (fail)
      exact wpQuiet_nil (hK _ _ rfl (Below.refl _ _))
    · intro f w1 hC hd KK hK
      have g8 : f 8 = _ := hd 8 (by kernel_rfl)
      have g9 : f 9 = _ := hd 9 (by kernel_rfl)
      clear hd
      simp only [List.take_succ_cons, List.take_zero, setAll, List.setIfInBounds_toArray, List.set_cons_succ, List.set_cons_zero, Nat.zero_add, Nat.reduceAdd, g8, g9] at hK ⊢
      refine wp_of_quiet rfl ?_
      go_big_quiet_step (fail)
      exact wpQuiet_nil (hK _ _ rfl (Below.refl _ _))
    · intro f w1 hC hd KK hK
      have g4 : f 4 = _ := hd 4 (by kernel_rfl)
      have g10 : f 10 = _ := hd 10 (by kernel_rfl)
      clear hd
      simp only [List.take_succ_cons, List.take_zero, setAll, List.setIfInBounds_toArray, List.set_cons_succ, List.set_cons_zero, Nat.zero_add, Nat.reduceAdd, g4, g10] at hK ⊢
      refine wp_lookup _ _ false rfl (.agg #[.bool la, .slice a1 n1 c1]) (HL.out w1 hC) ?_
      exact hK _ _ rfl (Below.refl _ _)
    · intro f w1 hC hd KK hK
      have g11 : f 11 = _ := hd 11 (by kernel_rfl)
      clear hd
      simp only [List.take_succ_cons, List.take_zero, setAll, List.setIfInBounds_toArray, List.set_cons_succ, List.set_cons_zero, Nat.zero_add, Nat.reduceAdd, g11] at hK ⊢
      have cf := fld74 la a1 n1 c1 w1
      refine wp_of_quiet rfl ?_
      go_big_quiet_step (fail)
      exact wpQuiet_nil (hK _ _ rfl (Below.refl _ _))
  · intro f w1 hC hv
    have g0 : f 0 = _ := hv 0 (by decide)
    have g1 : f 1 = _ := hv 1 (by decide)
    have g2 : f 2 = _ := hv 2 (by decide)
    have g3 : f 3 = _ := hv 3 (by decide)
    have g4 : f 4 = _ := hv 4 (by decide)
    have g5 : f 5 = _ := hv 5 (by decide)
    have g6 : f 6 = _ := hv 6 (by decide)
    have g7 : f 7 = _ := hv 7 (by decide)
    have g8 : f 8 = _ := hv 8 (by decide)
    have g9 : f 9 = _ := hv 9 (by decide)
    have g10 : f 10 = _ := hv 10 (by decide)
    have g11 : f 11 = _ := hv 11 (by decide)
    have g12 : f 12 = _ := hv 12 (by decide)
    simp only [List.take_succ_cons, List.take_zero, List.drop_succ_cons, List.drop_zero, setAll, List.setIfInBounds_toArray, List.set_cons_succ, List.set_cons_zero, Nat.zero_add, Nat.reduceAdd, g0, g1, g2, g3, g4, g5, g6, g7, g8, g9, g10, g11, g12]
    clear g0 g1 g2 g3 g4 g5 g6 g7 g8 g9 g10 g11 g12 hv
    have ho := HO.out.below hC
    have hi := HI.out w1 hC
    have hz := hC.size
    go_wp2_with (refine wpList_app rfl (.tmp 11) (.tmp 23) rfl N w1.heap.size (Nat.le_trans hN hz) _ d rfl ho _ l rfl hi hmx ?_; intro v2 w2 o2 f2)
    have F2 : Fr N w w2 := (Fr.of hC).trans f2
    exact F2

end Go.Proofs.Ythmcmdojnnbefaa
