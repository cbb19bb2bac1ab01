/- The drawn region of the reference's Next, by itself. -/
import Derived.Test.YthcokaffbgbanaaDoorXm
import Derived.Test.YthcokaffbgbanaaDoorYa
namespace Go.Proofs.YthcokaffbgbanaaDoor
open Go.RowKit Go.BigFrame
set_option linter.unusedVariables false

theorem wrap_u64n (n : Nat) (hn : n < 4611686018427387904) : IntKind.u64.wrap (n : Int) = (n : Int) := by
  simp [IntKind.wrap, IntKind.bits, IntKind.signed]
  omega
set_option maxRecDepth 1000000 in
set_option maxHeartbeats 4000000 in
theorem rnextReg (key D : List UInt8) (hk : key.length = 16) (p fr n st ec N : Nat) (hn : n < 4611686018427387904) (va : Option Addr) (vn vc : Nat) (w0 : World) (u4 u5 u6 u7 u8 u9 u10 u11 u12 u13 u14 u15 u16 u17 u18 u19 u20 u21 u22 u23 u24 u25 u26 u27 u28 u29 u30 u31 u32 u33 u34 u35 u36 u37 u38 u39 u40 u41 u42 u43 u44 : Value) (w : World) (hN : N ≤ w0.heap.size) (hb0 : Below N w0 w) (hr : Row w p 72 (slO key fr (n + 1))) (hBY : ∀ w1, Below N w0 w1 → Calls Tryd.prog 12 #[.agg (ag key), .int .u8 (fr : Int), .agg (dgv n st ec (.slice va vn vc))] w1 fun r w' => ∃ u, r = .returned (.tuple #[u, .int .i64 0]) ∧ Own w1.heap.size w' u D ∧ Below w1.heap.size w1 w') :
    Code.wp Tryd.prog ((Tryd.f22.body.bind (regOf' 6)).getD .skip) (fun e a' w' => e = .normal ∧ ∃ v8 v9 v25 v26 v27 v28 v29 v30 v31 v32 v33 v34 v35 v36 v37 v38 v39 v40 v41 v42 v43 v44 : Value, a' = ⟨List.toArray (.pointer (some ⟨p, 0, none⟩) :: .int .u16 (st : Int) :: .int .u16 (ec : Int) :: .slice va vn vc :: u4 :: u5 :: u6 :: u7 :: v8 :: v9 :: u10 :: u11 :: u12 :: u13 :: u14 :: u15 :: u16 :: u17 :: u18 :: u19 :: u20 :: u21 :: u22 :: u23 :: u24 :: v25 :: v26 :: v27 :: v28 :: v29 :: v30 :: v31 :: v32 :: v33 :: v34 :: v35 :: v36 :: v37 :: v38 :: v39 :: v40 :: v41 :: v42 :: v43 :: v44 :: []), []⟩ ∧ Own N w' v8 D ∧ v9 = .int .i64 0 ∧ Below N w0 w') ⟨List.toArray (.pointer (some ⟨p, 0, none⟩) :: .int .u16 (st : Int) :: .int .u16 (ec : Int) :: .slice va vn vc :: u4 :: u5 :: u6 :: u7 :: u8 :: u9 :: u10 :: u11 :: u12 :: u13 :: u14 :: u15 :: u16 :: u17 :: u18 :: u19 :: u20 :: u21 :: u22 :: u23 :: u24 :: u25 :: u26 :: u27 :: u28 :: u29 :: u30 :: u31 :: u32 :: u33 :: u34 :: u35 :: u36 :: u37 :: u38 :: u39 :: u40 :: u41 :: u42 :: u43 :: u44 :: []), []⟩ w := by
  conv => arg 2; whnf
  have HBY := Box'.mk hBY
  refine wp_region_grow 21 (by kernel_rfl) (by kernel_rfl) (fun a b => Below a.heap.size a b) (fun w1 => Below N w0 w1 ∧ Row w1 p 72 (slO key fr (n + 1))) (fun k w1 v => match k with
      | 0 => v = .pointer (some ⟨p, 0, none⟩)
      | 1 => v = .pointer (some ⟨p, 0, none⟩)
      | 2 => v = .pointer (some ⟨p, 0, none⟩)
      | 3 => v = .agg (ag key)
      | 4 => v = .pointer (some ⟨p, 0, none⟩)
      | 5 => v = .pointer (some ⟨p, 0, none⟩)
      | 6 => v = .pointer (some ⟨p, 16, none⟩)
      | 7 => v = .int .u8 (fr : Int)
      | 8 => v = .pointer (some ⟨p, 0, none⟩)
      | 9 => v = .pointer (some ⟨p, 0, none⟩)
      | 10 => v = .pointer (some ⟨p, 17, none⟩)
      | 11 => v = .int .u64 ((n + 1 : Nat) : Int)
      | 12 => v = .int .u64 (n : Int)
      | 13 => v = .int .u16 (st : Int)
      | 14 => v = .int .u16 (ec : Int)
      | 15 => v = .slice va vn vc
      | 16 => v = .agg (dgv n st ec (.slice va vn vc))
      | 17 => ∃ u, v = .tuple #[u, .int .i64 0] ∧ Own N w1 u D
      | 18 => Own N w1 v D
      | 19 => v = .int .i64 0
      | 20 => Own N w1 v D
      | _ => True) ?_ ?_ ?_ ?_ ?_
  · intro a b' hb hC; exact ⟨hC.1.trans (hb.mono (Nat.le_trans hN hC.1.size)), hC.2.below hb hC.2.lt⟩
  · intro k v w1 w2 hC1 hb h
    match k, h with
    | 0, h => exact h
    | 1, h => exact h
    | 2, h => exact h
    | 3, h => exact h
    | 4, h => exact h
    | 5, h => exact h
    | 6, h => exact h
    | 7, h => exact h
    | 8, h => exact h
    | 9, h => exact h
    | 10, h => exact h
    | 11, h => exact h
    | 12, h => exact h
    | 13, h => exact h
    | 14, h => exact h
    | 15, h => exact h
    | 16, h => exact h
    | 17, h => exact Exists.elim h fun u hu => ⟨u, hu.1, Own.below hu.2 hb⟩
    | 18, h => exact Own.below h hb
    | 19, h => exact h
    | 20, h => exact Own.below h hb
    | k + 21, h => trivial
  · exact ⟨hb0.drew, hr⟩
  · refine ⟨?_, ?_, ?_, ?_, ?_, ?_, ?_, ?_, ?_, ?_, ?_, ?_, ?_, ?_, ?_, ?_, ?_, ?_, ?_, ?_, ?_, trivial⟩
    · intro f w1 hC hd KK hK
      clear hd
      simp only [List.take_succ_cons, List.take_zero, setAll, List.setIfInBounds_toArray, List.set_cons_succ, List.set_cons_zero, Nat.zero_add, Nat.reduceAdd] at hK ⊢
      refine wp_of_quiet rfl ?_
      go_big_quiet_step (fail)
      exact wpQuiet_nil (hK _ _ rfl (Below.refl _ _))
    · intro f w1 hC hd KK hK
      have g0 : f 0 = _ := hd 0 (by kernel_rfl)
      clear hd
      simp only [List.take_succ_cons, List.take_zero, setAll, List.setIfInBounds_toArray, List.set_cons_succ, List.set_cons_zero, Nat.zero_add, Nat.reduceAdd, g0] at hK ⊢
      refine wp_of_quiet rfl ?_
      go_big_quiet_step (fail)
      exact wpQuiet_nil (hK _ _ rfl (Below.refl _ _))
    · intro f w1 hC hd KK hK
      have g1 : f 1 = _ := hd 1 (by kernel_rfl)
      clear hd
      simp only [List.take_succ_cons, List.take_zero, setAll, List.setIfInBounds_toArray, List.set_cons_succ, List.set_cons_zero, Nat.zero_add, Nat.reduceAdd, g1] at hK ⊢
      refine wp_of_quiet rfl ?_
      go_big_quiet_step (fail)
      exact wpQuiet_nil (hK _ _ rfl (Below.refl _ _))
    · intro f w1 hC hd KK hK
      have g2 : f 2 = _ := hd 2 (by kernel_rfl)
      clear hd
      simp only [List.take_succ_cons, List.take_zero, setAll, List.setIfInBounds_toArray, List.set_cons_succ, List.set_cons_zero, Nat.zero_add, Nat.reduceAdd, g2] at hK ⊢
      refine wp_load_mid 23 _ rfl _ _ rfl _ (key_range hC.2) _ Tryd.underlying23 rfl 16 Tryd.info23 hk ?_
      exact hK _ _ rfl (Below.refl _ _)
    · intro f w1 hC hd KK hK
      clear hd
      simp only [List.take_succ_cons, List.take_zero, setAll, List.setIfInBounds_toArray, List.set_cons_succ, List.set_cons_zero, Nat.zero_add, Nat.reduceAdd] at hK ⊢
      refine wp_of_quiet rfl ?_
      go_big_quiet_step (fail)
      exact wpQuiet_nil (hK _ _ rfl (Below.refl _ _))
    · intro f w1 hC hd KK hK
      have g4 : f 4 = _ := hd 4 (by kernel_rfl)
      clear hd
      simp only [List.take_succ_cons, List.take_zero, setAll, List.setIfInBounds_toArray, List.set_cons_succ, List.set_cons_zero, Nat.zero_add, Nat.reduceAdd, g4] at hK ⊢
      refine wp_of_quiet rfl ?_
      go_big_quiet_step (fail)
      exact wpQuiet_nil (hK _ _ rfl (Below.refl _ _))
    · intro f w1 hC hd KK hK
      have g5 : f 5 = _ := hd 5 (by kernel_rfl)
      clear hd
      simp only [List.take_succ_cons, List.take_zero, setAll, List.setIfInBounds_toArray, List.set_cons_succ, List.set_cons_zero, Nat.zero_add, Nat.reduceAdd, g5] at hK ⊢
      refine wp_of_quiet rfl ?_
      go_big_quiet_step (fail)
      exact wpQuiet_nil (hK _ _ rfl (Below.refl _ _))
    · intro f w1 hC hd KK hK
      have g6 : f 6 = _ := hd 6 (by kernel_rfl)
      clear hd
      simp only [List.take_succ_cons, List.take_zero, setAll, List.setIfInBounds_toArray, List.set_cons_succ, List.set_cons_zero, Nat.zero_add, Nat.reduceAdd, g6] at hK ⊢
      have cc : w1.cell? ⟨p, 16, none⟩ = some (.int .u8 (fr : Int)) := by rw [hC.2.cell]; exact slO_16 hk fr (n + 1)
      refine wp_of_quiet rfl ?_
      go_big_quiet_step (fail)
      exact wpQuiet_nil (hK _ _ rfl (Below.refl _ _))
    · intro f w1 hC hd KK hK
      clear hd
      simp only [List.take_succ_cons, List.take_zero, setAll, List.setIfInBounds_toArray, List.set_cons_succ, List.set_cons_zero, Nat.zero_add, Nat.reduceAdd] at hK ⊢
      refine wp_of_quiet rfl ?_
      go_big_quiet_step (fail)
      exact wpQuiet_nil (hK _ _ rfl (Below.refl _ _))
    · intro f w1 hC hd KK hK
      have g8 : f 8 = _ := hd 8 (by kernel_rfl)
      clear hd
      simp only [List.take_succ_cons, List.take_zero, setAll, List.setIfInBounds_toArray, List.set_cons_succ, List.set_cons_zero, Nat.zero_add, Nat.reduceAdd, g8] at hK ⊢
      refine wp_of_quiet rfl ?_
      go_big_quiet_step (fail)
      exact wpQuiet_nil (hK _ _ rfl (Below.refl _ _))
    · intro f w1 hC hd KK hK
      have g9 : f 9 = _ := hd 9 (by kernel_rfl)
      clear hd
      simp only [List.take_succ_cons, List.take_zero, setAll, List.setIfInBounds_toArray, List.set_cons_succ, List.set_cons_zero, Nat.zero_add, Nat.reduceAdd, g9] at hK ⊢
      refine wp_of_quiet rfl ?_
      go_big_quiet_step (fail)
      exact wpQuiet_nil (hK _ _ rfl (Below.refl _ _))
    · intro f w1 hC hd KK hK
      have g10 : f 10 = _ := hd 10 (by kernel_rfl)
      clear hd
      simp only [List.take_succ_cons, List.take_zero, setAll, List.setIfInBounds_toArray, List.set_cons_succ, List.set_cons_zero, Nat.zero_add, Nat.reduceAdd, g10] at hK ⊢
      have cc : w1.cell? ⟨p, 17, none⟩ = some (.int .u64 ((n + 1 : Nat) : Int)) := by rw [hC.2.cell]; exact slO_17 hk fr (n + 1)
      refine wp_of_quiet rfl ?_
      go_big_quiet_step (fail)
      exact wpQuiet_nil (hK _ _ rfl (Below.refl _ _))
    · intro f w1 hC hd KK hK
      have g11 : f 11 = _ := hd 11 (by kernel_rfl)
      clear hd
      simp only [List.take_succ_cons, List.take_zero, setAll, List.setIfInBounds_toArray, List.set_cons_succ, List.set_cons_zero, Nat.zero_add, Nat.reduceAdd, g11] at hK ⊢
      have i1 : IntKind.u64.wrap (((n + 1 : Nat) : Int) - 1) = (n : Int) := by rw [show ((n + 1 : Nat) : Int) - 1 = (n : Int) by omega]; exact wrap_u64n n hn
      refine wp_of_quiet rfl ?_
      go_big_quiet_step (fail)
      exact wpQuiet_nil (hK _ _ (by first | rfl | exact congrArg _ (by omega) | exact congrArg _ i1) (Below.refl _ _))
    · intro f w1 hC hd KK hK
      clear hd
      simp only [List.take_succ_cons, List.take_zero, setAll, List.setIfInBounds_toArray, List.set_cons_succ, List.set_cons_zero, Nat.zero_add, Nat.reduceAdd] at hK ⊢
      refine wp_of_quiet rfl ?_
      go_big_quiet_step (fail)
      exact wpQuiet_nil (hK _ _ rfl (Below.refl _ _))
    · intro f w1 hC hd KK hK
      clear hd
      simp only [List.take_succ_cons, List.take_zero, setAll, List.setIfInBounds_toArray, List.set_cons_succ, List.set_cons_zero, Nat.zero_add, Nat.reduceAdd] at hK ⊢
      refine wp_of_quiet rfl ?_
      go_big_quiet_step (fail)
      exact wpQuiet_nil (hK _ _ rfl (Below.refl _ _))
    · intro f w1 hC hd KK hK
      clear hd
      simp only [List.take_succ_cons, List.take_zero, setAll, List.setIfInBounds_toArray, List.set_cons_succ, List.set_cons_zero, Nat.zero_add, Nat.reduceAdd] at hK ⊢
      refine wp_of_quiet rfl ?_
      go_big_quiet_step (fail)
      exact wpQuiet_nil (hK _ _ rfl (Below.refl _ _))
    · intro f w1 hC hd KK hK
      have g12 : f 12 = _ := hd 12 (by kernel_rfl)
      have g13 : f 13 = _ := hd 13 (by kernel_rfl)
      have g14 : f 14 = _ := hd 14 (by kernel_rfl)
      have g15 : f 15 = _ := hd 15 (by kernel_rfl)
      clear hd
      simp only [List.take_succ_cons, List.take_zero, setAll, List.setIfInBounds_toArray, List.set_cons_succ, List.set_cons_zero, Nat.zero_add, Nat.reduceAdd, g12, g13, g14, g15] at hK ⊢
      refine wp_of_quiet rfl ?_
      go_big_quiet_step (fail)
      exact wpQuiet_nil (hK _ _ rfl (Below.refl _ _))
    · intro f w1 hC hd KK hK
      have g3 : f 3 = _ := hd 3 (by kernel_rfl)
      have g7 : f 7 = _ := hd 7 (by kernel_rfl)
      have g16 : f 16 = _ := hd 16 (by kernel_rfl)
      clear hd
      simp only [List.take_succ_cons, List.take_zero, setAll, List.setIfInBounds_toArray, List.set_cons_succ, List.set_cons_zero, Nat.zero_add, Nat.reduceAdd, g3, g7, g16] at hK ⊢
      refine wp_callE 12 #[.agg (ag key), .int .u8 (fr : Int), .agg (dgv n st ec (.slice va vn vc))] (by simp [go_sem]) (fun v w' => (∃ u, v = .tuple #[u, .int .i64 0] ∧ Own w1.heap.size w' u D) ∧ Below w1.heap.size w1 w') ?_ ?_
      · exact ((HBY.out w1 hC.1).mono fun e w' h => by obtain ⟨u, rfl, h1, h2⟩ := h; exact ⟨_, rfl, ⟨u, rfl, h1⟩, h2⟩)
      · intro v w' hr
        obtain ⟨⟨u, hu, ho⟩, hb⟩ := hr
        exact hK _ _ ⟨u, hu, ho.less (Nat.le_trans hN hC.1.size)⟩ hb
    · intro f w1 hC hd KK hK
      have x17 : ∃ u, (f 17) = .tuple #[u, .int .i64 0] ∧ Own N w1 u D := hd 17 (by kernel_rfl)
      clear hd
      cases x17 with | intro u17 y170 =>
      have g17 := y170.1
      have z170 := y170.2
      clear y170
      have p17 := z170
      clear z170
      simp only [List.take_succ_cons, List.take_zero, setAll, List.setIfInBounds_toArray, List.set_cons_succ, List.set_cons_zero, Nat.zero_add, Nat.reduceAdd, g17] at hK ⊢
      refine wp_of_quiet rfl ?_
      go_big_quiet_step (fail)
      exact wpQuiet_nil (hK _ _ p17 (Below.refl _ _))
    · intro f w1 hC hd KK hK
      have x17 : ∃ u, (f 17) = .tuple #[u, .int .i64 0] ∧ Own N w1 u D := hd 17 (by kernel_rfl)
      clear hd
      cases x17 with | intro u17 y170 =>
      have g17 := y170.1
      have z170 := y170.2
      clear y170
      have p17 := z170
      clear z170
      simp only [List.take_succ_cons, List.take_zero, setAll, List.setIfInBounds_toArray, List.set_cons_succ, List.set_cons_zero, Nat.zero_add, Nat.reduceAdd, g17] at hK ⊢
      refine wp_of_quiet rfl ?_
      go_big_quiet_step (fail)
      exact wpQuiet_nil (hK _ _ rfl (Below.refl _ _))
    · intro f w1 hC hd KK hK
      have p18 : Own N w1 (f 18) D := hd 18 (by kernel_rfl)
      clear hd
      simp only [List.take_succ_cons, List.take_zero, setAll, List.setIfInBounds_toArray, List.set_cons_succ, List.set_cons_zero, Nat.zero_add, Nat.reduceAdd] at hK ⊢
      refine wp_of_quiet rfl ?_
      go_big_quiet_step (fail)
      exact wpQuiet_nil (hK _ _ p18 (Below.refl _ _))
  · intro f w1 hC hv
    have g0 : f 0 = _ := hv 0 (by decide)
    have g1 : f 1 = _ := hv 1 (by decide)
    have g2 : f 2 = _ := hv 2 (by decide)
    have g3 : f 3 = _ := hv 3 (by decide)
    have g4 : f 4 = _ := hv 4 (by decide)
    have g5 : f 5 = _ := hv 5 (by decide)
    have g6 : f 6 = _ := hv 6 (by decide)
    have g7 : f 7 = _ := hv 7 (by decide)
    have g8 : f 8 = _ := hv 8 (by decide)
    have g9 : f 9 = _ := hv 9 (by decide)
    have g10 : f 10 = _ := hv 10 (by decide)
    have g11 : f 11 = _ := hv 11 (by decide)
    have g12 : f 12 = _ := hv 12 (by decide)
    have g13 : f 13 = _ := hv 13 (by decide)
    have g14 : f 14 = _ := hv 14 (by decide)
    have g15 : f 15 = _ := hv 15 (by decide)
    have g16 : f 16 = _ := hv 16 (by decide)
    have x17 : ∃ u, (f 17) = .tuple #[u, .int .i64 0] ∧ Own N w1 u D := hv 17 (by decide)
    have p18 : Own N w1 (f 18) D := hv 18 (by decide)
    have g19 : f 19 = _ := hv 19 (by decide)
    have p20 : Own N w1 (f 20) D := hv 20 (by decide)
    cases x17 with | intro u17 y170 =>
    have g17 := y170.1
    have z170 := y170.2
    clear y170
    have p17 := z170
    clear z170
    simp only [List.take_succ_cons, List.take_zero, List.drop_succ_cons, List.drop_zero, setAll, List.setIfInBounds_toArray, List.set_cons_succ, List.set_cons_zero, Nat.zero_add, Nat.reduceAdd, g0, g1, g2, g3, g4, g5, g6, g7, g8, g9, g10, g11, g12, g13, g14, g15, g16, g17, g19]
    clear g0 g1 g2 g3 g4 g5 g6 g7 g8 g9 g10 g11 g12 g13 g14 g15 g16 g17 g19 hv
    have q8 := hC.1
    go_wp2_with fail
end Go.Proofs.YthcokaffbgbanaaDoor
