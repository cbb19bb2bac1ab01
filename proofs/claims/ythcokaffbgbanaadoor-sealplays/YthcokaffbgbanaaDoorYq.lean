/- The drawn region of the reference's Take, by itself. -/
import Derived.Test.YthcokaffbgbanaaDoorXn
import Derived.Test.YthcokaffbgbanaaDoorYg
namespace Go.Proofs.YthcokaffbgbanaaDoor
open Go.RowKit Go.BigFrame

set_option maxRecDepth 1000000 in
set_option maxHeartbeats 4000000 in
theorem rtakeReg (key L : List UInt8) (E : Int) (hk : key.length = 16) (p fr n t o b DQ DS DO N : Nat) (va : Option Addr) (vn vc : Nat) (w0 : World) (u2 u3 u4 u5 u6 u7 u8 u9 u10 u11 u12 u13 u14 u15 u16 u17 u18 u19 u20 u21 u22 u23 u24 u25 u26 u27 u28 u29 u30 u31 u32 u33 u34 u35 u36 u37 u38 u39 u40 u41 u42 u43 u44 u45 u46 u47 u48 u49 u50 u51 u52 u53 u54 u55 u56 u57 u58 u59 u60 u61 u62 u63 u64 u65 u66 u67 : Value) (w : World) (hN : N ≤ w0.heap.size) (hb0 : Below N w0 w) (hr : Row w p 69 (opO key fr n t o b)) (hDG : ∀ w1, Below N w0 w1 → Calls Tryd.prog 14 #[.agg (ag key), .int .u8 (fr : Int), .slice va vn vc] w1 fun r w' => ∃ u, r = .returned (.tuple #[.agg (dgv DQ DS DO u), .int .i64 E]) ∧ In5 w' u L ∧ Below w1.heap.size w1 w') :
    Code.wp Tryd.prog ((Tryd.f24.body.bind (regOf' 1)).getD .skip) (fun e a' w' => e = .normal ∧ ∃ v6 v7 v8 v9 v10 v11 v12 v13 v14 v15 v16 v17 v18 v19 v20 : Value, a' = ⟨List.toArray (.pointer (some ⟨p, 0, none⟩) :: .slice va vn vc :: u2 :: u3 :: u4 :: u5 :: v6 :: v7 :: v8 :: v9 :: v10 :: v11 :: v12 :: v13 :: v14 :: v15 :: v16 :: v17 :: v18 :: v19 :: v20 :: u21 :: u22 :: u23 :: u24 :: u25 :: u26 :: u27 :: u28 :: u29 :: u30 :: u31 :: u32 :: u33 :: u34 :: u35 :: u36 :: u37 :: u38 :: u39 :: u40 :: u41 :: u42 :: u43 :: u44 :: u45 :: u46 :: u47 :: u48 :: u49 :: u50 :: u51 :: u52 :: u53 :: u54 :: u55 :: u56 :: u57 :: u58 :: u59 :: u60 :: u61 :: u62 :: u63 :: u64 :: u65 :: u66 :: u67 :: []), []⟩ ∧ ∃ q u, v6 = .pointer (some ⟨q, 0, none⟩) ∧ N ≤ q ∧ In5 w' u L ∧ Row w' q 28 (dgv DQ DS DO u) ∧ v7 = .int .i64 E ∧ Below N w0 w') ⟨List.toArray (.pointer (some ⟨p, 0, none⟩) :: .slice va vn vc :: u2 :: u3 :: u4 :: u5 :: u6 :: u7 :: u8 :: u9 :: u10 :: u11 :: u12 :: u13 :: u14 :: u15 :: u16 :: u17 :: u18 :: u19 :: u20 :: u21 :: u22 :: u23 :: u24 :: u25 :: u26 :: u27 :: u28 :: u29 :: u30 :: u31 :: u32 :: u33 :: u34 :: u35 :: u36 :: u37 :: u38 :: u39 :: u40 :: u41 :: u42 :: u43 :: u44 :: u45 :: u46 :: u47 :: u48 :: u49 :: u50 :: u51 :: u52 :: u53 :: u54 :: u55 :: u56 :: u57 :: u58 :: u59 :: u60 :: u61 :: u62 :: u63 :: u64 :: u65 :: u66 :: u67 :: []), []⟩ w := by
  conv => arg 2; whnf
  have HDG := Box'.mk hDG
  refine wp_region_wr 15 14 (by kernel_rfl) (by kernel_rfl) _ rfl (by kernel_rfl) (by kernel_rfl) (fun a b => Below a.heap.size a b) (fun a b => Wr N 28 a b) (fun w1 => Below N w0 w1 ∧ Row w1 p 69 (opO key fr n t o b)) (fun k w1 v => match k with
      | 0 => v = .pointer (some ⟨p, 0, none⟩)
      | 1 => v = .pointer (some ⟨p, 0, none⟩)
      | 2 => v = .pointer (some ⟨p, 0, none⟩)
      | 3 => v = .agg (ag key)
      | 4 => v = .pointer (some ⟨p, 0, none⟩)
      | 5 => v = .pointer (some ⟨p, 0, none⟩)
      | 6 => v = .pointer (some ⟨p, 16, none⟩)
      | 7 => v = .int .u8 (fr : Int)
      | 8 => v = .slice va vn vc
      | 9 => ∃ u, v = .tuple #[.agg (dgv DQ DS DO u), .int .i64 E] ∧ In5 w1 u L
      | 10 => ∃ u, v = .tuple #[.agg (dgv DQ DS DO u), .int .i64 E] ∧ In5 w1 u L
      | 11 => ∃ u, v = .agg (dgv DQ DS DO u) ∧ In5 w1 u L
      | 12 => v = .int .i64 E
      | 13 => ∃ q, v = .pointer (some ⟨q, 0, none⟩) ∧ N ≤ q ∧ Room w1 q 28 4
      | _ => True) (fun f w1 => ∃ q, f 13 = .pointer (some ⟨q, 0, none⟩) ∧ N ≤ q ∧ ∃ u, f 11 = .agg (dgv DQ DS DO u) ∧ In5 w1 u L ∧ Row w1 q 28 (dgv DQ DS DO u)) ?_ ?_ ?_ ?_ ?_ ?_ ?_ ?_ ?_ ?_
  · intro a b' hb hC; exact ⟨hC.1.trans (hb.mono (Nat.le_trans hN hC.1.size)), hC.2.below hb hC.2.lt⟩
  · intro k v w1 w2 hC1 hb h
    match k, h with
    | 0, h => exact h
    | 1, h => exact h
    | 2, h => exact h
    | 3, h => exact h
    | 4, h => exact h
    | 5, h => exact h
    | 6, h => exact h
    | 7, h => exact h
    | 8, h => exact h
    | 9, h => exact Exists.elim h fun u hu => ⟨u, hu.1, In5.below hu.2 hb⟩
    | 10, h => exact Exists.elim h fun u hu => ⟨u, hu.1, In5.below hu.2 hb⟩
    | 11, h => exact Exists.elim h fun u hu => ⟨u, hu.1, In5.below hu.2 hb⟩
    | 12, h => exact h
    | 13, h => exact Exists.elim h fun q hq => ⟨q, hq.1, hq.2.1, hq.2.2.below hb (hq.2.2.elim fun _ x => x.1.lt)⟩
    | 14, h => trivial
    | k + 15, h => trivial
  · intro f a b' hC hb h; obtain ⟨q, h1, h2, u, h3, h4, h5⟩ := h; exact ⟨q, h1, h2, u, h3, h4.below hb, h5.below hb h5.lt⟩
  · intro a b' hb hC; exact ⟨hC.1.trans hb.bel, hb.rows _ _ _ hC.2 (by decide)⟩
  · intro k v w1 w2 hkj hC1 hb h
    match k, h with
    | 0, h => exact h
    | 1, h => exact h
    | 2, h => exact h
    | 3, h => exact h
    | 4, h => exact h
    | 5, h => exact h
    | 6, h => exact h
    | 7, h => exact h
    | 8, h => exact h
    | 9, h => exact Exists.elim h fun u hu => ⟨u, hu.1, In5.wr hu.2 hb⟩
    | 10, h => exact Exists.elim h fun u hu => ⟨u, hu.1, In5.wr hu.2 hb⟩
    | 11, h => exact Exists.elim h fun u hu => ⟨u, hu.1, In5.wr hu.2 hb⟩
    | 12, h => exact h
    | 13, h => exact Exists.elim h fun q hq => ⟨q, hq.1, hq.2.1, hb.room _ _ hq.2.2⟩
    | 14, h => trivial
    | k + 15, h => trivial
  · intro f k v w1 hk hR
    have hn11 : upd f k v 11 = f 11 := if_neg (fun e => by subst e; exact (by decide : ¬ (false = true)) (hk.symm.trans (by kernel_rfl)))
    have hn13 : upd f k v 13 = f 13 := if_neg (fun e => by subst e; exact (by decide : ¬ (false = true)) (hk.symm.trans (by kernel_rfl)))
    obtain ⟨q, h1, h2, u, h3, h4, h5⟩ := hR; exact ⟨q, by rw [hn13]; exact h1, h2, u, by rw [hn11]; exact h3, h4, h5⟩
  · exact ⟨hb0.drew, hr⟩
  · refine ⟨?_, ?_, ?_, ?_, ?_, ?_, ?_, ?_, ?_, ?_, ?_, ?_, ?_, ?_, ?_, trivial⟩
    · intro _ f w1 hC hd KK hK
      clear hd
      simp only [List.take_succ_cons, List.take_zero, setAll, List.setIfInBounds_toArray, List.set_cons_succ, List.set_cons_zero, Nat.zero_add, Nat.reduceAdd] at hK ⊢
      refine wp_of_quiet rfl ?_
      go_big_quiet_step (fail)
      exact wpQuiet_nil (hK _ _ rfl (Below.refl _ _))
    · intro _ f w1 hC hd KK hK
      have g0 : f 0 = _ := hd 0 (by kernel_rfl)
      clear hd
      simp only [List.take_succ_cons, List.take_zero, setAll, List.setIfInBounds_toArray, List.set_cons_succ, List.set_cons_zero, Nat.zero_add, Nat.reduceAdd, g0] at hK ⊢
      refine wp_of_quiet rfl ?_
      go_big_quiet_step (fail)
      exact wpQuiet_nil (hK _ _ rfl (Below.refl _ _))
    · intro _ f w1 hC hd KK hK
      have g1 : f 1 = _ := hd 1 (by kernel_rfl)
      clear hd
      simp only [List.take_succ_cons, List.take_zero, setAll, List.setIfInBounds_toArray, List.set_cons_succ, List.set_cons_zero, Nat.zero_add, Nat.reduceAdd, g1] at hK ⊢
      refine wp_of_quiet rfl ?_
      go_big_quiet_step (fail)
      exact wpQuiet_nil (hK _ _ rfl (Below.refl _ _))
    · intro _ f w1 hC hd KK hK
      have g2 : f 2 = _ := hd 2 (by kernel_rfl)
      clear hd
      simp only [List.take_succ_cons, List.take_zero, setAll, List.setIfInBounds_toArray, List.set_cons_succ, List.set_cons_zero, Nat.zero_add, Nat.reduceAdd, g2] at hK ⊢
      refine wp_load_mid 23 _ rfl _ _ rfl _ (key_range hC.2) _ Tryd.underlying23 rfl 16 Tryd.info23 hk ?_
      exact hK _ _ rfl (Below.refl _ _)
    · intro _ f w1 hC hd KK hK
      clear hd
      simp only [List.take_succ_cons, List.take_zero, setAll, List.setIfInBounds_toArray, List.set_cons_succ, List.set_cons_zero, Nat.zero_add, Nat.reduceAdd] at hK ⊢
      refine wp_of_quiet rfl ?_
      go_big_quiet_step (fail)
      exact wpQuiet_nil (hK _ _ rfl (Below.refl _ _))
    · intro _ f w1 hC hd KK hK
      have g4 : f 4 = _ := hd 4 (by kernel_rfl)
      clear hd
      simp only [List.take_succ_cons, List.take_zero, setAll, List.setIfInBounds_toArray, List.set_cons_succ, List.set_cons_zero, Nat.zero_add, Nat.reduceAdd, g4] at hK ⊢
      refine wp_of_quiet rfl ?_
      go_big_quiet_step (fail)
      exact wpQuiet_nil (hK _ _ rfl (Below.refl _ _))
    · intro _ f w1 hC hd KK hK
      have g5 : f 5 = _ := hd 5 (by kernel_rfl)
      clear hd
      simp only [List.take_succ_cons, List.take_zero, setAll, List.setIfInBounds_toArray, List.set_cons_succ, List.set_cons_zero, Nat.zero_add, Nat.reduceAdd, g5] at hK ⊢
      refine wp_of_quiet rfl ?_
      go_big_quiet_step (fail)
      exact wpQuiet_nil (hK _ _ rfl (Below.refl _ _))
    · intro _ f w1 hC hd KK hK
      have g6 : f 6 = _ := hd 6 (by kernel_rfl)
      clear hd
      simp only [List.take_succ_cons, List.take_zero, setAll, List.setIfInBounds_toArray, List.set_cons_succ, List.set_cons_zero, Nat.zero_add, Nat.reduceAdd, g6] at hK ⊢
      have cc : w1.cell? ⟨p, 16, none⟩ = some (.int .u8 (fr : Int)) := by rw [hC.2.cell]; exact opO_at hk fr n t o b 16 (by omega)
      refine wp_of_quiet rfl ?_
      go_big_quiet_step (fail)
      exact wpQuiet_nil (hK _ _ rfl (Below.refl _ _))
    · intro _ f w1 hC hd KK hK
      clear hd
      simp only [List.take_succ_cons, List.take_zero, setAll, List.setIfInBounds_toArray, List.set_cons_succ, List.set_cons_zero, Nat.zero_add, Nat.reduceAdd] at hK ⊢
      refine wp_of_quiet rfl ?_
      go_big_quiet_step (fail)
      exact wpQuiet_nil (hK _ _ rfl (Below.refl _ _))
    · intro _ f w1 hC hd KK hK
      have g3 : f 3 = _ := hd 3 (by kernel_rfl)
      have g7 : f 7 = _ := hd 7 (by kernel_rfl)
      have g8 : f 8 = _ := hd 8 (by kernel_rfl)
      clear hd
      simp only [List.take_succ_cons, List.take_zero, setAll, List.setIfInBounds_toArray, List.set_cons_succ, List.set_cons_zero, Nat.zero_add, Nat.reduceAdd, g3, g7, g8] at hK ⊢
      refine wp_callE 14 #[.agg (ag key), .int .u8 (fr : Int), .slice va vn vc] (by simp [go_sem]) (fun v w' => (∃ u, v = .tuple #[.agg (dgv DQ DS DO u), .int .i64 E] ∧ In5 w' u L) ∧ Below w1.heap.size w1 w') ?_ ?_
      · exact ((HDG.out w1 hC.1).mono fun e w' h => by obtain ⟨u, rfl, h1, h2⟩ := h; exact ⟨_, rfl, ⟨u, rfl, h1⟩, h2⟩)
      · intro v w' hr
        exact hK _ _ hr.1 hr.2
    · intro _ f w1 hC hd KK hK
      have x9 : ∃ u, (f 9) = .tuple #[.agg (dgv DQ DS DO u), .int .i64 E] ∧ In5 w1 u L := hd 9 (by kernel_rfl)
      clear hd
      cases x9 with | intro u9 y90 =>
      have g9 := y90.1
      have z90 := y90.2
      clear y90
      have p9 := z90
      clear z90
      simp only [List.take_succ_cons, List.take_zero, setAll, List.setIfInBounds_toArray, List.set_cons_succ, List.set_cons_zero, Nat.zero_add, Nat.reduceAdd, g9] at hK ⊢
      refine wp_of_quiet rfl ?_
      go_big_quiet_step (fail)
      exact wpQuiet_nil (hK _ _ ⟨u9, rfl, p9⟩ (Below.refl _ _))
    · intro _ f w1 hC hd KK hK
      have x10 : ∃ u, (f 10) = .tuple #[.agg (dgv DQ DS DO u), .int .i64 E] ∧ In5 w1 u L := hd 10 (by kernel_rfl)
      clear hd
      cases x10 with | intro u10 y100 =>
      have g10 := y100.1
      have z100 := y100.2
      clear y100
      have p10 := z100
      clear z100
      simp only [List.take_succ_cons, List.take_zero, setAll, List.setIfInBounds_toArray, List.set_cons_succ, List.set_cons_zero, Nat.zero_add, Nat.reduceAdd, g10] at hK ⊢
      refine wp_of_quiet rfl ?_
      go_big_quiet_step (fail)
      exact wpQuiet_nil (hK _ _ ⟨u10, rfl, p10⟩ (Below.refl _ _))
    · intro _ f w1 hC hd KK hK
      have x10 : ∃ u, (f 10) = .tuple #[.agg (dgv DQ DS DO u), .int .i64 E] ∧ In5 w1 u L := hd 10 (by kernel_rfl)
      clear hd
      cases x10 with | intro u10 y100 =>
      have g10 := y100.1
      have z100 := y100.2
      clear y100
      have p10 := z100
      clear z100
      simp only [List.take_succ_cons, List.take_zero, setAll, List.setIfInBounds_toArray, List.set_cons_succ, List.set_cons_zero, Nat.zero_add, Nat.reduceAdd, g10] at hK ⊢
      refine wp_of_quiet rfl ?_
      go_big_quiet_step (fail)
      exact wpQuiet_nil (hK _ _ rfl (Below.refl _ _))
    · intro _ f w1 hC hd KK hK
      clear hd
      simp only [List.take_succ_cons, List.take_zero, setAll, List.setIfInBounds_toArray, List.set_cons_succ, List.set_cons_zero, Nat.zero_add, Nat.reduceAdd] at hK ⊢
      refine wp_alloc_row 28 rfl _ 4 Tryd.zero28 ?_
      exact hK _ _ ⟨_, rfl, Nat.le_trans hN hC.1.size, Room.new _ _ _ _ rfl⟩ ((Below.refl _ _).alloc (Nat.le_refl _) _)
    · intro h
      exact (h (by decide)).elim
  · intro f w1 hC hd KK hK
    have x11 : ∃ u, (f 11) = .agg (dgv DQ DS DO u) ∧ In5 w1 u L := hd 11 (by kernel_rfl)
    have x13 : ∃ q, (f 13) = .pointer (some ⟨q, 0, none⟩) ∧ N ≤ q ∧ Room w1 q 28 4 := hd 13 (by kernel_rfl)
    clear hd
    cases x11 with | intro u11 y110 =>
    have g11 := y110.1
    have z110 := y110.2
    clear y110
    have p11 := z110
    clear z110
    cases x13 with | intro u13 y130 =>
    have g13 := y130.1
    have z130 := y130.2
    clear y130
    have p13 := z130.1
    have z131 := z130.2
    clear z130
    have q13 := z131
    clear z131
    simp only [List.take_succ_cons, List.take_zero, setAll, List.setIfInBounds_toArray, List.set_cons_succ, List.set_cons_zero, Nat.zero_add, Nat.reduceAdd, g11, g13] at hK ⊢
    have X13 := g13
    have X11 := g11
    obtain ⟨va1, vc1, rfl⟩ := p11.slice
    refine wp_store_row 28 _ _ rfl u13 rfl _ rfl 28 4 q13 Tryd.size28 rfl (dgv_one _ _ _ _ rfl) ?_
    exact hK _ _ ⟨u13, rfl, p13, _, rfl, (p11.wr (Wr.setRow q13 p13 _ rfl)), q13.setRow _⟩ (Wr.setRow q13 p13 _ rfl)
  · intro f w1 hC hv hr
    have hR := hr (by decide)
    have g0 : f 0 = _ := hv 0 (by decide) (by decide)
    have g1 : f 1 = _ := hv 1 (by decide) (by decide)
    have g2 : f 2 = _ := hv 2 (by decide) (by decide)
    have g3 : f 3 = _ := hv 3 (by decide) (by decide)
    have g4 : f 4 = _ := hv 4 (by decide) (by decide)
    have g5 : f 5 = _ := hv 5 (by decide) (by decide)
    have g6 : f 6 = _ := hv 6 (by decide) (by decide)
    have g7 : f 7 = _ := hv 7 (by decide) (by decide)
    have g8 : f 8 = _ := hv 8 (by decide) (by decide)
    have x9 : ∃ u, (f 9) = .tuple #[.agg (dgv DQ DS DO u), .int .i64 E] ∧ In5 w1 u L := hv 9 (by decide) (by decide)
    have x10 : ∃ u, (f 10) = .tuple #[.agg (dgv DQ DS DO u), .int .i64 E] ∧ In5 w1 u L := hv 10 (by decide) (by decide)
    have g12 : f 12 = _ := hv 12 (by decide) (by decide)
    cases x9 with | intro u9 y90 =>
    have g9 := y90.1
    have z90 := y90.2
    clear y90
    have p9 := z90
    clear z90
    cases x10 with | intro u10 y100 =>
    have g10 := y100.1
    have z100 := y100.2
    clear y100
    have p10 := z100
    clear z100
    simp only [List.take_succ_cons, List.take_zero, List.drop_succ_cons, List.drop_zero, setAll, List.setIfInBounds_toArray, List.set_cons_succ, List.set_cons_zero, Nat.zero_add, Nat.reduceAdd, g0, g1, g2, g3, g4, g5, g6, g7, g8, g9, g10, g12]
    clear hv
    cases hR with | intro q hR2 =>
    have g13 := hR2.1
    have hNq := hR2.2.1
    cases hR2.2.2 with | intro u hu =>
    have g11 := hu.1
    have hI := hu.2.1
    have hRow := hu.2.2
    clear hu hR2
    simp only [g11, g13]
    have q8 := hC.1
    go_wp2_with fail
    exact ⟨_, _, ⟨rfl, rfl⟩, q, rfl, hNq, u, hI, hRow, rfl⟩
end Go.Proofs.YthcokaffbgbanaaDoor
