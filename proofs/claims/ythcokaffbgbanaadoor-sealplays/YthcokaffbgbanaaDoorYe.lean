/- The drawn region of the answer in the reference Datagram, by itself. -/
import Derived.Test.YthcokaffbgbanaaDoorYb
import Derived.Test.YthcokaffbgbanaaDoorXn
namespace Go.Proofs.YthcokaffbgbanaaDoor
open Go.RowKit Go.BigFrame
set_option linter.unusedVariables false

set_option maxRecDepth 1000000 in
set_option maxHeartbeats 4000000 in
theorem rputReg (P : List UInt8) (sq rb N g m cap : Nat) (w0 : World) (hm4 : 4 ≤ m) (hmc : m ≤ cap) (h4c : 4 < cap) (u0 u1 u2 u3 u4 u5 u7 u8 u9 u12 u13 u14 u15 u16 u17 u18 u19 u20 u21 u22 u23 u24 u25 u26 u27 u28 u29 u30 u31 u32 u33 u34 u35 u36 u37 u38 u39 u40 u41 u42 u43 u44 u45 u46 u47 u48 u49 u50 u51 u52 u53 u54 u55 u56 u57 u58 u59 u60 u61 u62 u63 u64 u65 u66 u67 u68 u69 u70 u71 u72 u73 u74 u75 u76 u77 u78 u79 u80 u81 u82 u83 u84 u85 u86 u87 : Value) (w : World) (hN : N ≤ w0.heap.size) (hrN : N ≤ rb) (hb0 : Below N w0 w) (ho : Own N w (.slice (some ⟨g, 0, none⟩) m cap) P) (hrr : Row w rb 28 #[.int .u64 0, .int .u16 0, .int .u16 0, .slice none 0 0]) (hcl : ∀ k, k < 4 → w.cell? ⟨g, k, none⟩ = some (.int .u8 ((P.getD k 0).toNat : Int))) :
    Code.wp Tryd.prog ((Tryd.f14.body.bind (regOf' 18)).getD .skip) (fun e a' w' => e = .normal ∧ ∃ v7 v64 v65 v66 v67 v68 v69 v70 v71 v72 v73 v74 v75 v76 v77 v78 v79 v80 v81 v82 v83 v84 v85 v86 v87 : Value, a' = ⟨List.toArray (u0 :: u1 :: u2 :: u3 :: u4 :: u5 :: .pointer (some ⟨rb, 0, none⟩) :: v7 :: u8 :: u9 :: .int .u64 (sq : Int) :: .slice (some ⟨g, 0, none⟩) m cap :: u12 :: u13 :: u14 :: u15 :: u16 :: u17 :: u18 :: u19 :: u20 :: u21 :: u22 :: u23 :: u24 :: u25 :: u26 :: u27 :: u28 :: u29 :: u30 :: u31 :: u32 :: u33 :: u34 :: u35 :: u36 :: u37 :: u38 :: u39 :: u40 :: u41 :: u42 :: u43 :: u44 :: u45 :: u46 :: u47 :: u48 :: u49 :: u50 :: u51 :: u52 :: u53 :: u54 :: u55 :: u56 :: u57 :: u58 :: u59 :: u60 :: u61 :: u62 :: u63 :: v64 :: v65 :: v66 :: v67 :: v68 :: v69 :: v70 :: v71 :: v72 :: v73 :: v74 :: v75 :: v76 :: v77 :: v78 :: v79 :: v80 :: v81 :: v82 :: v83 :: v84 :: v85 :: v86 :: v87 :: []), []⟩ ∧ v7 = .int .i64 0 ∧ Row w' rb 28 (dgv sq (Gf.tmA P 0) (Gf.tmA P 2) (.slice (some ⟨g, 4, none⟩) (m - 4) (cap - 4))) ∧ Own N w' (.slice (some ⟨g, 0, none⟩) m cap) P ∧ Below N w0 w') ⟨List.toArray (u0 :: u1 :: u2 :: u3 :: u4 :: u5 :: .pointer (some ⟨rb, 0, none⟩) :: u7 :: u8 :: u9 :: .int .u64 (sq : Int) :: .slice (some ⟨g, 0, none⟩) m cap :: u12 :: u13 :: u14 :: u15 :: u16 :: u17 :: u18 :: u19 :: u20 :: u21 :: u22 :: u23 :: u24 :: u25 :: u26 :: u27 :: u28 :: u29 :: u30 :: u31 :: u32 :: u33 :: u34 :: u35 :: u36 :: u37 :: u38 :: u39 :: u40 :: u41 :: u42 :: u43 :: u44 :: u45 :: u46 :: u47 :: u48 :: u49 :: u50 :: u51 :: u52 :: u53 :: u54 :: u55 :: u56 :: u57 :: u58 :: u59 :: u60 :: u61 :: u62 :: u63 :: u64 :: u65 :: u66 :: u67 :: u68 :: u69 :: u70 :: u71 :: u72 :: u73 :: u74 :: u75 :: u76 :: u77 :: u78 :: u79 :: u80 :: u81 :: u82 :: u83 :: u84 :: u85 :: u86 :: u87 :: []), []⟩ w := by
  conv => arg 2; whnf
  have hDV1 : (dgv sq (Gf.tmA P 0) (Gf.tmA P 2) (.slice (some ⟨g, 4, none⟩) (m - 4) (cap - 4))).size = 4 := rfl
  have hDV2 : (dgv sq (Gf.tmA P 0) (Gf.tmA P 2) (.slice (some ⟨g, 4, none⟩) (m - 4) (cap - 4))).all (·.oneCell') = true := by simp [dgv, Value.oneCell']
  refine wp_region_grow 24 (by kernel_rfl) (by kernel_rfl) (fun a b => Below a.heap.size a b) (fun w1 => (Below N w0 w1 ∧ Own N w1 (.slice (some ⟨g, 0, none⟩) m cap) P) ∧ Row w1 rb 28 #[.int .u64 0, .int .u16 0, .int .u16 0, .slice none 0 0] ∧ ∀ k, k < 4 → w1.cell? ⟨g, k, none⟩ = some (.int .u8 ((P.getD k 0).toNat : Int))) (fun k w1 v => match k with
      | 0 => v = .int .u64 (sq : Int)
      | 1 => v = .slice (some ⟨g, 0, none⟩) m cap
      | 2 => v = .pointer (some ⟨g, 0, none⟩)
      | 3 => v = .int .u8 ((P.getD 0 0).toNat : Int)
      | 4 => v = .int .u16 ((P.getD 0 0).toNat : Int)
      | 5 => v = .int .u16 (((P.getD 0 0).toNat : Int) * 256)
      | 6 => v = .slice (some ⟨g, 0, none⟩) m cap
      | 7 => v = .pointer (some ⟨g, 1, none⟩)
      | 8 => v = .int .u8 ((P.getD 1 0).toNat : Int)
      | 9 => v = .int .u16 ((P.getD 1 0).toNat : Int)
      | 10 => v = .int .u16 ((Gf.tmA P 0 : Nat) : Int)
      | 11 => v = .slice (some ⟨g, 0, none⟩) m cap
      | 12 => v = .pointer (some ⟨g, 2, none⟩)
      | 13 => v = .int .u8 ((P.getD 2 0).toNat : Int)
      | 14 => v = .int .u16 ((P.getD 2 0).toNat : Int)
      | 15 => v = .int .u16 (((P.getD 2 0).toNat : Int) * 256)
      | 16 => v = .slice (some ⟨g, 0, none⟩) m cap
      | 17 => v = .pointer (some ⟨g, 3, none⟩)
      | 18 => v = .int .u8 ((P.getD 3 0).toNat : Int)
      | 19 => v = .int .u16 ((P.getD 3 0).toNat : Int)
      | 20 => v = .int .u16 ((Gf.tmA P 2 : Nat) : Int)
      | 21 => v = .slice (some ⟨g, 0, none⟩) m cap
      | 22 => v = .slice (some ⟨g, 4, none⟩) (m - 4) (cap - 4)
      | 23 => v = .agg (dgv sq (Gf.tmA P 0) (Gf.tmA P 2) (.slice (some ⟨g, 4, none⟩) (m - 4) (cap - 4)))
      | _ => True) ?_ ?_ ?_ ?_ ?_
  · intro a b' hb hC; exact ⟨⟨hC.1.1.trans (hb.mono (Nat.le_trans hN hC.1.1.size)), hC.1.2.below hb⟩, hC.2.1.below hb hC.2.1.lt, fun k hk => by rw [hb.cell (World.block_lt_of_cell? _ _ (hC.2.2 k hk))]; exact hC.2.2 k hk⟩
  · intro k v w1 w2 hC1 hb h
    match k, h with
    | 0, h => exact h
    | 1, h => exact h
    | 2, h => exact h
    | 3, h => exact h
    | 4, h => exact h
    | 5, h => exact h
    | 6, h => exact h
    | 7, h => exact h
    | 8, h => exact h
    | 9, h => exact h
    | 10, h => exact h
    | 11, h => exact h
    | 12, h => exact h
    | 13, h => exact h
    | 14, h => exact h
    | 15, h => exact h
    | 16, h => exact h
    | 17, h => exact h
    | 18, h => exact h
    | 19, h => exact h
    | 20, h => exact h
    | 21, h => exact h
    | 22, h => exact h
    | 23, h => exact h
    | k + 24, h => trivial
  · exact ⟨⟨hb0.drew, ho⟩, hrr, hcl⟩
  · refine ⟨?_, ?_, ?_, ?_, ?_, ?_, ?_, ?_, ?_, ?_, ?_, ?_, ?_, ?_, ?_, ?_, ?_, ?_, ?_, ?_, ?_, ?_, ?_, ?_, trivial⟩
    · intro f w1 hC hd KK hK
      clear hd
      simp only [List.take_succ_cons, List.take_zero, setAll, List.setIfInBounds_toArray, List.set_cons_succ, List.set_cons_zero, Nat.zero_add, Nat.reduceAdd] at hK ⊢
      refine wp_of_quiet rfl ?_
      go_big_quiet_step (fail)
      exact wpQuiet_nil (hK _ _ rfl (Below.refl _ _))
    · intro f w1 hC hd KK hK
      clear hd
      simp only [List.take_succ_cons, List.take_zero, setAll, List.setIfInBounds_toArray, List.set_cons_succ, List.set_cons_zero, Nat.zero_add, Nat.reduceAdd] at hK ⊢
      refine wp_of_quiet rfl ?_
      go_big_quiet_step (fail)
      exact wpQuiet_nil (hK _ _ rfl (Below.refl _ _))
    · intro f w1 hC hd KK hK
      have g1 : f 1 = _ := hd 1 (by kernel_rfl)
      clear hd
      simp only [List.take_succ_cons, List.take_zero, setAll, List.setIfInBounds_toArray, List.set_cons_succ, List.set_cons_zero, Nat.zero_add, Nat.reduceAdd, g1] at hK ⊢
      refine wp_of_quiet rfl ?_
      go_big_quiet_step (fail)
      exact wpQuiet_nil (hK _ _ rfl (Below.refl _ _))
    · intro f w1 hC hd KK hK
      have g2 : f 2 = _ := hd 2 (by kernel_rfl)
      clear hd
      simp only [List.take_succ_cons, List.take_zero, setAll, List.setIfInBounds_toArray, List.set_cons_succ, List.set_cons_zero, Nat.zero_add, Nat.reduceAdd, g2] at hK ⊢
      have cc := hC.2.2 0 (by omega)
      refine wp_of_quiet rfl ?_
      go_big_quiet_step (fail)
      exact wpQuiet_nil (hK _ _ rfl (Below.refl _ _))
    · intro f w1 hC hd KK hK
      have g3 : f 3 = _ := hd 3 (by kernel_rfl)
      clear hd
      simp only [List.take_succ_cons, List.take_zero, setAll, List.setIfInBounds_toArray, List.set_cons_succ, List.set_cons_zero, Nat.zero_add, Nat.reduceAdd, g3] at hK ⊢
      have hx := (P.getD 0 0).toNat_lt
      generalize P.getD 0 0 = x at *
      refine wp_of_quiet rfl ?_
      go_big_quiet_step (fail)
      exact wpQuiet_nil (hK _ _ rfl (Below.refl _ _))
    · intro f w1 hC hd KK hK
      have g4 : f 4 = _ := hd 4 (by kernel_rfl)
      clear hd
      simp only [List.take_succ_cons, List.take_zero, setAll, List.setIfInBounds_toArray, List.set_cons_succ, List.set_cons_zero, Nat.zero_add, Nat.reduceAdd, g4] at hK ⊢
      have hx := (P.getD 0 0).toNat_lt
      generalize P.getD 0 0 = x at *
      refine wp_of_quiet rfl ?_
      go_big_quiet_step (fail)
      exact wpQuiet_nil (hK _ _ rfl (Below.refl _ _))
    · intro f w1 hC hd KK hK
      clear hd
      simp only [List.take_succ_cons, List.take_zero, setAll, List.setIfInBounds_toArray, List.set_cons_succ, List.set_cons_zero, Nat.zero_add, Nat.reduceAdd] at hK ⊢
      refine wp_of_quiet rfl ?_
      go_big_quiet_step (fail)
      exact wpQuiet_nil (hK _ _ rfl (Below.refl _ _))
    · intro f w1 hC hd KK hK
      have g6 : f 6 = _ := hd 6 (by kernel_rfl)
      clear hd
      simp only [List.take_succ_cons, List.take_zero, setAll, List.setIfInBounds_toArray, List.set_cons_succ, List.set_cons_zero, Nat.zero_add, Nat.reduceAdd, g6] at hK ⊢
      refine wp_of_quiet rfl ?_
      go_big_quiet_step (fail)
      exact wpQuiet_nil (hK _ _ rfl (Below.refl _ _))
    · intro f w1 hC hd KK hK
      have g7 : f 7 = _ := hd 7 (by kernel_rfl)
      clear hd
      simp only [List.take_succ_cons, List.take_zero, setAll, List.setIfInBounds_toArray, List.set_cons_succ, List.set_cons_zero, Nat.zero_add, Nat.reduceAdd, g7] at hK ⊢
      have cc := hC.2.2 1 (by omega)
      refine wp_of_quiet rfl ?_
      go_big_quiet_step (fail)
      exact wpQuiet_nil (hK _ _ rfl (Below.refl _ _))
    · intro f w1 hC hd KK hK
      have g8 : f 8 = _ := hd 8 (by kernel_rfl)
      clear hd
      simp only [List.take_succ_cons, List.take_zero, setAll, List.setIfInBounds_toArray, List.set_cons_succ, List.set_cons_zero, Nat.zero_add, Nat.reduceAdd, g8] at hK ⊢
      have hx := (P.getD 1 0).toNat_lt
      generalize P.getD 1 0 = x at *
      refine wp_of_quiet rfl ?_
      go_big_quiet_step (fail)
      exact wpQuiet_nil (hK _ _ rfl (Below.refl _ _))
    · intro f w1 hC hd KK hK
      have g5 : f 5 = _ := hd 5 (by kernel_rfl)
      have g9 : f 9 = _ := hd 9 (by kernel_rfl)
      clear hd
      simp only [List.take_succ_cons, List.take_zero, setAll, List.setIfInBounds_toArray, List.set_cons_succ, List.set_cons_zero, Nat.zero_add, Nat.reduceAdd, g5, g9] at hK ⊢
      have eo : bits .or .u16 (((P.getD 0 0).toNat : Int) * 256) ((P.getD 1 0).toNat : Int) = ((Gf.tmA P 0 : Nat) : Int) := u16_or (P.getD 0 0) (P.getD 1 0)
      generalize Gf.tmA P 0 = tt at *
      generalize P.getD 0 0 = x at *
      generalize P.getD 1 0 = y at *
      refine wp_of_quiet rfl ?_
      go_big_quiet_step (fail)
      exact wpQuiet_nil (hK _ _ rfl (Below.refl _ _))
    · intro f w1 hC hd KK hK
      clear hd
      simp only [List.take_succ_cons, List.take_zero, setAll, List.setIfInBounds_toArray, List.set_cons_succ, List.set_cons_zero, Nat.zero_add, Nat.reduceAdd] at hK ⊢
      refine wp_of_quiet rfl ?_
      go_big_quiet_step (fail)
      exact wpQuiet_nil (hK _ _ rfl (Below.refl _ _))
    · intro f w1 hC hd KK hK
      have g11 : f 11 = _ := hd 11 (by kernel_rfl)
      clear hd
      simp only [List.take_succ_cons, List.take_zero, setAll, List.setIfInBounds_toArray, List.set_cons_succ, List.set_cons_zero, Nat.zero_add, Nat.reduceAdd, g11] at hK ⊢
      refine wp_of_quiet rfl ?_
      go_big_quiet_step (fail)
      exact wpQuiet_nil (hK _ _ rfl (Below.refl _ _))
    · intro f w1 hC hd KK hK
      have g12 : f 12 = _ := hd 12 (by kernel_rfl)
      clear hd
      simp only [List.take_succ_cons, List.take_zero, setAll, List.setIfInBounds_toArray, List.set_cons_succ, List.set_cons_zero, Nat.zero_add, Nat.reduceAdd, g12] at hK ⊢
      have cc := hC.2.2 2 (by omega)
      refine wp_of_quiet rfl ?_
      go_big_quiet_step (fail)
      exact wpQuiet_nil (hK _ _ rfl (Below.refl _ _))
    · intro f w1 hC hd KK hK
      have g13 : f 13 = _ := hd 13 (by kernel_rfl)
      clear hd
      simp only [List.take_succ_cons, List.take_zero, setAll, List.setIfInBounds_toArray, List.set_cons_succ, List.set_cons_zero, Nat.zero_add, Nat.reduceAdd, g13] at hK ⊢
      have hx := (P.getD 2 0).toNat_lt
      generalize P.getD 2 0 = x at *
      refine wp_of_quiet rfl ?_
      go_big_quiet_step (fail)
      exact wpQuiet_nil (hK _ _ rfl (Below.refl _ _))
    · intro f w1 hC hd KK hK
      have g14 : f 14 = _ := hd 14 (by kernel_rfl)
      clear hd
      simp only [List.take_succ_cons, List.take_zero, setAll, List.setIfInBounds_toArray, List.set_cons_succ, List.set_cons_zero, Nat.zero_add, Nat.reduceAdd, g14] at hK ⊢
      have hx := (P.getD 2 0).toNat_lt
      generalize P.getD 2 0 = x at *
      refine wp_of_quiet rfl ?_
      go_big_quiet_step (fail)
      exact wpQuiet_nil (hK _ _ rfl (Below.refl _ _))
    · intro f w1 hC hd KK hK
      clear hd
      simp only [List.take_succ_cons, List.take_zero, setAll, List.setIfInBounds_toArray, List.set_cons_succ, List.set_cons_zero, Nat.zero_add, Nat.reduceAdd] at hK ⊢
      refine wp_of_quiet rfl ?_
      go_big_quiet_step (fail)
      exact wpQuiet_nil (hK _ _ rfl (Below.refl _ _))
    · intro f w1 hC hd KK hK
      have g16 : f 16 = _ := hd 16 (by kernel_rfl)
      clear hd
      simp only [List.take_succ_cons, List.take_zero, setAll, List.setIfInBounds_toArray, List.set_cons_succ, List.set_cons_zero, Nat.zero_add, Nat.reduceAdd, g16] at hK ⊢
      refine wp_of_quiet rfl ?_
      go_big_quiet_step (fail)
      exact wpQuiet_nil (hK _ _ rfl (Below.refl _ _))
    · intro f w1 hC hd KK hK
      have g17 : f 17 = _ := hd 17 (by kernel_rfl)
      clear hd
      simp only [List.take_succ_cons, List.take_zero, setAll, List.setIfInBounds_toArray, List.set_cons_succ, List.set_cons_zero, Nat.zero_add, Nat.reduceAdd, g17] at hK ⊢
      have cc := hC.2.2 3 (by omega)
      refine wp_of_quiet rfl ?_
      go_big_quiet_step (fail)
      exact wpQuiet_nil (hK _ _ rfl (Below.refl _ _))
    · intro f w1 hC hd KK hK
      have g18 : f 18 = _ := hd 18 (by kernel_rfl)
      clear hd
      simp only [List.take_succ_cons, List.take_zero, setAll, List.setIfInBounds_toArray, List.set_cons_succ, List.set_cons_zero, Nat.zero_add, Nat.reduceAdd, g18] at hK ⊢
      have hx := (P.getD 3 0).toNat_lt
      generalize P.getD 3 0 = x at *
      refine wp_of_quiet rfl ?_
      go_big_quiet_step (fail)
      exact wpQuiet_nil (hK _ _ rfl (Below.refl _ _))
    · intro f w1 hC hd KK hK
      have g15 : f 15 = _ := hd 15 (by kernel_rfl)
      have g19 : f 19 = _ := hd 19 (by kernel_rfl)
      clear hd
      simp only [List.take_succ_cons, List.take_zero, setAll, List.setIfInBounds_toArray, List.set_cons_succ, List.set_cons_zero, Nat.zero_add, Nat.reduceAdd, g15, g19] at hK ⊢
      have eo : bits .or .u16 (((P.getD 2 0).toNat : Int) * 256) ((P.getD 3 0).toNat : Int) = ((Gf.tmA P 2 : Nat) : Int) := u16_or (P.getD 2 0) (P.getD 3 0)
      generalize Gf.tmA P 2 = tt at *
      generalize P.getD 2 0 = x at *
      generalize P.getD 3 0 = y at *
      refine wp_of_quiet rfl ?_
      go_big_quiet_step (fail)
      exact wpQuiet_nil (hK _ _ rfl (Below.refl _ _))
    · intro f w1 hC hd KK hK
      clear hd
      simp only [List.take_succ_cons, List.take_zero, setAll, List.setIfInBounds_toArray, List.set_cons_succ, List.set_cons_zero, Nat.zero_add, Nat.reduceAdd] at hK ⊢
      refine wp_of_quiet rfl ?_
      go_big_quiet_step (fail)
      exact wpQuiet_nil (hK _ _ rfl (Below.refl _ _))
    · intro f w1 hC hd KK hK
      have g21 : f 21 = _ := hd 21 (by kernel_rfl)
      clear hd
      simp only [List.take_succ_cons, List.take_zero, setAll, List.setIfInBounds_toArray, List.set_cons_succ, List.set_cons_zero, Nat.zero_add, Nat.reduceAdd, g21] at hK ⊢
      refine wp_of_quiet rfl ?_
      go_big_quiet_step (fail)
      exact wpQuiet_nil (hK _ _ rfl (Below.refl _ _))
    · intro f w1 hC hd KK hK
      have g0 : f 0 = _ := hd 0 (by kernel_rfl)
      have g10 : f 10 = _ := hd 10 (by kernel_rfl)
      have g20 : f 20 = _ := hd 20 (by kernel_rfl)
      have g22 : f 22 = _ := hd 22 (by kernel_rfl)
      clear hd
      simp only [List.take_succ_cons, List.take_zero, setAll, List.setIfInBounds_toArray, List.set_cons_succ, List.set_cons_zero, Nat.zero_add, Nat.reduceAdd, g0, g10, g20, g22] at hK ⊢
      refine wp_of_quiet rfl ?_
      go_big_quiet_step (fail)
      exact wpQuiet_nil (hK _ _ rfl (Below.refl _ _))
  · intro f w1 hC hv
    have g0 : f 0 = _ := hv 0 (by decide)
    have g1 : f 1 = _ := hv 1 (by decide)
    have g2 : f 2 = _ := hv 2 (by decide)
    have g3 : f 3 = _ := hv 3 (by decide)
    have g4 : f 4 = _ := hv 4 (by decide)
    have g5 : f 5 = _ := hv 5 (by decide)
    have g6 : f 6 = _ := hv 6 (by decide)
    have g7 : f 7 = _ := hv 7 (by decide)
    have g8 : f 8 = _ := hv 8 (by decide)
    have g9 : f 9 = _ := hv 9 (by decide)
    have g10 : f 10 = _ := hv 10 (by decide)
    have g11 : f 11 = _ := hv 11 (by decide)
    have g12 : f 12 = _ := hv 12 (by decide)
    have g13 : f 13 = _ := hv 13 (by decide)
    have g14 : f 14 = _ := hv 14 (by decide)
    have g15 : f 15 = _ := hv 15 (by decide)
    have g16 : f 16 = _ := hv 16 (by decide)
    have g17 : f 17 = _ := hv 17 (by decide)
    have g18 : f 18 = _ := hv 18 (by decide)
    have g19 : f 19 = _ := hv 19 (by decide)
    have g20 : f 20 = _ := hv 20 (by decide)
    have g21 : f 21 = _ := hv 21 (by decide)
    have g22 : f 22 = _ := hv 22 (by decide)
    have g23 : f 23 = _ := hv 23 (by decide)
    simp only [List.take_succ_cons, List.take_zero, List.drop_succ_cons, List.drop_zero, setAll, List.setIfInBounds_toArray, List.set_cons_succ, List.set_cons_zero, Nat.zero_add, Nat.reduceAdd, g0, g1, g2, g3, g4, g5, g6, g7, g8, g9, g10, g11, g12, g13, g14, g15, g16, g17, g18, g19, g20, g21, g22, g23]
    clear g0 g1 g2 g3 g4 g5 g6 g7 g8 g9 g10 g11 g12 g13 g14 g15 g16 g17 g18 g19 g20 g21 g22 g23 hv
    have hrm : Room w1 rb 28 4 := ⟨_, hC.2.1, rfl⟩
    have hfin : Below N w0 (w1.setRow rb (dgv sq (Gf.tmA P 0) (Gf.tmA P 2) (.slice (some ⟨g, 4, none⟩) (m - 4) (cap - 4)))) := below_setRow hC.1.1 hrN _
    have hrow : Row (w1.setRow rb (dgv sq (Gf.tmA P 0) (Gf.tmA P 2) (.slice (some ⟨g, 4, none⟩) (m - 4) (cap - 4)))) rb 28 (dgv sq (Gf.tmA P 0) (Gf.tmA P 2) (.slice (some ⟨g, 4, none⟩) (m - 4) (cap - 4))) := hrm.setRow _
    have hown : Own N (w1.setRow rb (dgv sq (Gf.tmA P 0) (Gf.tmA P 2) (.slice (some ⟨g, 4, none⟩) (m - 4) (cap - 4)))) (.slice (some ⟨g, 0, none⟩) m cap) P := hC.1.2.setRow hrm (by decide) _
    clear hC
    generalize dgv sq (Gf.tmA P 0) (Gf.tmA P 2) (.slice (some ⟨g, 4, none⟩) (m - 4) (cap - 4)) = DV at *
    go_wp2_with (first | (refine wpList_store_row rfl 28 (.tmp 6) (.tmp 87) rfl _ rfl _ rfl _ _ hrm Tryd.size28 hDV1 hDV2 ?_) | fail)
end Go.Proofs.YthcokaffbgbanaaDoor
