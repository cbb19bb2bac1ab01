/- The walk of symMerge, for coins, where the right side is one number. -/
import Derived.Test.YtcjfaahlchbcmaaK29
import Derived.Test.YtcjfaahlchbcmaaK05
import Derived.Test.YtcjfaahlchbcmaaK01
import Derived.Test.YtcjfaahlchbcmaaK09
import Derived.Test.YtcjfaahlchbcmaaK06
namespace Go.Proofs.Ytcjfaahlchbcmaa
open Go.RowKit Go.BigFrame
set_option maxRecDepth 100000 in
set_option maxHeartbeats 4000000 in
theorem symC_right (g c B pb : Nat) (w0 : World) (k : Cn → Int) (S : Cn → Prop) (hcmp : CmpC B w0 pb k S) (hB : B ≤ g) (hB0 : B ≤ w0.heap.size) (A : List Cn) (y : Cn) (X Z : List Cn) (a m b N : Nat) (hy : S y) (hS : ∀ x ∈ X, S x) (hX : Gs.Srt k X) (ha : A.length = a) (hm : a + X.length = m) (hX2 : 2 ≤ X.length) (hb : m + 1 = b) (hN : N = b + Z.length) (hN2 : N ≤ 4096) (w : World) (hbl : Below B w0 w) (h : SegC w g (A ++ (X ++ ([y] ++ Z)))) :
    Calls Try.prog 94 #[.slice (some ⟨g, 0, none⟩) N c, .int .i64 (a : Int), .int .i64 (m : Int), .int .i64 (b : Int), cfCv pb] w fun e w' => e = .returned (.tuple #[]) ∧ SegC w' g (A ++ (Gs.mg k X [y] ++ Z)) ∧ Gb g w w' := by
  have HSX : Box' (∀ u, u < X.length → S (X.getD u (0, false))) := ⟨fun u hu => hS _ (by simp [hu])⟩
  have HXS := Box'.mk (srt_getC k X hX)
  have HCM := Box'.mk hcmp
  have CEL : Box' (∀ W, SegC W g (A ++ (X ++ ([y] ++ Z))) → ∀ u, u < X.length → CellC W g (a + u) (X.getD u (0, false))) := ⟨fun W hW u hu => by
    have := hW.cell (k := a + u) (by simp; omega)
    rw [← ha, getD_add, getD_left _ _ _ _ hu, ha] at this
    exact this⟩
  have CEY : Box' (∀ W, SegC W g (A ++ (X ++ ([y] ++ Z))) → CellC W g (m) y) := ⟨fun W hW => by
    have := hW.cell (k := m) (by simp; omega)
    rw [show m = A.length + (X.length + 0) by omega, getD_add, getD_add] at this
    rw [show A.length + (X.length + 0) = m by omega] at this
    exact this⟩
  have DONE : Box' (∀ n, (∀ u, u < n → k (X.getD u (0, false)) ≤ k y) → (∀ u, n ≤ u → u < X.length → k y < k (X.getD u (0, false))) → Gs.mg k X [y] = X.take n ++ y :: X.drop n) := ⟨one_rightC k X y⟩
  have XL : Box' (a + X.length = m) := ⟨hm⟩
  have AL : Box' (A.length = a) := ⟨ha⟩
  have NL : Box' (N = b + Z.length) := ⟨hN⟩
  have ham : a + 2 ≤ m := by omega
  have hbN : b ≤ N := by omega
  unfold cfCv
  have hm0 : ((m : Int) - (a : Int) == 1) = false := by rw [beq_eq_false_iff_ne]; omega
  have hb0 : ((b : Int) - (m : Int) == 1) = true := by rw [beq_iff_eq]; omega
  have hb1 : m + 1 ≤ b := by omega
  have hb2 : b ≤ m + 1 := by omega
  clear hcmp hS hX ha hb hN hm hX2
  go_enter Try.func94, Try.ntmps94
  go_wp2_with fail
  go_loopw [14, 15] (fun u v wr => ∃ i j : Nat, u = .int .i64 (i : Int) ∧ v = .int .i64 (j : Int) ∧ a ≤ i ∧ i ≤ j ∧ j ≤ m ∧ Box' (∀ u, u < i - a → k (X.getD u (0, false)) ≤ k y) ∧ Box' (∀ u, j - a ≤ u → u < X.length → k y < k (X.getD u (0, false))) ∧ SegC wr g (A ++ (X ++ ([y] ++ Z))) ∧ Gb g w wr) (fun u v _ => (intOf v).toNat - (intOf u).toNat)
  case atStart => exact ⟨a, m, rfl, rfl, by omega, by omega, by omega, ⟨fun u hu => by omega⟩, ⟨fun u hu hl => by have := XL.out; omega⟩, h, Gb.refl _ _⟩
  case round =>
    clear h
    obtain ⟨i, j, rfl, rfl, h1, h2, h3, L1, L2, hs, hg⟩ := hrel
    by_cases hij : i < j
    · have hh : (i + j) / 2 - a < X.length := by have := XL.out; omega
      have CB : Box' (∀ W, SegC W g (A ++ (X ++ ([y] ++ Z))) → CellC W g ((i + j) / 2) (X.getD ((i + j) / 2 - a) (0, false)) ∧ CellC W g m y) := ⟨fun W hW => ⟨by
        have := CEL.out W hW ((i + j) / 2 - a) hh
        rw [show a + ((i + j) / 2 - a) = (i + j) / 2 by omega] at this
        exact this, CEY.out W hW⟩⟩
      have hcc : ∀ W, Gb g w W → Calls Try.prog 86 #[.agg #[.int .i64 y.1, .bool y.2], .agg #[.int .i64 (X.getD ((i + j) / 2 - a) (0, false)).1, .bool (X.getD ((i + j) / 2 - a) (0, false)).2]] W fun e w' => e = .returned (.int .i64 (sg (k y) (k (X.getD ((i + j) / 2 - a) (0, false))))) ∧ Below W.heap.size W w' := fun W hW => HCM.out W (hW.on hbl hB hB0) _ _ hy (HSX.out _ hh)
      have hsg := sg_lt (k y) (k (X.getD ((i + j) / 2 - a) (0, false)))
      have up1 : ¬ k y < k (X.getD ((i + j) / 2 - a) (0, false)) → Box' (∀ u, u < (i + j) / 2 + 1 - a → k (X.getD u (0, false)) ≤ k y) := fun hlt => ⟨fun u hu => by
        have := HXS.out u ((i + j) / 2 - a) (by omega) hh; omega⟩
      have up2 : k y < k (X.getD ((i + j) / 2 - a) (0, false)) → Box' (∀ u, (i + j) / 2 - a ≤ u → u < X.length → k y < k (X.getD u (0, false))) := fun hlt => ⟨fun u hu hl => by
        have := HXS.out ((i + j) / 2 - a) u hu hl; omega⟩
      have UP1 := Box'.mk up1
      have UP2 := Box'.mk up2
      have hiN : (i + j) / 2 < N := by omega
      have hmN : m < N := by omega
      generalize sg (k y) (k (X.getD ((i + j) / 2 - a) (0, false))) = sv' at *
      by_cases hlt : k y < k (X.getD ((i + j) / 2 - a) (0, false))
      · have U := UP2.out hlt
        have i1 : sv' < 0 := by have := decide_eq_true hlt; rw [← hsg] at this; exact of_decide_eq_true this
        have i2 : (!decide (sv' < 0)) = false := by rw [decide_eq_true i1]; rfl
        generalize X.getD ((i + j) / 2 - a) (0, false) = xh at *
        clear HSX HXS HCM CEL CEY DONE XL AL NL hsg up1 up2 UP1 UP2 hh L2 hlt
        go_wp2_with fail
        refine wp_region_grow 12 (by kernel_rfl) (by kernel_rfl) (fun w1 w2 => Below w1.heap.size w1 w2) (fun w1 => SegC w1 g (A ++ (X ++ ([y] ++ Z))) ∧ Gb g w w1) (fun k w1 v => match k with
          | 0 => v = .func (.func 86) #[] #[]
          | 1 => v = .slice (some ⟨g, 0, none⟩) N c
          | 2 => v = .int .i64 (m : Int)
          | 3 => v = .pointer (some ⟨g, m * 2, none⟩)
          | 4 => v = .agg #[.int .i64 y.1, .bool y.2]
          | 5 => v = .slice (some ⟨g, 0, none⟩) N c
          | 6 => v = .int .i64 (((i : Int) + (j : Int)) / 2)
          | 7 => v = .pointer (some ⟨g, (i + j) / 2 * 2, none⟩)
          | 8 => v = .agg #[.int .i64 xh.1, .bool xh.2]
          | 9 => v = .int .i64 sv'
          | 10 => v = .bool true
          | 11 => v = .bool false
          | _ => True) ?_ ?_ ?_ ?_ ?_
        · rintro w1 w2 hb ⟨q1, q2⟩
          exact ⟨q1.below hb, q2.trans (Gb.below hb)⟩
        · intro k v w1 w2 hC1 hb h
          match k, h with
          | 0, h => exact h
          | 1, h => exact h
          | 2, h => exact h
          | 3, h => exact h
          | 4, h => exact h
          | 5, h => exact h
          | 6, h => exact h
          | 7, h => exact h
          | 8, h => exact h
          | 9, h => exact h
          | 10, h => exact h
          | 11, h => exact h
          | k + 12, h => trivial
        · exact ⟨hs.drew, hg.drew⟩
        · refine ⟨?_, ?_, ?_, ?_, ?_, ?_, ?_, ?_, ?_, ?_, ?_, ?_, trivial⟩
          · intro f w1 hC hd KK hK
            simp only [List.take_succ_cons, List.take_zero, setAll, List.setIfInBounds_toArray, List.set_cons_succ, List.set_cons_zero, Nat.zero_add, Nat.reduceAdd] at hK ⊢
            refine wp_of_quiet rfl ?_
            go_big_quiet_step (fail)
            exact wpQuiet_nil (hK _ _ rfl (Below.refl _ _))
          · intro f w1 hC hd KK hK
            simp only [List.take_succ_cons, List.take_zero, setAll, List.setIfInBounds_toArray, List.set_cons_succ, List.set_cons_zero, Nat.zero_add, Nat.reduceAdd] at hK ⊢
            refine wp_of_quiet rfl ?_
            go_big_quiet_step (fail)
            exact wpQuiet_nil (hK _ _ rfl (Below.refl _ _))
          · intro f w1 hC hd KK hK
            simp only [List.take_succ_cons, List.take_zero, setAll, List.setIfInBounds_toArray, List.set_cons_succ, List.set_cons_zero, Nat.zero_add, Nat.reduceAdd] at hK ⊢
            refine wp_of_quiet rfl ?_
            go_big_quiet_step (fail)
            exact wpQuiet_nil (hK _ _ rfl (Below.refl _ _))
          · intro f w1 hC hd KK hK
            have g1 : f 1 = _ := hd 1 rfl
            have g2 : f 2 = _ := hd 2 rfl
            simp only [List.take_succ_cons, List.take_zero, setAll, List.setIfInBounds_toArray, List.set_cons_succ, List.set_cons_zero, Nat.zero_add, Nat.reduceAdd, g1, g2] at hK ⊢
            refine wp_of_quiet rfl ?_
            go_big_quiet_step (fail)
            exact wpQuiet_nil (hK _ _ rfl (Below.refl _ _))
          · intro f w1 hC hd KK hK
            have c4a := CellC.a (And.right (CB.out w1 hC.1))
            have c4b := CellC.b (And.right (CB.out w1 hC.1))
            have g3 : f 3 = _ := hd 3 rfl
            simp only [List.take_succ_cons, List.take_zero, setAll, List.setIfInBounds_toArray, List.set_cons_succ, List.set_cons_zero, Nat.zero_add, Nat.reduceAdd, g3] at hK ⊢
            refine wp_of_quiet rfl ?_
            go_big_quiet_step (fail)
            exact wpQuiet_nil (hK _ _ rfl (Below.refl _ _))
          · intro f w1 hC hd KK hK
            simp only [List.take_succ_cons, List.take_zero, setAll, List.setIfInBounds_toArray, List.set_cons_succ, List.set_cons_zero, Nat.zero_add, Nat.reduceAdd] at hK ⊢
            refine wp_of_quiet rfl ?_
            go_big_quiet_step (fail)
            exact wpQuiet_nil (hK _ _ rfl (Below.refl _ _))
          · intro f w1 hC hd KK hK
            simp only [List.take_succ_cons, List.take_zero, setAll, List.setIfInBounds_toArray, List.set_cons_succ, List.set_cons_zero, Nat.zero_add, Nat.reduceAdd] at hK ⊢
            refine wp_of_quiet rfl ?_
            go_big_quiet_step (fail)
            exact wpQuiet_nil (hK _ _ rfl (Below.refl _ _))
          · intro f w1 hC hd KK hK
            have g5 : f 5 = _ := hd 5 rfl
            have g6 : f 6 = _ := hd 6 rfl
            simp only [List.take_succ_cons, List.take_zero, setAll, List.setIfInBounds_toArray, List.set_cons_succ, List.set_cons_zero, Nat.zero_add, Nat.reduceAdd, g5, g6] at hK ⊢
            refine wp_of_quiet rfl ?_
            go_big_quiet_step (fail)
            exact wpQuiet_nil (hK _ _ rfl (Below.refl _ _))
          · intro f w1 hC hd KK hK
            have c8a := CellC.a (And.left (CB.out w1 hC.1))
            have c8b := CellC.b (And.left (CB.out w1 hC.1))
            have g7 : f 7 = _ := hd 7 rfl
            simp only [List.take_succ_cons, List.take_zero, setAll, List.setIfInBounds_toArray, List.set_cons_succ, List.set_cons_zero, Nat.zero_add, Nat.reduceAdd, g7] at hK ⊢
            refine wp_of_quiet rfl ?_
            go_big_quiet_step (fail)
            exact wpQuiet_nil (hK _ _ rfl (Below.refl _ _))
          · intro f w1 hC hd KK hK
            have g0 : f 0 = _ := hd 0 rfl
            have g4 : f 4 = _ := hd 4 rfl
            have g8 : f 8 = _ := hd 8 rfl
            simp only [List.take_succ_cons, List.take_zero, setAll, List.setIfInBounds_toArray, List.set_cons_succ, List.set_cons_zero, Nat.zero_add, Nat.reduceAdd, g0, g4, g8] at hK ⊢
            exact wp_call 86 #[.agg #[.int .i64 y.1, .bool y.2], .agg #[.int .i64 xh.1, .bool xh.2]] (by simp [go_sem]) _ _ (hcc w1 hC.2) (fun w' hb => hK _ _ rfl hb)
          · intro f w1 hC hd KK hK
            have g9 : f 9 = _ := hd 9 rfl
            simp only [List.take_succ_cons, List.take_zero, setAll, List.setIfInBounds_toArray, List.set_cons_succ, List.set_cons_zero, Nat.zero_add, Nat.reduceAdd, g9] at hK ⊢
            refine wp_of_quiet rfl ?_
            go_big_quiet_step (fail)
            exact wpQuiet_nil (hK _ _ rfl (Below.refl _ _))
          · intro f w1 hC hd KK hK
            have g10 : f 10 = _ := hd 10 rfl
            simp only [List.take_succ_cons, List.take_zero, setAll, List.setIfInBounds_toArray, List.set_cons_succ, List.set_cons_zero, Nat.zero_add, Nat.reduceAdd, g10] at hK ⊢
            refine wp_of_quiet rfl ?_
            go_big_quiet_step (fail)
            exact wpQuiet_nil (hK _ _ rfl (Below.refl _ _))
        · intro f w1 hC hv
          have g0 : f 0 = _ := hv 0 (by decide)
          have g1 : f 1 = _ := hv 1 (by decide)
          have g2 : f 2 = _ := hv 2 (by decide)
          have g3 : f 3 = _ := hv 3 (by decide)
          have g4 : f 4 = _ := hv 4 (by decide)
          have g5 : f 5 = _ := hv 5 (by decide)
          have g6 : f 6 = _ := hv 6 (by decide)
          have g7 : f 7 = _ := hv 7 (by decide)
          have g8 : f 8 = _ := hv 8 (by decide)
          have g9 : f 9 = _ := hv 9 (by decide)
          have g10 : f 10 = _ := hv 10 (by decide)
          have g11 : f 11 = _ := hv 11 (by decide)
          simp only [List.take_succ_cons, List.take_zero, List.drop_succ_cons, List.drop_zero, setAll, List.setIfInBounds_toArray, List.set_cons_succ, List.set_cons_zero, Nat.zero_add, Nat.reduceAdd, g0, g1, g2, g3, g4, g5, g6, g7, g8, g9, g10, g11]
          clear g0 g1 g2 g3 g4 g5 g6 g7 g8 g9 g10 g11 hv
          have s9 := hC.1
          have g9 := hC.2
          clear hcc CB hs hg hC
          go_wp2_with fail
          exact ⟨⟨i, (i + j) / 2, rfl, by go_num, by omega, by omega, by omega, L1, U, s9, g9⟩, by simp [intOf]; omega⟩
      · have U := UP1.out hlt
        have i1 : ¬ sv' < 0 := by have := decide_eq_false hlt; rw [← hsg] at this; exact of_decide_eq_false this
        have i3 : decide (sv' < 0) = false := decide_eq_false i1
        have i2 : (!decide (sv' < 0)) = true := by rw [decide_eq_false i1]; rfl
        generalize X.getD ((i + j) / 2 - a) (0, false) = xh at *
        clear HSX HXS HCM CEL CEY DONE XL AL NL hsg up1 up2 UP1 UP2 hh L1 hlt
        go_wp2_with fail
        refine wp_region_grow 12 (by kernel_rfl) (by kernel_rfl) (fun w1 w2 => Below w1.heap.size w1 w2) (fun w1 => SegC w1 g (A ++ (X ++ ([y] ++ Z))) ∧ Gb g w w1) (fun k w1 v => match k with
          | 0 => v = .func (.func 86) #[] #[]
          | 1 => v = .slice (some ⟨g, 0, none⟩) N c
          | 2 => v = .int .i64 (m : Int)
          | 3 => v = .pointer (some ⟨g, m * 2, none⟩)
          | 4 => v = .agg #[.int .i64 y.1, .bool y.2]
          | 5 => v = .slice (some ⟨g, 0, none⟩) N c
          | 6 => v = .int .i64 (((i : Int) + (j : Int)) / 2)
          | 7 => v = .pointer (some ⟨g, (i + j) / 2 * 2, none⟩)
          | 8 => v = .agg #[.int .i64 xh.1, .bool xh.2]
          | 9 => v = .int .i64 sv'
          | 10 => v = .bool false
          | 11 => v = .bool true
          | _ => True) ?_ ?_ ?_ ?_ ?_
        · rintro w1 w2 hb ⟨q1, q2⟩
          exact ⟨q1.below hb, q2.trans (Gb.below hb)⟩
        · intro k v w1 w2 hC1 hb h
          match k, h with
          | 0, h => exact h
          | 1, h => exact h
          | 2, h => exact h
          | 3, h => exact h
          | 4, h => exact h
          | 5, h => exact h
          | 6, h => exact h
          | 7, h => exact h
          | 8, h => exact h
          | 9, h => exact h
          | 10, h => exact h
          | 11, h => exact h
          | k + 12, h => trivial
        · exact ⟨hs.drew, hg.drew⟩
        · refine ⟨?_, ?_, ?_, ?_, ?_, ?_, ?_, ?_, ?_, ?_, ?_, ?_, trivial⟩
          · intro f w1 hC hd KK hK
            simp only [List.take_succ_cons, List.take_zero, setAll, List.setIfInBounds_toArray, List.set_cons_succ, List.set_cons_zero, Nat.zero_add, Nat.reduceAdd] at hK ⊢
            refine wp_of_quiet rfl ?_
            go_big_quiet_step (fail)
            exact wpQuiet_nil (hK _ _ rfl (Below.refl _ _))
          · intro f w1 hC hd KK hK
            simp only [List.take_succ_cons, List.take_zero, setAll, List.setIfInBounds_toArray, List.set_cons_succ, List.set_cons_zero, Nat.zero_add, Nat.reduceAdd] at hK ⊢
            refine wp_of_quiet rfl ?_
            go_big_quiet_step (fail)
            exact wpQuiet_nil (hK _ _ rfl (Below.refl _ _))
          · intro f w1 hC hd KK hK
            simp only [List.take_succ_cons, List.take_zero, setAll, List.setIfInBounds_toArray, List.set_cons_succ, List.set_cons_zero, Nat.zero_add, Nat.reduceAdd] at hK ⊢
            refine wp_of_quiet rfl ?_
            go_big_quiet_step (fail)
            exact wpQuiet_nil (hK _ _ rfl (Below.refl _ _))
          · intro f w1 hC hd KK hK
            have g1 : f 1 = _ := hd 1 rfl
            have g2 : f 2 = _ := hd 2 rfl
            simp only [List.take_succ_cons, List.take_zero, setAll, List.setIfInBounds_toArray, List.set_cons_succ, List.set_cons_zero, Nat.zero_add, Nat.reduceAdd, g1, g2] at hK ⊢
            refine wp_of_quiet rfl ?_
            go_big_quiet_step (fail)
            exact wpQuiet_nil (hK _ _ rfl (Below.refl _ _))
          · intro f w1 hC hd KK hK
            have c4a := CellC.a (And.right (CB.out w1 hC.1))
            have c4b := CellC.b (And.right (CB.out w1 hC.1))
            have g3 : f 3 = _ := hd 3 rfl
            simp only [List.take_succ_cons, List.take_zero, setAll, List.setIfInBounds_toArray, List.set_cons_succ, List.set_cons_zero, Nat.zero_add, Nat.reduceAdd, g3] at hK ⊢
            refine wp_of_quiet rfl ?_
            go_big_quiet_step (fail)
            exact wpQuiet_nil (hK _ _ rfl (Below.refl _ _))
          · intro f w1 hC hd KK hK
            simp only [List.take_succ_cons, List.take_zero, setAll, List.setIfInBounds_toArray, List.set_cons_succ, List.set_cons_zero, Nat.zero_add, Nat.reduceAdd] at hK ⊢
            refine wp_of_quiet rfl ?_
            go_big_quiet_step (fail)
            exact wpQuiet_nil (hK _ _ rfl (Below.refl _ _))
          · intro f w1 hC hd KK hK
            simp only [List.take_succ_cons, List.take_zero, setAll, List.setIfInBounds_toArray, List.set_cons_succ, List.set_cons_zero, Nat.zero_add, Nat.reduceAdd] at hK ⊢
            refine wp_of_quiet rfl ?_
            go_big_quiet_step (fail)
            exact wpQuiet_nil (hK _ _ rfl (Below.refl _ _))
          · intro f w1 hC hd KK hK
            have g5 : f 5 = _ := hd 5 rfl
            have g6 : f 6 = _ := hd 6 rfl
            simp only [List.take_succ_cons, List.take_zero, setAll, List.setIfInBounds_toArray, List.set_cons_succ, List.set_cons_zero, Nat.zero_add, Nat.reduceAdd, g5, g6] at hK ⊢
            refine wp_of_quiet rfl ?_
            go_big_quiet_step (fail)
            exact wpQuiet_nil (hK _ _ rfl (Below.refl _ _))
          · intro f w1 hC hd KK hK
            have c8a := CellC.a (And.left (CB.out w1 hC.1))
            have c8b := CellC.b (And.left (CB.out w1 hC.1))
            have g7 : f 7 = _ := hd 7 rfl
            simp only [List.take_succ_cons, List.take_zero, setAll, List.setIfInBounds_toArray, List.set_cons_succ, List.set_cons_zero, Nat.zero_add, Nat.reduceAdd, g7] at hK ⊢
            refine wp_of_quiet rfl ?_
            go_big_quiet_step (fail)
            exact wpQuiet_nil (hK _ _ rfl (Below.refl _ _))
          · intro f w1 hC hd KK hK
            have g0 : f 0 = _ := hd 0 rfl
            have g4 : f 4 = _ := hd 4 rfl
            have g8 : f 8 = _ := hd 8 rfl
            simp only [List.take_succ_cons, List.take_zero, setAll, List.setIfInBounds_toArray, List.set_cons_succ, List.set_cons_zero, Nat.zero_add, Nat.reduceAdd, g0, g4, g8] at hK ⊢
            exact wp_call 86 #[.agg #[.int .i64 y.1, .bool y.2], .agg #[.int .i64 xh.1, .bool xh.2]] (by simp [go_sem]) _ _ (hcc w1 hC.2) (fun w' hb => hK _ _ rfl hb)
          · intro f w1 hC hd KK hK
            have g9 : f 9 = _ := hd 9 rfl
            simp only [List.take_succ_cons, List.take_zero, setAll, List.setIfInBounds_toArray, List.set_cons_succ, List.set_cons_zero, Nat.zero_add, Nat.reduceAdd, g9] at hK ⊢
            refine wp_of_quiet rfl ?_
            go_big_quiet_step (fail)
            exact wpQuiet_nil (hK _ _ rfl (Below.refl _ _))
          · intro f w1 hC hd KK hK
            have g10 : f 10 = _ := hd 10 rfl
            simp only [List.take_succ_cons, List.take_zero, setAll, List.setIfInBounds_toArray, List.set_cons_succ, List.set_cons_zero, Nat.zero_add, Nat.reduceAdd, g10] at hK ⊢
            refine wp_of_quiet rfl ?_
            go_big_quiet_step (fail)
            exact wpQuiet_nil (hK _ _ rfl (Below.refl _ _))
        · intro f w1 hC hv
          have g0 : f 0 = _ := hv 0 (by decide)
          have g1 : f 1 = _ := hv 1 (by decide)
          have g2 : f 2 = _ := hv 2 (by decide)
          have g3 : f 3 = _ := hv 3 (by decide)
          have g4 : f 4 = _ := hv 4 (by decide)
          have g5 : f 5 = _ := hv 5 (by decide)
          have g6 : f 6 = _ := hv 6 (by decide)
          have g7 : f 7 = _ := hv 7 (by decide)
          have g8 : f 8 = _ := hv 8 (by decide)
          have g9 : f 9 = _ := hv 9 (by decide)
          have g10 : f 10 = _ := hv 10 (by decide)
          have g11 : f 11 = _ := hv 11 (by decide)
          simp only [List.take_succ_cons, List.take_zero, List.drop_succ_cons, List.drop_zero, setAll, List.setIfInBounds_toArray, List.set_cons_succ, List.set_cons_zero, Nat.zero_add, Nat.reduceAdd, g0, g1, g2, g3, g4, g5, g6, g7, g8, g9, g10, g11]
          clear g0 g1 g2 g3 g4 g5 g6 g7 g8 g9 g10 g11 hv
          have s9 := hC.1
          have g9 := hC.2
          clear hcc CB hs hg hC
          go_wp2_with fail
          exact ⟨⟨(i + j) / 2 + 1, j, by go_num, rfl, by omega, by omega, by omega, U, L2, s9, g9⟩, by simp [intOf]; omega⟩
    · obtain rfl : i = j := by omega
      have hD := DONE.out (i - a) L1.out L2.out
      have HD : Box' (∀ W, SegC W g (A ++ (X.take (i - a) ++ y :: (X.drop (i - a) ++ Z))) → SegC W g (A ++ (Gs.mg k X [y] ++ Z))) := ⟨fun W hW => by rw [hD]; simpa using hW⟩
      have hX1 : (X.take (i - a)).length = i - a := by rw [List.length_take]; have := XL.out; omega
      have hX2 : (X.drop (i - a)).length = m - i := by rw [List.length_drop]; have := XL.out; omega
      have HX1 := Box'.mk hX1
      have HX2 := Box'.mk hX2
      have hs2 : SegC wr g (A ++ (X.take (i - a) ++ (X.drop (i - a) ++ y :: ([] ++ Z)))) := by
        rw [← List.append_assoc (X.take _), List.take_append_drop]; simpa using hs
      have XT := Box'.mk (List.take_append_drop (i - a) X)
      generalize X.take (i - a) = X1 at *
      generalize X.drop (i - a) = X2 at *
      clear HSX HXS HCM CEL CEY DONE XL L1 L2 hs hD hX1 hX2 XT
      go_wp2_with fail
      go_loopw [17] (fun u wr => ∃ (q : Nat) (U1 U2 : List Cn), u = .int .i64 (q : Int) ∧ i ≤ q ∧ q ≤ m ∧ Box' (q = i + U1.length) ∧ Box' (X2 = U1 ++ U2) ∧ SegC wr g (A ++ (X1 ++ (U1 ++ y :: (U2 ++ Z)))) ∧ Gb g w wr) (fun u _ => (intOf u).toNat)
      case atStart => exact ⟨m, X2, [], rfl, by omega, by omega, ⟨by have := HX2.out; omega⟩, ⟨by simp⟩, hs2, hg⟩
      case round =>
        clear hs2 hg
        obtain ⟨q, U1, U2, rfl, q1, q2, HQ, HU, hs, hg⟩ := hrel
        by_cases hlt : i < q
        · obtain ⟨Q, p, hQ⟩ : ∃ Q p, U1 = Q ++ [p] := by
            rcases List.eq_nil_or_concat U1 with h | ⟨Q, p, h⟩
            · exfalso; subst h; have := HQ.out; simp at this; omega
            · exact ⟨Q, p, by rw [h, List.concat_eq_append]⟩
          subst hQ
          obtain ⟨q, rfl⟩ : ∃ r, q = r + 1 := ⟨q - 1, by omega⟩
          have hql : (A ++ (X1 ++ Q)).length = q := by have := AL.out; have := HQ.out; have := HX1.out; simp at *; omega
          have hs' : SegC wr g ((A ++ (X1 ++ Q)) ++ p :: ([] ++ y :: (U2 ++ Z))) := by simpa using hs
          have hlen : q + 1 < ((A ++ (X1 ++ Q)) ++ p :: ([] ++ y :: (U2 ++ Z))).length := by rw [List.length_append, hql]; simp
          have c0 := hs'.cell (k := q) (by omega)
          have c1 := hs'.cell (k := q + 1) hlen
          rw [← hql, get_mid, hql] at c0
          rw [show (A ++ (X1 ++ Q)) ++ p :: ([] ++ y :: (U2 ++ Z)) = ((A ++ (X1 ++ Q)) ++ [p]) ++ y :: (U2 ++ Z) by simp, show q + 1 = ((A ++ (X1 ++ Q)) ++ [p]).length by rw [List.length_append, hql]; rfl, get_mid, show ((A ++ (X1 ++ Q)) ++ [p]).length = q + 1 by rw [List.length_append, hql]; rfl] at c1
          have f0 := hs'.frozen q
          have f1 := hs'.frozen (q + 1)
          obtain ⟨c0, c0b⟩ := c0
          obtain ⟨c1, c1b⟩ := c1
          obtain ⟨f0, f0b⟩ := f0
          obtain ⟨f1, f1b⟩ := f1
          have hsw := hs'.swap' q (q + 1) hql.symm (by rw [hql]; rfl)
          have hg2 := (hg.setC (q + 1) p).setC q y
          have hqN : q + 1 < N := by omega
          have HQ2 : Box' (q = i + Q.length) := ⟨by have := HQ.out; simp at this; omega⟩
          clear hs hs' hlen hql HD HQ
          go_wp2_with fail
          go_region
          go_wp2_with fail
          exact ⟨⟨q, Q, p :: U2, by go_num, by omega, by omega, HQ2, ⟨by rw [HU.out]; simp⟩, by simpa using hsw.drew, hg2.drew⟩, by simp [intOf]⟩
        · have hU1 : U1 = [] := List.eq_nil_of_length_eq_zero (by have := HQ.out; omega)
          subst hU1
          have hend := HD.out wr (by have h1 := HU.out; rw [List.nil_append] at h1; rw [h1]; simpa using hs)
          clear hs HD HU HQ HX1 HX2
          go_wp2_with fail
          exact ⟨rfl, _, results94 _ _, rfl, hend, hg⟩
end Go.Proofs.Ytcjfaahlchbcmaa
