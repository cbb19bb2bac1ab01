/- The walk of symMerge, for coins: the cut, the turn and the two halves (the cut lies in the right half). -/
import Derived.Test.YtcjfaahlchbcmaaK31
import Derived.Test.YtcjfaahlchbcmaaK05
import Derived.Test.YtcjfaahlchbcmaaK01
import Derived.Test.YtcjfaahlchbcmaaK09
import Derived.Test.YtcjfaahlchbcmaaK06
namespace Go.Proofs.Ytcjfaahlchbcmaa
open Go.RowKit Go.BigFrame
set_option maxRecDepth 100000 in
set_option maxHeartbeats 8000000 in
theorem symC_lo (g c B pb : Nat) (w0 : World) (k : Cn → Int) (S : Cn → Prop) (hcmp : CmpC B w0 pb k S) (hB : B ≤ g) (hB0 : B ≤ w0.heap.size) (A X Y Z : List Cn) (a m b N mid : Nat) (hSX : ∀ x ∈ X, S x) (hSY : ∀ y ∈ Y, S y) (hX : Gs.Srt k X) (hY : Gs.Srt k Y) (ha : A.length = a) (hm : a + X.length = m) (hX2 : 2 ≤ X.length) (hY2 : 2 ≤ Y.length) (hb : m + Y.length = b) (hN : N = b + Z.length) (hN2 : N ≤ 4096) (hd1 : 2 * mid ≤ a + b) (hd2 : a + b ≤ 2 * mid + 1) (hmm : m ≤ mid)
    (T : Nat) (hT : X.length + Y.length = T) (IH : ∀ (A X Y Z : List Cn) (a m b : Nat), X.length + Y.length < T → (∀ x ∈ X, S x) → (∀ y ∈ Y, S y) → Gs.Srt k X → Gs.Srt k Y → A.length = a → a + X.length = m → m + Y.length = b → N = b + Z.length → 0 < X.length → 0 < Y.length → ∀ w, Below B w0 w → SegC w g (A ++ (X ++ (Y ++ Z))) →
      Calls Try.prog 94 #[.slice (some ⟨g, 0, none⟩) N c, .int .i64 (a : Int), .int .i64 (m : Int), .int .i64 (b : Int), cfCv pb] w fun e w' => e = .returned (.tuple #[]) ∧ SegC w' g (A ++ (Gs.mg k X Y ++ Z)) ∧ Gb g w w')
    (w : World) (hbl : Below B w0 w) (h : SegC w g (A ++ (X ++ (Y ++ Z)))) :
    Calls Try.prog 94 #[.slice (some ⟨g, 0, none⟩) N c, .int .i64 (a : Int), .int .i64 (m : Int), .int .i64 (b : Int), cfCv pb] w fun e w' => e = .returned (.tuple #[]) ∧ SegC w' g (A ++ (Gs.mg k X Y ++ Z)) ∧ Gb g w w' := by
  have HSX : Box' (∀ u, u < X.length → S (X.getD u (0, false))) := ⟨fun u hu => hSX _ (by simp [hu])⟩
  have HSY : Box' (∀ u, u < Y.length → S (Y.getD u (0, false))) := ⟨fun u hu => hSY _ (by simp [hu])⟩
  have HXS := Box'.mk (srt_getC k X hX)
  have HYS := Box'.mk (srt_getC k Y hY)
  have HCM := Box'.mk hcmp
  obtain ⟨s0, hs0⟩ : ∃ s0, s0 = a := ⟨a, by omega⟩
  obtain ⟨r0, hr0⟩ : ∃ r0, r0 = m := ⟨_, rfl⟩
  have hs0a : a ≤ s0 := by omega
  have hr0m : r0 ≤ m := by omega
  have hr0d : r0 ≤ mid := by omega
  have hsr : s0 ≤ r0 := by omega
  have CUT : Box' (∀ st, s0 ≤ st → st ≤ r0 → (∀ c, s0 ≤ c → c < st → k (X.getD (c - a) (0, false)) ≤ k (Y.getD (mid - 1 - c) (0, false))) → (∀ c, st ≤ c → c < r0 → k (Y.getD (mid - 1 - c) (0, false)) < k (X.getD (c - a) (0, false))) →
      Gs.mg k X Y = Gs.mg k (X.take (st - a)) (Y.take (mid - st)) ++ Gs.mg k (X.drop (st - a)) (Y.drop (mid - st))) := ⟨fun st h1 h2 I1 I2 => cut_okC k X Y hX hY a m b mid st s0 r0 hm hb h1 h2 hs0a hr0m hr0d (by omega) (by omega) (by omega) I1 I2⟩
  have CEX : Box' (∀ W, SegC W g (A ++ (X ++ (Y ++ Z))) → ∀ u, a ≤ u → u < m → CellC W g (u) (X.getD (u - a) (0, false))) := ⟨fun W hW u h1 h2 => by
    have := hW.cell (k := A.length + (u - a)) (by simp; omega)
    rw [getD_add, getD_left _ _ _ _ (by omega), show A.length + (u - a) = u by omega] at this
    exact this⟩
  have CEY : Box' (∀ W, SegC W g (A ++ (X ++ (Y ++ Z))) → ∀ u, m ≤ u → u < b → CellC W g (u) (Y.getD (u - m) (0, false))) := ⟨fun W hW u h1 h2 => by
    have := hW.cell (k := A.length + (X.length + (u - m))) (by simp; omega)
    rw [getD_add, getD_add, getD_left _ _ _ _ (by omega), show A.length + (X.length + (u - m)) = u by omega] at this
    exact this⟩
  have PIE : Box' (∀ st, s0 ≤ st → st ≤ r0 → (X.take (st - a)).length = st - a ∧ (X.drop (st - a)).length = m - st ∧ (Y.take (mid - st)).length = mid - st ∧ (Y.drop (mid - st)).length = b - (mid + m - st)) := ⟨fun st h1 h2 => by
    refine ⟨?_, ?_, ?_, ?_⟩
    · rw [List.length_take]; omega
    · rw [List.length_drop]; omega
    · rw [List.length_take]; omega
    · rw [List.length_drop]; omega⟩
  have SUB : Box' ((∀ n, Gs.Srt k (X.take n) ∧ Gs.Srt k (X.drop n) ∧ Gs.Srt k (Y.take n) ∧ Gs.Srt k (Y.drop n)) ∧ (∀ n, (∀ x ∈ X.take n, S x) ∧ (∀ x ∈ X.drop n, S x) ∧ (∀ x ∈ Y.take n, S x) ∧ (∀ x ∈ Y.drop n, S x))) := ⟨fun n => ⟨hX.sublist (List.take_sublist _ _), hX.sublist (List.drop_sublist _ _), hY.sublist (List.take_sublist _ _), hY.sublist (List.drop_sublist _ _)⟩,
    fun n => ⟨fun x hx => hSX x (List.mem_of_mem_take hx), fun x hx => hSX x (List.mem_of_mem_drop hx), fun x hx => hSY x (List.mem_of_mem_take hx), fun x hx => hSY x (List.mem_of_mem_drop hx)⟩⟩
  have AL : Box' (A.length = a) := ⟨ha⟩
  have NL : Box' (N = b + Z.length) := ⟨hN⟩
  have XY : Box' (a + X.length = m ∧ m + Y.length = b) := ⟨hm, hb⟩
  have IHB := Box'.mk IH
  have ham : a + 2 ≤ m := by omega
  have hmb : m + 2 ≤ b := by omega
  have hbN : b ≤ N := by omega
  have hle : mid + m ≤ b + s0 := by omega
  have hTT : b = a + T := by omega
  have hTB := Box'.mk hTT
  unfold cfCv at *
  have hm0 : ((m : Int) - (a : Int) == 1) = false := by rw [beq_eq_false_iff_ne]; omega
  have hb0 : ((b : Int) - (m : Int) == 1) = false := by rw [beq_eq_false_iff_ne]; omega
  have emid : ((a : Int) + (b : Int)) / 2 = (mid : Int) := by omega
  have EMID := Box'.mk emid
  have hmi : ¬ (mid : Int) < (m : Int) := by omega
  have hmi2 : ¬ ((a : Int) + (b : Int)) / 2 < (m : Int) := by omega
  have es0 : Box' ((a : Int) = (s0 : Int)) := ⟨by omega⟩
  have er0 : Box' ((m : Int) = (r0 : Int)) := ⟨by omega⟩
  clear hcmp hSX hSY hX hY ha hb hN hm hX2 hY2 IH emid hs0 hr0 hT hTT
  go_enter Try.func94, Try.ntmps94
  go_wp2_with fail
  rw [EMID.out]
  go_loopw [20, 21] (fun u v wr => ∃ st r : Nat, u = .int .i64 (st : Int) ∧ v = .int .i64 (r : Int) ∧ s0 ≤ st ∧ st ≤ r ∧ r ≤ r0 ∧ Box' (∀ c, s0 ≤ c → c < st → k (X.getD (c - a) (0, false)) ≤ k (Y.getD (mid - 1 - c) (0, false))) ∧ Box' (∀ c, r ≤ c → c < r0 → k (Y.getD (mid - 1 - c) (0, false)) < k (X.getD (c - a) (0, false))) ∧ SegC wr g (A ++ (X ++ (Y ++ Z))) ∧ Gb g w wr) (fun u v _ => (intOf v).toNat - (intOf u).toNat)
  case atStart => exact ⟨s0, r0, by rw [es0.out], by rw [er0.out], Nat.le_refl _, hsr, Nat.le_refl _, ⟨fun c h1 h2 => by omega⟩, ⟨fun c h1 h2 => by omega⟩, h, Gb.refl _ _⟩
  case round =>
    clear h
    obtain ⟨st, r, rfl, rfl, h1, h2, h3, L1, L2, hs, hg⟩ := hrel
    by_cases hij : st < r
    · have CB : Box' (∀ W, SegC W g (A ++ (X ++ (Y ++ Z))) → CellC W g ((st + r) / 2) (X.getD ((st + r) / 2 - a) (0, false)) ∧ CellC W g (mid + m - 1 - (st + r) / 2) (Y.getD (mid - 1 - (st + r) / 2) (0, false))) := ⟨fun W hW => ⟨CEX.out W hW ((st + r) / 2) (by omega) (by omega), by
        have := CEY.out W hW (mid + m - 1 - (st + r) / 2) (by omega) (by omega)
        rw [show mid + m - 1 - (st + r) / 2 - m = mid - 1 - (st + r) / 2 by omega] at this
        exact this⟩⟩
      have hxl : (st + r) / 2 - a < X.length := by have := XY.out; omega
      have hyl : mid - 1 - (st + r) / 2 < Y.length := by have := XY.out; omega
      have hcc : ∀ W, Gb g w W → Calls Try.prog 86 #[.agg #[.int .i64 (Y.getD (mid - 1 - (st + r) / 2) (0, false)).1, .bool (Y.getD (mid - 1 - (st + r) / 2) (0, false)).2], .agg #[.int .i64 (X.getD ((st + r) / 2 - a) (0, false)).1, .bool (X.getD ((st + r) / 2 - a) (0, false)).2]] W fun e w' => e = .returned (.int .i64 (sg (k (Y.getD (mid - 1 - (st + r) / 2) (0, false))) (k (X.getD ((st + r) / 2 - a) (0, false))))) ∧ Below W.heap.size W w' := fun W hW => HCM.out W (hW.on hbl hB hB0) _ _ (HSY.out _ hyl) (HSX.out _ hxl)
      have hsg := sg_lt (k (Y.getD (mid - 1 - (st + r) / 2) (0, false))) (k (X.getD ((st + r) / 2 - a) (0, false)))
      have up1 : ¬ k (Y.getD (mid - 1 - (st + r) / 2) (0, false)) < k (X.getD ((st + r) / 2 - a) (0, false)) → Box' (∀ c, s0 ≤ c → c < (st + r) / 2 + 1 → k (X.getD (c - a) (0, false)) ≤ k (Y.getD (mid - 1 - c) (0, false))) := fun hlt => ⟨fun c q1 q2 => by
        have e1 := HXS.out (c - a) ((st + r) / 2 - a) (by omega) hxl
        have e2 := HYS.out (mid - 1 - (st + r) / 2) (mid - 1 - c) (by omega) (by have := XY.out; omega)
        omega⟩
      have up2 : k (Y.getD (mid - 1 - (st + r) / 2) (0, false)) < k (X.getD ((st + r) / 2 - a) (0, false)) → Box' (∀ c, (st + r) / 2 ≤ c → c < r0 → k (Y.getD (mid - 1 - c) (0, false)) < k (X.getD (c - a) (0, false))) := fun hlt => ⟨fun c q1 q2 => by
        have e1 := HXS.out ((st + r) / 2 - a) (c - a) (by omega) (by have := XY.out; omega)
        have e2 := HYS.out (mid - 1 - c) (mid - 1 - (st + r) / 2) (by omega) hyl
        omega⟩
      have UP1 := Box'.mk up1
      have UP2 := Box'.mk up2
      have hiN : (st + r) / 2 < N := by omega
      have hjN : mid + m - 1 - (st + r) / 2 < N := by omega
      have hjP : (st + r) / 2 + 1 ≤ mid + m := by omega
      generalize sg (k (Y.getD (mid - 1 - (st + r) / 2) (0, false))) (k (X.getD ((st + r) / 2 - a) (0, false))) = sv' at *
      by_cases hlt : k (Y.getD (mid - 1 - (st + r) / 2) (0, false)) < k (X.getD ((st + r) / 2 - a) (0, false))
      · have U := UP2.out hlt
        have i1 : sv' < 0 := by have := decide_eq_true hlt; rw [← hsg] at this; exact of_decide_eq_true this
        have i2 : (!decide (sv' < 0)) = false := by rw [decide_eq_true i1]; rfl
        generalize X.getD ((st + r) / 2 - a) (0, false) = xh at *
        generalize Y.getD (mid - 1 - (st + r) / 2) (0, false) = yh at *
        clear HSX HSY HXS HYS HCM CEX CEY CUT PIE SUB AL NL XY IHB hsg up1 up2 UP1 UP2 L2 hlt EMID hxl hyl
        go_wp2_with fail
        refine wp_region_grow 14 (by kernel_rfl) (by kernel_rfl) (fun w1 w2 => Below w1.heap.size w1 w2) (fun w1 => SegC w1 g (A ++ (X ++ (Y ++ Z))) ∧ Gb g w w1) (fun k w1 v => match k with
          | 0 => v = .func (.func 86) #[] #[]
          | 1 => v = .slice (some ⟨g, 0, none⟩) N c
          | 2 => v = .int .i64 ((mid : Int) + (m : Int) - 1)
          | 3 => v = .int .i64 (((st : Int) + (r : Int)) / 2)
          | 4 => v = .int .i64 ((mid : Int) + (m : Int) - 1 - ((st : Int) + (r : Int)) / 2)
          | 5 => v = .pointer (some ⟨g, (mid + m - 1 - (st + r) / 2) * 2, none⟩)
          | 6 => v = .agg #[.int .i64 yh.1, .bool yh.2]
          | 7 => v = .slice (some ⟨g, 0, none⟩) N c
          | 8 => v = .int .i64 (((st : Int) + (r : Int)) / 2)
          | 9 => v = .pointer (some ⟨g, (st + r) / 2 * 2, none⟩)
          | 10 => v = .agg #[.int .i64 xh.1, .bool xh.2]
          | 11 => v = .int .i64 sv'
          | 12 => v = .bool true
          | 13 => v = .bool false
          | _ => True) ?_ ?_ ?_ ?_ ?_
        · rintro w1 w2 hb ⟨q1, q2⟩
          exact ⟨q1.below hb, q2.trans (Gb.below hb)⟩
        · intro k v w1 w2 hC1 hb h
          match k, h with
          | 0, h => exact h
          | 1, h => exact h
          | 2, h => exact h
          | 3, h => exact h
          | 4, h => exact h
          | 5, h => exact h
          | 6, h => exact h
          | 7, h => exact h
          | 8, h => exact h
          | 9, h => exact h
          | 10, h => exact h
          | 11, h => exact h
          | 12, h => exact h
          | 13, h => exact h
          | k + 14, h => trivial
        · exact ⟨hs.drew, hg.drew⟩
        · refine ⟨?_, ?_, ?_, ?_, ?_, ?_, ?_, ?_, ?_, ?_, ?_, ?_, ?_, ?_, trivial⟩
          · intro f w1 hC hd KK hK
            simp only [List.take_succ_cons, List.take_zero, setAll, List.setIfInBounds_toArray, List.set_cons_succ, List.set_cons_zero, Nat.zero_add, Nat.reduceAdd] at hK ⊢
            refine wp_of_quiet rfl ?_
            go_big_quiet_step (fail)
            exact wpQuiet_nil (hK _ _ rfl (Below.refl _ _))
          · intro f w1 hC hd KK hK
            simp only [List.take_succ_cons, List.take_zero, setAll, List.setIfInBounds_toArray, List.set_cons_succ, List.set_cons_zero, Nat.zero_add, Nat.reduceAdd] at hK ⊢
            refine wp_of_quiet rfl ?_
            go_big_quiet_step (fail)
            exact wpQuiet_nil (hK _ _ rfl (Below.refl _ _))
          · intro f w1 hC hd KK hK
            simp only [List.take_succ_cons, List.take_zero, setAll, List.setIfInBounds_toArray, List.set_cons_succ, List.set_cons_zero, Nat.zero_add, Nat.reduceAdd] at hK ⊢
            refine wp_of_quiet rfl ?_
            go_big_quiet_step (fail)
            exact wpQuiet_nil (hK _ _ rfl (Below.refl _ _))
          · intro f w1 hC hd KK hK
            simp only [List.take_succ_cons, List.take_zero, setAll, List.setIfInBounds_toArray, List.set_cons_succ, List.set_cons_zero, Nat.zero_add, Nat.reduceAdd] at hK ⊢
            refine wp_of_quiet rfl ?_
            go_big_quiet_step (fail)
            exact wpQuiet_nil (hK _ _ rfl (Below.refl _ _))
          · intro f w1 hC hd KK hK
            have g2 : f 2 = _ := hd 2 rfl
            have g3 : f 3 = _ := hd 3 rfl
            simp only [List.take_succ_cons, List.take_zero, setAll, List.setIfInBounds_toArray, List.set_cons_succ, List.set_cons_zero, Nat.zero_add, Nat.reduceAdd, g2, g3] at hK ⊢
            refine wp_of_quiet rfl ?_
            go_big_quiet_step (fail)
            exact wpQuiet_nil (hK _ _ rfl (Below.refl _ _))
          · intro f w1 hC hd KK hK
            have g1 : f 1 = _ := hd 1 rfl
            have g4 : f 4 = _ := hd 4 rfl
            simp only [List.take_succ_cons, List.take_zero, setAll, List.setIfInBounds_toArray, List.set_cons_succ, List.set_cons_zero, Nat.zero_add, Nat.reduceAdd, g1, g4] at hK ⊢
            refine wp_of_quiet rfl ?_
            go_big_quiet_step (fail)
            exact wpQuiet_nil (hK _ _ rfl (Below.refl _ _))
          · intro f w1 hC hd KK hK
            have c6a := CellC.a (And.right (CB.out w1 hC.1))
            have c6b := CellC.b (And.right (CB.out w1 hC.1))
            have g5 : f 5 = _ := hd 5 rfl
            simp only [List.take_succ_cons, List.take_zero, setAll, List.setIfInBounds_toArray, List.set_cons_succ, List.set_cons_zero, Nat.zero_add, Nat.reduceAdd, g5] at hK ⊢
            refine wp_of_quiet rfl ?_
            go_big_quiet_step (fail)
            exact wpQuiet_nil (hK _ _ rfl (Below.refl _ _))
          · intro f w1 hC hd KK hK
            simp only [List.take_succ_cons, List.take_zero, setAll, List.setIfInBounds_toArray, List.set_cons_succ, List.set_cons_zero, Nat.zero_add, Nat.reduceAdd] at hK ⊢
            refine wp_of_quiet rfl ?_
            go_big_quiet_step (fail)
            exact wpQuiet_nil (hK _ _ rfl (Below.refl _ _))
          · intro f w1 hC hd KK hK
            simp only [List.take_succ_cons, List.take_zero, setAll, List.setIfInBounds_toArray, List.set_cons_succ, List.set_cons_zero, Nat.zero_add, Nat.reduceAdd] at hK ⊢
            refine wp_of_quiet rfl ?_
            go_big_quiet_step (fail)
            exact wpQuiet_nil (hK _ _ rfl (Below.refl _ _))
          · intro f w1 hC hd KK hK
            have g7 : f 7 = _ := hd 7 rfl
            have g8 : f 8 = _ := hd 8 rfl
            simp only [List.take_succ_cons, List.take_zero, setAll, List.setIfInBounds_toArray, List.set_cons_succ, List.set_cons_zero, Nat.zero_add, Nat.reduceAdd, g7, g8] at hK ⊢
            refine wp_of_quiet rfl ?_
            go_big_quiet_step (fail)
            exact wpQuiet_nil (hK _ _ rfl (Below.refl _ _))
          · intro f w1 hC hd KK hK
            have c10a := CellC.a (And.left (CB.out w1 hC.1))
            have c10b := CellC.b (And.left (CB.out w1 hC.1))
            have g9 : f 9 = _ := hd 9 rfl
            simp only [List.take_succ_cons, List.take_zero, setAll, List.setIfInBounds_toArray, List.set_cons_succ, List.set_cons_zero, Nat.zero_add, Nat.reduceAdd, g9] at hK ⊢
            refine wp_of_quiet rfl ?_
            go_big_quiet_step (fail)
            exact wpQuiet_nil (hK _ _ rfl (Below.refl _ _))
          · intro f w1 hC hd KK hK
            have g0 : f 0 = _ := hd 0 rfl
            have g6 : f 6 = _ := hd 6 rfl
            have g10 : f 10 = _ := hd 10 rfl
            simp only [List.take_succ_cons, List.take_zero, setAll, List.setIfInBounds_toArray, List.set_cons_succ, List.set_cons_zero, Nat.zero_add, Nat.reduceAdd, g0, g6, g10] at hK ⊢
            exact wp_call 86 #[.agg #[.int .i64 yh.1, .bool yh.2], .agg #[.int .i64 xh.1, .bool xh.2]] (by simp [go_sem]) _ _ (hcc w1 hC.2) (fun w' hb => hK _ _ rfl hb)
          · intro f w1 hC hd KK hK
            have g11 : f 11 = _ := hd 11 rfl
            simp only [List.take_succ_cons, List.take_zero, setAll, List.setIfInBounds_toArray, List.set_cons_succ, List.set_cons_zero, Nat.zero_add, Nat.reduceAdd, g11] at hK ⊢
            refine wp_of_quiet rfl ?_
            go_big_quiet_step (fail)
            exact wpQuiet_nil (hK _ _ rfl (Below.refl _ _))
          · intro f w1 hC hd KK hK
            have g12 : f 12 = _ := hd 12 rfl
            simp only [List.take_succ_cons, List.take_zero, setAll, List.setIfInBounds_toArray, List.set_cons_succ, List.set_cons_zero, Nat.zero_add, Nat.reduceAdd, g12] at hK ⊢
            refine wp_of_quiet rfl ?_
            go_big_quiet_step (fail)
            exact wpQuiet_nil (hK _ _ rfl (Below.refl _ _))
        · intro f w1 hC hv
          have g0 : f 0 = _ := hv 0 (by decide)
          have g1 : f 1 = _ := hv 1 (by decide)
          have g2 : f 2 = _ := hv 2 (by decide)
          have g3 : f 3 = _ := hv 3 (by decide)
          have g4 : f 4 = _ := hv 4 (by decide)
          have g5 : f 5 = _ := hv 5 (by decide)
          have g6 : f 6 = _ := hv 6 (by decide)
          have g7 : f 7 = _ := hv 7 (by decide)
          have g8 : f 8 = _ := hv 8 (by decide)
          have g9 : f 9 = _ := hv 9 (by decide)
          have g10 : f 10 = _ := hv 10 (by decide)
          have g11 : f 11 = _ := hv 11 (by decide)
          have g12 : f 12 = _ := hv 12 (by decide)
          have g13 : f 13 = _ := hv 13 (by decide)
          simp only [List.take_succ_cons, List.take_zero, List.drop_succ_cons, List.drop_zero, setAll, List.setIfInBounds_toArray, List.set_cons_succ, List.set_cons_zero, Nat.zero_add, Nat.reduceAdd, g0, g1, g2, g3, g4, g5, g6, g7, g8, g9, g10, g11, g12, g13]
          clear g0 g1 g2 g3 g4 g5 g6 g7 g8 g9 g10 g11 g12 g13 hv
          have s9 := hC.1
          have g9 := hC.2
          clear hcc CB hs hg hC
          go_wp2_with fail
          exact ⟨⟨st, (st + r) / 2, rfl, by go_num, by omega, by omega, by omega, L1, U, s9, g9⟩, by simp [intOf]; omega⟩
      · have U := UP1.out hlt
        have i1 : ¬ sv' < 0 := by have := decide_eq_false hlt; rw [← hsg] at this; exact of_decide_eq_false this
        have i3 : decide (sv' < 0) = false := decide_eq_false i1
        have i2 : (!decide (sv' < 0)) = true := by rw [decide_eq_false i1]; rfl
        generalize X.getD ((st + r) / 2 - a) (0, false) = xh at *
        generalize Y.getD (mid - 1 - (st + r) / 2) (0, false) = yh at *
        clear HSX HSY HXS HYS HCM CEX CEY CUT PIE SUB AL NL XY IHB hsg up1 up2 UP1 UP2 L1 hlt EMID hxl hyl
        go_wp2_with fail
        refine wp_region_grow 14 (by kernel_rfl) (by kernel_rfl) (fun w1 w2 => Below w1.heap.size w1 w2) (fun w1 => SegC w1 g (A ++ (X ++ (Y ++ Z))) ∧ Gb g w w1) (fun k w1 v => match k with
          | 0 => v = .func (.func 86) #[] #[]
          | 1 => v = .slice (some ⟨g, 0, none⟩) N c
          | 2 => v = .int .i64 ((mid : Int) + (m : Int) - 1)
          | 3 => v = .int .i64 (((st : Int) + (r : Int)) / 2)
          | 4 => v = .int .i64 ((mid : Int) + (m : Int) - 1 - ((st : Int) + (r : Int)) / 2)
          | 5 => v = .pointer (some ⟨g, (mid + m - 1 - (st + r) / 2) * 2, none⟩)
          | 6 => v = .agg #[.int .i64 yh.1, .bool yh.2]
          | 7 => v = .slice (some ⟨g, 0, none⟩) N c
          | 8 => v = .int .i64 (((st : Int) + (r : Int)) / 2)
          | 9 => v = .pointer (some ⟨g, (st + r) / 2 * 2, none⟩)
          | 10 => v = .agg #[.int .i64 xh.1, .bool xh.2]
          | 11 => v = .int .i64 sv'
          | 12 => v = .bool false
          | 13 => v = .bool true
          | _ => True) ?_ ?_ ?_ ?_ ?_
        · rintro w1 w2 hb ⟨q1, q2⟩
          exact ⟨q1.below hb, q2.trans (Gb.below hb)⟩
        · intro k v w1 w2 hC1 hb h
          match k, h with
          | 0, h => exact h
          | 1, h => exact h
          | 2, h => exact h
          | 3, h => exact h
          | 4, h => exact h
          | 5, h => exact h
          | 6, h => exact h
          | 7, h => exact h
          | 8, h => exact h
          | 9, h => exact h
          | 10, h => exact h
          | 11, h => exact h
          | 12, h => exact h
          | 13, h => exact h
          | k + 14, h => trivial
        · exact ⟨hs.drew, hg.drew⟩
        · refine ⟨?_, ?_, ?_, ?_, ?_, ?_, ?_, ?_, ?_, ?_, ?_, ?_, ?_, ?_, trivial⟩
          · intro f w1 hC hd KK hK
            simp only [List.take_succ_cons, List.take_zero, setAll, List.setIfInBounds_toArray, List.set_cons_succ, List.set_cons_zero, Nat.zero_add, Nat.reduceAdd] at hK ⊢
            refine wp_of_quiet rfl ?_
            go_big_quiet_step (fail)
            exact wpQuiet_nil (hK _ _ rfl (Below.refl _ _))
          · intro f w1 hC hd KK hK
            simp only [List.take_succ_cons, List.take_zero, setAll, List.setIfInBounds_toArray, List.set_cons_succ, List.set_cons_zero, Nat.zero_add, Nat.reduceAdd] at hK ⊢
            refine wp_of_quiet rfl ?_
            go_big_quiet_step (fail)
            exact wpQuiet_nil (hK _ _ rfl (Below.refl _ _))
          · intro f w1 hC hd KK hK
            simp only [List.take_succ_cons, List.take_zero, setAll, List.setIfInBounds_toArray, List.set_cons_succ, List.set_cons_zero, Nat.zero_add, Nat.reduceAdd] at hK ⊢
            refine wp_of_quiet rfl ?_
            go_big_quiet_step (fail)
            exact wpQuiet_nil (hK _ _ rfl (Below.refl _ _))
          · intro f w1 hC hd KK hK
            simp only [List.take_succ_cons, List.take_zero, setAll, List.setIfInBounds_toArray, List.set_cons_succ, List.set_cons_zero, Nat.zero_add, Nat.reduceAdd] at hK ⊢
            refine wp_of_quiet rfl ?_
            go_big_quiet_step (fail)
            exact wpQuiet_nil (hK _ _ rfl (Below.refl _ _))
          · intro f w1 hC hd KK hK
            have g2 : f 2 = _ := hd 2 rfl
            have g3 : f 3 = _ := hd 3 rfl
            simp only [List.take_succ_cons, List.take_zero, setAll, List.setIfInBounds_toArray, List.set_cons_succ, List.set_cons_zero, Nat.zero_add, Nat.reduceAdd, g2, g3] at hK ⊢
            refine wp_of_quiet rfl ?_
            go_big_quiet_step (fail)
            exact wpQuiet_nil (hK _ _ rfl (Below.refl _ _))
          · intro f w1 hC hd KK hK
            have g1 : f 1 = _ := hd 1 rfl
            have g4 : f 4 = _ := hd 4 rfl
            simp only [List.take_succ_cons, List.take_zero, setAll, List.setIfInBounds_toArray, List.set_cons_succ, List.set_cons_zero, Nat.zero_add, Nat.reduceAdd, g1, g4] at hK ⊢
            refine wp_of_quiet rfl ?_
            go_big_quiet_step (fail)
            exact wpQuiet_nil (hK _ _ rfl (Below.refl _ _))
          · intro f w1 hC hd KK hK
            have c6a := CellC.a (And.right (CB.out w1 hC.1))
            have c6b := CellC.b (And.right (CB.out w1 hC.1))
            have g5 : f 5 = _ := hd 5 rfl
            simp only [List.take_succ_cons, List.take_zero, setAll, List.setIfInBounds_toArray, List.set_cons_succ, List.set_cons_zero, Nat.zero_add, Nat.reduceAdd, g5] at hK ⊢
            refine wp_of_quiet rfl ?_
            go_big_quiet_step (fail)
            exact wpQuiet_nil (hK _ _ rfl (Below.refl _ _))
          · intro f w1 hC hd KK hK
            simp only [List.take_succ_cons, List.take_zero, setAll, List.setIfInBounds_toArray, List.set_cons_succ, List.set_cons_zero, Nat.zero_add, Nat.reduceAdd] at hK ⊢
            refine wp_of_quiet rfl ?_
            go_big_quiet_step (fail)
            exact wpQuiet_nil (hK _ _ rfl (Below.refl _ _))
          · intro f w1 hC hd KK hK
            simp only [List.take_succ_cons, List.take_zero, setAll, List.setIfInBounds_toArray, List.set_cons_succ, List.set_cons_zero, Nat.zero_add, Nat.reduceAdd] at hK ⊢
            refine wp_of_quiet rfl ?_
            go_big_quiet_step (fail)
            exact wpQuiet_nil (hK _ _ rfl (Below.refl _ _))
          · intro f w1 hC hd KK hK
            have g7 : f 7 = _ := hd 7 rfl
            have g8 : f 8 = _ := hd 8 rfl
            simp only [List.take_succ_cons, List.take_zero, setAll, List.setIfInBounds_toArray, List.set_cons_succ, List.set_cons_zero, Nat.zero_add, Nat.reduceAdd, g7, g8] at hK ⊢
            refine wp_of_quiet rfl ?_
            go_big_quiet_step (fail)
            exact wpQuiet_nil (hK _ _ rfl (Below.refl _ _))
          · intro f w1 hC hd KK hK
            have c10a := CellC.a (And.left (CB.out w1 hC.1))
            have c10b := CellC.b (And.left (CB.out w1 hC.1))
            have g9 : f 9 = _ := hd 9 rfl
            simp only [List.take_succ_cons, List.take_zero, setAll, List.setIfInBounds_toArray, List.set_cons_succ, List.set_cons_zero, Nat.zero_add, Nat.reduceAdd, g9] at hK ⊢
            refine wp_of_quiet rfl ?_
            go_big_quiet_step (fail)
            exact wpQuiet_nil (hK _ _ rfl (Below.refl _ _))
          · intro f w1 hC hd KK hK
            have g0 : f 0 = _ := hd 0 rfl
            have g6 : f 6 = _ := hd 6 rfl
            have g10 : f 10 = _ := hd 10 rfl
            simp only [List.take_succ_cons, List.take_zero, setAll, List.setIfInBounds_toArray, List.set_cons_succ, List.set_cons_zero, Nat.zero_add, Nat.reduceAdd, g0, g6, g10] at hK ⊢
            exact wp_call 86 #[.agg #[.int .i64 yh.1, .bool yh.2], .agg #[.int .i64 xh.1, .bool xh.2]] (by simp [go_sem]) _ _ (hcc w1 hC.2) (fun w' hb => hK _ _ rfl hb)
          · intro f w1 hC hd KK hK
            have g11 : f 11 = _ := hd 11 rfl
            simp only [List.take_succ_cons, List.take_zero, setAll, List.setIfInBounds_toArray, List.set_cons_succ, List.set_cons_zero, Nat.zero_add, Nat.reduceAdd, g11] at hK ⊢
            refine wp_of_quiet rfl ?_
            go_big_quiet_step (fail)
            exact wpQuiet_nil (hK _ _ rfl (Below.refl _ _))
          · intro f w1 hC hd KK hK
            have g12 : f 12 = _ := hd 12 rfl
            simp only [List.take_succ_cons, List.take_zero, setAll, List.setIfInBounds_toArray, List.set_cons_succ, List.set_cons_zero, Nat.zero_add, Nat.reduceAdd, g12] at hK ⊢
            refine wp_of_quiet rfl ?_
            go_big_quiet_step (fail)
            exact wpQuiet_nil (hK _ _ rfl (Below.refl _ _))
        · intro f w1 hC hv
          have g0 : f 0 = _ := hv 0 (by decide)
          have g1 : f 1 = _ := hv 1 (by decide)
          have g2 : f 2 = _ := hv 2 (by decide)
          have g3 : f 3 = _ := hv 3 (by decide)
          have g4 : f 4 = _ := hv 4 (by decide)
          have g5 : f 5 = _ := hv 5 (by decide)
          have g6 : f 6 = _ := hv 6 (by decide)
          have g7 : f 7 = _ := hv 7 (by decide)
          have g8 : f 8 = _ := hv 8 (by decide)
          have g9 : f 9 = _ := hv 9 (by decide)
          have g10 : f 10 = _ := hv 10 (by decide)
          have g11 : f 11 = _ := hv 11 (by decide)
          have g12 : f 12 = _ := hv 12 (by decide)
          have g13 : f 13 = _ := hv 13 (by decide)
          simp only [List.take_succ_cons, List.take_zero, List.drop_succ_cons, List.drop_zero, setAll, List.setIfInBounds_toArray, List.set_cons_succ, List.set_cons_zero, Nat.zero_add, Nat.reduceAdd, g0, g1, g2, g3, g4, g5, g6, g7, g8, g9, g10, g11, g12, g13]
          clear g0 g1 g2 g3 g4 g5 g6 g7 g8 g9 g10 g11 g12 g13 hv
          have s9 := hC.1
          have g9 := hC.2
          clear hcc CB hs hg hC
          go_wp2_with fail
          exact ⟨⟨(st + r) / 2 + 1, r, by go_num, rfl, by omega, by omega, by omega, U, L2, s9, g9⟩, by simp [intOf]; omega⟩
    · obtain rfl : st = r := by omega
      have hcut := CUT.out st h1 h3 L1.out L2.out
      obtain ⟨l1, l2, l3, l4⟩ := PIE.out st h1 h3
      have S1 := SUB.out.1 (st - a)
      have S2 := SUB.out.1 (mid - st)
      have T1 := SUB.out.2 (st - a)
      have T2 := SUB.out.2 (mid - st)
      have hs2 : SegC wr g (A ++ (X.take (st - a) ++ (X.drop (st - a) ++ (Y.take (mid - st) ++ (Y.drop (mid - st) ++ Z))))) := by
        rw [← List.append_assoc (Y.take _), List.take_append_drop, ← List.append_assoc (X.take _), List.take_append_drop]; exact hs
      have FIN : Box' (∀ W, SegC W g (A ++ (Gs.mg k (X.take (st - a)) (Y.take (mid - st)) ++ (Gs.mg k (X.drop (st - a)) (Y.drop (mid - st)) ++ Z))) → SegC W g (A ++ (Gs.mg k X Y ++ Z))) := ⟨fun W hW => by rw [hcut]; simpa using hW⟩
      have en1 : st ≤ mid + m := by omega
      have enN : mid + m - st ≤ 4096 := by omega
      have hst5 : st ≤ 4096 := by omega
      have SS1 := S1.1
      have SS2 := S1.2.1
      have SS3 := S2.2.2.1
      have SS4 := S2.2.2.2
      have TT1 := T1.1
      have TT2 := T1.2.1
      have TT3 := T2.2.2.1
      have TT4 := T2.2.2.2
      generalize X.take (st - a) = X1 at *
      generalize X.drop (st - a) = X2 at *
      generalize Y.take (mid - st) = Y1 at *
      generalize Y.drop (mid - st) = Y2 at *
      have hAL := AL.out
      have hNL := NL.out
      have hTT := hTB.out
      have hROT : st < m → st < mid → ∀ W, SegC W g (A ++ (X1 ++ (X2 ++ (Y1 ++ (Y2 ++ Z))))) → Calls Try.prog 96 #[.slice (some ⟨g, 0, none⟩) N c, .int .i64 (st : Int), .int .i64 (m : Int), .int .i64 ((mid : Int) + (m : Int) - (st : Int)), .func (.func 86) #[] #[]] W fun e w' => e = .returned (.tuple #[]) ∧ SegC w' g (A ++ (X1 ++ (Y1 ++ (X2 ++ (Y2 ++ Z))))) ∧ Gb g W w' := fun q1 q2 W hW => by
        have := rotC_any g c (.func (.func 86) #[] #[]) (A ++ X1) X2 Y1 (Y2 ++ Z) st m (mid + m - st) N (by simp; omega) (by simp; omega) (by simp; omega) (by simp; omega) hN2 (by omega) (by omega) W (by simpa using hW)
        rw [show ((mid + m - st : Nat) : Int) = (mid : Int) + (m : Int) - (st : Int) by omega] at this
        refine this.mono ?_
        rintro e w' ⟨q3, q4, q5⟩
        exact ⟨q3, by simpa using q4, q5⟩
      have hLO : a < st → st < mid → ∀ W, Gb g w W → SegC W g (A ++ (X1 ++ (Y1 ++ (X2 ++ (Y2 ++ Z))))) → Calls Try.prog 94 #[.slice (some ⟨g, 0, none⟩) N c, .int .i64 (a : Int), .int .i64 (st : Int), .int .i64 (mid : Int), .func (.func 86) #[] #[]] W fun e w' => e = .returned (.tuple #[]) ∧ SegC w' g (A ++ (Gs.mg k X1 Y1 ++ (X2 ++ (Y2 ++ Z)))) ∧ Gb g W w' := fun q1 q2 W hgW hW =>
        IHB.out A X1 Y1 (X2 ++ (Y2 ++ Z)) a st mid (by omega) TT1 TT3 SS1 SS3 hAL (by omega) (by omega) (by simp; omega) (by omega) (by omega) W (hgW.on hbl hB hB0) hW
      have hHI : st < m → mid + m - st < b → ∀ W, Gb g w W → SegC W g (A ++ (Gs.mg k X1 Y1 ++ (X2 ++ (Y2 ++ Z)))) → Calls Try.prog 94 #[.slice (some ⟨g, 0, none⟩) N c, .int .i64 (mid : Int), .int .i64 ((mid : Int) + (m : Int) - (st : Int)), .int .i64 (b : Int), .func (.func 86) #[] #[]] W fun e w' => e = .returned (.tuple #[]) ∧ SegC w' g (A ++ (Gs.mg k X1 Y1 ++ (Gs.mg k X2 Y2 ++ Z))) ∧ Gb g W w' := fun q1 q2 W hgW hW => by
        have := IHB.out (A ++ Gs.mg k X1 Y1) X2 Y2 Z mid (mid + m - st) b (by omega) TT2 TT4 SS2 SS4 (by rw [List.length_append, Gs.mg_len]; omega) (by omega) (by omega) hNL (by omega) (by omega) W (hgW.on hbl hB hB0) (by simpa using hW)
        rw [show ((mid + m - st : Nat) : Int) = (mid : Int) + (m : Int) - (st : Int) by omega] at this
        refine this.mono ?_
        rintro e w' ⟨q3, q4, q5⟩
        exact ⟨q3, by simpa using q4, q5⟩
      have ROT := Box'.mk hROT
      have LO := Box'.mk hLO
      have HI := Box'.mk hHI
      have NR : Box' (¬ (st < m ∧ st < mid) → ∀ W, SegC W g (A ++ (X1 ++ (X2 ++ (Y1 ++ (Y2 ++ Z))))) → SegC W g (A ++ (X1 ++ (Y1 ++ (X2 ++ (Y2 ++ Z)))))) := ⟨fun q W hW => by
        by_cases q1 : st < m
        · have : Y1 = [] := List.eq_nil_of_length_eq_zero (by omega)
          subst this; simpa using hW
        · have : X2 = [] := List.eq_nil_of_length_eq_zero (by omega)
          subst this; simpa using hW⟩
      have NLO : Box' (¬ (a < st ∧ st < mid) → ∀ W, SegC W g (A ++ (X1 ++ (Y1 ++ (X2 ++ (Y2 ++ Z))))) → SegC W g (A ++ (Gs.mg k X1 Y1 ++ (X2 ++ (Y2 ++ Z))))) := ⟨fun q W hW => by
        by_cases q1 : a < st
        · have : Y1 = [] := List.eq_nil_of_length_eq_zero (by omega)
          subst this; rw [Gs.mg_nil]; simpa using hW
        · have : X1 = [] := List.eq_nil_of_length_eq_zero (by omega)
          subst this; rw [Gs.nil_mg]; simpa using hW⟩
      have NHI : Box' (¬ (st < m ∧ mid + m - st < b) → ∀ W, SegC W g (A ++ (Gs.mg k X1 Y1 ++ (X2 ++ (Y2 ++ Z)))) → SegC W g (A ++ (Gs.mg k X1 Y1 ++ (Gs.mg k X2 Y2 ++ Z)))) := ⟨fun q W hW => by
        by_cases q1 : st < m
        · have : Y2 = [] := List.eq_nil_of_length_eq_zero (by omega)
          subst this; rw [Gs.mg_nil]; simpa using hW
        · have : X2 = [] := List.eq_nil_of_length_eq_zero (by omega)
          subst this; rw [Gs.nil_mg]; simpa using hW⟩
      clear HSX HSY HXS HYS HCM CEX CEY CUT PIE SUB XY IHB L1 L2 hs hcut l1 l2 l3 l4 S1 S2 T1 T2 SS1 SS2 SS3 SS4 TT1 TT2 TT3 TT4 hROT hLO hHI hAL hNL AL NL EMID hTT hTB
      by_cases d1 : st < m
      · have d1i : (st : Int) < (m : Int) := by omega
        by_cases d2 : st < mid
        · have d2i : (st : Int) < (mid : Int) := by omega
          by_cases d3 : a < st
          · have d3i : (a : Int) < (st : Int) := by omega
            by_cases d4 : mid + m - st < b
            · have d4i : (mid : Int) + (m : Int) - (st : Int) < (b : Int) := by omega
              have e1 : (m : Int) < (mid : Int) + (m : Int) - (st : Int) := by omega
              have e2 : (mid : Int) < (mid : Int) + (m : Int) - (st : Int) := by omega
              go_wp2_with fail
              refine (ROT.out d1 d2 wr hs2).mono ?_
              rintro e wa ⟨rfl, sa, ga⟩
              have ga := hg.trans ga
              go_wp2_with fail
              refine (LO.out d3 d2 wa ga sa).mono ?_
              rintro e wb ⟨rfl, sb, gb⟩
              have gb := ga.trans gb
              go_wp2_with fail
              refine (HI.out d1 d4 wb gb sb).mono ?_
              rintro e wc ⟨rfl, sc, gc⟩
              have gc := gb.trans gc
              have sd := FIN.out wc sc
              clear ROT LO HI NR NLO NHI FIN sa sb sc hs2
              go_wp2_with fail
              exact ⟨rfl, _, results94 _ _, rfl, sd, gc⟩
            · have d4i : ¬ (mid : Int) + (m : Int) - (st : Int) < (b : Int) := by omega
              exfalso; omega
          · have d3i : ¬ (a : Int) < (st : Int) := by omega
            by_cases d4 : mid + m - st < b
            · have d4i : (mid : Int) + (m : Int) - (st : Int) < (b : Int) := by omega
              have e1 : (m : Int) < (mid : Int) + (m : Int) - (st : Int) := by omega
              have e2 : (mid : Int) < (mid : Int) + (m : Int) - (st : Int) := by omega
              go_wp2_with fail
              refine (ROT.out d1 d2 wr hs2).mono ?_
              rintro e wa ⟨rfl, sa, ga⟩
              have ga := hg.trans ga
              have sb := NLO.out (by omega) wa sa
              have gb := ga
              go_wp2_with fail
              refine (HI.out d1 d4 wa gb sb).mono ?_
              rintro e wc ⟨rfl, sc, gc⟩
              have gc := gb.trans gc
              have sd := FIN.out wc sc
              clear ROT LO HI NR NLO NHI FIN sa sb sc hs2
              go_wp2_with fail
              exact ⟨rfl, _, results94 _ _, rfl, sd, gc⟩
            · have d4i : ¬ (mid : Int) + (m : Int) - (st : Int) < (b : Int) := by omega
              have e1 : (m : Int) < (mid : Int) + (m : Int) - (st : Int) := by omega
              have e2 : (mid : Int) < (mid : Int) + (m : Int) - (st : Int) := by omega
              go_wp2_with fail
              refine (ROT.out d1 d2 wr hs2).mono ?_
              rintro e wa ⟨rfl, sa, ga⟩
              have ga := hg.trans ga
              have sb := NLO.out (by omega) wa sa
              have gb := ga
              have sc := NHI.out (by omega) wa sb
              have gc := gb
              have sd := FIN.out wa sc
              clear ROT LO HI NR NLO NHI FIN sa sb sc hs2
              go_wp2_with fail
              exact ⟨rfl, _, results94 _ _, rfl, sd, gc⟩
        · have d2i : ¬ (st : Int) < (mid : Int) := by omega
          exfalso; omega
      · have d1i : ¬ (st : Int) < (m : Int) := by omega
        by_cases d2 : st < mid
        · have d2i : (st : Int) < (mid : Int) := by omega
          by_cases d3 : a < st
          · have d3i : (a : Int) < (st : Int) := by omega
            by_cases d4 : mid + m - st < b
            · have d4i : (mid : Int) + (m : Int) - (st : Int) < (b : Int) := by omega
              have e1 : (m : Int) < (mid : Int) + (m : Int) - (st : Int) := by omega
              have e2 : ¬ (mid : Int) < (mid : Int) + (m : Int) - (st : Int) := by omega
              have sa := NR.out (by omega) wr hs2
              have ga := hg
              go_wp2_with fail
              refine (LO.out d3 d2 wr ga sa).mono ?_
              rintro e wb ⟨rfl, sb, gb⟩
              have gb := ga.trans gb
              have sc := NHI.out (by omega) wb sb
              have gc := gb
              have sd := FIN.out wb sc
              clear ROT LO HI NR NLO NHI FIN sa sb sc hs2
              go_wp2_with fail
              exact ⟨rfl, _, results94 _ _, rfl, sd, gc⟩
            · have d4i : ¬ (mid : Int) + (m : Int) - (st : Int) < (b : Int) := by omega
              exfalso; omega
          · have d3i : ¬ (a : Int) < (st : Int) := by omega
            by_cases d4 : mid + m - st < b
            · have d4i : (mid : Int) + (m : Int) - (st : Int) < (b : Int) := by omega
              have e1 : (m : Int) < (mid : Int) + (m : Int) - (st : Int) := by omega
              have e2 : ¬ (mid : Int) < (mid : Int) + (m : Int) - (st : Int) := by omega
              have sa := NR.out (by omega) wr hs2
              have ga := hg
              have sb := NLO.out (by omega) wr sa
              have gb := ga
              have sc := NHI.out (by omega) wr sb
              have gc := gb
              have sd := FIN.out wr sc
              clear ROT LO HI NR NLO NHI FIN sa sb sc hs2
              go_wp2_with fail
              exact ⟨rfl, _, results94 _ _, rfl, sd, gc⟩
            · have d4i : ¬ (mid : Int) + (m : Int) - (st : Int) < (b : Int) := by omega
              have e1 : (m : Int) < (mid : Int) + (m : Int) - (st : Int) := by omega
              have e2 : ¬ (mid : Int) < (mid : Int) + (m : Int) - (st : Int) := by omega
              have sa := NR.out (by omega) wr hs2
              have ga := hg
              have sb := NLO.out (by omega) wr sa
              have gb := ga
              have sc := NHI.out (by omega) wr sb
              have gc := gb
              have sd := FIN.out wr sc
              clear ROT LO HI NR NLO NHI FIN sa sb sc hs2
              go_wp2_with fail
              exact ⟨rfl, _, results94 _ _, rfl, sd, gc⟩
        · have d2i : ¬ (st : Int) < (mid : Int) := by omega
          by_cases d3 : a < st
          · have d3i : (a : Int) < (st : Int) := by omega
            by_cases d4 : mid + m - st < b
            · have d4i : (mid : Int) + (m : Int) - (st : Int) < (b : Int) := by omega
              have e1 : ¬ (m : Int) < (mid : Int) + (m : Int) - (st : Int) := by omega
              have e2 : ¬ (mid : Int) < (mid : Int) + (m : Int) - (st : Int) := by omega
              have sa := NR.out (by omega) wr hs2
              have ga := hg
              have sb := NLO.out (by omega) wr sa
              have gb := ga
              have sc := NHI.out (by omega) wr sb
              have gc := gb
              have sd := FIN.out wr sc
              clear ROT LO HI NR NLO NHI FIN sa sb sc hs2
              go_wp2_with fail
              exact ⟨rfl, _, results94 _ _, rfl, sd, gc⟩
            · have d4i : ¬ (mid : Int) + (m : Int) - (st : Int) < (b : Int) := by omega
              exfalso; omega
          · have d3i : ¬ (a : Int) < (st : Int) := by omega
            by_cases d4 : mid + m - st < b
            · have d4i : (mid : Int) + (m : Int) - (st : Int) < (b : Int) := by omega
              have e1 : ¬ (m : Int) < (mid : Int) + (m : Int) - (st : Int) := by omega
              have e2 : ¬ (mid : Int) < (mid : Int) + (m : Int) - (st : Int) := by omega
              have sa := NR.out (by omega) wr hs2
              have ga := hg
              have sb := NLO.out (by omega) wr sa
              have gb := ga
              have sc := NHI.out (by omega) wr sb
              have gc := gb
              have sd := FIN.out wr sc
              clear ROT LO HI NR NLO NHI FIN sa sb sc hs2
              go_wp2_with fail
              exact ⟨rfl, _, results94 _ _, rfl, sd, gc⟩
            · have d4i : ¬ (mid : Int) + (m : Int) - (st : Int) < (b : Int) := by omega
              have e1 : ¬ (m : Int) < (mid : Int) + (m : Int) - (st : Int) := by omega
              have e2 : ¬ (mid : Int) < (mid : Int) + (m : Int) - (st : Int) := by omega
              have sa := NR.out (by omega) wr hs2
              have ga := hg
              have sb := NLO.out (by omega) wr sa
              have gb := ga
              have sc := NHI.out (by omega) wr sb
              have gc := gb
              have sd := FIN.out wr sc
              clear ROT LO HI NR NLO NHI FIN sa sb sc hs2
              go_wp2_with fail
              exact ⟨rfl, _, results94 _ _, rfl, sd, gc⟩
end Go.Proofs.Ytcjfaahlchbcmaa
