/- The walk of symMerge, for coins, where one side is one number. -/
import Derived.Test.YtcjfaahlchbcmaaK28
import Derived.Test.YtcjfaahlchbcmaaK05
import Derived.Test.YtcjfaahlchbcmaaK01
import Derived.Test.YtcjfaahlchbcmaaK09
import Derived.Test.YtcjfaahlchbcmaaK06
namespace Go.Proofs.Ytcjfaahlchbcmaa
open Go.RowKit Go.BigFrame
set_option maxRecDepth 100000 in
theorem results94 (T : Array Value) (w : World) : (results Try.f94 T).run Try.prog w = .ok (.tuple #[]) w := by
  unfold results
  simp [go_sem]
set_option maxRecDepth 100000 in
theorem srt_getC (k : Cn → Int) (Y : List Cn) (h : Gs.Srt k Y) (u v : Nat) (huv : u ≤ v) (hv : v < Y.length) : k (Y.getD u (0, false)) ≤ k (Y.getD v (0, false)) := by
  rcases Nat.lt_or_ge u v with h1 | h1
  · have := List.pairwise_iff_getElem.1 h u v (by omega) hv h1
    unfold Gs.le at this
    have := of_decide_eq_true this
    simpa [hv, Nat.lt_of_lt_of_le h1 (Nat.le_of_lt hv)] using this
  · have : u = v := by omega
    subst this; exact Int.le_refl _
set_option maxRecDepth 100000 in
theorem mem_take_getC {Y : List Cn} {n : Nat} {y : Cn} (h : y ∈ Y.take n) : ∃ u, u < n ∧ u < Y.length ∧ Y.getD u (0, false) = y := by
  obtain ⟨u, hu, rfl⟩ := List.getElem_of_mem h
  rw [List.length_take] at hu
  exact ⟨u, by omega, by omega, by simp [show u < Y.length by omega]⟩
set_option maxRecDepth 100000 in
theorem mem_drop_getC {Y : List Cn} {n : Nat} {y : Cn} (h : y ∈ Y.drop n) : ∃ u, n ≤ u ∧ u < Y.length ∧ Y.getD u (0, false) = y := by
  obtain ⟨u, hu, rfl⟩ := List.getElem_of_mem h
  rw [List.length_drop] at hu
  exact ⟨n + u, by omega, by omega, by simp [show n + u < Y.length by omega]⟩
set_option maxRecDepth 100000 in
theorem one_leftC (k : Cn → Int) (Y : List Cn) (x : Cn) (n : Nat) (h1 : ∀ u, u < n → k (Y.getD u (0, false)) < k x) (h2 : ∀ u, n ≤ u → u < Y.length → k x ≤ k (Y.getD u (0, false))) : Gs.mg k [x] Y = Y.take n ++ x :: Y.drop n := by
  have := Gs.mg_split k [] (Y.take n) [x] (Y.drop n) (fun x hx => by cases hx) (fun y hy z hz => by
    rw [List.mem_singleton] at hz; subst hz
    obtain ⟨u, hu, _, rfl⟩ := mem_take_getC hy
    exact h1 u hu)
  rw [List.nil_append, List.take_append_drop, Gs.nil_mg] at this
  rw [this, Gs.mg_app k [x] (Y.drop n) (fun z hz y hy => by
    rw [List.mem_singleton] at hz; subst hz
    obtain ⟨u, hu, hl, rfl⟩ := mem_drop_getC hy
    exact h2 u hu hl)]
  rfl
set_option maxRecDepth 100000 in
theorem one_rightC (k : Cn → Int) (X : List Cn) (y : Cn) (n : Nat) (h1 : ∀ u, u < n → k (X.getD u (0, false)) ≤ k y) (h2 : ∀ u, n ≤ u → u < X.length → k y < k (X.getD u (0, false))) : Gs.mg k X [y] = X.take n ++ y :: X.drop n := by
  have := Gs.mg_one k (X.take n) (X.drop n) y (fun z hz => by
    obtain ⟨u, hu, _, rfl⟩ := mem_take_getC hz
    exact h1 u hu) (fun z hz => by
    obtain ⟨u, hu, hl, rfl⟩ := mem_drop_getC hz
    exact h2 u hu hl)
  rwa [List.take_append_drop] at this
set_option maxRecDepth 100000 in
set_option maxHeartbeats 4000000 in
theorem symC_left (g c B pb : Nat) (w0 : World) (k : Cn → Int) (S : Cn → Prop) (hcmp : CmpC B w0 pb k S) (hB : B ≤ g) (hB0 : B ≤ w0.heap.size) (A : List Cn) (x : Cn) (Y Z : List Cn) (a m b N : Nat) (hx : S x) (hS : ∀ y ∈ Y, S y) (hY : Gs.Srt k Y) (ha : A.length = a) (hm : a + 1 = m) (hb : m + Y.length = b) (hN : N = b + Z.length) (hN2 : N ≤ 4096) (w : World) (hbl : Below B w0 w) (h : SegC w g (A ++ ([x] ++ (Y ++ Z)))) :
    Calls Try.prog 94 #[.slice (some ⟨g, 0, none⟩) N c, .int .i64 (a : Int), .int .i64 (m : Int), .int .i64 (b : Int), cfCv pb] w fun e w' => e = .returned (.tuple #[]) ∧ SegC w' g (A ++ (Gs.mg k [x] Y ++ Z)) ∧ Gb g w w' := by
  have HSY : Box' (∀ u, u < Y.length → S (Y.getD u (0, false))) := ⟨fun u hu => hS _ (by simp [hu])⟩
  have HYS := Box'.mk (srt_getC k Y hY)
  have HCM := Box'.mk hcmp
  have CEL : Box' (∀ W, SegC W g (A ++ ([x] ++ (Y ++ Z))) → ∀ u, u < Y.length → CellC W g (m + u) (Y.getD u (0, false))) := ⟨fun W hW u hu => by
    have := hW.cell (k := m + u) (by simp; omega)
    rw [show m + u = A.length + (1 + u) by omega, getD_add, show (1 + u) = [x].length + u from rfl, getD_add, getD_left _ _ _ _ hu] at this
    rw [show A.length + ([x].length + u) = m + u by simp; omega] at this
    exact this⟩
  have CEX : Box' (∀ W, SegC W g (A ++ ([x] ++ (Y ++ Z))) → CellC W g (a) x) := ⟨fun W hW => by
    have := hW.cell (k := a) (by simp; omega)
    rw [← ha, show ([x] ++ (Y ++ Z)) = x :: (Y ++ Z) from rfl, get_mid, ha] at this
    exact this⟩
  have DONE : Box' (∀ n, (∀ u, u < n → k (Y.getD u (0, false)) < k x) → (∀ u, n ≤ u → u < Y.length → k x ≤ k (Y.getD u (0, false))) → Gs.mg k [x] Y = Y.take n ++ x :: Y.drop n) := ⟨one_leftC k Y x⟩
  have YL : Box' (m + Y.length = b) := ⟨hb⟩
  have AL : Box' (A.length = a) := ⟨ha⟩
  have NL : Box' (N = b + Z.length) := ⟨hN⟩
  have hmb : m ≤ b := by omega
  have hbN : b ≤ N := by omega
  unfold cfCv
  have hm0 : ((m : Int) - (a : Int) == 1) = true := by rw [beq_iff_eq]; omega
  have hm1 : a + 1 ≤ m := by omega
  have hm2 : m ≤ a + 1 := by omega
  clear hcmp hS hY ha hb hN hm
  go_enter Try.func94, Try.ntmps94
  go_wp2_with fail
  go_loopw [10, 11] (fun u v wr => ∃ i j : Nat, u = .int .i64 (i : Int) ∧ v = .int .i64 (j : Int) ∧ m ≤ i ∧ i ≤ j ∧ j ≤ b ∧ Box' (∀ u, u < i - m → k (Y.getD u (0, false)) < k x) ∧ Box' (∀ u, j - m ≤ u → u < Y.length → k x ≤ k (Y.getD u (0, false))) ∧ SegC wr g (A ++ ([x] ++ (Y ++ Z))) ∧ Gb g w wr) (fun u v _ => (intOf v).toNat - (intOf u).toNat)
  case atStart => exact ⟨m, b, rfl, rfl, by omega, by omega, by omega, ⟨fun u hu => by omega⟩, ⟨fun u hu hl => by have := YL.out; omega⟩, h, Gb.refl _ _⟩
  case round =>
    clear h
    obtain ⟨i, j, rfl, rfl, h1, h2, h3, L1, L2, hs, hg⟩ := hrel
    by_cases hij : i < j
    · have hh : (i + j) / 2 - m < Y.length := by have := YL.out; omega
      have CB : Box' (∀ W, SegC W g (A ++ ([x] ++ (Y ++ Z))) → CellC W g ((i + j) / 2) (Y.getD ((i + j) / 2 - m) (0, false)) ∧ CellC W g a x) := ⟨fun W hW => ⟨by
        have := CEL.out W hW ((i + j) / 2 - m) hh
        rw [show m + ((i + j) / 2 - m) = (i + j) / 2 by omega] at this
        exact this, CEX.out W hW⟩⟩
      have hcc : ∀ W, Gb g w W → Calls Try.prog 86 #[.agg #[.int .i64 (Y.getD ((i + j) / 2 - m) (0, false)).1, .bool (Y.getD ((i + j) / 2 - m) (0, false)).2], .agg #[.int .i64 x.1, .bool x.2]] W fun e w' => e = .returned (.int .i64 (sg (k (Y.getD ((i + j) / 2 - m) (0, false))) (k x))) ∧ Below W.heap.size W w' := fun W hW => HCM.out W (hW.on hbl hB hB0) _ _ (HSY.out _ hh) hx
      have hsg := sg_lt (k (Y.getD ((i + j) / 2 - m) (0, false))) (k x)
      have up1 : k (Y.getD ((i + j) / 2 - m) (0, false)) < k x → Box' (∀ u, u < (i + j) / 2 + 1 - m → k (Y.getD u (0, false)) < k x) := fun hlt => ⟨fun u hu => by
        have := HYS.out u ((i + j) / 2 - m) (by omega) hh; omega⟩
      have up2 : ¬ k (Y.getD ((i + j) / 2 - m) (0, false)) < k x → Box' (∀ u, (i + j) / 2 - m ≤ u → u < Y.length → k x ≤ k (Y.getD u (0, false))) := fun hlt => ⟨fun u hu hl => by
        have := HYS.out ((i + j) / 2 - m) u hu hl; omega⟩
      have UP1 := Box'.mk up1
      have UP2 := Box'.mk up2
      have hiN : (i + j) / 2 < N := by omega
      generalize sg (k (Y.getD ((i + j) / 2 - m) (0, false))) (k x) = sv' at *
      by_cases hlt : k (Y.getD ((i + j) / 2 - m) (0, false)) < k x
      · have U := UP1.out hlt
        have i1 : sv' < 0 := by have := decide_eq_true hlt; rw [← hsg] at this; exact of_decide_eq_true this
        generalize Y.getD ((i + j) / 2 - m) (0, false) = yh at *
        clear HSY HYS HCM CEL CEX DONE YL AL NL hsg up1 up2 UP1 UP2 hh L1 hlt
        go_wp2_with fail
        refine wp_region_grow 11 (by kernel_rfl) (by kernel_rfl) (fun w1 w2 => Below w1.heap.size w1 w2) (fun w1 => SegC w1 g (A ++ ([x] ++ (Y ++ Z))) ∧ Gb g w w1) (fun k w1 v => match k with
          | 0 => v = .func (.func 86) #[] #[]
          | 1 => v = .slice (some ⟨g, 0, none⟩) N c
          | 2 => v = .int .i64 (((i : Int) + (j : Int)) / 2)
          | 3 => v = .pointer (some ⟨g, (i + j) / 2 * 2, none⟩)
          | 4 => v = .agg #[.int .i64 yh.1, .bool yh.2]
          | 5 => v = .slice (some ⟨g, 0, none⟩) N c
          | 6 => v = .int .i64 (a : Int)
          | 7 => v = .pointer (some ⟨g, a * 2, none⟩)
          | 8 => v = .agg #[.int .i64 x.1, .bool x.2]
          | 9 => v = .int .i64 sv'
          | 10 => v = .bool true
          | _ => True) ?_ ?_ ?_ ?_ ?_
        · rintro w1 w2 hb ⟨q1, q2⟩
          exact ⟨q1.below hb, q2.trans (Gb.below hb)⟩
        · intro k v w1 w2 hC1 hb h
          match k, h with
          | 0, h => exact h
          | 1, h => exact h
          | 2, h => exact h
          | 3, h => exact h
          | 4, h => exact h
          | 5, h => exact h
          | 6, h => exact h
          | 7, h => exact h
          | 8, h => exact h
          | 9, h => exact h
          | 10, h => exact h
          | k + 11, h => trivial
        · exact ⟨hs.drew, hg.drew⟩
        · refine ⟨?_, ?_, ?_, ?_, ?_, ?_, ?_, ?_, ?_, ?_, ?_, trivial⟩
          · intro f w1 hC hd KK hK
            simp only [List.take_succ_cons, List.take_zero, setAll, List.setIfInBounds_toArray, List.set_cons_succ, List.set_cons_zero, Nat.zero_add, Nat.reduceAdd] at hK ⊢
            refine wp_of_quiet rfl ?_
            go_big_quiet_step (fail)
            exact wpQuiet_nil (hK _ _ rfl (Below.refl _ _))
          · intro f w1 hC hd KK hK
            simp only [List.take_succ_cons, List.take_zero, setAll, List.setIfInBounds_toArray, List.set_cons_succ, List.set_cons_zero, Nat.zero_add, Nat.reduceAdd] at hK ⊢
            refine wp_of_quiet rfl ?_
            go_big_quiet_step (fail)
            exact wpQuiet_nil (hK _ _ rfl (Below.refl _ _))
          · intro f w1 hC hd KK hK
            simp only [List.take_succ_cons, List.take_zero, setAll, List.setIfInBounds_toArray, List.set_cons_succ, List.set_cons_zero, Nat.zero_add, Nat.reduceAdd] at hK ⊢
            refine wp_of_quiet rfl ?_
            go_big_quiet_step (fail)
            exact wpQuiet_nil (hK _ _ rfl (Below.refl _ _))
          · intro f w1 hC hd KK hK
            have g1 : f 1 = _ := hd 1 rfl
            have g2 : f 2 = _ := hd 2 rfl
            simp only [List.take_succ_cons, List.take_zero, setAll, List.setIfInBounds_toArray, List.set_cons_succ, List.set_cons_zero, Nat.zero_add, Nat.reduceAdd, g1, g2] at hK ⊢
            refine wp_of_quiet rfl ?_
            go_big_quiet_step (fail)
            exact wpQuiet_nil (hK _ _ rfl (Below.refl _ _))
          · intro f w1 hC hd KK hK
            have c4a := CellC.a (And.left (CB.out w1 hC.1))
            have c4b := CellC.b (And.left (CB.out w1 hC.1))
            have g3 : f 3 = _ := hd 3 rfl
            simp only [List.take_succ_cons, List.take_zero, setAll, List.setIfInBounds_toArray, List.set_cons_succ, List.set_cons_zero, Nat.zero_add, Nat.reduceAdd, g3] at hK ⊢
            refine wp_of_quiet rfl ?_
            go_big_quiet_step (fail)
            exact wpQuiet_nil (hK _ _ rfl (Below.refl _ _))
          · intro f w1 hC hd KK hK
            simp only [List.take_succ_cons, List.take_zero, setAll, List.setIfInBounds_toArray, List.set_cons_succ, List.set_cons_zero, Nat.zero_add, Nat.reduceAdd] at hK ⊢
            refine wp_of_quiet rfl ?_
            go_big_quiet_step (fail)
            exact wpQuiet_nil (hK _ _ rfl (Below.refl _ _))
          · intro f w1 hC hd KK hK
            simp only [List.take_succ_cons, List.take_zero, setAll, List.setIfInBounds_toArray, List.set_cons_succ, List.set_cons_zero, Nat.zero_add, Nat.reduceAdd] at hK ⊢
            refine wp_of_quiet rfl ?_
            go_big_quiet_step (fail)
            exact wpQuiet_nil (hK _ _ rfl (Below.refl _ _))
          · intro f w1 hC hd KK hK
            have g5 : f 5 = _ := hd 5 rfl
            have g6 : f 6 = _ := hd 6 rfl
            simp only [List.take_succ_cons, List.take_zero, setAll, List.setIfInBounds_toArray, List.set_cons_succ, List.set_cons_zero, Nat.zero_add, Nat.reduceAdd, g5, g6] at hK ⊢
            refine wp_of_quiet rfl ?_
            go_big_quiet_step (fail)
            exact wpQuiet_nil (hK _ _ rfl (Below.refl _ _))
          · intro f w1 hC hd KK hK
            have c8a := CellC.a (And.right (CB.out w1 hC.1))
            have c8b := CellC.b (And.right (CB.out w1 hC.1))
            have g7 : f 7 = _ := hd 7 rfl
            simp only [List.take_succ_cons, List.take_zero, setAll, List.setIfInBounds_toArray, List.set_cons_succ, List.set_cons_zero, Nat.zero_add, Nat.reduceAdd, g7] at hK ⊢
            refine wp_of_quiet rfl ?_
            go_big_quiet_step (fail)
            exact wpQuiet_nil (hK _ _ rfl (Below.refl _ _))
          · intro f w1 hC hd KK hK
            have g0 : f 0 = _ := hd 0 rfl
            have g4 : f 4 = _ := hd 4 rfl
            have g8 : f 8 = _ := hd 8 rfl
            simp only [List.take_succ_cons, List.take_zero, setAll, List.setIfInBounds_toArray, List.set_cons_succ, List.set_cons_zero, Nat.zero_add, Nat.reduceAdd, g0, g4, g8] at hK ⊢
            exact wp_call 86 #[.agg #[.int .i64 yh.1, .bool yh.2], .agg #[.int .i64 x.1, .bool x.2]] (by simp [go_sem]) _ _ (hcc w1 hC.2) (fun w' hb => hK _ _ rfl hb)
          · intro f w1 hC hd KK hK
            have g9 : f 9 = _ := hd 9 rfl
            simp only [List.take_succ_cons, List.take_zero, setAll, List.setIfInBounds_toArray, List.set_cons_succ, List.set_cons_zero, Nat.zero_add, Nat.reduceAdd, g9] at hK ⊢
            refine wp_of_quiet rfl ?_
            go_big_quiet_step (fail)
            exact wpQuiet_nil (hK _ _ rfl (Below.refl _ _))
        · intro f w1 hC hv
          have g0 : f 0 = _ := hv 0 (by decide)
          have g1 : f 1 = _ := hv 1 (by decide)
          have g2 : f 2 = _ := hv 2 (by decide)
          have g3 : f 3 = _ := hv 3 (by decide)
          have g4 : f 4 = _ := hv 4 (by decide)
          have g5 : f 5 = _ := hv 5 (by decide)
          have g6 : f 6 = _ := hv 6 (by decide)
          have g7 : f 7 = _ := hv 7 (by decide)
          have g8 : f 8 = _ := hv 8 (by decide)
          have g9 : f 9 = _ := hv 9 (by decide)
          have g10 : f 10 = _ := hv 10 (by decide)
          simp only [List.take_succ_cons, List.take_zero, List.drop_succ_cons, List.drop_zero, setAll, List.setIfInBounds_toArray, List.set_cons_succ, List.set_cons_zero, Nat.zero_add, Nat.reduceAdd, g0, g1, g2, g3, g4, g5, g6, g7, g8, g9, g10]
          clear g0 g1 g2 g3 g4 g5 g6 g7 g8 g9 g10 hv
          have s9 := hC.1
          have g9 := hC.2
          clear hcc CB hs hg hC
          go_wp2_with fail
          exact ⟨⟨(i + j) / 2 + 1, j, by go_num, rfl, by omega, by omega, by omega, U, L2, s9, g9⟩, by simp [intOf]; omega⟩
      · have U := UP2.out hlt
        have i1 : ¬ sv' < 0 := by have := decide_eq_false hlt; rw [← hsg] at this; exact of_decide_eq_false this
        have i3 : decide (sv' < 0) = false := decide_eq_false i1
        generalize Y.getD ((i + j) / 2 - m) (0, false) = yh at *
        clear HSY HYS HCM CEL CEX DONE YL AL NL hsg up1 up2 UP1 UP2 hh L2 hlt
        go_wp2_with fail
        refine wp_region_grow 11 (by kernel_rfl) (by kernel_rfl) (fun w1 w2 => Below w1.heap.size w1 w2) (fun w1 => SegC w1 g (A ++ ([x] ++ (Y ++ Z))) ∧ Gb g w w1) (fun k w1 v => match k with
          | 0 => v = .func (.func 86) #[] #[]
          | 1 => v = .slice (some ⟨g, 0, none⟩) N c
          | 2 => v = .int .i64 (((i : Int) + (j : Int)) / 2)
          | 3 => v = .pointer (some ⟨g, (i + j) / 2 * 2, none⟩)
          | 4 => v = .agg #[.int .i64 yh.1, .bool yh.2]
          | 5 => v = .slice (some ⟨g, 0, none⟩) N c
          | 6 => v = .int .i64 (a : Int)
          | 7 => v = .pointer (some ⟨g, a * 2, none⟩)
          | 8 => v = .agg #[.int .i64 x.1, .bool x.2]
          | 9 => v = .int .i64 sv'
          | 10 => v = .bool false
          | _ => True) ?_ ?_ ?_ ?_ ?_
        · rintro w1 w2 hb ⟨q1, q2⟩
          exact ⟨q1.below hb, q2.trans (Gb.below hb)⟩
        · intro k v w1 w2 hC1 hb h
          match k, h with
          | 0, h => exact h
          | 1, h => exact h
          | 2, h => exact h
          | 3, h => exact h
          | 4, h => exact h
          | 5, h => exact h
          | 6, h => exact h
          | 7, h => exact h
          | 8, h => exact h
          | 9, h => exact h
          | 10, h => exact h
          | k + 11, h => trivial
        · exact ⟨hs.drew, hg.drew⟩
        · refine ⟨?_, ?_, ?_, ?_, ?_, ?_, ?_, ?_, ?_, ?_, ?_, trivial⟩
          · intro f w1 hC hd KK hK
            simp only [List.take_succ_cons, List.take_zero, setAll, List.setIfInBounds_toArray, List.set_cons_succ, List.set_cons_zero, Nat.zero_add, Nat.reduceAdd] at hK ⊢
            refine wp_of_quiet rfl ?_
            go_big_quiet_step (fail)
            exact wpQuiet_nil (hK _ _ rfl (Below.refl _ _))
          · intro f w1 hC hd KK hK
            simp only [List.take_succ_cons, List.take_zero, setAll, List.setIfInBounds_toArray, List.set_cons_succ, List.set_cons_zero, Nat.zero_add, Nat.reduceAdd] at hK ⊢
            refine wp_of_quiet rfl ?_
            go_big_quiet_step (fail)
            exact wpQuiet_nil (hK _ _ rfl (Below.refl _ _))
          · intro f w1 hC hd KK hK
            simp only [List.take_succ_cons, List.take_zero, setAll, List.setIfInBounds_toArray, List.set_cons_succ, List.set_cons_zero, Nat.zero_add, Nat.reduceAdd] at hK ⊢
            refine wp_of_quiet rfl ?_
            go_big_quiet_step (fail)
            exact wpQuiet_nil (hK _ _ rfl (Below.refl _ _))
          · intro f w1 hC hd KK hK
            have g1 : f 1 = _ := hd 1 rfl
            have g2 : f 2 = _ := hd 2 rfl
            simp only [List.take_succ_cons, List.take_zero, setAll, List.setIfInBounds_toArray, List.set_cons_succ, List.set_cons_zero, Nat.zero_add, Nat.reduceAdd, g1, g2] at hK ⊢
            refine wp_of_quiet rfl ?_
            go_big_quiet_step (fail)
            exact wpQuiet_nil (hK _ _ rfl (Below.refl _ _))
          · intro f w1 hC hd KK hK
            have c4a := CellC.a (And.left (CB.out w1 hC.1))
            have c4b := CellC.b (And.left (CB.out w1 hC.1))
            have g3 : f 3 = _ := hd 3 rfl
            simp only [List.take_succ_cons, List.take_zero, setAll, List.setIfInBounds_toArray, List.set_cons_succ, List.set_cons_zero, Nat.zero_add, Nat.reduceAdd, g3] at hK ⊢
            refine wp_of_quiet rfl ?_
            go_big_quiet_step (fail)
            exact wpQuiet_nil (hK _ _ rfl (Below.refl _ _))
          · intro f w1 hC hd KK hK
            simp only [List.take_succ_cons, List.take_zero, setAll, List.setIfInBounds_toArray, List.set_cons_succ, List.set_cons_zero, Nat.zero_add, Nat.reduceAdd] at hK ⊢
            refine wp_of_quiet rfl ?_
            go_big_quiet_step (fail)
            exact wpQuiet_nil (hK _ _ rfl (Below.refl _ _))
          · intro f w1 hC hd KK hK
            simp only [List.take_succ_cons, List.take_zero, setAll, List.setIfInBounds_toArray, List.set_cons_succ, List.set_cons_zero, Nat.zero_add, Nat.reduceAdd] at hK ⊢
            refine wp_of_quiet rfl ?_
            go_big_quiet_step (fail)
            exact wpQuiet_nil (hK _ _ rfl (Below.refl _ _))
          · intro f w1 hC hd KK hK
            have g5 : f 5 = _ := hd 5 rfl
            have g6 : f 6 = _ := hd 6 rfl
            simp only [List.take_succ_cons, List.take_zero, setAll, List.setIfInBounds_toArray, List.set_cons_succ, List.set_cons_zero, Nat.zero_add, Nat.reduceAdd, g5, g6] at hK ⊢
            refine wp_of_quiet rfl ?_
            go_big_quiet_step (fail)
            exact wpQuiet_nil (hK _ _ rfl (Below.refl _ _))
          · intro f w1 hC hd KK hK
            have c8a := CellC.a (And.right (CB.out w1 hC.1))
            have c8b := CellC.b (And.right (CB.out w1 hC.1))
            have g7 : f 7 = _ := hd 7 rfl
            simp only [List.take_succ_cons, List.take_zero, setAll, List.setIfInBounds_toArray, List.set_cons_succ, List.set_cons_zero, Nat.zero_add, Nat.reduceAdd, g7] at hK ⊢
            refine wp_of_quiet rfl ?_
            go_big_quiet_step (fail)
            exact wpQuiet_nil (hK _ _ rfl (Below.refl _ _))
          · intro f w1 hC hd KK hK
            have g0 : f 0 = _ := hd 0 rfl
            have g4 : f 4 = _ := hd 4 rfl
            have g8 : f 8 = _ := hd 8 rfl
            simp only [List.take_succ_cons, List.take_zero, setAll, List.setIfInBounds_toArray, List.set_cons_succ, List.set_cons_zero, Nat.zero_add, Nat.reduceAdd, g0, g4, g8] at hK ⊢
            exact wp_call 86 #[.agg #[.int .i64 yh.1, .bool yh.2], .agg #[.int .i64 x.1, .bool x.2]] (by simp [go_sem]) _ _ (hcc w1 hC.2) (fun w' hb => hK _ _ rfl hb)
          · intro f w1 hC hd KK hK
            have g9 : f 9 = _ := hd 9 rfl
            simp only [List.take_succ_cons, List.take_zero, setAll, List.setIfInBounds_toArray, List.set_cons_succ, List.set_cons_zero, Nat.zero_add, Nat.reduceAdd, g9] at hK ⊢
            refine wp_of_quiet rfl ?_
            go_big_quiet_step (fail)
            exact wpQuiet_nil (hK _ _ rfl (Below.refl _ _))
        · intro f w1 hC hv
          have g0 : f 0 = _ := hv 0 (by decide)
          have g1 : f 1 = _ := hv 1 (by decide)
          have g2 : f 2 = _ := hv 2 (by decide)
          have g3 : f 3 = _ := hv 3 (by decide)
          have g4 : f 4 = _ := hv 4 (by decide)
          have g5 : f 5 = _ := hv 5 (by decide)
          have g6 : f 6 = _ := hv 6 (by decide)
          have g7 : f 7 = _ := hv 7 (by decide)
          have g8 : f 8 = _ := hv 8 (by decide)
          have g9 : f 9 = _ := hv 9 (by decide)
          have g10 : f 10 = _ := hv 10 (by decide)
          simp only [List.take_succ_cons, List.take_zero, List.drop_succ_cons, List.drop_zero, setAll, List.setIfInBounds_toArray, List.set_cons_succ, List.set_cons_zero, Nat.zero_add, Nat.reduceAdd, g0, g1, g2, g3, g4, g5, g6, g7, g8, g9, g10]
          clear g0 g1 g2 g3 g4 g5 g6 g7 g8 g9 g10 hv
          have s9 := hC.1
          have g9 := hC.2
          clear hcc CB hs hg hC
          go_wp2_with fail
          exact ⟨⟨i, (i + j) / 2, rfl, by go_num, by omega, by omega, by omega, L1, U, s9, g9⟩, by simp [intOf]; omega⟩
    · obtain rfl : i = j := by omega
      have hD := DONE.out (i - m) L1.out L2.out
      have HD : Box' (∀ W, SegC W g (A ++ (Y.take (i - m) ++ x :: (Y.drop (i - m) ++ Z))) → SegC W g (A ++ (Gs.mg k [x] Y ++ Z))) := ⟨fun W hW => by rw [hD]; simpa using hW⟩
      have hY1 : (Y.take (i - m)).length = i - m := by rw [List.length_take]; have := YL.out; omega
      have HY1 := Box'.mk hY1
      have hs2 : SegC wr g (A ++ ([] ++ x :: (Y.take (i - m) ++ (Y.drop (i - m) ++ Z)))) := by
        rw [← List.append_assoc (Y.take _), List.take_append_drop]; simpa using hs
      have hZL : Box' ((Y.drop (i - m) ++ Z).length = N - i) := ⟨by rw [List.length_append, List.length_drop]; have := YL.out; have := NL.out; omega⟩
      generalize Y.take (i - m) = Y1 at *
      generalize Y.drop (i - m) ++ Z = R at *
      clear HSY HYS HCM CEL CEX DONE YL NL L1 L2 hs hD hY1
      go_wp2_with fail
      go_loopw [13] (fun u wr => ∃ (q : Nat) (U1 U2 : List Cn), u = .int .i64 (q : Int) ∧ a ≤ q ∧ q ≤ i - 1 ∧ Box' (q = a + U1.length) ∧ Box' (Y1 = U1 ++ U2) ∧ SegC wr g (A ++ (U1 ++ x :: (U2 ++ R))) ∧ Gb g w wr) (fun u _ => i - (intOf u).toNat)
      case atStart => exact ⟨a, [], Y1, rfl, by omega, by omega, ⟨rfl⟩, ⟨rfl⟩, hs2, hg⟩
      case round =>
        clear hs2 hg
        obtain ⟨q, U1, U2, rfl, q1, q2, HQ, HU, hs, hg⟩ := hrel
        by_cases hlt : q < i - 1
        · obtain ⟨y, U2', hU2⟩ : ∃ y U2', U2 = y :: U2' := by
            cases U2 with
            | nil => exfalso; have := HU.out; have := HY1.out; have := HQ.out; simp_all; omega
            | cons y r => exact ⟨y, r, rfl⟩
          subst hU2
          have hql : (A ++ U1).length = q := by have := AL.out; have := HQ.out; simp; omega
          have hs' : SegC wr g ((A ++ U1) ++ x :: ([] ++ y :: (U2' ++ R))) := by simpa using hs
          have hlen : q + 1 < ((A ++ U1) ++ x :: ([] ++ y :: (U2' ++ R))).length := by rw [List.length_append, hql]; simp
          have c0 := hs'.cell (k := q) (by omega)
          have c1 := hs'.cell (k := q + 1) hlen
          rw [← hql, get_mid, hql] at c0
          rw [show (A ++ U1) ++ x :: ([] ++ y :: (U2' ++ R)) = ((A ++ U1) ++ [x]) ++ y :: (U2' ++ R) by simp, show q + 1 = ((A ++ U1) ++ [x]).length by rw [List.length_append, hql]; rfl, get_mid, show ((A ++ U1) ++ [x]).length = q + 1 by rw [List.length_append, hql]; rfl] at c1
          have f0 := hs'.frozen q
          have f1 := hs'.frozen (q + 1)
          obtain ⟨c0, c0b⟩ := c0
          obtain ⟨c1, c1b⟩ := c1
          obtain ⟨f0, f0b⟩ := f0
          obtain ⟨f1, f1b⟩ := f1
          have hsw := hs'.swap q (q + 1) hql.symm (by rw [hql]; rfl)
          have hg2 := (hg.setC q y).setC (q + 1) x
          have hqN : q + 1 < N := by omega
          clear hs hs' hlen hql HD
          go_wp2_with fail
          go_region
          go_wp2_with fail
          exact ⟨⟨q + 1, U1 ++ [y], U2', by go_num, by omega, by omega, ⟨by have := HQ.out; simp; omega⟩, ⟨by rw [HU.out]; simp⟩, by simpa using hsw.drew, hg2.drew⟩, by simp [intOf]; omega⟩
        · have hU2 : U2 = [] := by
            have h1 := HU.out; have h2 := HY1.out; have h3 := HQ.out
            rw [h1, List.length_append] at h2
            exact List.eq_nil_of_length_eq_zero (by omega)
          subst hU2
          have hend := HD.out wr (by have h1 := HU.out; rw [List.append_nil] at h1; rw [h1]; simpa using hs)
          clear hs HD HU HQ HY1 hZL
          go_wp2_with fail
          exact ⟨rfl, _, results94 _ _, rfl, hend, hg⟩
end Go.Proofs.Ytcjfaahlchbcmaa
