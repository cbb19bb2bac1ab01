/- The walk of symMerge, for numbers, where one side is one number. -/
import Derived.Test.YtcppfoolhkcfaaaKe
namespace Go.Proofs.Ytcppfoolhkcfaaa
open Go.RowKit Go.BigFrame

theorem results57 (T : Array Value) (w : World) : (results Try.f57 T).run Try.prog w = .ok (.tuple #[]) w := by
  unfold results
  simp [go_sem]
theorem getD_add {α : Type} (A R : List α) (u : Nat) (d : α) : (A ++ R).getD (A.length + u) d = R.getD u d := by
  simp [List.getD_eq_getElem?_getD, List.getElem?_append_right]
theorem getD_left {α : Type} (X R : List α) (u : Nat) (d : α) (h : u < X.length) : (X ++ R).getD u d = X.getD u d := by
  simp [List.getD_eq_getElem?_getD, List.getElem?_append_left h]
theorem srt_get (k : Int → Int) (Y : List Int) (h : Gs.Srt k Y) (u v : Nat) (huv : u ≤ v) (hv : v < Y.length) : k (Y.getD u 0) ≤ k (Y.getD v 0) := by
  rcases Nat.lt_or_ge u v with h1 | h1
  · have := List.pairwise_iff_getElem.1 h u v (by omega) hv h1
    unfold Gs.le at this
    have := of_decide_eq_true this
    simpa [hv, Nat.lt_of_lt_of_le h1 (Nat.le_of_lt hv)] using this
  · have : u = v := by omega
    subst this; exact Int.le_refl _
theorem mem_take_get {Y : List Int} {n : Nat} {y : Int} (h : y ∈ Y.take n) : ∃ u, u < n ∧ u < Y.length ∧ Y.getD u 0 = y := by
  obtain ⟨u, hu, rfl⟩ := List.getElem_of_mem h
  rw [List.length_take] at hu
  exact ⟨u, by omega, by omega, by simp [show u < Y.length by omega]⟩
theorem mem_drop_get {Y : List Int} {n : Nat} {y : Int} (h : y ∈ Y.drop n) : ∃ u, n ≤ u ∧ u < Y.length ∧ Y.getD u 0 = y := by
  obtain ⟨u, hu, rfl⟩ := List.getElem_of_mem h
  rw [List.length_drop] at hu
  exact ⟨n + u, by omega, by omega, by simp [show n + u < Y.length by omega]⟩
theorem one_left (k : Int → Int) (Y : List Int) (x : Int) (n : Nat) (h1 : ∀ u, u < n → k (Y.getD u 0) < k x) (h2 : ∀ u, n ≤ u → u < Y.length → k x ≤ k (Y.getD u 0)) : Gs.mg k [x] Y = Y.take n ++ x :: Y.drop n := by
  have := Gs.mg_split k [] (Y.take n) [x] (Y.drop n) (fun x hx => by cases hx) (fun y hy z hz => by
    rw [List.mem_singleton] at hz; subst hz
    obtain ⟨u, hu, _, rfl⟩ := mem_take_get hy
    exact h1 u hu)
  rw [List.nil_append, List.take_append_drop, Gs.nil_mg] at this
  rw [this, Gs.mg_app k [x] (Y.drop n) (fun z hz y hy => by
    rw [List.mem_singleton] at hz; subst hz
    obtain ⟨u, hu, hl, rfl⟩ := mem_drop_get hy
    exact h2 u hu hl)]
  rfl
theorem one_right (k : Int → Int) (X : List Int) (y : Int) (n : Nat) (h1 : ∀ u, u < n → k (X.getD u 0) ≤ k y) (h2 : ∀ u, n ≤ u → u < X.length → k y < k (X.getD u 0)) : Gs.mg k X [y] = X.take n ++ y :: X.drop n := by
  have := Gs.mg_one k (X.take n) (X.drop n) y (fun z hz => by
    obtain ⟨u, hu, _, rfl⟩ := mem_take_get hz
    exact h1 u hu) (fun z hz => by
    obtain ⟨u, hu, hl, rfl⟩ := mem_drop_get hz
    exact h2 u hu hl)
  rwa [List.take_append_drop] at this

set_option maxRecDepth 100000 in
set_option maxHeartbeats 4000000 in
theorem symI_left (g c B pb : Nat) (w0 : World) (k : Int → Int) (S : Int → Prop) (hcmp : CmpI B w0 pb k S) (hB : B ≤ g) (hB0 : B ≤ w0.heap.size) (A : List Int) (x : Int) (Y Z : List Int) (a m b N : Nat) (hx : S x) (hS : ∀ y ∈ Y, S y) (hY : Gs.Srt k Y) (ha : A.length = a) (hm : a + 1 = m) (hb : m + Y.length = b) (hN : N = b + Z.length) (hN2 : N ≤ 4096) (w : World) (hbl : Below B w0 w) (h : SegI w g (A ++ ([x] ++ (Y ++ Z)))) :
    Calls Try.prog 57 #[.slice (some ⟨g, 0, none⟩) N c, .int .i64 (a : Int), .int .i64 (m : Int), .int .i64 (b : Int), cfI pb] w fun e w' => e = .returned (.tuple #[]) ∧ SegI w' g (A ++ (Gs.mg k [x] Y ++ Z)) ∧ Gb g w w' := by
  have HSY : Box' (∀ u, u < Y.length → S (Y.getD u 0)) := ⟨fun u hu => hS _ (by simp [hu])⟩
  have HYS := Box'.mk (srt_get k Y hY)
  have HCM := Box'.mk hcmp
  have CEL : Box' (∀ W, SegI W g (A ++ ([x] ++ (Y ++ Z))) → ∀ u, u < Y.length → W.cell? ⟨g, m + u, none⟩ = some (.int .i64 (Y.getD u 0))) := ⟨fun W hW u hu => by
    have := hW.cell (k := m + u) (by simp; omega)
    rw [show m + u = A.length + (1 + u) by omega, getD_add, show (1 + u) = [x].length + u from rfl, getD_add, getD_left _ _ _ _ hu] at this
    rw [show A.length + ([x].length + u) = m + u by simp; omega] at this
    exact this⟩
  have CEX : Box' (∀ W, SegI W g (A ++ ([x] ++ (Y ++ Z))) → W.cell? ⟨g, a, none⟩ = some (.int .i64 x)) := ⟨fun W hW => by
    have := hW.cell (k := a) (by simp; omega)
    rw [← ha, show ([x] ++ (Y ++ Z)) = x :: (Y ++ Z) from rfl, get_mid, ha] at this
    exact this⟩
  have DONE : Box' (∀ n, (∀ u, u < n → k (Y.getD u 0) < k x) → (∀ u, n ≤ u → u < Y.length → k x ≤ k (Y.getD u 0)) → Gs.mg k [x] Y = Y.take n ++ x :: Y.drop n) := ⟨one_left k Y x⟩
  have YL : Box' (m + Y.length = b) := ⟨hb⟩
  have AL : Box' (A.length = a) := ⟨ha⟩
  have NL : Box' (N = b + Z.length) := ⟨hN⟩
  have hmb : m ≤ b := by omega
  have hbN : b ≤ N := by omega
  unfold cfI
  have hm0 : ((m : Int) - (a : Int) == 1) = true := by rw [beq_iff_eq]; omega
  have hm1 : a + 1 ≤ m := by omega
  have hm2 : m ≤ a + 1 := by omega
  clear hcmp hS hY ha hb hN hm
  go_enter Try.func57, Try.ntmps57
  go_wp2_with fail
  go_loopw [10, 11] (fun u v wr => ∃ i j : Nat, u = .int .i64 (i : Int) ∧ v = .int .i64 (j : Int) ∧ m ≤ i ∧ i ≤ j ∧ j ≤ b ∧ Box' (∀ u, u < i - m → k (Y.getD u 0) < k x) ∧ Box' (∀ u, j - m ≤ u → u < Y.length → k x ≤ k (Y.getD u 0)) ∧ SegI wr g (A ++ ([x] ++ (Y ++ Z))) ∧ Gb g w wr) (fun u v _ => (intOf v).toNat - (intOf u).toNat)
  case atStart => exact ⟨m, b, rfl, rfl, by omega, by omega, by omega, ⟨fun u hu => by omega⟩, ⟨fun u hu hl => by have := YL.out; omega⟩, h, Gb.refl _ _⟩
  case round =>
    clear h
    obtain ⟨i, j, rfl, rfl, h1, h2, h3, L1, L2, hs, hg⟩ := hrel
    by_cases hij : i < j
    · have hh : (i + j) / 2 - m < Y.length := by have := YL.out; omega
      have c0 := CEL.out wr hs ((i + j) / 2 - m) hh
      rw [show m + ((i + j) / 2 - m) = (i + j) / 2 by omega] at c0
      have c1 := CEX.out wr hs
      have hbw := hg.on hbl hB hB0
      have hcc : ∀ n, Calls Try.prog 49 #[.int .i64 (Y.getD ((i + j) / 2 - m) 0), .int .i64 x, .pointer (some ⟨pb, 0, none⟩)] (wr.drewN n) fun e w' => e = .returned (.int .i64 (sg (k (Y.getD ((i + j) / 2 - m) 0)) (k x))) ∧ ∃ m, w' = (wr.drewN n).drewN m := fun n => HCM.out _ (Below.drewN hbw n) _ _ (HSY.out _ hh) hx
      have hsg := sg_lt (k (Y.getD ((i + j) / 2 - m) 0)) (k x)
      have up1 : k (Y.getD ((i + j) / 2 - m) 0) < k x → Box' (∀ u, u < (i + j) / 2 + 1 - m → k (Y.getD u 0) < k x) := fun hlt => ⟨fun u hu => by
        have := HYS.out u ((i + j) / 2 - m) (by omega) hh; omega⟩
      have up2 : ¬ k (Y.getD ((i + j) / 2 - m) 0) < k x → Box' (∀ u, (i + j) / 2 - m ≤ u → u < Y.length → k x ≤ k (Y.getD u 0)) := fun hlt => ⟨fun u hu hl => by
        have := HYS.out ((i + j) / 2 - m) u hu hl; omega⟩
      have UP1 := Box'.mk up1
      have UP2 := Box'.mk up2
      have hiN : (i + j) / 2 < N := by omega
      generalize sg (k (Y.getD ((i + j) / 2 - m) 0)) (k x) = sv' at *
      by_cases hlt : k (Y.getD ((i + j) / 2 - m) 0) < k x
      · have U := UP1.out hlt
        have i1 : sv' < 0 := by have := decide_eq_true hlt; rw [← hsg] at this; exact of_decide_eq_true this
        generalize Y.getD ((i + j) / 2 - m) 0 = yh at *
        clear HSY HYS HCM CEL CEX DONE YL AL NL hsg up1 up2 UP1 UP2 hh L1 hlt
        go_wp2_with fail
        go_quiet ((go_at_call 49; exact Calls.quiet_of (hcc _)))
        go_wp2_with fail
        exact ⟨⟨(i + j) / 2 + 1, j, by go_num, rfl, by omega, by omega, by omega, U, L2, hs.drewN nq, hg.drewN nq⟩, by simp [intOf]; omega⟩
      · have U := UP2.out hlt
        have i1 : ¬ sv' < 0 := by have := decide_eq_false hlt; rw [← hsg] at this; exact of_decide_eq_false this
        generalize Y.getD ((i + j) / 2 - m) 0 = yh at *
        clear HSY HYS HCM CEL CEX DONE YL AL NL hsg up1 up2 UP1 UP2 hh L2 hlt
        go_wp2_with fail
        go_quiet ((go_at_call 49; exact Calls.quiet_of (hcc _)))
        go_wp2_with fail
        exact ⟨⟨i, (i + j) / 2, rfl, by go_num, by omega, by omega, by omega, L1, U, hs.drewN nq, hg.drewN nq⟩, by simp [intOf]; omega⟩
    · obtain rfl : i = j := by omega
      have hD := DONE.out (i - m) L1.out L2.out
      have HD : Box' (∀ W, SegI W g (A ++ (Y.take (i - m) ++ x :: (Y.drop (i - m) ++ Z))) → SegI W g (A ++ (Gs.mg k [x] Y ++ Z))) := ⟨fun W hW => by rw [hD]; simpa using hW⟩
      have hY1 : (Y.take (i - m)).length = i - m := by rw [List.length_take]; have := YL.out; omega
      have HY1 := Box'.mk hY1
      have hs2 : SegI wr g (A ++ ([] ++ x :: (Y.take (i - m) ++ (Y.drop (i - m) ++ Z)))) := by
        rw [← List.append_assoc (Y.take _), List.take_append_drop]; simpa using hs
      have hZL : Box' ((Y.drop (i - m) ++ Z).length = N - i) := ⟨by rw [List.length_append, List.length_drop]; have := YL.out; have := NL.out; omega⟩
      generalize Y.take (i - m) = Y1 at *
      generalize Y.drop (i - m) ++ Z = R at *
      clear HSY HYS HCM CEL CEX DONE YL NL L1 L2 hs hD hY1
      go_wp2_with fail
      go_loopw [13] (fun u wr => ∃ (q : Nat) (U1 U2 : List Int), u = .int .i64 (q : Int) ∧ a ≤ q ∧ q ≤ i - 1 ∧ Box' (q = a + U1.length) ∧ Box' (Y1 = U1 ++ U2) ∧ SegI wr g (A ++ (U1 ++ x :: (U2 ++ R))) ∧ Gb g w wr) (fun u _ => i - (intOf u).toNat)
      case atStart => exact ⟨a, [], Y1, rfl, by omega, by omega, ⟨rfl⟩, ⟨rfl⟩, hs2, hg⟩
      case round =>
        clear hs2 hg
        obtain ⟨q, U1, U2, rfl, q1, q2, HQ, HU, hs, hg⟩ := hrel
        by_cases hlt : q < i - 1
        · obtain ⟨y, U2', hU2⟩ : ∃ y U2', U2 = y :: U2' := by
            cases U2 with
            | nil => exfalso; have := HU.out; have := HY1.out; have := HQ.out; simp_all; omega
            | cons y r => exact ⟨y, r, rfl⟩
          subst hU2
          have hql : (A ++ U1).length = q := by have := AL.out; have := HQ.out; simp; omega
          have hs' : SegI wr g ((A ++ U1) ++ x :: ([] ++ y :: (U2' ++ R))) := by simpa using hs
          have hlen : q + 1 < ((A ++ U1) ++ x :: ([] ++ y :: (U2' ++ R))).length := by rw [List.length_append, hql]; simp
          have c0 := hs'.cell (k := q) (by omega)
          have c1 := hs'.cell (k := q + 1) hlen
          rw [← hql, get_mid, hql] at c0
          rw [show (A ++ U1) ++ x :: ([] ++ y :: (U2' ++ R)) = ((A ++ U1) ++ [x]) ++ y :: (U2' ++ R) by simp, show q + 1 = ((A ++ U1) ++ [x]).length by rw [List.length_append, hql]; rfl, get_mid, show ((A ++ U1) ++ [x]).length = q + 1 by rw [List.length_append, hql]; rfl] at c1
          have f0 := hs'.frozen q
          have f1 := hs'.frozen (q + 1)
          have hsw := hs'.swap q (q + 1) hql.symm (by rw [hql]; rfl)
          have hg2 := (hg.setCell q (.int .i64 y)).setCell (q + 1) (.int .i64 x)
          have hqN : q + 1 < N := by omega
          clear hs hs' hlen hql HD
          go_wp2_with fail
          go_region
          go_wp2_with fail
          exact ⟨⟨q + 1, U1 ++ [y], U2', by go_num, by omega, by omega, ⟨by have := HQ.out; simp; omega⟩, ⟨by rw [HU.out]; simp⟩, by simpa using hsw.drew, hg2.drew⟩, by simp [intOf]; omega⟩
        · have hU2 : U2 = [] := by
            have h1 := HU.out; have h2 := HY1.out; have h3 := HQ.out
            rw [h1, List.length_append] at h2
            exact List.eq_nil_of_length_eq_zero (by omega)
          subst hU2
          have hend := HD.out wr (by have h1 := HU.out; rw [List.append_nil] at h1; rw [h1]; simpa using hs)
          clear hs HD HU HQ HY1 hZL
          go_wp2_with fail
          exact ⟨rfl, _, results57 _ _, rfl, hend, hg⟩
end Go.Proofs.Ytcppfoolhkcfaaa
