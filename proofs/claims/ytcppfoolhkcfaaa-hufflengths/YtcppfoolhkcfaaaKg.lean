/- The walk of symMerge, for numbers, where the right side is one number. -/
import Derived.Test.YtcppfoolhkcfaaaKf
namespace Go.Proofs.Ytcppfoolhkcfaaa
open Go.RowKit Go.BigFrame

set_option maxRecDepth 100000 in
set_option maxHeartbeats 4000000 in
theorem symI_right (g c B pb : Nat) (w0 : World) (k : Int → Int) (S : Int → Prop) (hcmp : CmpI B w0 pb k S) (hB : B ≤ g) (hB0 : B ≤ w0.heap.size) (A : List Int) (y : Int) (X Z : List Int) (a m b N : Nat) (hy : S y) (hS : ∀ x ∈ X, S x) (hX : Gs.Srt k X) (ha : A.length = a) (hm : a + X.length = m) (hX2 : 2 ≤ X.length) (hb : m + 1 = b) (hN : N = b + Z.length) (hN2 : N ≤ 4096) (w : World) (hbl : Below B w0 w) (h : SegI w g (A ++ (X ++ ([y] ++ Z)))) :
    Calls Try.prog 57 #[.slice (some ⟨g, 0, none⟩) N c, .int .i64 (a : Int), .int .i64 (m : Int), .int .i64 (b : Int), cfI pb] w fun e w' => e = .returned (.tuple #[]) ∧ SegI w' g (A ++ (Gs.mg k X [y] ++ Z)) ∧ Gb g w w' := by
  have HSX : Box' (∀ u, u < X.length → S (X.getD u 0)) := ⟨fun u hu => hS _ (by simp [hu])⟩
  have HXS := Box'.mk (srt_get k X hX)
  have HCM := Box'.mk hcmp
  have CEL : Box' (∀ W, SegI W g (A ++ (X ++ ([y] ++ Z))) → ∀ u, u < X.length → W.cell? ⟨g, a + u, none⟩ = some (.int .i64 (X.getD u 0))) := ⟨fun W hW u hu => by
    have := hW.cell (k := a + u) (by simp; omega)
    rw [← ha, getD_add, getD_left _ _ _ _ hu, ha] at this
    exact this⟩
  have CEY : Box' (∀ W, SegI W g (A ++ (X ++ ([y] ++ Z))) → W.cell? ⟨g, m, none⟩ = some (.int .i64 y)) := ⟨fun W hW => by
    have := hW.cell (k := m) (by simp; omega)
    rw [show m = A.length + (X.length + 0) by omega, getD_add, getD_add] at this
    rw [show A.length + (X.length + 0) = m by omega] at this
    exact this⟩
  have DONE : Box' (∀ n, (∀ u, u < n → k (X.getD u 0) ≤ k y) → (∀ u, n ≤ u → u < X.length → k y < k (X.getD u 0)) → Gs.mg k X [y] = X.take n ++ y :: X.drop n) := ⟨one_right k X y⟩
  have XL : Box' (a + X.length = m) := ⟨hm⟩
  have AL : Box' (A.length = a) := ⟨ha⟩
  have NL : Box' (N = b + Z.length) := ⟨hN⟩
  have ham : a + 2 ≤ m := by omega
  have hbN : b ≤ N := by omega
  unfold cfI
  have hm0 : ((m : Int) - (a : Int) == 1) = false := by rw [beq_eq_false_iff_ne]; omega
  have hb0 : ((b : Int) - (m : Int) == 1) = true := by rw [beq_iff_eq]; omega
  have hb1 : m + 1 ≤ b := by omega
  have hb2 : b ≤ m + 1 := by omega
  clear hcmp hS hX ha hb hN hm hX2
  go_enter Try.func57, Try.ntmps57
  go_wp2_with fail
  go_loopw [14, 15] (fun u v wr => ∃ i j : Nat, u = .int .i64 (i : Int) ∧ v = .int .i64 (j : Int) ∧ a ≤ i ∧ i ≤ j ∧ j ≤ m ∧ Box' (∀ u, u < i - a → k (X.getD u 0) ≤ k y) ∧ Box' (∀ u, j - a ≤ u → u < X.length → k y < k (X.getD u 0)) ∧ SegI wr g (A ++ (X ++ ([y] ++ Z))) ∧ Gb g w wr) (fun u v _ => (intOf v).toNat - (intOf u).toNat)
  case atStart => exact ⟨a, m, rfl, rfl, by omega, by omega, by omega, ⟨fun u hu => by omega⟩, ⟨fun u hu hl => by have := XL.out; omega⟩, h, Gb.refl _ _⟩
  case round =>
    clear h
    obtain ⟨i, j, rfl, rfl, h1, h2, h3, L1, L2, hs, hg⟩ := hrel
    by_cases hij : i < j
    · have hh : (i + j) / 2 - a < X.length := by have := XL.out; omega
      have c0 := CEL.out wr hs ((i + j) / 2 - a) hh
      rw [show a + ((i + j) / 2 - a) = (i + j) / 2 by omega] at c0
      have c1 := CEY.out wr hs
      have hbw := hg.on hbl hB hB0
      have hcc : ∀ n, Calls Try.prog 49 #[.int .i64 y, .int .i64 (X.getD ((i + j) / 2 - a) 0), .pointer (some ⟨pb, 0, none⟩)] (wr.drewN n) fun e w' => e = .returned (.int .i64 (sg (k y) (k (X.getD ((i + j) / 2 - a) 0)))) ∧ ∃ m, w' = (wr.drewN n).drewN m := fun n => HCM.out _ (Below.drewN hbw n) _ _ hy (HSX.out _ hh)
      have hsg := sg_lt (k y) (k (X.getD ((i + j) / 2 - a) 0))
      have up1 : ¬ k y < k (X.getD ((i + j) / 2 - a) 0) → Box' (∀ u, u < (i + j) / 2 + 1 - a → k (X.getD u 0) ≤ k y) := fun hlt => ⟨fun u hu => by
        have := HXS.out u ((i + j) / 2 - a) (by omega) hh; omega⟩
      have up2 : k y < k (X.getD ((i + j) / 2 - a) 0) → Box' (∀ u, (i + j) / 2 - a ≤ u → u < X.length → k y < k (X.getD u 0)) := fun hlt => ⟨fun u hu hl => by
        have := HXS.out ((i + j) / 2 - a) u hu hl; omega⟩
      have UP1 := Box'.mk up1
      have UP2 := Box'.mk up2
      have hiN : (i + j) / 2 < N := by omega
      have hmN : m < N := by omega
      generalize sg (k y) (k (X.getD ((i + j) / 2 - a) 0)) = sv' at *
      by_cases hlt : k y < k (X.getD ((i + j) / 2 - a) 0)
      · have U := UP2.out hlt
        have i1 : sv' < 0 := by have := decide_eq_true hlt; rw [← hsg] at this; exact of_decide_eq_true this
        have i2 : (!decide (sv' < 0)) = false := by rw [decide_eq_true i1]; rfl
        generalize X.getD ((i + j) / 2 - a) 0 = xh at *
        clear HSX HXS HCM CEL CEY DONE XL AL NL hsg up1 up2 UP1 UP2 hh L2 hlt
        go_wp2_with fail
        go_quiet ((go_at_call 49; exact Calls.quiet_of (hcc _)))
        go_wp2_with fail
        exact ⟨⟨i, (i + j) / 2, rfl, by go_num, by omega, by omega, by omega, L1, U, hs.drewN nq, hg.drewN nq⟩, by simp [intOf]; omega⟩
      · have U := UP1.out hlt
        have i1 : ¬ sv' < 0 := by have := decide_eq_false hlt; rw [← hsg] at this; exact of_decide_eq_false this
        have i2 : (!decide (sv' < 0)) = true := by rw [decide_eq_false i1]; rfl
        generalize X.getD ((i + j) / 2 - a) 0 = xh at *
        clear HSX HXS HCM CEL CEY DONE XL AL NL hsg up1 up2 UP1 UP2 hh L1 hlt
        go_wp2_with fail
        go_quiet ((go_at_call 49; exact Calls.quiet_of (hcc _)))
        go_wp2_with fail
        exact ⟨⟨(i + j) / 2 + 1, j, by go_num, rfl, by omega, by omega, by omega, U, L2, hs.drewN nq, hg.drewN nq⟩, by simp [intOf]; omega⟩
    · obtain rfl : i = j := by omega
      have hD := DONE.out (i - a) L1.out L2.out
      have HD : Box' (∀ W, SegI W g (A ++ (X.take (i - a) ++ y :: (X.drop (i - a) ++ Z))) → SegI W g (A ++ (Gs.mg k X [y] ++ Z))) := ⟨fun W hW => by rw [hD]; simpa using hW⟩
      have hX1 : (X.take (i - a)).length = i - a := by rw [List.length_take]; have := XL.out; omega
      have hX2 : (X.drop (i - a)).length = m - i := by rw [List.length_drop]; have := XL.out; omega
      have HX1 := Box'.mk hX1
      have HX2 := Box'.mk hX2
      have hs2 : SegI wr g (A ++ (X.take (i - a) ++ (X.drop (i - a) ++ y :: ([] ++ Z)))) := by
        rw [← List.append_assoc (X.take _), List.take_append_drop]; simpa using hs
      have XT := Box'.mk (List.take_append_drop (i - a) X)
      generalize X.take (i - a) = X1 at *
      generalize X.drop (i - a) = X2 at *
      clear HSX HXS HCM CEL CEY DONE XL L1 L2 hs hD hX1 hX2 XT
      go_wp2_with fail
      go_loopw [17] (fun u wr => ∃ (q : Nat) (U1 U2 : List Int), u = .int .i64 (q : Int) ∧ i ≤ q ∧ q ≤ m ∧ Box' (q = i + U1.length) ∧ Box' (X2 = U1 ++ U2) ∧ SegI wr g (A ++ (X1 ++ (U1 ++ y :: (U2 ++ Z)))) ∧ Gb g w wr) (fun u _ => (intOf u).toNat)
      case atStart => exact ⟨m, X2, [], rfl, by omega, by omega, ⟨by have := HX2.out; omega⟩, ⟨by simp⟩, hs2, hg⟩
      case round =>
        clear hs2 hg
        obtain ⟨q, U1, U2, rfl, q1, q2, HQ, HU, hs, hg⟩ := hrel
        by_cases hlt : i < q
        · obtain ⟨Q, p, hQ⟩ : ∃ Q p, U1 = Q ++ [p] := by
            rcases List.eq_nil_or_concat U1 with h | ⟨Q, p, h⟩
            · exfalso; subst h; have := HQ.out; simp at this; omega
            · exact ⟨Q, p, by rw [h, List.concat_eq_append]⟩
          subst hQ
          obtain ⟨q, rfl⟩ : ∃ r, q = r + 1 := ⟨q - 1, by omega⟩
          have hql : (A ++ (X1 ++ Q)).length = q := by have := AL.out; have := HQ.out; have := HX1.out; simp at *; omega
          have hs' : SegI wr g ((A ++ (X1 ++ Q)) ++ p :: ([] ++ y :: (U2 ++ Z))) := by simpa using hs
          have hlen : q + 1 < ((A ++ (X1 ++ Q)) ++ p :: ([] ++ y :: (U2 ++ Z))).length := by rw [List.length_append, hql]; simp
          have c0 := hs'.cell (k := q) (by omega)
          have c1 := hs'.cell (k := q + 1) hlen
          rw [← hql, get_mid, hql] at c0
          rw [show (A ++ (X1 ++ Q)) ++ p :: ([] ++ y :: (U2 ++ Z)) = ((A ++ (X1 ++ Q)) ++ [p]) ++ y :: (U2 ++ Z) by simp, show q + 1 = ((A ++ (X1 ++ Q)) ++ [p]).length by rw [List.length_append, hql]; rfl, get_mid, show ((A ++ (X1 ++ Q)) ++ [p]).length = q + 1 by rw [List.length_append, hql]; rfl] at c1
          have f0 := hs'.frozen q
          have f1 := hs'.frozen (q + 1)
          have hsw := hs'.swap' q (q + 1) hql.symm (by rw [hql]; rfl)
          have hg2 := (hg.setCell (q + 1) (.int .i64 p)).setCell q (.int .i64 y)
          have hqN : q + 1 < N := by omega
          have HQ2 : Box' (q = i + Q.length) := ⟨by have := HQ.out; simp at this; omega⟩
          clear hs hs' hlen hql HD HQ
          go_wp2_with fail
          go_region
          go_wp2_with fail
          exact ⟨⟨q, Q, p :: U2, by go_num, by omega, by omega, HQ2, ⟨by rw [HU.out]; simp⟩, by simpa using hsw.drew, hg2.drew⟩, by simp [intOf]⟩
        · have hU1 : U1 = [] := List.eq_nil_of_length_eq_zero (by have := HQ.out; omega)
          subst hU1
          have hend := HD.out wr (by have h1 := HU.out; rw [List.nil_append] at h1; rw [h1]; simpa using hs)
          clear hs HD HU HQ HX1 HX2
          go_wp2_with fail
          exact ⟨rfl, _, results57 _ _, rfl, hend, hg⟩
end Go.Proofs.Ytcppfoolhkcfaaa
