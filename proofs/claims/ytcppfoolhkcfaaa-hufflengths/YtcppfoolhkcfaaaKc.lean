/- The walks of swapRange and rotate, for numbers. -/
import Derived.Test.YtcppfoolhkcfaaaKb
import Derived.BigRegion
namespace Go.Proofs.Ytcppfoolhkcfaaa
open Go.RowKit Go.BigFrame

theorem results62 (T : Array Value) (w : World) : (results Try.f62 T).run Try.prog w = .ok (.tuple #[]) w := by
  unfold results
  simp [go_sem]
set_option maxRecDepth 100000 in
set_option maxHeartbeats 2000000 in
theorem swapI_any (g c : Nat) (cf : Value) (A X M Y Z : List Int) (n a b N : Nat) (hX : X.length = n) (hY : Y.length = n) (ha : A.length = a) (hb : A.length + n + M.length = b) (hN : N = A.length + n + M.length + n + Z.length) (hN2 : N ≤ 4096) (w : World) (h : SegI w g (A ++ (X ++ (M ++ (Y ++ Z))))) :
    Calls Try.prog 62 #[.slice (some ⟨g, 0, none⟩) N c, .int .i64 (a : Int), .int .i64 (b : Int), .int .i64 (n : Int), cf] w fun e w' => e = .returned (.tuple #[]) ∧ SegI w' g (A ++ (Y ++ (M ++ (X ++ Z)))) ∧ Gb g w w' := by
  go_enter Try.func62, Try.ntmps62
  go_wp2_with fail
  go_loopw [10] (fun i wr => ∃ (t : Nat) (X1 X2 Y1 Y2 : List Int), t ≤ n ∧ i = .int .i64 (t : Int) ∧ Box' (X = X1 ++ X2) ∧ Box' (Y = Y1 ++ Y2) ∧ X1.length = t ∧ Y1.length = t ∧ SegI wr g (A ++ (Y1 ++ (X2 ++ (M ++ (X1 ++ (Y2 ++ Z)))))) ∧ Gb g w wr) (fun i _ => n - (intOf i).toNat)
  case atStart => exact ⟨0, [], X, [], Y, by omega, rfl, ⟨rfl⟩, ⟨rfl⟩, rfl, rfl, by simpa using h, Gb.refl _ _⟩
  case round =>
    obtain ⟨t, X1, X2, Y1, Y2, ht, rfl, HX, HY, l1, l2, hs, hg⟩ := hrel
    by_cases hlt : t < n
    · cases X2 with
      | nil => have := HX.out; subst this; simp at hX; omega
      | cons x X2 =>
        cases Y2 with
        | nil => have := HY.out; subst this; simp at hY; omega
        | cons y Y2 =>
          have hx2 : X2.length = n - t - 1 := by have := HX.out; subst this; simp at hX; omega
          have hs' : SegI wr g ((A ++ Y1) ++ x :: ((X2 ++ (M ++ X1)) ++ y :: (Y2 ++ Z))) := by simpa using hs
          have hy2 : Y2.length = n - t - 1 := by have := HY.out; subst this; simp at hY; omega
          have hlen : ((A ++ Y1) ++ x :: ((X2 ++ (M ++ X1)) ++ y :: (Y2 ++ Z))).length = N := by simp; omega
          have c0 := hs'.cell (k := a + t) (by rw [hlen]; omega)
          have c1 := hs'.cell (k := b + t) (by rw [hlen]; omega)
          rw [show a + t = (A ++ Y1).length by simp; omega, get_mid] at c0
          rw [show (A ++ Y1) ++ x :: ((X2 ++ (M ++ X1)) ++ y :: (Y2 ++ Z)) = ((A ++ Y1) ++ x :: (X2 ++ (M ++ X1))) ++ y :: (Y2 ++ Z) by simp, show b + t = ((A ++ Y1) ++ x :: (X2 ++ (M ++ X1))).length by simp; omega, get_mid] at c1
          rw [show (A ++ Y1).length = a + t by simp; omega] at c0
          rw [show ((A ++ Y1) ++ x :: (X2 ++ (M ++ X1))).length = b + t by simp; omega] at c1
          have f0 := hs'.frozen (a + t)
          have f1 := hs'.frozen (b + t)
          have hsw := hs'.swap (a + t) (b + t) (by simp; omega) (by simp; omega)
          have hg2 := (hg.setCell (a + t) (.int .i64 y)).setCell (b + t) (.int .i64 x)
          have hat : a + t < N := by omega
          have hbt : b + t < N := by omega
          clear hs hs' hlen h
          go_wp2_with fail
          go_region
          go_wp2_with fail
          refine ⟨⟨t + 1, X1 ++ [x], X2, Y1 ++ [y], Y2, by omega, by go_num, ⟨by rw [HX.out]; simp⟩, ⟨by rw [HY.out]; simp⟩, by simp [l1], by simp [l2], by simpa using hsw.drew, hg2.drew⟩, by simp [intOf]; omega⟩
    · obtain rfl : t = n := by omega
      have hx2 : X2 = [] := by have := HX.out; subst this; simp at hX; exact List.eq_nil_of_length_eq_zero (by omega)
      have hy2 : Y2 = [] := by have := HY.out; subst this; simp at hY; exact List.eq_nil_of_length_eq_zero (by omega)
      subst hx2 hy2
      have hs2 : SegI wr g (A ++ (Y ++ (M ++ (X ++ Z)))) := by
        have e1 := HX.out
        have e2 := HY.out
        rw [List.append_nil] at e1 e2
        rw [e1, e2]; simpa using hs
      clear hs HX HY
      go_wp2_with fail
      exact ⟨rfl, _, results62 _ _, rfl, hs2, hg⟩

theorem results59 (T : Array Value) (w : World) : (results Try.f59 T).run Try.prog w = .ok (.tuple #[]) w := by
  unfold results
  simp [go_sem]
set_option maxRecDepth 100000 in
set_option maxHeartbeats 2000000 in
theorem rotI_any (g c : Nat) (cf : Value) (A X Y Z : List Int) (a m b N : Nat) (ha : A.length = a) (hm : A.length + X.length = m) (hb : A.length + X.length + Y.length = b) (hN : N = A.length + X.length + Y.length + Z.length) (hN2 : N ≤ 4096) (hX : 0 < X.length) (hY : 0 < Y.length) (w : World) (h : SegI w g (A ++ (X ++ (Y ++ Z)))) :
    Calls Try.prog 59 #[.slice (some ⟨g, 0, none⟩) N c, .int .i64 (a : Int), .int .i64 (m : Int), .int .i64 (b : Int), cf] w fun e w' => e = .returned (.tuple #[]) ∧ SegI w' g (A ++ (Y ++ (X ++ Z))) ∧ Gb g w w' := by
  have e1 : (m : Int) - (a : Int) = ((m - a : Nat) : Int) := by omega
  have e2 : (b : Int) - (m : Int) = ((b - m : Nat) : Int) := by omega
  have hma : X.length = m - a := by omega
  have hbm : Y.length = b - m := by omega
  have K1 := Box'.mk hma
  have K2 := Box'.mk hbm
  have K3 : Box' (A.length + 0 + (m - a) = m) := ⟨by omega⟩
  have K4 : Box' (N = m + (b - m) + 0 + Z.length) := ⟨by omega⟩
  have K5 : 1 ≤ m - a := by omega
  have K6 : 1 ≤ b - m := by omega
  have E1 := Box'.mk e1
  have E2 := Box'.mk e2
  have hNm : m ≤ 4096 := by omega
  have hNb : b ≤ 4096 := by omega
  have hma' : a ≤ m := by omega
  have hmb' : m ≤ b := by omega
  clear ha hm hb hN hX hY e1 e2 hma hbm
  go_enter Try.func59, Try.ntmps59
  go_wp2_with fail
  go_loopw [10, 11] (fun u v wr => ∃ (i j : Nat) (P X' Y' S : List Int), u = .int .i64 (i : Int) ∧ v = .int .i64 (j : Int) ∧ X'.length = i ∧ Y'.length = j ∧ 1 ≤ i ∧ 1 ≤ j ∧ Box' (A.length + P.length + i = m) ∧ Box' (N = m + j + S.length + Z.length) ∧ i ≤ m ∧ m + j ≤ 4096 ∧ SegI wr g (A ++ (P ++ (X' ++ (Y' ++ (S ++ Z))))) ∧ Box' (Y ++ X = P ++ (Y' ++ (X' ++ S))) ∧ Gb g w wr) (fun u v _ => (intOf u).toNat + (intOf v).toNat)
  case atStart => exact ⟨m - a, b - m, [], X, Y, [], by rw [E1.out], by rw [E2.out], K1.out, K2.out, K5, K6, ⟨K3.out⟩, ⟨K4.out⟩, by omega, by omega, by simpa using h, ⟨by simp⟩, Gb.refl _ _⟩
  case round =>
    obtain ⟨i, j, P, X', Y', S, rfl, rfl, l1, l2, h1, h2, H3, H4, him, hmj, hs, HB, hg⟩ := hrel
    have h3 := H3.out
    have h4 := H4.out
    clear h
    by_cases hij : i = j
    · subst hij
      have hsw := swapI_any g c cf (A ++ P) X' [] Y' (S ++ Z) i (m - i) m N l1 l2 (by simp; omega) (by simp; omega) (by simp; omega) hN2 wr (by simpa using hs)
      rw [show ((m - i : Nat) : Int) = (m : Int) - (i : Int) by omega] at hsw
      clear hs h3 h4 l1 l2
      go_wp2_with fail
      refine hsw.mono ?_
      rintro e w2 ⟨rfl, s2, g2⟩
      have hs2 : SegI w2 g (A ++ (Y ++ (X ++ Z))) := by
        rw [show A ++ (Y ++ (X ++ Z)) = A ++ ((Y ++ X) ++ Z) by simp, HB.out]; simpa using s2
      have hg2 := hg.trans g2
      clear hsw s2 g2 HB
      go_wp2_with fail
      exact ⟨rfl, _, results59 _ _, rfl, hs2, hg2⟩
    · have i0 : ((i : Int) == (j : Int)) = false := by rw [beq_eq_false_iff_ne]; omega
      by_cases hgt : j < i
      · obtain ⟨X1, X2, e1, e2⟩ : ∃ X1 X2, X' = X1 ++ X2 ∧ X1.length = j := ⟨X'.take j, X'.drop j, (List.take_append_drop _ _).symm, by rw [List.length_take]; omega⟩
        subst e1
        have l3 : X2.length = i - j := by simp at l1; omega
        have L2 := Box'.mk l2
        have hsw := swapI_any g c cf (A ++ P) X1 X2 Y' (S ++ Z) j (m - i) m N e2 l2 (by simp; omega) (by simp; omega) (by simp; omega) hN2 wr (by simpa using hs)
        rw [show ((m - i : Nat) : Int) = (m : Int) - (i : Int) by omega] at hsw
        have i1 : (j : Int) < (i : Int) := by omega
        clear hs h3 h4 l1 l2
        go_wp2_with fail
        refine hsw.mono ?_
        rintro e w2 ⟨rfl, s2, g2⟩
        have hg2 := hg.trans g2
        clear hsw g2
        go_wp2_with fail
        have h3 := H3.out
        have h4 := H4.out
        have l2 := L2.out
        exact ⟨⟨i - j, j, P ++ Y', X2, X1, S, by congr 1; omega, rfl, l3, e2, by omega, by omega, ⟨by simp; omega⟩, ⟨by omega⟩, by omega, by omega, by simpa using s2, ⟨by rw [HB.out]; simp⟩, hg2⟩, by simp [intOf]; omega⟩
      · obtain ⟨Y1, Y2, e1, e2⟩ : ∃ Y1 Y2, Y' = Y1 ++ Y2 ∧ Y1.length = j - i := ⟨Y'.take (j - i), Y'.drop (j - i), (List.take_append_drop _ _).symm, by rw [List.length_take]; omega⟩
        subst e1
        have l3 : Y2.length = i := by simp at l2; omega
        have hsw := swapI_any g c cf (A ++ P) X' Y1 Y2 (S ++ Z) i (m - i) (m + j - i) N l1 l3 (by simp; omega) (by simp; omega) (by simp; omega) hN2 wr (by simpa using hs)
        rw [show ((m - i : Nat) : Int) = (m : Int) - (i : Int) by omega, show ((m + j - i : Nat) : Int) = (m : Int) + (j : Int) - (i : Int) by omega] at hsw
        have i1 : ¬ (j : Int) < (i : Int) := by omega
        have L1 := Box'.mk l1
        clear hs h3 h4 l1 l2
        go_wp2_with fail
        refine hsw.mono ?_
        rintro e w2 ⟨rfl, s2, g2⟩
        have hg2 := hg.trans g2
        clear hsw g2
        go_wp2_with fail
        have h3 := H3.out
        have h4 := H4.out
        have l1 := L1.out
        exact ⟨⟨i, j - i, P, Y2, Y1, X' ++ S, rfl, by congr 1; omega, l3, e2, by omega, by omega, ⟨by omega⟩, ⟨by simp; omega⟩, by omega, by omega, by simpa using s2, ⟨by rw [HB.out]; simp⟩, hg2⟩, by simp [intOf]; omega⟩
end Go.Proofs.Ytcppfoolhkcfaaa
