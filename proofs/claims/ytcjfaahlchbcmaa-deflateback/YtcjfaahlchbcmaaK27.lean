/- Coins in a block of one's own, turned about. -/
import Derived.Test.YtcjfaahlchbcmaaK26
import Derived.Test.YtcjfaahlchbcmaaK05
import Derived.Test.YtcjfaahlchbcmaaK01
import Derived.Test.YtcjfaahlchbcmaaK09
import Derived.Test.YtcjfaahlchbcmaaK06
import Derived.BigRegion
import Derived.Test.YtcjfaahlchbcmaaK13
namespace Go.Proofs.Ytcjfaahlchbcmaa
open Go.RowKit Go.BigFrame
abbrev Cn := Int × Bool
def CellC (W : World) (g u : Nat) (x : Cn) : Prop := W.cell? ⟨g, u * 2, none⟩ = some (.int .i64 x.1) ∧ W.cell? ⟨g, u * 2 + 1, none⟩ = some (.bool x.2)
set_option maxRecDepth 100000 in
theorem CellC.a {W : World} {g u : Nat} {x : Cn} (h : CellC W g u x) : W.cell? ⟨g, u * 2, none⟩ = some (.int .i64 x.1) := h.1
set_option maxRecDepth 100000 in
theorem CellC.b {W : World} {g u : Nat} {x : Cn} (h : CellC W g u x) : W.cell? ⟨g, u * 2 + 1, none⟩ = some (.bool x.2) := h.2
def SegC (w : World) (g : Nat) (l : List Cn) : Prop := ∃ cur, Row w g 129 cur ∧ ∀ k, k < l.length → cur[k * 2]? = some (.int .i64 (l.getD k (0, false)).1) ∧ cur[k * 2 + 1]? = some (.bool (l.getD k (0, false)).2)
set_option maxRecDepth 100000 in
theorem SegC.cell {w : World} {g : Nat} {l : List Cn} (h : SegC w g l) {k : Nat} (hk : k < l.length) : CellC w g k (l.getD k (0, false)) := by
  obtain ⟨cur, h1, h2⟩ := h
  unfold CellC
  rw [h1.cell, h1.cell]; exact h2 k hk
set_option maxRecDepth 100000 in
theorem SegC.frozen {w : World} {g : Nat} {l : List Cn} (h : SegC w g l) (k : Nat) : w.frozen? ⟨g, k * 2, none⟩ = false ∧ w.frozen? ⟨g, k * 2 + 1, none⟩ = false := by
  obtain ⟨cur, h1, h2⟩ := h
  exact ⟨h1.frozen _, h1.frozen _⟩
set_option maxRecDepth 100000 in
theorem SegC.lt {w : World} {g : Nat} {l : List Cn} (h : SegC w g l) : g < w.heap.size := let ⟨_, h1, _⟩ := h; h1.lt
set_option maxRecDepth 100000 in
theorem SegC.set {w : World} {g : Nat} {l : List Cn} (h : SegC w g l) (k : Nat) (x : Cn) (hk : k < l.length) : SegC ((w.setCell ⟨g, k * 2, none⟩ (.int .i64 x.1)).setCell ⟨g, k * 2 + 1, none⟩ (.bool x.2)) g (l.set k x) := by
  obtain ⟨cur, h1, h2⟩ := h
  refine ⟨_, (h1.setCell (k * 2) _).setCell (k * 2 + 1) _, fun j hj => ?_⟩
  rw [List.length_set] at hj
  have hs0 : k * 2 < cur.size := (Array.getElem?_eq_some_iff.1 (h2 k hk).1).1
  have hs1 : k * 2 + 1 < cur.size := (Array.getElem?_eq_some_iff.1 (h2 k hk).2).1
  rw [Array.getElem?_setIfInBounds, Array.getElem?_setIfInBounds, Array.getElem?_setIfInBounds, Array.getElem?_setIfInBounds]
  simp only [Array.size_setIfInBounds]
  by_cases e : k = j
  · subst e
    rw [if_neg (by omega), if_pos rfl, if_pos hs0, if_pos rfl, if_pos hs1]
    simp [hk]
  · rw [if_neg (by omega), if_neg (by omega), if_neg (by omega), if_neg (by omega)]
    have := h2 j hj
    simpa [e] using this
set_option maxRecDepth 100000 in
theorem SegC.same {w w' : World} {g : Nat} {l : List Cn} (h : SegC w g l) (e : w'.heap[g]? = w.heap[g]?) : SegC w' g l := by
  obtain ⟨cur, h1, h2⟩ := h
  exact ⟨cur, by unfold Row; rw [e]; exact h1, h2⟩
set_option maxRecDepth 100000 in
theorem SegC.below {w w' : World} {g : Nat} {l : List Cn} (h : SegC w g l) (hb : Below w.heap.size w w') : SegC w' g l := h.same (hb.block g h.lt)
set_option maxRecDepth 100000 in
theorem SegC.drew {w : World} {g : Nat} {l : List Cn} (h : SegC w g l) : SegC w.drew g l := h
set_option maxRecDepth 100000 in
theorem SegC.drewN {w : World} {g : Nat} {l : List Cn} (h : SegC w g l) (n : Nat) : SegC (w.drewN n) g l := h
set_option maxRecDepth 100000 in
theorem SegC.swap {w : World} {g : Nat} {A M Z : List Cn} {x y : Cn} (h : SegC w g (A ++ x :: (M ++ y :: Z))) (i j : Nat) (hi : i = A.length) (hj : j = A.length + 1 + M.length) :
    SegC ((((w.setCell ⟨g, i * 2, none⟩ (.int .i64 y.1)).setCell ⟨g, i * 2 + 1, none⟩ (.bool y.2)).setCell ⟨g, j * 2, none⟩ (.int .i64 x.1)).setCell ⟨g, j * 2 + 1, none⟩ (.bool x.2)) g (A ++ y :: (M ++ x :: Z)) := by
  subst hi hj
  have h1 := h.set A.length y (by simp)
  rw [set_mid] at h1
  have h2 := h1.set (A.length + 1 + M.length) x (by simp; omega)
  have e : (A ++ y :: (M ++ y :: Z)) = (A ++ y :: M) ++ y :: Z := by simp
  have e2 : (A ++ y :: (M ++ y :: Z)).set (A.length + 1 + M.length) x = A ++ y :: (M ++ x :: Z) := by
    rw [e, show A.length + 1 + M.length = (A ++ y :: M).length by simp; omega, set_mid]; simp
  rw [e2] at h2
  exact h2
set_option maxRecDepth 100000 in
theorem SegC.swap' {w : World} {g : Nat} {A M Z : List Cn} {x y : Cn} (h : SegC w g (A ++ x :: (M ++ y :: Z))) (i j : Nat) (hi : i = A.length) (hj : j = A.length + 1 + M.length) :
    SegC ((((w.setCell ⟨g, j * 2, none⟩ (.int .i64 x.1)).setCell ⟨g, j * 2 + 1, none⟩ (.bool x.2)).setCell ⟨g, i * 2, none⟩ (.int .i64 y.1)).setCell ⟨g, i * 2 + 1, none⟩ (.bool y.2)) g (A ++ y :: (M ++ x :: Z)) := by
  subst hi hj
  have e : (A ++ x :: (M ++ y :: Z)) = (A ++ x :: M) ++ y :: Z := by simp
  have h1 := h.set (A.length + 1 + M.length) x (by simp; omega)
  have e2 : (A ++ x :: (M ++ y :: Z)).set (A.length + 1 + M.length) x = A ++ x :: (M ++ x :: Z) := by
    rw [e, show A.length + 1 + M.length = (A ++ x :: M).length by simp; omega, set_mid]; simp
  rw [e2] at h1
  have h2 := h1.set A.length y (by simp)
  rw [set_mid] at h2
  exact h2
set_option maxRecDepth 100000 in
theorem Gb.setC {g : Nat} {w w' : World} (h : Gb g w w') (k : Nat) (x : Cn) : Gb g w ((w'.setCell ⟨g, k * 2, none⟩ (.int .i64 x.1)).setCell ⟨g, k * 2 + 1, none⟩ (.bool x.2)) := (h.setCell _ _).setCell _ _
set_option maxRecDepth 100000 in
theorem cmpC_any (x y : Cn) (W : World) : Calls Try.prog 86 #[.agg #[.int .i64 x.1, .bool x.2], .agg #[.int .i64 y.1, .bool y.2]] W fun e w' => e = .returned (.int .i64 (sg x.1 y.1)) ∧ Below W.heap.size W w' := offered1_any x.1 y.1 x.2 y.2 W
def kC (x : Cn) : Int := x.1
set_option maxRecDepth 100000 in
theorem results97 (T : Array Value) (w : World) : (results Try.f97 T).run Try.prog w = .ok (.tuple #[]) w := by
  unfold results
  simp [go_sem]
set_option maxRecDepth 100000 in
set_option maxHeartbeats 2000000 in
theorem swapC_any (g c : Nat) (cf : Value) (A X M Y Z : List Cn) (n a b N : Nat) (hX : X.length = n) (hY : Y.length = n) (ha : A.length = a) (hb : A.length + n + M.length = b) (hN : N = A.length + n + M.length + n + Z.length) (hN2 : N ≤ 4096) (w : World) (h : SegC w g (A ++ (X ++ (M ++ (Y ++ Z))))) :
    Calls Try.prog 97 #[.slice (some ⟨g, 0, none⟩) N c, .int .i64 (a : Int), .int .i64 (b : Int), .int .i64 (n : Int), cf] w fun e w' => e = .returned (.tuple #[]) ∧ SegC w' g (A ++ (Y ++ (M ++ (X ++ Z)))) ∧ Gb g w w' := by
  go_enter Try.func97, Try.ntmps97
  go_wp2_with fail
  go_loopw [10] (fun i wr => ∃ (t : Nat) (X1 X2 Y1 Y2 : List Cn), t ≤ n ∧ i = .int .i64 (t : Int) ∧ Box' (X = X1 ++ X2) ∧ Box' (Y = Y1 ++ Y2) ∧ X1.length = t ∧ Y1.length = t ∧ SegC wr g (A ++ (Y1 ++ (X2 ++ (M ++ (X1 ++ (Y2 ++ Z)))))) ∧ Gb g w wr) (fun i _ => n - (intOf i).toNat)
  case atStart => exact ⟨0, [], X, [], Y, by omega, rfl, ⟨rfl⟩, ⟨rfl⟩, rfl, rfl, by simpa using h, Gb.refl _ _⟩
  case round =>
    obtain ⟨t, X1, X2, Y1, Y2, ht, rfl, HX, HY, l1, l2, hs, hg⟩ := hrel
    by_cases hlt : t < n
    · cases X2 with
      | nil => have := HX.out; subst this; simp at hX; omega
      | cons x X2 =>
        cases Y2 with
        | nil => have := HY.out; subst this; simp at hY; omega
        | cons y Y2 =>
          have hx2 : X2.length = n - t - 1 := by have := HX.out; subst this; simp at hX; omega
          have hs' : SegC wr g ((A ++ Y1) ++ x :: ((X2 ++ (M ++ X1)) ++ y :: (Y2 ++ Z))) := by simpa using hs
          have hy2 : Y2.length = n - t - 1 := by have := HY.out; subst this; simp at hY; omega
          have hlen : ((A ++ Y1) ++ x :: ((X2 ++ (M ++ X1)) ++ y :: (Y2 ++ Z))).length = N := by simp; omega
          have c0 := hs'.cell (k := a + t) (by rw [hlen]; omega)
          have c1 := hs'.cell (k := b + t) (by rw [hlen]; omega)
          rw [show a + t = (A ++ Y1).length by simp; omega, get_mid] at c0
          rw [show (A ++ Y1) ++ x :: ((X2 ++ (M ++ X1)) ++ y :: (Y2 ++ Z)) = ((A ++ Y1) ++ x :: (X2 ++ (M ++ X1))) ++ y :: (Y2 ++ Z) by simp, show b + t = ((A ++ Y1) ++ x :: (X2 ++ (M ++ X1))).length by simp; omega, get_mid] at c1
          rw [show (A ++ Y1).length = a + t by simp; omega] at c0
          rw [show ((A ++ Y1) ++ x :: (X2 ++ (M ++ X1))).length = b + t by simp; omega] at c1
          have f0 := hs'.frozen (a + t)
          have f1 := hs'.frozen (b + t)
          obtain ⟨c0, c0b⟩ := c0
          obtain ⟨c1, c1b⟩ := c1
          obtain ⟨f0, f0b⟩ := f0
          obtain ⟨f1, f1b⟩ := f1
          have hsw := hs'.swap (a + t) (b + t) (by simp; omega) (by simp; omega)
          have hg2 := (hg.setC (a + t) y).setC (b + t) x
          have hat : a + t < N := by omega
          have hbt : b + t < N := by omega
          clear hs hs' hlen h
          go_wp2_with fail
          go_region
          go_wp2_with fail
          refine ⟨⟨t + 1, X1 ++ [x], X2, Y1 ++ [y], Y2, by omega, by go_num, ⟨by rw [HX.out]; simp⟩, ⟨by rw [HY.out]; simp⟩, by simp [l1], by simp [l2], by simpa using hsw.drew, hg2.drew⟩, by simp [intOf]; omega⟩
    · obtain rfl : t = n := by omega
      have hx2 : X2 = [] := by have := HX.out; subst this; simp at hX; exact List.eq_nil_of_length_eq_zero (by omega)
      have hy2 : Y2 = [] := by have := HY.out; subst this; simp at hY; exact List.eq_nil_of_length_eq_zero (by omega)
      subst hx2 hy2
      have hs2 : SegC wr g (A ++ (Y ++ (M ++ (X ++ Z)))) := by
        have e1 := HX.out
        have e2 := HY.out
        rw [List.append_nil] at e1 e2
        rw [e1, e2]; simpa using hs
      clear hs HX HY
      go_wp2_with fail
      exact ⟨rfl, _, results97 _ _, rfl, hs2, hg⟩
set_option maxRecDepth 100000 in
theorem results96 (T : Array Value) (w : World) : (results Try.f96 T).run Try.prog w = .ok (.tuple #[]) w := by
  unfold results
  simp [go_sem]
set_option maxRecDepth 100000 in
set_option maxHeartbeats 2000000 in
theorem rotC_any (g c : Nat) (cf : Value) (A X Y Z : List Cn) (a m b N : Nat) (ha : A.length = a) (hm : A.length + X.length = m) (hb : A.length + X.length + Y.length = b) (hN : N = A.length + X.length + Y.length + Z.length) (hN2 : N ≤ 4096) (hX : 0 < X.length) (hY : 0 < Y.length) (w : World) (h : SegC w g (A ++ (X ++ (Y ++ Z)))) :
    Calls Try.prog 96 #[.slice (some ⟨g, 0, none⟩) N c, .int .i64 (a : Int), .int .i64 (m : Int), .int .i64 (b : Int), cf] w fun e w' => e = .returned (.tuple #[]) ∧ SegC w' g (A ++ (Y ++ (X ++ Z))) ∧ Gb g w w' := by
  have e1 : (m : Int) - (a : Int) = ((m - a : Nat) : Int) := by omega
  have e2 : (b : Int) - (m : Int) = ((b - m : Nat) : Int) := by omega
  have hma : X.length = m - a := by omega
  have hbm : Y.length = b - m := by omega
  have K1 := Box'.mk hma
  have K2 := Box'.mk hbm
  have K3 : Box' (A.length + 0 + (m - a) = m) := ⟨by omega⟩
  have K4 : Box' (N = m + (b - m) + 0 + Z.length) := ⟨by omega⟩
  have K5 : 1 ≤ m - a := by omega
  have K6 : 1 ≤ b - m := by omega
  have E1 := Box'.mk e1
  have E2 := Box'.mk e2
  have hNm : m ≤ 4096 := by omega
  have hNb : b ≤ 4096 := by omega
  have hma' : a ≤ m := by omega
  have hmb' : m ≤ b := by omega
  clear ha hm hb hN hX hY e1 e2 hma hbm
  go_enter Try.func96, Try.ntmps96
  go_wp2_with fail
  go_loopw [10, 11] (fun u v wr => ∃ (i j : Nat) (P X' Y' S : List Cn), u = .int .i64 (i : Int) ∧ v = .int .i64 (j : Int) ∧ X'.length = i ∧ Y'.length = j ∧ 1 ≤ i ∧ 1 ≤ j ∧ Box' (A.length + P.length + i = m) ∧ Box' (N = m + j + S.length + Z.length) ∧ i ≤ m ∧ m + j ≤ 4096 ∧ SegC wr g (A ++ (P ++ (X' ++ (Y' ++ (S ++ Z))))) ∧ Box' (Y ++ X = P ++ (Y' ++ (X' ++ S))) ∧ Gb g w wr) (fun u v _ => (intOf u).toNat + (intOf v).toNat)
  case atStart => exact ⟨m - a, b - m, [], X, Y, [], by rw [E1.out], by rw [E2.out], K1.out, K2.out, K5, K6, ⟨K3.out⟩, ⟨K4.out⟩, by omega, by omega, by simpa using h, ⟨by simp⟩, Gb.refl _ _⟩
  case round =>
    obtain ⟨i, j, P, X', Y', S, rfl, rfl, l1, l2, h1, h2, H3, H4, him, hmj, hs, HB, hg⟩ := hrel
    have h3 := H3.out
    have h4 := H4.out
    clear h
    by_cases hij : i = j
    · subst hij
      have hsw := swapC_any g c cf (A ++ P) X' [] Y' (S ++ Z) i (m - i) m N l1 l2 (by simp; omega) (by simp; omega) (by simp; omega) hN2 wr (by simpa using hs)
      rw [show ((m - i : Nat) : Int) = (m : Int) - (i : Int) by omega] at hsw
      clear hs h3 h4 l1 l2
      go_wp2_with fail
      refine hsw.mono ?_
      rintro e w2 ⟨rfl, s2, g2⟩
      have hs2 : SegC w2 g (A ++ (Y ++ (X ++ Z))) := by
        rw [show A ++ (Y ++ (X ++ Z)) = A ++ ((Y ++ X) ++ Z) by simp, HB.out]; simpa using s2
      have hg2 := hg.trans g2
      clear hsw s2 g2 HB
      go_wp2_with fail
      exact ⟨rfl, _, results96 _ _, rfl, hs2, hg2⟩
    · have i0 : ((i : Int) == (j : Int)) = false := by rw [beq_eq_false_iff_ne]; omega
      by_cases hgt : j < i
      · obtain ⟨X1, X2, e1, e2⟩ : ∃ X1 X2, X' = X1 ++ X2 ∧ X1.length = j := ⟨X'.take j, X'.drop j, (List.take_append_drop _ _).symm, by rw [List.length_take]; omega⟩
        subst e1
        have l3 : X2.length = i - j := by simp at l1; omega
        have L2 := Box'.mk l2
        have hsw := swapC_any g c cf (A ++ P) X1 X2 Y' (S ++ Z) j (m - i) m N e2 l2 (by simp; omega) (by simp; omega) (by simp; omega) hN2 wr (by simpa using hs)
        rw [show ((m - i : Nat) : Int) = (m : Int) - (i : Int) by omega] at hsw
        have i1 : (j : Int) < (i : Int) := by omega
        clear hs h3 h4 l1 l2
        go_wp2_with fail
        refine hsw.mono ?_
        rintro e w2 ⟨rfl, s2, g2⟩
        have hg2 := hg.trans g2
        clear hsw g2
        go_wp2_with fail
        have h3 := H3.out
        have h4 := H4.out
        have l2 := L2.out
        exact ⟨⟨i - j, j, P ++ Y', X2, X1, S, by congr 1; omega, rfl, l3, e2, by omega, by omega, ⟨by simp; omega⟩, ⟨by omega⟩, by omega, by omega, by simpa using s2, ⟨by rw [HB.out]; simp⟩, hg2⟩, by simp [intOf]; omega⟩
      · obtain ⟨Y1, Y2, e1, e2⟩ : ∃ Y1 Y2, Y' = Y1 ++ Y2 ∧ Y1.length = j - i := ⟨Y'.take (j - i), Y'.drop (j - i), (List.take_append_drop _ _).symm, by rw [List.length_take]; omega⟩
        subst e1
        have l3 : Y2.length = i := by simp at l2; omega
        have hsw := swapC_any g c cf (A ++ P) X' Y1 Y2 (S ++ Z) i (m - i) (m + j - i) N l1 l3 (by simp; omega) (by simp; omega) (by simp; omega) hN2 wr (by simpa using hs)
        rw [show ((m - i : Nat) : Int) = (m : Int) - (i : Int) by omega, show ((m + j - i : Nat) : Int) = (m : Int) + (j : Int) - (i : Int) by omega] at hsw
        have i1 : ¬ (j : Int) < (i : Int) := by omega
        have L1 := Box'.mk l1
        clear hs h3 h4 l1 l2
        go_wp2_with fail
        refine hsw.mono ?_
        rintro e w2 ⟨rfl, s2, g2⟩
        have hg2 := hg.trans g2
        clear hsw g2
        go_wp2_with fail
        have h3 := H3.out
        have h4 := H4.out
        have l1 := L1.out
        exact ⟨⟨i, j - i, P, Y2, Y1, X' ++ S, rfl, by congr 1; omega, l3, e2, by omega, by omega, ⟨by omega⟩, ⟨by simp; omega⟩, by omega, by omega, by simpa using s2, ⟨by rw [HB.out]; simp⟩, hg2⟩, by simp [intOf]; omega⟩
open Go.RowKit
section
variable {P : Program} {Q : Exit → Act → World → Prop}
theorem setAll_size (l : List Oper) (k : Nat) (f : Nat → Value) (t : Array Value) : (setAll l k f t).size = t.size := by
  induction l generalizing k t with
  | nil => rfl
  | cons o r ih =>
    simp only [setAll]
    rw [ih]
    split <;> simp
theorem setAll_get (l : List Oper) (k : Nat) (f : Nat → Value) (t : Array Value) (i : Nat) (o : Oper) (d : Nat) (ho : l[i]? = some o) (hd : o.dst = some d)
    (hn : ∀ j o', l[j]? = some o' → o'.dst = some d → j = i) (hs : d < t.size) : (setAll l k f t)[d]? = some (f (k + i)) := by
  have h := setAll_upd l k f t i (f (k + i)) o d ho hd hn
  have hf : upd f (k + i) (f (k + i)) = f := by
    funext j
    unfold upd
    split
    · rename_i e; rw [e]
    · rfl
  rw [hf] at h
  rw [← h, Array.getElem?_setIfInBounds_self_of_lt (by rw [setAll_size]; exact hs)]
theorem wpOp_want {ops : Array Oper} {i : Nat} {o : Oper} {K : Act → World → Prop} {a : Act} {w : World} (ho : ops[i]? = some o) (hg : Region.wanted o (yielded ops a.tmps) = true) (h : o.wp P a w K Q) : wpOp P ops Q i K a w := by
  unfold wpOp
  rw [ho]
  simp only [hg, if_true]
  exact .inl h
def growgB (l : List Oper) (n sz : Nat) : Bool :=
  (List.range n).all (fun i => ((l[i]?).map fun o => (match o.guard with
    | none => true
    | some (j, _) => behind o j && decide (j < n) && ((l[j]?).map fun p => match p.dst with | some d => decide (d < sz) | none => false).getD false) && (o.dst.isNone || (List.range n).all fun j => decide (j = i) || ((l[j]?).map fun p => p.dst != o.dst).getD true)).getD false)
  && (List.range l.length).all (fun i => ((l[i]?).map fun o => o.after.toList.all fun e => !Region.binds .any e || decide (e.on < i)).getD true)
  && (List.range l.length).all (fun i => decide (i < n) || (List.range i).all fun j => anc l l.length i j)
  && decide (n ≤ l.length)
theorem wp_region_growg {id : Nat} {t : Array Value} {df : List Deferred} {w : World} {l : List Oper} (n : Nat) (hm : P.follows .mixedOrders = true) (sz : Nat) (hts : t.size = sz) (hB : growgB l n sz = true)
    (G : World → World → Prop) (C : World → Prop) (V : Nat → World → Value → Prop) (hgv : ∀ (i : Nat) (o : Oper) (j : Nat) (b : Bool), (l.take n)[i]? = some o → o.guard = some (j, b) → ∀ w v, C w → V j w v → v = .bool b) (hC : ∀ w w', G w w' → C w → C w') (hV : ∀ k v w w', C w → G w w' → V k w v → V k w' v) (h0 : C w.drew)
    (hops : Grows P Q G C V (l.take n) t df (l.take n) 0)
    (hend : ∀ f w', C w' → (∀ k, k < n → V k w' (f k)) → wpList P l.toArray Q (l.drop n) ⟨setAll (l.take n) 0 f t, df⟩ w') :
    (Code.region id l.toArray true).wp P Q ⟨t, df⟩ w := by
  simp only [growgB, Bool.and_eq_true, List.all_eq_true, List.mem_range, decide_eq_true_eq] at hB
  obtain ⟨⟨⟨hB1, hB2⟩, hB3⟩, hn⟩ := hB
  have hget : ∀ i o, i < n → l[i]? = some o → (l.take n)[i]? = some o := fun i o hi ho => by rw [List.getElem?_take, if_pos hi]; exact ho
  have hone : ∀ i o d, i < n → l[i]? = some o → o.dst = some d → ∀ j o', (l.take n)[j]? = some o' → o'.dst = some d → j = i := by
    intro i o d hi ho hd j o' hj hd'
    have hjn : j < n := by
      rcases Nat.lt_or_ge j n with h | h
      · exact h
      · rw [List.getElem?_take, if_neg (by omega)] at hj; cases hj
    rw [List.getElem?_take, if_pos hjn] at hj
    have := hB1 i hi
    rw [ho] at this
    simp only [Option.map_some, Option.getD_some, Bool.and_eq_true, List.all_eq_true, List.mem_range, Bool.or_eq_true, decide_eq_true_eq, hd, Option.isNone_some, Bool.false_eq_true, false_or] at this
    rcases this.2 j hjn with h | h
    · exact h
    · rw [hj] at h
      simp [hd'] at h
  have hdepAll : ∀ (L : Array Bool) i o, closedB l L → n ≤ i → l[i]? = some o → (∀ e ∈ o.after, Region.binds .any e = true → L.getD e.on false = true) → ∀ k, k < i → L.getD k false = true := by
    intro L i o hc hi ho hdep k hk
    have hil : i < l.length := (List.getElem?_eq_some_iff.1 ho).1
    have := hB3 i hil
    simp only [Bool.or_eq_true, decide_eq_true_eq, List.all_eq_true, List.mem_range] at this
    rcases this with h | h
    · omega
    · exact anc_done l L hc _ i k o ho hdep (h k hk)
  have hwpo : ∀ i o K a w, l[i]? = some o → wpList P l.toArray Q (o :: l.drop (i + 1)) a w → (∀ a w, wpList P l.toArray Q (l.drop (i + 1)) a w → K a w) → wpOp P l.toArray Q i K a w := by
    intro i o K a w ho h hK
    refine wpOp_mono hK ?_
    unfold wpOp
    have ho' : l.toArray[i]? = some o := by simpa using ho
    rw [ho']
    exact h
  have hdrop : ∀ i o, l[i]? = some o → l.drop i = o :: l.drop (i + 1) := fun i o ho => by
    obtain ⟨h1, h2⟩ := List.getElem?_eq_some_iff.1 ho
    rw [List.drop_eq_getElem_cons h1, h2]
  refine wp_region_inv hm (fun L a w => L.size = l.length ∧ closedB l L ∧
    (((∀ k, n ≤ k → ¬ L.getD k false = true) ∧ ∃ f, a = ⟨setAll (l.take n) 0 f t, df⟩ ∧ C w ∧ ∀ k, k < n → L.getD k false = true → V k w (f k))
    ∨ (∃ j, n ≤ j ∧ j ≤ l.length ∧ (∀ k, k < j → L.getD k false = true) ∧ (∀ k, j ≤ k → ¬ L.getD k false = true) ∧ wpList P l.toArray Q (l.drop j) a w))) ?_ ?_ ?_
  · have hn0 : ∀ k, ¬ ((Array.replicate l.toArray.size false).getD k false = true) := by
      intro k h
      rw [Array.getD_eq_getD_getElem?, Array.getElem?_replicate] at h
      split at h <;> simp at h
    refine ⟨by simp, fun i o _ h => absurd h (hn0 i), .inl ⟨fun k _ => hn0 k, fun k => t.getD (((l[k]?).bind (·.dst)).getD 0) undef, ?_, h0, fun k _ h => absurd h (hn0 k)⟩⟩
    rw [setAll_init]
    intro i o d ho hd
    have ho2 : l[i]? = some o := by
      rw [List.getElem?_take] at ho
      split at ho
      · exact ho
      · cases ho
    simp only [Nat.zero_add, ho2, Option.bind_some, hd, Option.getD_some]
  · rintro L a w i o ⟨hsz, hcl, hI⟩ hL ho hdep
    have ho' : l[i]? = some o := by simpa using ho
    have hil : i < l.length := (List.getElem?_eq_some_iff.1 ho').1
    have hnd := getD_not hL
    have hS : (L.setIfInBounds i true).size = l.length := by simpa using hsz
    have hdone : (L.setIfInBounds i true).getD i false = true := by
      rw [Array.getD_eq_getD_getElem?, Array.getElem?_setIfInBounds]
      simp [hsz, hil]
    have hcl' : closedB l (L.setIfInBounds i true) := by
      intro k o' ho2 hk e he hb
      rcases getD_set L i k hk with rfl | h'
      · rw [ho'] at ho2; cases ho2
        exact getD_keep L _ _ (hdep e he hb)
      · exact getD_keep L _ _ (hcl k o' ho2 h' e he hb)
    rcases hI with ⟨ht, f, rfl, hCw, hf⟩ | ⟨j, hj1, hj2, hj3, hj4, hw⟩
    · by_cases hi : i < n
      · have hgd := hB1 i hi
        rw [ho'] at hgd
        simp only [Option.map_some, Option.getD_some, Bool.and_eq_true] at hgd
        have hg : Region.wanted o (yielded l.toArray (setAll (l.take n) 0 f t)) = true := by
          unfold Region.wanted
          cases hgo : o.guard with
          | none => rfl
          | some jb =>
            obtain ⟨j, b⟩ := jb
            have hgg := hgd.1
            rw [hgo] at hgg
            simp only [Bool.and_eq_true, decide_eq_true_eq] at hgg
            obtain ⟨⟨hbh, hjn⟩, hds⟩ := hgg
            cases hj : l[j]? with
            | none => rw [hj] at hds; simp at hds
            | some p =>
              rw [hj] at hds
              simp only [Option.map_some, Option.getD_some] at hds
              cases hpd : p.dst with
              | none => rw [hpd] at hds; simp at hds
              | some d =>
                rw [hpd] at hds
                simp only [decide_eq_true_eq] at hds
                have hdn : L.getD j false = true := by
                  unfold behind at hbh
                  rw [List.any_eq_true] at hbh
                  obtain ⟨e, he', hh⟩ := hbh
                  have he := Array.mem_toList_iff.1 he'
                  simp only [Bool.and_eq_true, beq_iff_eq] at hh
                  have := hdep e he hh.2
                  rw [hh.1] at this; exact this
                have hv := hgv i o j b (hget i o hi ho') hgo w (f j) hCw (hf j hjn hdn)
                have hsl := setAll_get (l.take n) 0 f t j p d (hget j p hjn hj) hpd (hone j p d hjn hj hpd) (by rw [hts]; exact hds)
                rw [Nat.zero_add] at hsl
                have hy : yielded l.toArray (setAll (l.take n) 0 f t) j = some b := by
                  unfold yielded
                  have : l.toArray[j]? = some p := by simpa using hj
                  rw [this]
                  simp only [Option.bind_some, hpd, hsl, hv]
                show (yielded l.toArray (setAll (l.take n) 0 f t) j == some b) = true
                rw [hy]
                simp
        refine wpOp_want ho hg (Grows.at hops i o (hget i o hi ho') f w hCw (fun k hk => ?_) _ (fun v w' hv hb => ?_))
        · unfold behind at hk
          rw [List.any_eq_true] at hk
          obtain ⟨e, he', hh⟩ := hk
          have he := Array.mem_toList_iff.1 he'
          simp only [Bool.and_eq_true, beq_iff_eq] at hh
          have h1 := hdep e he hh.2
          have h2 := hB2 i hil
          rw [ho'] at h2
          simp only [Option.map_some, Option.getD_some, List.all_eq_true, Bool.or_eq_true, Bool.not_eq_true', decide_eq_true_eq] at h2
          have h3 := (h2 e (Array.mem_toList_iff.2 he)).resolve_left (by rw [hh.2]; simp)
          rw [hh.1] at h1 h3
          exact hf k (by omega) h1
        · refine ⟨hS, hcl', .inl ⟨fun k hk h => ?_, upd f i v, ?_, hC _ _ hb hCw, fun k hk h => ?_⟩⟩
          · rcases getD_set L i k h with rfl | h'
            · omega
            · exact ht k hk h'
          · cases hd : o.dst with
            | some d =>
              have := setAll_upd (l.take n) 0 f t i v o d (hget i o hi ho') hd (hone i o d hi ho' hd)
              rw [Nat.zero_add] at this
              simp only [Act.put, this]
            | none =>
              have := setAll_none (l.take n) 0 f t i v o (hget i o hi ho') hd
              rw [Nat.zero_add] at this
              simp only [Act.put, this]
          · by_cases hki : k = i
            · subst hki
              rw [Nat.zero_add] at hv
              simpa [upd] using hv
            · have := hf k hk ((getD_set L i k h).resolve_left hki)
              simp only [upd, if_neg hki]
              exact hV k _ _ _ hCw hb this
      · have hall := hdepAll L i o hcl (by omega) ho' hdep
        have hin : i = n := by
          rcases Nat.lt_or_ge n i with h | h
          · exact absurd (hall n h) (ht n (Nat.le_refl _))
          · omega
        subst hin
        have hw := hend f w hCw fun k hk => hf k hk (hall k hk)
        rw [hdrop i o ho'] at hw
        refine hwpo i o _ _ _ ho' hw fun a w h => ⟨hS, hcl', .inr ⟨i + 1, by omega, by omega, fun k hk => ?_, fun k hk h => ?_, h⟩⟩
        · by_cases e : k = i
          · subst e; exact hdone
          · exact getD_keep L i k (hall k (by omega))
        · rcases getD_set L i k h with h' | h'
          · omega
          · exact ht k (by omega) h'
    · have hij : j ≤ i := by
        rcases Nat.lt_or_ge i j with h | h
        · exact absurd (hj3 i h) hnd
        · exact h
      have hall := hdepAll L i o hcl (by omega) ho' hdep
      have hin : i = j := by
        rcases Nat.lt_or_ge j i with h | h
        · exact absurd (hall j h) (hj4 j (Nat.le_refl _))
        · omega
      subst hin
      rw [hdrop i o ho'] at hw
      refine hwpo i o _ _ _ ho' hw fun a w h => ⟨hS, hcl', .inr ⟨i + 1, by omega, by omega, fun k hk => ?_, fun k hk h => ?_, h⟩⟩
      · by_cases e : k = i
        · subst e; exact hdone
        · exact getD_keep L i k (hall k (by omega))
      · rcases getD_set L i k h with h' | h'
        · omega
        · exact hj4 k (by omega) h'
  · rintro L a w ⟨hsz, _, hI⟩ hr
    have hall := all_done' hB2 L hsz hr
    rcases hI with ⟨ht, f, rfl, hCw, hf⟩ | ⟨j, hj1, hj2, hj3, hj4, hw⟩
    · have hnl : n = l.length := by
        rcases Nat.lt_or_ge n l.length with h | h
        · exact absurd (hall n h) (ht n (Nat.le_refl _))
        · omega
      have hw := hend f w hCw fun k hk => hf k hk (hall k (by omega))
      rw [List.drop_eq_nil_of_le (by omega)] at hw
      exact hw
    · have hjl : j = l.length := by
        rcases Nat.lt_or_ge j l.length with h | h
        · exact absurd (hall j h) (hj4 j (Nat.le_refl _))
        · omega
      rw [List.drop_eq_nil_of_le (by omega)] at hw
      exact hw
theorem wp_region_growt {id : Nat} {t : Array Value} {df : List Deferred} {w : World} {l : List Oper} (n sz : Nat) (gs : List Nat) (hts : t.size = sz) (hm : P.follows .mixedOrders = true) (hB : growgB l n sz = true)
    (hgs : ((l.take n).all fun o => match o.guard with | none => true | some (j, b) => b && gs.contains j) = true)
    (G : World → World → Prop) (C : World → Prop) (V : Nat → World → Value → Prop) (hgv : ∀ j, j ∈ gs → ∀ w v, C w → V j w v → v = .bool true) (hC : ∀ w w', G w w' → C w → C w') (hV : ∀ k v w w', C w → G w w' → V k w v → V k w' v) (h0 : C w.drew)
    (hops : Grows P Q G C V (l.take n) t df (l.take n) 0)
    (hend : ∀ f w', C w' → (∀ k, k < n → V k w' (f k)) → wpList P l.toArray Q (l.drop n) ⟨setAll (l.take n) 0 f t, df⟩ w') :
    (Code.region id l.toArray true).wp P Q ⟨t, df⟩ w := by
  refine wp_region_growg n hm sz hts hB G C V (fun i o j b hi hg w v hc hv => ?_) hC hV h0 hops hend
  have h1 := List.all_eq_true.1 hgs o (List.mem_of_getElem? hi)
  rw [hg] at h1
  simp only [Bool.and_eq_true, List.contains_iff_mem] at h1
  rw [h1.1]
  exact hgv j h1.2 w v hc hv
theorem wp_unguard {op : Oper} {a : Act} {w : World} {K : Act → World → Prop} (h : Oper.wp P { op with guard := none } a w K Q) : op.wp P a w K Q := h
end
end Go.Proofs.Ytcjfaahlchbcmaa
