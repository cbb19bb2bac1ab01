/- Rows moved, as lists. -/
import Derived.Test.YtejnlogoidkloaaNk
namespace Go.Proofs.Ytejnlogoidkloaa
set_option linter.unusedVariables false
set_option linter.unusedSimpArgs false

theorem mayG_dest {co ro : Int} {c : List Cl} (h : mayG co ro c = true) : ∃ cols rows : Nat, co = (cols : Int) ∧ ro = (rows : Int) ∧ 1 ≤ cols ∧ cols ≤ 512 ∧ 1 ≤ rows ∧ rows ≤ 512 ∧ c.length = cols * rows := by
  have h' := h
  unfold mayG at h'
  simp only [Bool.and_eq_true] at h'
  obtain ⟨⟨⟨a1, a2⟩, a3⟩, _⟩ := h'
  obtain ⟨cols, rfl, h1, h2⟩ := side_nat a1
  obtain ⟨rows, rfl, h3, h4⟩ := side_nat a2
  refine ⟨cols, rows, rfl, rfl, h1, h2, h3, h4, ?_⟩
  have := of_decide_eq_true a3
  rw [← Int.natCast_mul] at this
  omega
theorem cat_app (a b : List Cl) (i : Nat) : cat (a ++ b) i = if i < a.length then cat a i else cat b (i - a.length) := by
  split
  · exact gd_app _ _ _ _ (by assumption)
  · exact gd_appr _ _ _ _ (by omega)
theorem cat_take (a : List Cl) (n i : Nat) (h : i < n) : cat (a.take n) i = cat a i := by
  unfold cat; simp [List.getElem?_take_of_lt h]
theorem cat_drop (a : List Cl) (n i : Nat) : cat (a.drop n) i = cat a (n + i) := by
  unfold cat; simp
theorem cat_rep (n i : Nat) (x : Cl) (h : i < n) : cat (List.replicate n x) i = x := rep_get n i h x _
theorem cat_ext (a b : List Cl) (h : a.length = b.length) (h2 : ∀ i, i < a.length → cat a i = cat b i) : a = b := by
  apply List.ext_getElem h
  intro i h3 h4
  have := h2 i h3
  unfold cat at this
  rwa [List.getD_eq_getElem?_getD, List.getD_eq_getElem?_getD, List.getElem?_eq_getElem h3, List.getElem?_eq_getElem h4] at this
theorem cat_lay (l : List Cl) (o : Nat) (m : List Cl) (h : o + m.length ≤ l.length) (i : Nat) : cat (lay l o m) i = if i < o then cat l i else if i < o + m.length then cat m (i - o) else cat l i := by
  unfold lay
  have hl : (l.take o).length = o := by rw [List.length_take]; omega
  rw [List.append_assoc, cat_app, hl]
  split
  · rw [cat_take _ _ _ (by assumption)]
  · rw [cat_app]
    split
    · rw [if_pos (by omega)]
    · rw [if_neg (by omega), cat_drop]
      congr 1
      omega
theorem cat_pu (r : List Cl) (k : Int) (s : St) (h1 : -(r.length : Int) ≤ k) (h2 : k ≤ (r.length : Int)) (i : Nat) (hi : i < r.length) :
    cat (puF r k s) i = if 0 ≤ (i : Int) - k ∧ (i : Int) - k < (r.length : Int) then cat r ((i : Int) - k).toNat else bl s := by
  unfold puF
  by_cases hp : 0 < k
  · rw [if_pos hp, cat_app, List.length_replicate]
    by_cases hq : i < k.toNat
    · rw [if_pos hq, if_neg (by omega), cat_rep _ _ _ hq]
    · rw [if_neg hq, if_pos (by omega), cat_take _ _ _ (by omega)]
      congr 1
      omega
  · rw [if_neg hp]
    by_cases hn : k < 0
    · rw [if_pos hn, cat_app, List.length_drop]
      by_cases hq : i < r.length - (-k).toNat
      · rw [if_pos hq, if_pos (by omega), cat_drop]
        congr 1
        omega
      · rw [if_neg hq, if_neg (by omega), cat_rep _ _ _ (by omega)]
    · obtain rfl : k = 0 := by omega
      rw [if_neg hn, if_pos (by omega)]
      congr 1
/-- The cells of a grid as the cells of its rows. -/
theorem grid_ext (a b : List Cl) (cols rows : Nat) (hc : 1 ≤ cols) (ha : a.length = cols * rows) (hb : b.length = cols * rows) (h : ∀ n, n < rows → ∀ j, j < cols → cat a (n * cols + j) = cat b (n * cols + j)) : a = b := by
  refine cat_ext a b (by omega) fun i hi => ?_
  have hm : i % cols < cols := Nat.mod_lt _ (by omega)
  have hd : i / cols < rows := Nat.div_lt_of_lt_mul (by omega)
  have e : i = i / cols * cols + i % cols := by rw [Nat.mul_comm]; exact (Nat.div_add_mod i cols).symm
  rw [e]
  exact h _ hd _ hm
theorem row_lt {a b c j : Nat} (hj : j < c) : a * c + j < b * c ↔ a < b := by
  constructor
  · intro h
    rcases Nat.lt_or_ge a b with q | q
    · exact q
    · have := Nat.mul_le_mul_right c q; omega
  · intro h
    have := Nat.mul_le_mul_right c (show a + 1 ≤ b by omega)
    rw [Nat.add_mul, Nat.one_mul] at this
    omega
theorem row_ge {a b c j : Nat} (hj : j < c) : b * c ≤ a * c + j ↔ b ≤ a := by
  have := row_lt (a := a) (b := b) hj
  omega
theorem scF_cat (c : List Cl) (cols rows top bot : Nat) (b : Int) (s : St) (hl : c.length = cols * rows) (hb : bot < rows) (n : Nat) (hn : n < rows) (j : Nat) (hj : j < cols) :
    cat (scF c cols rows top bot b s) (n * cols + j) = if top ≤ n ∧ n ≤ bot then (if (top : Int) ≤ (n : Int) + b ∧ (n : Int) + b ≤ (bot : Int) then cat c (((n : Int) + b).toNat * cols + j) else bl s) else cat c (n * cols + j) := by
  rw [← cat_row _ cols n j hj, scF_row c cols rows top bot b s hl hb n hn]
  unfold scR
  split
  · split
    · rw [cat_row _ _ _ _ hj]
    · rw [cat_rep _ _ _ hj]
  · rw [cat_row _ _ _ _ hj]
/-- What Scroll does to the cells is what it says. -/
theorem scroll_eq (c : List Cl) (cols rows top bot : Nat) (k z : Int) (s : St) (hc : 1 ≤ cols) (hl : c.length = cols * rows) (h1 : top ≤ bot) (h2 : bot < rows) (hz : z = clF k ((bot - top + 1 : Nat) : Int)) :
    lay c (cols * top) (puF ((c.drop (cols * top)).take (cols * (bot - top + 1))) (-z * (cols : Int)) s) = scF c cols rows top bot k s := by
  have hcnt : cols * top + cols * (bot - top + 1) ≤ cols * rows := by rw [← Nat.mul_add]; exact Nat.mul_le_mul_left _ (by omega)
  have hrl : ((c.drop (cols * top)).take (cols * (bot - top + 1))).length = cols * (bot - top + 1) := by rw [List.length_take, List.length_drop]; omega
  have hz1 : -((bot - top + 1 : Nat) : Int) ≤ z := by rw [hz]; unfold clF; omega
  have hz2 : z ≤ ((bot - top + 1 : Nat) : Int) := by rw [hz]; unfold clF; omega
  have hm1 : -((cols * (bot - top + 1) : Nat) : Int) ≤ -z * (cols : Int) := by
    rw [Int.natCast_mul, Int.mul_comm (cols : Int), ← Int.neg_mul]
    exact Int.mul_le_mul_of_nonneg_right (by omega) (by omega)
  have hm2 : -z * (cols : Int) ≤ ((cols * (bot - top + 1) : Nat) : Int) := by
    rw [Int.natCast_mul, Int.mul_comm (cols : Int)]
    exact Int.mul_le_mul_of_nonneg_right (by omega) (by omega)
  have hpl := puF_len ((c.drop (cols * top)).take (cols * (bot - top + 1))) (-z * (cols : Int)) s (by rw [hrl]; exact hm1) (by rw [hrl]; exact hm2)
  rw [hrl] at hpl
  refine grid_ext _ _ cols rows hc (by rw [lay_len _ _ _ (by rw [hpl]; omega), hl]) (scF_len c cols rows top bot k s hl h2) fun n hn j hj => ?_
  rw [scF_cat c cols rows top bot k s hl h2 n hn j hj, cat_lay _ _ _ (by rw [hpl]; omega), hpl]
  by_cases ht : top ≤ n
  · rw [if_neg (by rw [Nat.mul_comm cols top]; have := (row_ge (a := n) (b := top) hj).2 ht; omega)]
    by_cases hb : n ≤ bot
    · have hin : n * cols + j < cols * top + cols * (bot - top + 1) := by
        rw [← Nat.mul_add, Nat.mul_comm cols]; exact (row_lt hj).2 (by omega)
      rw [if_pos hin, if_pos ⟨ht, hb⟩]
      obtain ⟨i, rfl⟩ : ∃ i, n = top + i := ⟨n - top, by omega⟩
      have hidx : (top + i) * cols + j - cols * top = i * cols + j := by rw [Nat.add_mul, Nat.mul_comm cols top]; omega
      have hir : i * cols + j < cols * (bot - top + 1) := by rw [Nat.mul_comm cols]; exact (row_lt hj).2 (by omega)
      rw [hidx, cat_pu _ _ _ (by rw [hrl]; exact hm1) (by rw [hrl]; exact hm2) _ (by rw [hrl]; exact hir), hrl]
      have e1 : ((i * cols + j : Nat) : Int) - -z * (cols : Int) = ((i : Int) + z) * (cols : Int) + (j : Int) := by
        rw [Int.natCast_add, Int.natCast_mul, Int.add_mul, Int.neg_mul]; omega
      rw [e1]
      by_cases hy : 0 ≤ (i : Int) + z ∧ (i : Int) + z < ((bot - top + 1 : Nat) : Int)
      · obtain ⟨u, hu⟩ : ∃ u : Nat, (i : Int) + z = (u : Int) := ⟨((i : Int) + z).toNat, by omega⟩
        have hkz : (i : Int) + k = (u : Int) := by
          have : k = z := by rw [hz]; rw [hz] at hu hy; unfold clF at hu hy ⊢; omega
          omega
        have huc : u * cols + j < cols * (bot - top + 1) := by rw [Nat.mul_comm cols]; exact (row_lt hj).2 (by omega)
        have e2 : ((i : Int) + z) * (cols : Int) + (j : Int) = ((u * cols + j : Nat) : Int) := by rw [hu, Int.natCast_add, Int.natCast_mul]
        rw [e2, if_pos ⟨by omega, by omega⟩, if_pos (by omega), Int.toNat_natCast, cat_take _ _ _ huc, cat_drop]
        congr 1
        rw [show (((top + i : Nat) : Int) + k).toNat = top + u by omega, Nat.add_mul, Nat.mul_comm cols top, Nat.add_assoc]
      · have hno : ¬ (0 ≤ ((i : Int) + z) * (cols : Int) + (j : Int) ∧ ((i : Int) + z) * (cols : Int) + (j : Int) < ((cols * (bot - top + 1) : Nat) : Int)) := by
          intro hh
          apply hy
          constructor
          · rcases Int.lt_or_le ((i : Int) + z) 0 with q | q
            · have := Int.mul_le_mul_of_nonneg_right (show (i : Int) + z ≤ -1 by omega) (show (0 : Int) ≤ (cols : Int) by omega)
              omega
            · exact q
          · rcases Int.lt_or_le ((i : Int) + z) ((bot - top + 1 : Nat) : Int) with q | q
            · exact q
            · have := Int.mul_le_mul_of_nonneg_right q (show (0 : Int) ≤ (cols : Int) by omega)
              rw [Int.natCast_mul, Int.mul_comm (cols : Int)] at hh
              omega
        rw [if_neg hno, if_neg]
        intro hh
        apply hy
        have : k = z := by rw [hz]; unfold clF; omega
        omega
    · have hout : ¬ n * cols + j < cols * top + cols * (bot - top + 1) := by
        rw [← Nat.mul_add, Nat.mul_comm cols]
        intro hh
        have := (row_lt hj).1 hh
        omega
      rw [if_neg hout, if_neg (by omega)]
  · rw [if_pos (by rw [Nat.mul_comm cols top]; exact (row_lt hj).2 (by omega)), if_neg (by omega)]
end Go.Proofs.Ytejnlogoidkloaa
