/- The mathematics of grids: rows, mending, which grids may be. -/
import Derived.Test.YtnbonlkmadmpcaaRa
namespace Go.Proofs.Ytnbonlkmadmpcaa
set_option linter.unusedVariables false
set_option linter.unusedSimpArgs false
theorem stB_self (s : St) : stB s s = true := stB_yes rfl
/-- The cell at a place. -/
def cat (c : List Cl) (i : Nat) : Cl := c.getD i (hf pl)
def hfAt (cols : Nat) (c : List Cl) (i : Nat) : Bool := decide (0 < i % cols) && decide ((cat c (i - 1)).wd = 2)
/-- May the cell at a place stand there? -/
def okAt (cols : Nat) (c : List Cl) (i : Nat) : Bool :=
 mayC (cat c i) && (decide ((cat c i).wd = 0) == hfAt cols c i) && (!hfAt cols c i || stB (cat c i).st (cat c (i - 1)).st) && !(decide ((cat c i).wd = 2) && decide (i % cols = cols - 1))
def sideF (n : Int) : Bool := decide (1 ≤ n ∧ n ≤ 512)
/-- May a grid be? -/
def mayG (co ro : Int) (c : List Cl) : Bool := sideF co && sideF ro && decide ((c.length : Int) = co * ro) && (List.range c.length).all (okAt co.toNat c)
def rowF (c : List Cl) (cols n : Nat) : List Cl := (c.drop (n * cols)).take cols
def putRow (c : List Cl) (cols n : Nat) (r : List Cl) : List Cl := c.take (n * cols) ++ r ++ c.drop (n * cols + cols)
/-- Is a cell of a row to be mended? -/
def bad (r : List Cl) (i : Nat) : Bool :=
 (decide ((cat r i).wd = 2) && (decide (r.length ≤ i + 1) || decide (¬ (cat r (i + 1)).wd = 0) || !stB (cat r (i + 1)).st (cat r i).st)) ||
 (decide ((cat r i).wd = 0) && (decide (i = 0) || decide (¬ (cat r (i - 1)).wd = 2) || !stB (cat r (i - 1)).st (cat r i).st))
def mAt (r : List Cl) (i : Nat) : Cl := if bad r i then bl (cat r i).st else cat r i
def mnd (r : List Cl) : List Cl := (List.range r.length).map (mAt r)
theorem mnd_len (r : List Cl) : (mnd r).length = r.length := by simp [mnd]
theorem mnd_at (r : List Cl) (i : Nat) (h : i < r.length) : cat (mnd r) i = mAt r i := by simp [cat, mnd, h]
theorem mayC_st (x : Cl) (h : mayC x = true) : mayS x.st = true := by
 cases hs : mayS x.st with
 | true => rfl
 | false => unfold mayC at h; rw [if_pos hs] at h; cases h
theorem mayC_bl (s : St) (h : mayS s = true) : mayC (bl s) = true := by
 have h1 : mayS (bl s).st = true := by
  simp only [mayS, Bool.and_eq_true] at h ⊢
  exact ⟨rfl, h.2⟩
 have w1 : (bl s).wd = 1 := rfl
 unfold mayC
 rw [if_neg (by rw [h1]; simp), if_neg (by rw [w1]; decide), if_neg (by rw [w1]; decide), if_pos (show ofF (bl s).ch = ((bl s).wd : Int) from of_32)]
 rfl
theorem cat_mem {r : List Cl} {i : Nat} (h : i < r.length) : cat r i ∈ r := by
 unfold cat
 rw [List.getD_eq_getElem?_getD, List.getElem?_eq_getElem h]
 exact List.getElem_mem h
/-- A row whose cells may be, mended, may stand. -/
theorem mnd_ok (r : List Cl) (h : ∀ x ∈ r, mayC x = true) (i : Nat) (hi : i < r.length) : okAt r.length (mnd r) i = true := by
 have hm : i % r.length = i := Nat.mod_eq_of_lt hi
 have e0 := mnd_at r i hi
 have m0 := h _ (cat_mem hi)
 have mb := mayC_bl _ (mayC_st _ m0)
 have mm : mayC (mAt r i) = true := by unfold mAt; split <;> assumption
 unfold okAt hfAt
 rw [hm, e0, mm]
 simp only [Bool.true_and, Bool.and_eq_true, Bool.not_eq_true', Bool.or_eq_true, beq_iff_eq, Bool.and_eq_false_iff, decide_eq_false_iff_not, decide_eq_true_eq]
 by_cases h0 : i = 0
 ·subst h0
  refine ⟨⟨?_, .inl (.inl (by omega))⟩, ?_⟩
  ·have : ¬ (mAt r 0).wd = 0 := by
    unfold mAt
    split
    ·exact (show ¬ (1 : Nat) = 0 by decide)
    ·rename_i hb
     intro hw
     exact hb (by simp [bad, hw])
   simp [this]
  ·by_cases hw : (mAt r 0).wd = 2
   ·right
    intro h1
    unfold mAt at hw
    split at hw
    ·cases hw
    ·rename_i hb
     exact hb (by simp [bad, hw]; omega)
   ·exact .inl hw
 ·have hp : i - 1 < r.length := by omega
  have e1 := mnd_at r (i - 1) hp
  rw [e1]
  have hs : i - 1 + 1 = i := by omega
  have hlast : ¬ (mAt r i).wd = 2 ∨ ¬ i = r.length - 1 := by
   by_cases hw : (mAt r i).wd = 2
   ·right
    intro h1
    unfold mAt at hw
    split at hw
    ·cases hw
    ·rename_i hb
     exact hb (by simp [bad, hw]; omega)
   ·exact .inl hw
  by_cases hw : (mAt r i).wd = 0
  ·have hb : ¬ bad r i = true := by
    intro hb
    unfold mAt at hw
    rw [if_pos hb] at hw
    cases hw
   have ei : mAt r i = cat r i := if_neg hb
   rw [ei] at hw ⊢
   have hq : (cat r (i - 1)).wd = 2 ∧ (cat r (i - 1)).st = (cat r i).st := by
    by_cases q1 : (cat r (i - 1)).wd = 2
    ·by_cases q2 : (cat r (i - 1)).st = (cat r i).st
     ·exact ⟨q1, q2⟩
     ·exact absurd (by simp [bad, hw, stB_no q2]) hb
    ·exact absurd (by simp [bad, hw, q1]) hb
   have hb' : ¬ bad r (i - 1) = true := by
    simp [bad, hq.1, hs, hw, hq.2, stB_self]
    omega
   have ep : mAt r (i - 1) = cat r (i - 1) := if_neg hb'
   rw [ep]
   refine ⟨⟨?_, .inr (stB_yes hq.2.symm)⟩, ?_⟩
   ·simp [hw, hq.1]; omega
   ·left; rw [hw]; decide
  ·have hz : ¬ (mAt r (i - 1)).wd = 2 := by
    intro h2
    have hb' : ¬ bad r (i - 1) = true := by
     intro hb
     unfold mAt at h2
     rw [if_pos hb] at h2
     cases h2
    have ep : mAt r (i - 1) = cat r (i - 1) := if_neg hb'
    rw [ep] at h2
    have hq : (cat r i).wd = 0 ∧ (cat r i).st = (cat r (i - 1)).st := by
     by_cases q1 : (cat r i).wd = 0
     ·by_cases q2 : (cat r i).st = (cat r (i - 1)).st
      ·exact ⟨q1, q2⟩
      ·exact absurd (by simp [bad, h2, hs, stB_no q2]) hb'
     ·exact absurd (by simp [bad, h2, hs, q1]) hb'
    have hb : ¬ bad r i = true := by
     simp [bad, hq.1, h0, h2, hq.2, stB_self]
    have ei : mAt r i = cat r i := if_neg hb
    rw [ei] at hw
    exact hw hq.1
   refine ⟨⟨?_, .inl (.inr hz)⟩, hlast⟩
   simp [hw, hz]
/-- A place of a row, in the grid. -/
theorem cat_row (c : List Cl) (cols n j : Nat) (hj : j < cols) : cat (rowF c cols n) j = cat c (n * cols + j) := by
 unfold cat rowF
 simp [List.getElem?_take_of_lt hj]
theorem rowF_len (c : List Cl) (cols n : Nat) (h : n * cols + cols ≤ c.length) : (rowF c cols n).length = cols := by
 unfold rowF
 rw [List.length_take, List.length_drop]
 omega
theorem okAt_row (c : List Cl) (cols n j : Nat) (hj : j < cols) : okAt cols c (n * cols + j) = okAt cols (rowF c cols n) j := by
 have hm : (n * cols + j) % cols = j := by rw [Nat.mul_comm, Nat.mul_add_mod]; exact Nat.mod_eq_of_lt hj
 have hm2 : j % cols = j := Nat.mod_eq_of_lt hj
 have h0 := cat_row c cols n j hj
 unfold okAt hfAt
 rw [hm, hm2, h0]
 by_cases hz : j = 0
 ·subst hz; simp
 ·have h1 := cat_row c cols n (j - 1) (by omega)
  rw [h1, show n * cols + j - 1 = n * cols + (j - 1) by omega]
/-- A grid may be just where each of its rows may stand. -/
theorem mayG_rows (cols rows : Nat) (c : List Cl) (hc : 1 ≤ cols) (hc2 : cols ≤ 512) (hr : 1 ≤ rows) (hr2 : rows ≤ 512) (hl : c.length = cols * rows) :
  mayG (cols : Int) (rows : Int) c = true ↔ ∀ n, n < rows → ∀ j, j < cols → okAt cols (rowF c cols n) j = true := by
 have s1 : sideF (cols : Int) = true := by unfold sideF; simp; omega
 have s2 : sideF (rows : Int) = true := by unfold sideF; simp; omega
 have s3 : decide ((c.length : Int) = (cols : Int) * (rows : Int)) = true := by rw [hl]; simp
 unfold mayG
 rw [s1, s2, s3]
 simp only [Bool.true_and, List.all_eq_true, List.mem_range, Int.toNat_natCast]
 constructor
 ·intro h n hn j hj
  rw [← okAt_row c cols n j hj]
  apply h
  rw [hl]
  calc n * cols + j < n * cols + cols := by omega
   _ = (n + 1) * cols := by rw [Nat.add_mul, Nat.one_mul]
   _ ≤ rows * cols := Nat.mul_le_mul_right _ (by omega)
   _ = cols * rows := Nat.mul_comm _ _
 ·intro h i hi
  have e : i = i / cols * cols + i % cols := by rw [Nat.mul_comm]; exact (Nat.div_add_mod i cols).symm
  rw [e, okAt_row c cols _ _ (Nat.mod_lt _ (by omega))]
  apply h
  ·rw [hl] at hi
   exact Nat.div_lt_of_lt_mul hi
  ·exact Nat.mod_lt _ (by omega)
theorem putRow_len (c : List Cl) (cols n : Nat) (r : List Cl) (hr : r.length = cols) (h : n * cols + cols ≤ c.length) : (putRow c cols n r).length = c.length := by
 unfold putRow
 simp only [List.length_append, List.length_take, List.length_drop]
 omega
/-- A row that was put is there; the others are as they were. -/
theorem rowF_put (c : List Cl) (cols n m : Nat) (r : List Cl) (hr : r.length = cols) (h : n * cols + cols ≤ c.length) : rowF (putRow c cols n r) cols m = if m = n then r else rowF c cols m := by
 have h1 : (c.take (n * cols)).length = n * cols := by rw [List.length_take]; omega
 by_cases e : m = n
 ·subst e
  rw [if_pos rfl]
  unfold rowF putRow
  rw [List.append_assoc, List.drop_append, h1, Nat.sub_self, List.drop_zero, List.drop_of_length_le (by omega), List.nil_append, List.take_append_of_le_length (by omega), List.take_of_length_le (by omega)]
 ·rw [if_neg e]
  unfold rowF putRow
  rcases Nat.lt_or_ge m n with q | q
  ·have hq : m * cols + cols ≤ n * cols := by
    calc m * cols + cols = (m + 1) * cols := by rw [Nat.add_mul, Nat.one_mul]
     _ ≤ n * cols := Nat.mul_le_mul_right _ q
   rw [List.append_assoc, List.drop_append_of_le_length (by omega), List.take_append_of_le_length (by rw [List.length_drop]; omega), List.drop_take, List.take_take]
   congr 1
   omega
  ·have hq : n * cols + cols ≤ m * cols := by
    calc n * cols + cols = (n + 1) * cols := by rw [Nat.add_mul, Nat.one_mul]
     _ ≤ m * cols := Nat.mul_le_mul_right _ (by omega)
   rw [List.drop_append, List.drop_of_length_le (by rw [List.length_append]; omega), List.nil_append, List.length_append, h1, hr, List.drop_drop]
   congr 2
   omega
/-- Blanks may stand side by side. -/
theorem blanks_ok (cols : Nat) (s : St) (hs : mayS s = true) (j : Nat) (hj : j < cols) : okAt cols (List.replicate cols (bl s)) j = true := by
 have h0 : ∀ i, i < cols → cat (List.replicate cols (bl s)) i = bl s := fun i hi => by simp [cat, hi]
 unfold okAt hfAt
 rw [Nat.mod_eq_of_lt hj, h0 j hj, mayC_bl s hs]
 have w1 : (bl s).wd = 1 := rfl
 by_cases hz : j = 0
 ·subst hz; simp [w1]
 ·rw [h0 (j - 1) (by omega)]; simp [w1]
end Go.Proofs.Ytnbonlkmadmpcaa
