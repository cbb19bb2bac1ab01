/- Which grids may be, by their cells and their rows. -/
import Derived.Test.YtnbonlkmadmpcaaNg
namespace Go.Proofs.Ytnbonlkmadmpcaa
set_option linter.unusedVariables false
set_option linter.unusedSimpArgs false
theorem ok_row (r : List Cl) : (∀ j, j < r.length → okAt r.length r j = true) ↔ (∀ j, j < r.length → mayC (cat r j) = true) ∧ (∀ j, j < r.length → bad r j = false) := by
 have hfe : ∀ j, j < r.length → hfAt r.length r j = (decide (0 < j) && decide ((cat r (j - 1)).wd = 2)) := fun j hj => by
  unfold hfAt; rw [Nat.mod_eq_of_lt hj]
 have oke : ∀ j, j < r.length → okAt r.length r j = true → mayC (cat r j) = true ∧ ((cat r j).wd = 0 ↔ 0 < j ∧ (cat r (j - 1)).wd = 2) ∧ ((0 < j ∧ (cat r (j - 1)).wd = 2) → (cat r j).st = (cat r (j - 1)).st) ∧ ¬ ((cat r j).wd = 2 ∧ j = r.length - 1) := fun j hj h => by
  unfold okAt at h
  rw [hfe j hj, Nat.mod_eq_of_lt hj] at h
  simp only [Bool.and_eq_true, Bool.or_eq_true, Bool.not_eq_true', Bool.and_eq_false_iff, decide_eq_true_eq, decide_eq_false_iff_not, beq_iff_eq] at h
  obtain ⟨⟨⟨h1, h2⟩, h3⟩, h4⟩ := h
  refine ⟨h1, ⟨fun h => ?_, fun h => ?_⟩, fun h => ?_, fun h => ?_⟩
  ·rw [decide_eq_true h] at h2
   have := h2.symm
   simp only [Bool.and_eq_true, decide_eq_true_eq] at this
   exact this
  ·have e : (decide (0 < j) && decide ((cat r (j - 1)).wd = 2)) = true := by simp [h.1, h.2]
   rw [e] at h2
   exact of_decide_eq_true h2
  ·rcases h3 with (h3 | h3) | h3
   ·exact absurd h.1 h3
   ·exact absurd h.2 h3
   ·exact (stB_iff _ _).1 h3
  ·rcases h4 with h4 | h4
   ·exact h4 h.1
   ·exact h4 h.2
 have okm : ∀ j, j < r.length → mayC (cat r j) = true → ((cat r j).wd = 0 ↔ 0 < j ∧ (cat r (j - 1)).wd = 2) → ((0 < j ∧ (cat r (j - 1)).wd = 2) → (cat r j).st = (cat r (j - 1)).st) → ¬ ((cat r j).wd = 2 ∧ j = r.length - 1) → okAt r.length r j = true := fun j hj h1 h2 h3 h4 => by
  unfold okAt
  rw [hfe j hj, Nat.mod_eq_of_lt hj, h1]
  by_cases hp : 0 < j ∧ (cat r (j - 1)).wd = 2
  ·have e : (decide (0 < j) && decide ((cat r (j - 1)).wd = 2)) = true := by simp [hp.1, hp.2]
   have hw := h2.2 hp
   rw [e, decide_eq_true hw, stB_yes (h3 hp), hw]
   simp
  ·have e : (decide (0 < j) && decide ((cat r (j - 1)).wd = 2)) = false := by
    by_cases a : 0 < j
    ·have : ¬ (cat r (j - 1)).wd = 2 := fun q => hp ⟨a, q⟩
     simp [this]
    ·simp [a]
   have hw : ¬ (cat r j).wd = 0 := fun q => hp (h2.1 q)
   rw [e, decide_eq_false hw]
   by_cases a : (cat r j).wd = 2
   ·have : ¬ j = r.length - 1 := fun q => h4 ⟨a, q⟩
    simp [this]
   ·simp [a]
 have bde : ∀ j, bad r j = false ↔ ((cat r j).wd = 2 → j + 1 < r.length ∧ (cat r (j + 1)).wd = 0 ∧ (cat r (j + 1)).st = (cat r j).st) ∧ ((cat r j).wd = 0 → 0 < j ∧ (cat r (j - 1)).wd = 2 ∧ (cat r (j - 1)).st = (cat r j).st) := fun j => by
  unfold bad
  by_cases a : (cat r j).wd = 2
  ·have hz : ¬ (cat r j).wd = 0 := by omega
   simp only [a, decide_true, Bool.true_and, show ¬ (2 : Nat) = 0 by decide, decide_false, Bool.false_and, Bool.or_false, Bool.or_eq_false_iff, decide_eq_false_iff_not, Bool.not_eq_false', stB_iff, false_implies, and_true, forall_const, Decidable.not_not, Nat.not_le, and_assoc]
  ·by_cases hz : (cat r j).wd = 0
   ·simp only [hz, show ¬ (0 : Nat) = 2 by decide, decide_true, Bool.true_and, decide_false, Bool.false_and, Bool.false_or, Bool.or_eq_false_iff, decide_eq_false_iff_not, Bool.not_eq_false', stB_iff, false_implies, true_and, forall_const, Decidable.not_not, and_assoc, Nat.pos_iff_ne_zero, ne_eq]
   ·simp [a, hz]
 constructor
 ·intro h
  refine ⟨fun j hj => (oke j hj (h j hj)).1, fun j hj => (bde j).2 ⟨fun h2 => ?_, fun h0 => ?_⟩⟩
  ·have h1 := oke j hj (h j hj)
   have hl : j + 1 < r.length := by
    have := h1.2.2.2
    rcases Nat.lt_or_ge (j + 1) r.length with q | q
    ·exact q
    ·exact absurd ⟨h2, by omega⟩ this
   have h3 := oke (j + 1) hl (h (j + 1) hl)
   rw [Nat.add_sub_cancel] at h3
   exact ⟨hl, h3.2.1.2 ⟨by omega, h2⟩, h3.2.2.1 ⟨by omega, h2⟩⟩
  ·have h1 := oke j hj (h j hj)
   have h2 := h1.2.1.1 h0
   exact ⟨h2.1, h2.2, (h1.2.2.1 h2).symm⟩
 ·rintro ⟨hm, hb⟩ j hj
  refine okm j hj (hm j hj) ⟨fun h0 => ?_, fun hp => ?_⟩ (fun hp => ?_) (fun hp => ?_)
  ·have := ((bde j).1 (hb j hj)).2 h0
   exact ⟨this.1, this.2.1⟩
  ·have := ((bde (j - 1)).1 (hb (j - 1) (by omega))).1 hp.2
   rw [show j - 1 + 1 = j by omega] at this
   exact this.2.1
  ·have := ((bde (j - 1)).1 (hb (j - 1) (by omega))).1 hp.2
   rw [show j - 1 + 1 = j by omega] at this
   exact this.2.2
  ·have := (((bde j).1 (hb j hj)).1 hp.1).1
   omega
theorem row_mem (c : List Cl) (cols rows : Nat) (hc : 1 ≤ cols) (hl : c.length = cols * rows) (i : Nat) (hi : i < c.length) : i / cols < rows ∧ i % cols < cols ∧ cat c i = cat (rowF c cols (i / cols)) (i % cols) := by
 have hm : i % cols < cols := Nat.mod_lt _ (by omega)
 refine ⟨Nat.div_lt_of_lt_mul (by omega), hm, ?_⟩
 rw [cat_row c cols _ _ hm, Nat.mul_comm, Nat.div_add_mod]
theorem cat_all (l : List Cl) (f : Cl → Bool) : l.all f = true ↔ ∀ i, i < l.length → f (cat l i) = true := by
 rw [List.all_eq_true]
 constructor
 ·intro h i hi
  exact h _ (cat_mem hi)
 ·intro h x hx
  obtain ⟨i, hi, rfl⟩ := List.mem_iff_getElem.1 hx
  have := h i hi
  unfold cat at this
  rwa [List.getD_eq_getElem?_getD, List.getElem?_eq_getElem hi] at this
/-- A grid may be, just where all its cells may and no half stands alone in a row. -/
theorem may_whole (cols rows : Nat) (c : List Cl) (hc : 1 ≤ cols) (hc2 : cols ≤ 512) (hr : 1 ≤ rows) (hr2 : rows ≤ 512) (hl : c.length = cols * rows) :
  mayG (cols : Int) (rows : Int) c = (c.all mayC && (List.range rows).all fun n => whF (rowF c cols n)) := by
 have hrl : ∀ n, n < rows → (rowF c cols n).length = cols := fun n hn => rowF_len c cols n (by rw [hl]; exact fits hn)
 have key : mayG (cols : Int) (rows : Int) c = true ↔ (c.all mayC && (List.range rows).all fun n => whF (rowF c cols n)) = true := by
  rw [mayG_rows cols rows c hc hc2 hr hr2 hl, Bool.and_eq_true, cat_all, List.all_eq_true]
  constructor
  ·intro h
   have h2 : ∀ n, n < rows → (∀ j, j < cols → mayC (cat (rowF c cols n) j) = true) ∧ (∀ j, j < cols → bad (rowF c cols n) j = false) := fun n hn => by
    have := (ok_row (rowF c cols n)).1 (by rw [hrl n hn]; exact h n hn)
    rwa [hrl n hn] at this
   refine ⟨fun i hi => ?_, fun n hn => ?_⟩
   ·obtain ⟨a, b, e⟩ := row_mem c cols rows hc hl i hi
    rw [e]
    exact (h2 _ a).1 _ b
   ·rw [List.mem_range] at hn
    unfold whF
    rw [List.all_eq_true, hrl n hn]
    intro j hj
    rw [List.mem_range] at hj
    rw [(h2 n hn).2 j hj]
    rfl
  ·rintro ⟨h1, h2⟩ n hn
   have h3 := h2 n (List.mem_range.2 hn)
   unfold whF at h3
   rw [List.all_eq_true, hrl n hn] at h3
   have := (ok_row (rowF c cols n)).2 ⟨fun j hj => ?_, fun j hj => ?_⟩
   ·rwa [hrl n hn] at this
   ·rw [hrl n hn] at hj
    rw [cat_row c cols n j hj]
    have hf := fits (cols := cols) hn
    exact h1 _ (by omega)
   ·rw [hrl n hn] at hj
    have := h3 j (List.mem_range.2 hj)
    cases hb : bad (rowF c cols n) j with
    | false => rfl
    | true => rw [hb] at this; cases this
 cases h1 : mayG (cols : Int) (rows : Int) c with
 | true => exact (key.1 h1).symm
 | false =>
  cases h2 : (c.all mayC && (List.range rows).all fun n => whF (rowF c cols n)) with
  | false => rfl
  | true => rw [key.2 h2] at h1; cases h1
end Go.Proofs.Ytnbonlkmadmpcaa
