/- What is done to grids, as lists; what may be may be behind it. -/
import Derived.Test.YtnbonlkmadmpcaaMg
namespace Go.Proofs.Ytnbonlkmadmpcaa
set_option linter.unusedVariables false
set_option linter.unusedSimpArgs false
/-- Cells written into a row from a column on, as many as fit. -/
def wrF (r : List Cl) (col : Nat) (l : List Cl) : List Cl := r.take col ++ l.take (r.length - col) ++ r.drop (col + l.length)
/-- Blanks from a column up to another one. -/
def erF (r : List Cl) (f t : Nat) (s : St) : List Cl := r.take f ++ List.replicate (t - f) (bl s) ++ r.drop t
/-- Cells moved. -/
def shF (r : List Cl) (f : Nat) (b : Int) (s : St) : List Cl := (List.range r.length).map fun i =>
 if i < f then cat r i else if (f : Int) ≤ (i : Int) - b ∧ (i : Int) - b < (r.length : Int) then cat r ((i : Int) - b).toNat else bl s
/-- Rows moved: which row of the old grid comes to a row, if one does. -/
def scR (c : List Cl) (cols top bot : Nat) (b : Int) (s : St) (n : Nat) : List Cl :=
 if top ≤ n ∧ n ≤ bot then (if (top : Int) ≤ (n : Int) + b ∧ (n : Int) + b ≤ (bot : Int) then rowF c cols ((n : Int) + b).toNat else List.replicate cols (bl s)) else rowF c cols n
/-- Rows, one behind the other. -/
def joinR (f : Nat → List Cl) : Nat → List Cl
 | 0 => []
 | n + 1 => joinR f n ++ f n
def scF (c : List Cl) (cols rows top bot : Nat) (b : Int) (s : St) : List Cl := joinR (scR c cols top bot b s) rows
/-- A row of another width. -/
def rzR (c : List Cl) (cols rows cols' : Nat) (s : St) (n : Nat) : List Cl :=
 if n < rows then mnd ((rowF c cols n).take cols' ++ List.replicate (cols' - cols) (bl s)) else List.replicate cols' (bl s)
def rzF (c : List Cl) (cols rows cols' rows' : Nat) (s : St) : List Cl := joinR (rzR c cols rows cols' s) rows'
theorem wrF_len (r : List Cl) (col : Nat) (l : List Cl) (h : col ≤ r.length) : (wrF r col l).length = r.length := by
 unfold wrF
 simp only [List.length_append, List.length_take, List.length_drop]
 omega
theorem erF_len (r : List Cl) (f t : Nat) (s : St) (h : f ≤ t) (h2 : t ≤ r.length) : (erF r f t s).length = r.length := by
 unfold erF
 simp only [List.length_append, List.length_take, List.length_drop, List.length_replicate]
 omega
theorem shF_len (r : List Cl) (f : Nat) (b : Int) (s : St) : (shF r f b s).length = r.length := by simp [shF]
theorem mem_may_app {a b : List Cl} (h1 : ∀ x ∈ a, mayC x = true) (h2 : ∀ x ∈ b, mayC x = true) : ∀ x ∈ a ++ b, mayC x = true := fun x hx => by
 rcases List.mem_append.1 hx with h | h
 ·exact h1 x h
 ·exact h2 x h
theorem mem_may_rep (n : Nat) (s : St) (h : mayS s = true) : ∀ x ∈ List.replicate n (bl s), mayC x = true := fun x hx => by
 rw [List.eq_of_mem_replicate hx]; exact mayC_bl s h
theorem joinR_len (f : Nat → List Cl) (cols : Nat) : ∀ n, (∀ k, k < n → (f k).length = cols) → (joinR f n).length = n * cols
 | 0, _ => by simp [joinR]
 | n + 1, h => by
  rw [joinR, List.length_append, joinR_len f cols n (fun k hk => h k (by omega)), h n (by omega), Nat.add_mul, Nat.one_mul]
/-- The rows that were joined are its rows. -/
theorem rowF_join (f : Nat → List Cl) (cols : Nat) : ∀ n, (∀ k, k < n → (f k).length = cols) → ∀ m, m < n → rowF (joinR f n) cols m = f m
 | 0, _, m, hm => by omega
 | n + 1, h, m, hm => by
  have hl := joinR_len f cols n (fun k hk => h k (by omega))
  have hn := h n (by omega)
  rw [joinR]
  by_cases e : m = n
  ·subst e
   unfold rowF
   rw [List.drop_append, hl, Nat.sub_self, List.drop_zero, List.drop_of_length_le (by omega), List.nil_append, List.take_of_length_le (by omega)]
  ·have hq : m * cols + cols ≤ n * cols := by
    calc m * cols + cols = (m + 1) * cols := by rw [Nat.add_mul, Nat.one_mul]
     _ ≤ n * cols := Nat.mul_le_mul_right _ (by omega)
   have ih := rowF_join f cols n (fun k hk => h k (by omega)) m (by omega)
   unfold rowF at ih ⊢
   rw [List.drop_append_of_le_length (by omega), List.take_append_of_le_length (by rw [List.length_drop]; omega)]
   exact ih
theorem fits {cols rows n : Nat} (h : n < rows) : n * cols + cols ≤ cols * rows := by
 calc n * cols + cols = (n + 1) * cols := by rw [Nat.add_mul, Nat.one_mul]
  _ ≤ rows * cols := Nat.mul_le_mul_right _ h
  _ = cols * rows := Nat.mul_comm _ _
theorem scR_len (c : List Cl) (cols rows top bot : Nat) (b : Int) (s : St) (n : Nat) (hl : c.length = cols * rows) (hb : bot < rows) (hn : n < rows) : (scR c cols top bot b s n).length = cols := by
 unfold scR
 split
 ·split
  ·exact rowF_len c cols _ (by rw [hl]; exact fits (by omega))
  ·simp
 ·exact rowF_len c cols _ (by rw [hl]; exact fits hn)
theorem row_may (cols rows : Nat) (c : List Cl) (hc : 1 ≤ cols) (hc2 : cols ≤ 512) (hr : 1 ≤ rows) (hr2 : rows ≤ 512) (hl : c.length = cols * rows) (hg : mayG (cols : Int) (rows : Int) c = true) (n : Nat) (hn : n < rows) : ∀ x ∈ rowF c cols n, mayC x = true := by
 intro x hx
 obtain ⟨j, hj, rfl⟩ := List.mem_iff_getElem.1 hx
 have hlen := rowF_len c cols n (by rw [hl]; exact fits hn)
 have := (mayG_rows cols rows c hc hc2 hr hr2 hl).1 hg n hn j (by omega)
 unfold okAt at this
 simp only [Bool.and_eq_true] at this
 have h := this.1.1.1
 unfold cat at h
 rw [List.getD_eq_getElem?_getD, List.getElem?_eq_getElem hj] at h
 exact h
theorem rzR_len (c : List Cl) (cols rows cols' : Nat) (s : St) (n : Nat) (hl : c.length = cols * rows) : (rzR c cols rows cols' s n).length = cols' := by
 unfold rzR
 split
 ·rename_i hn
  rw [mnd_len, List.length_append, List.length_take, rowF_len c cols n (by rw [hl]; exact fits hn), List.length_replicate]
  omega
 ·simp
/-- Resized, a grid that may be may be. -/
theorem mayG_resize (cols rows cols' rows' : Nat) (s : St) (c : List Cl) (hc : 1 ≤ cols) (hc2 : cols ≤ 512) (hr : 1 ≤ rows) (hr2 : rows ≤ 512) (hl : c.length = cols * rows) (hg : mayG (cols : Int) (rows : Int) c = true) (hs : mayS s = true)
  (hd : 1 ≤ cols') (hd2 : cols' ≤ 512) (he : 1 ≤ rows') (he2 : rows' ≤ 512) : mayG (cols' : Int) (rows' : Int) (rzF c cols rows cols' rows' s) = true := by
 have hrow : ∀ k, k < rows' → (rzR c cols rows cols' s k).length = cols' := fun k _ => rzR_len c cols rows cols' s k hl
 have hlen : (rzF c cols rows cols' rows' s).length = cols' * rows' := by rw [rzF, joinR_len _ cols' rows' hrow, Nat.mul_comm]
 rw [mayG_rows cols' rows' _ hd hd2 he he2 hlen]
 intro n hn j hj
 rw [rzF, rowF_join _ cols' rows' hrow n hn]
 unfold rzR
 split
 ·rename_i hnr
  have hrl : ((rowF c cols n).take cols' ++ List.replicate (cols' - cols) (bl s)).length = cols' := by
   rw [List.length_append, List.length_take, rowF_len c cols n (by rw [hl]; exact fits hnr), List.length_replicate]; omega
  have := mnd_ok ((rowF c cols n).take cols' ++ List.replicate (cols' - cols) (bl s)) (mem_may_app (fun x hx => row_may cols rows c hc hc2 hr hr2 hl hg n hnr x (List.mem_of_mem_take hx)) (mem_may_rep _ s hs)) j (by omega)
  rw [hrl] at this
  exact this
 ·exact blanks_ok cols' s hs j hj
theorem scF_len (c : List Cl) (cols rows top bot : Nat) (b : Int) (s : St) (hl : c.length = cols * rows) (hb : bot < rows) : (scF c cols rows top bot b s).length = cols * rows := by
 rw [scF, joinR_len _ cols rows (fun k hk => scR_len c cols rows top bot b s k hl hb hk), Nat.mul_comm]
theorem scF_row (c : List Cl) (cols rows top bot : Nat) (b : Int) (s : St) (hl : c.length = cols * rows) (hb : bot < rows) (n : Nat) (hn : n < rows) : rowF (scF c cols rows top bot b s) cols n = scR c cols top bot b s n :=
 rowF_join _ cols rows (fun k hk => scR_len c cols rows top bot b s k hl hb hk) n hn
/-- Two grids whose rows are the same are the same. -/
theorem rows_ext (c d : List Cl) (cols rows : Nat) (hc : 1 ≤ cols) (hl : c.length = cols * rows) (hd : d.length = cols * rows) (h : ∀ n, n < rows → rowF c cols n = rowF d cols n) : c = d := by
 apply List.ext_getElem (by omega)
 intro i h1 h2
 have hi : i / cols < rows := Nat.div_lt_of_lt_mul (by omega)
 have hm : i % cols < cols := Nat.mod_lt _ (by omega)
 have e : i = i / cols * cols + i % cols := by rw [Nat.mul_comm]; exact (Nat.div_add_mod i cols).symm
 have h3 := cat_row c cols (i / cols) (i % cols) hm
 have h4 := cat_row d cols (i / cols) (i % cols) hm
 rw [h (i / cols) hi, h4, ← e] at h3
 unfold cat at h3
 rw [List.getD_eq_getElem?_getD, List.getD_eq_getElem?_getD, List.getElem?_eq_getElem h1, List.getElem?_eq_getElem h2] at h3
 exact h3.symm
end Go.Proofs.Ytnbonlkmadmpcaa
