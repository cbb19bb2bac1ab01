/- A receiver's row of numbered states, rising: where a number stands. -/
import Derived.Test.YtikkekdmahdgaaaRk
namespace Go.Proofs.Ytikkekdmahdgaaa
open Go.RowKit Go.BigFrame
set_option linter.unusedSimpArgs false
set_option linter.unusedVariables false
set_option maxRecDepth 100000

def lwN (m : Nat) : List Rw → Nat
  | [] => 0
  | x :: r => if x.n.toNat < m then lwN m r + 1 else 0
theorem lwN_le (m : Nat) : ∀ l : List Rw, lwN m l ≤ l.length
  | [] => Nat.le_refl _
  | x :: r => by
    have := lwN_le m r
    unfold lwN
    split <;> simp <;> omega
theorem lwN_lt (m : Nat) : ∀ (l : List Rw) (k : Nat), k < lwN m l → (l.getD k Rw.zero).n.toNat < m
  | [], k, h => by simp [lwN] at h
  | x :: r, 0, h => by
    unfold lwN at h
    split at h
    · simpa using ‹_›
    · simp at h
  | x :: r, k + 1, h => by
    unfold lwN at h
    split at h
    · simpa using lwN_lt m r k (by omega)
    · simp at h
theorem lwN_ge (m : Nat) : ∀ (l : List Rw), lwN m l < l.length → m ≤ (l.getD (lwN m l) Rw.zero).n.toNat
  | [], h => by simp at h
  | x :: r, h => by
    unfold lwN at h ⊢
    split at h
    · rename_i q
      rw [if_pos q]
      simpa using lwN_ge m r (by simpa using h)
    · rename_i q
      rw [if_neg q]
      simpa using q
theorem lwN_eq (m : Nat) (l : List Rw) (k : Nat) (hk : k ≤ l.length) (h1 : ∀ j, j < k → (l.getD j Rw.zero).n.toNat < m) (h2 : k < l.length → m ≤ (l.getD k Rw.zero).n.toNat) : lwN m l = k := by
  have ha := lwN_le m l
  rcases Nat.lt_trichotomy (lwN m l) k with h | h | h
  · have := lwN_ge m l (by omega)
    have := h1 _ h
    omega
  · exact h
  · have := lwN_lt m l k h
    have := h2 (by omega)
    omega
/-- The numbers rise. -/
def Rise (l : List Rw) : Prop := ∀ i j, i < j → j < l.length → (l.getD i Rw.zero).n.toNat < (l.getD j Rw.zero).n.toNat
theorem Rise.ge {l : List Rw} (h : Rise l) (m k : Nat) (h1 : lwN m l ≤ k) (h2 : k < l.length) : m ≤ (l.getD k Rw.zero).n.toNat := by
  have := lwN_ge m l (by omega)
  rcases Nat.lt_or_eq_of_le h1 with q | q
  · have := h _ _ q h2
    omega
  · rw [← q]
    exact this
theorem getD_drop' (l : List Rw) (k j : Nat) : (l.drop k).getD j Rw.zero = l.getD (k + j) Rw.zero := by simp [List.getD_eq_getElem?_getD, List.getElem?_drop]
theorem Rise.drop {l : List Rw} (h : Rise l) (k : Nat) : Rise (l.drop k) := by
  intro i j hij hj
  rw [List.length_drop] at hj
  rw [getD_drop', getD_drop']
  exact h _ _ (by omega) (by omega)
def hasN (m : Nat) (l : List Rw) : Bool := decide (lwN m l < l.length ∧ (l.getD (lwN m l) Rw.zero).n.toNat = m)
theorem hasN_fst {l : List Rw} (h : Rise l) (m : UInt64) : hasN m.toNat l = decide (fstAt m l < l.length) ∧ (hasN m.toNat l = true → fstAt m l = lwN m.toNat l) := by
  unfold hasN
  by_cases q : lwN m.toNat l < l.length ∧ (l.getD (lwN m.toNat l) Rw.zero).n.toNat = m.toNat
  · have e : fstAt m l = lwN m.toNat l := fstAt_eq m l _ q.1 (UInt64.toNat_inj.1 q.2) (fun j hj e => by
      have := lwN_lt m.toNat l j hj
      rw [e] at this
      omega)
    exact ⟨by rw [e]; exact decide_eq_decide.2 ⟨fun _ => q.1, fun _ => q⟩, fun _ => e⟩
  · have e : fstAt m l = l.length := fstAt_none m l fun j hj e => by
      rcases Nat.lt_or_ge j (lwN m.toNat l) with r | r
      · have := lwN_lt m.toNat l j r
        rw [e] at this
        omega
      · have h1 := lwN_ge m.toNat l (by omega)
        rcases Nat.lt_or_eq_of_le r with r | r
        · have := h _ _ r hj
          rw [e] at this
          omega
        · exact q ⟨by omega, by rw [r, e]⟩
    refine ⟨by rw [decide_eq_false q, e]; simp, fun hh => ?_⟩
    rw [decide_eq_false q] at hh
    cases hh
theorem thrK_drop {l : List Rw} (h : Rise l) (m : UInt64) : ∀ k, k ≤ l.length → thrK l m k = (l.take k).drop (min (lwN m.toNat l) (l.length - 1))
  | 0, _ => by simp [thrK]
  | k + 1, hk => by
    have hlw := lwN_le m.toNat l
    unfold thrK
    rw [thrK_drop h m k (by omega), take_step l k (by omega)]
    by_cases hd : k < min (lwN m.toNat l) (l.length - 1)
    · have := lwN_lt m.toNat l k (by omega)
      rw [if_neg (by omega), List.drop_eq_nil_of_le (by simp; omega), List.drop_eq_nil_of_le (by simp; omega)]
      rfl
    · rw [List.drop_append_of_le_length (by simp; omega), if_pos ?_]
      by_cases h2 : lwN m.toNat l ≤ k
      · exact .inl (h.ge m.toNat k h2 (by omega))
      · exact .inr (by omega)
theorem thrF_drop {l : List Rw} (h : Rise l) (m : UInt64) : thrF l m = l.drop (min (lwN m.toNat l) (l.length - 1)) := by
  unfold thrF
  rw [thrK_drop h m _ (Nat.le_refl _), List.take_length]
theorem low_take {l : List Rw} (h : Rise l) (m : Nat) : ∀ k, k ≤ l.length → (l.take k).filter (fun x => decide (x.n.toNat < m)) = (l.take k).take (lwN m l)
  | 0, _ => by simp
  | k + 1, hk => by
    have hlw := lwN_le m l
    rw [take_step l k (by omega), List.filter_append, low_take h m k (by omega)]
    by_cases q : k < lwN m l
    · have := lwN_lt m l k q
      generalize l.getD k Rw.zero = y at *
      rw [List.take_of_length_le (i := lwN m l) (l := l.take k) (by simp; omega), List.take_of_length_le (i := lwN m l) (l := l.take k ++ [y]) (by simp; omega), List.filter_cons_of_pos (p := fun x : Rw => decide (x.n.toNat < m)) (a := y) (decide_eq_true this), List.filter_nil]
    · have := h.ge m k (by omega) (by omega)
      generalize l.getD k Rw.zero = y at *
      rw [List.filter_cons_of_neg (by rw [decide_eq_true_eq]; omega), List.filter_nil, List.append_nil, List.take_append_of_le_length (by simp; omega)]
theorem high_drop {l : List Rw} (h : Rise l) (m : Nat) (hn : hasN m l = false) : ∀ k, k ≤ l.length → (l.take k).filter (fun x => decide (m < x.n.toNat)) = (l.take k).drop (lwN m l)
  | 0, _ => by simp
  | k + 1, hk => by
    have hlw := lwN_le m l
    rw [take_step l k (by omega), List.filter_append, high_drop h m hn k (by omega)]
    by_cases q : k < lwN m l
    · have := lwN_lt m l k q
      generalize l.getD k Rw.zero = y at *
      rw [List.drop_eq_nil_of_le (by simp; omega), List.drop_eq_nil_of_le (by simp; omega), List.filter_cons_of_neg (by rw [decide_eq_true_eq]; omega)]
      rfl
    · have h1 := h.ge m k (by omega) (by omega)
      have h2 : (l.getD k Rw.zero).n.toNat ≠ m := by
        intro e
        rcases Nat.lt_or_eq_of_le (Nat.le_of_not_lt q) with r | r
        · have := h _ _ r (by omega)
          have := h.ge m (lwN m l) (Nat.le_refl _) (by omega)
          omega
        · unfold hasN at hn
          rw [decide_eq_false_iff_not] at hn
          exact hn ⟨by omega, by rw [r]; exact e⟩
      generalize l.getD k Rw.zero = y at *
      rw [List.filter_cons_of_pos (by rw [decide_eq_true_eq]; omega), List.filter_nil, List.drop_append_of_le_length (by simp; omega)]
theorem lowF_take {l : List Rw} (h : Rise l) (m : UInt64) : lowF l m = l.take (lwN m.toNat l) := by
  unfold lowF
  rw [selK_filter _ _ _ (Nat.le_refl _), low_take h m.toNat _ (Nat.le_refl _), List.take_length]
theorem highF_drop {l : List Rw} (h : Rise l) (m : UInt64) (hn : hasN m.toNat l = false) : highF l m = l.drop (lwN m.toNat l) := by
  unfold highF
  rw [selK_filter _ _ _ (Nat.le_refl _), high_drop h m.toNat hn _ (Nat.le_refl _), List.take_length]
/-- A row with a new state at its place. -/
def putN (l : List Rw) (x : Rw) : List Rw := l.take (lwN x.n.toNat l) ++ [x] ++ l.drop (lwN x.n.toNat l)
theorem putN_len (l : List Rw) (x : Rw) : (putN l x).length = l.length + 1 := by
  have := lwN_le x.n.toNat l
  unfold putN
  simp
  omega
theorem putN_get (l : List Rw) (x : Rw) (k : Nat) : (putN l x).getD k Rw.zero = if k < lwN x.n.toNat l then l.getD k Rw.zero else if k = lwN x.n.toNat l then x else l.getD (k - 1) Rw.zero := by
  have hle := lwN_le x.n.toNat l
  unfold putN
  generalize lwN x.n.toNat l = q at *
  simp only [List.getD_eq_getElem?_getD, List.append_assoc]
  split
  · rename_i h
    rw [List.getElem?_append_left (by simp; omega), List.getElem?_take_of_lt h]
  · rename_i h
    rw [List.getElem?_append_right (by simp; omega), List.length_take, Nat.min_eq_left hle]
    split
    · rename_i h2
      rw [h2, Nat.sub_self]
      rfl
    · rename_i h2
      rw [show k - q = (k - 1 - q) + 1 by omega, List.singleton_append, List.getElem?_cons_succ, List.getElem?_drop, show q + (k - 1 - q) = k - 1 by omega]
theorem Rise.put {l : List Rw} (h : Rise l) (x : Rw) (hn : hasN x.n.toNat l = false) : Rise (putN l x) := by
  intro i j hij hj
  rw [putN_len] at hj
  have hle := lwN_le x.n.toNat l
  have hlt := lwN_lt x.n.toNat l
  have hgt : ∀ k, lwN x.n.toNat l ≤ k → k < l.length → x.n.toNat < (l.getD k Rw.zero).n.toNat := by
    intro k h1 h2
    have h3 := h.ge x.n.toNat k h1 h2
    rcases Nat.lt_or_eq_of_le h3 with q | q
    · exact q
    · exfalso
      rcases Nat.lt_or_eq_of_le h1 with r | r
      · have := h _ _ r h2
        have := h.ge x.n.toNat (lwN x.n.toNat l) (Nat.le_refl _) (by omega)
        omega
      · unfold hasN at hn
        rw [decide_eq_false_iff_not] at hn
        exact hn ⟨by omega, by rw [r]; exact q.symm⟩
  rw [putN_get, putN_get]
  split
  · rename_i a
    split
    · exact h _ _ hij (by omega)
    · split
      · exact hlt i a
      · exact h _ _ (by omega) (by omega)
  · rename_i a
    rw [if_neg (show ¬ j < lwN x.n.toNat l by omega)]
    split
    · rename_i b
      rw [if_neg (show ¬ j = lwN x.n.toNat l by omega)]
      exact hgt _ (by omega) (by omega)
    · rename_i b
      rw [if_neg (show ¬ j = lwN x.n.toNat l by omega)]
      exact h _ _ (by omega) (by omega)
theorem Rise.one (x : Rw) : Rise [x] := by
  intro i j hij hj
  simp at hj
  omega
/-- Take, of a rising row. -/
theorem takeF_has {l : List Rw} (h : Rise l) (x : Ins) (hn : hasN x.n.toNat l = true) : takeF l x = (l.drop (min (lwN x.thr.toNat l) (l.length - 1)), false, 0) := by
  have := (hasN_fst h x.n).1
  unfold takeF
  rw [if_pos (by rw [hn] at this; exact of_decide_eq_true this.symm), thrF_drop h]
theorem takeF_far {l : List Rw} (h : Rise l) (x : Ins) (hn : hasN x.n.toNat l = false) (hf : hasN x.o.toNat l = false ∨ x.n.toNat < x.o.toNat) : takeF l x = (l, false, 230) := by
  have h1 := (hasN_fst h x.n).1
  have h2 := (hasN_fst h x.o).1
  unfold takeF
  rw [if_neg (by rw [hn] at h1; exact of_decide_eq_false h1.symm), if_pos ?_]
  rcases hf with q | q
  · rw [q] at h2
    exact .inl (of_decide_eq_false h2.symm)
  · exact .inr q
theorem takeF_full {l : List Rw} (h : Rise l) (x : Ins) (hn : hasN x.n.toNat l = false) (ho : hasN x.o.toNat l = true) (hno : ¬ x.n.toNat < x.o.toNat) (h32 : 32 ≤ l.length - lwN x.thr.toNat l) : takeF l x = (l, false, 231) := by
  have h1 := (hasN_fst h x.n).1
  have h2 := (hasN_fst h x.o).1
  rw [hn] at h1
  rw [ho] at h2
  unfold takeF
  rw [if_neg (of_decide_eq_false h1.symm), if_neg (by
    rintro (q | q)
    · exact q (of_decide_eq_true h2.symm)
    · exact hno q), if_pos ?_]
  rw [thrF_drop h, List.length_drop]
  omega
theorem takeF_new {l : List Rw} (h : Rise l) (x : Ins) (hn : hasN x.n.toNat l = false) (ho : hasN x.o.toNat l = true) (hno : ¬ x.n.toNat < x.o.toNat) (h32 : ¬ 32 ≤ l.length - lwN x.thr.toNat l) :
    takeF l x = ((putN l ⟨x.n, (l.getD (lwN x.o.toNat l) Rw.zero).t ++ x.dif, 0⟩).drop (min (lwN x.thr.toNat (putN l ⟨x.n, (l.getD (lwN x.o.toNat l) Rw.zero).t ++ x.dif, 0⟩)) (l.length + 1 - 1)), decide (lwN x.n.toNat l = l.length), 0) := by
  have h1 := (hasN_fst h x.n).1
  have h2 := (hasN_fst h x.o).1
  have h3 := (hasN_fst h x.o).2 ho
  have hle := lwN_le x.n.toNat l
  rw [hn] at h1
  rw [ho] at h2
  unfold takeF
  rw [if_neg (of_decide_eq_false h1.symm), if_neg (by
    rintro (q | q)
    · exact q (of_decide_eq_true h2.symm)
    · exact hno q), if_neg (by rw [thrF_drop h, List.length_drop]; omega)]
  have e : lowF l x.n ++ [rowF l x] ++ highF l x.n = putN l ⟨x.n, (l.getD (lwN x.o.toNat l) Rw.zero).t ++ x.dif, 0⟩ := by
    rw [lowF_take h, highF_drop h _ hn]
    unfold putN rowF
    rw [h3]
  rw [e, thrF_drop (h.put _ hn), putN_len, lowF_take h, List.length_take, Nat.min_eq_left hle]
end Go.Proofs.Ytikkekdmahdgaaa
