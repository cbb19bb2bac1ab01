/- The plain mathematics of codes: where each one stands, that they leave no gap, and that none begins another. -/
import Derived.Test.YtcppfoolhkcfaaaN
import Derived.Test.YtcppfoolhkcfaaaM
namespace Go.Proofs.Ytcppfoolhkcfaaa.Gf

/-- What the codes of lengths below n take. -/
def low (l : List Int) (n : Nat) : Nat := wgt (l.filter fun x => decide (x < (n : Int)))
/-- What the codes of the length n among the first k symbols take. -/
def eqk (l : List Int) (n k : Nat) : Nat := wgt ((l.take k).filter fun x => x == (n : Int))
/-- Where the next code of the length n stands behind k symbols. -/
def nxt (l : List Int) (n k : Nat) : Nat := low l n + eqk l n k
def ln (l : List Int) (i : Nat) : Nat := (l.getD i 0).toNat
def cod (l : List Int) (i : Nat) : Nat := nxt l (ln l i) i / 2 ^ (15 - ln l i)

theorem low_succ (l : List Int) (n : Nat) : low l (n + 1) = low l n + eqk l n l.length := by
  unfold low eqk
  rw [List.take_length]
  induction l with
  | nil => simp [wgt]
  | cons x r ih =>
    simp only [List.filter_cons]
    by_cases h1 : x < (n : Int)
    · have h2 : x < ((n + 1 : Nat) : Int) := by omega
      have h3 : (x == (n : Int)) = false := by rw [beq_eq_false_iff_ne]; omega
      simp only [h1, h2, h3, decide_true, if_true, wgt]
      simp only [Bool.false_eq_true, if_false]
      omega
    · by_cases h4 : x = (n : Int)
      · subst h4
        have h2 : (n : Int) < ((n + 1 : Nat) : Int) := by omega
        simp only [h2, decide_true, if_true, wgt, Int.lt_irrefl, decide_false, beq_self_eq_true, Bool.false_eq_true, if_false]
        omega
      · have h2 : ¬ x < ((n + 1 : Nat) : Int) := by omega
        have h3 : (x == (n : Int)) = false := by rw [beq_eq_false_iff_ne]; exact h4
        simp only [h1, h2, h3, decide_false, Bool.false_eq_true, if_false]
        exact ih
theorem eqk_zero (l : List Int) (n : Nat) : eqk l n 0 = 0 := by simp [eqk, wgt]
theorem eqk_succ (l : List Int) (n k : Nat) (h : k < l.length) : eqk l n (k + 1) = eqk l n k + if l.getD k 0 = (n : Int) then shr (n : Int) else 0 := by
  unfold eqk
  have e : l.getD k 0 = l[k] := by simp [h]
  rw [List.take_succ_eq_append_getElem h, List.filter_append, wgt_app, e]
  congr 1
  by_cases h1 : l[k] = (n : Int)
  · simp [h1, wgt]
  · have h2 : (l[k] == (n : Int)) = false := by rw [beq_eq_false_iff_ne]; exact h1
    simp [h1, wgt]
theorem eqk_mono (l : List Int) (n : Nat) {j k : Nat} (h : j ≤ k) (hk : k ≤ l.length) : eqk l n j ≤ eqk l n k := by
  induction k with
  | zero => have : j = 0 := by omega
            subst this; exact Nat.le_refl _
  | succ k ih =>
    by_cases h1 : j = k + 1
    · subst h1; exact Nat.le_refl _
    · have := ih (by omega) (by omega)
      rw [eqk_succ l n k (by omega)]
      omega
theorem low_mono (l : List Int) {m n : Nat} (h : m ≤ n) : low l m ≤ low l n := by
  induction n with
  | zero => have : m = 0 := by omega
            subst this; exact Nat.le_refl _
  | succ n ih =>
    by_cases h1 : m = n + 1
    · subst h1; exact Nat.le_refl _
    · have := ih (by omega)
      rw [low_succ]
      omega
theorem wgt_eq_zero (l : List Int) (h : ∀ x ∈ l, x = 0) : wgt l = 0 := by
  induction l with
  | nil => rfl
  | cons x r ih =>
    rw [wgt, ih fun y hy => h y (List.mem_cons_of_mem _ hy), h x List.mem_cons_self]; rfl
theorem low_zero (l : List Int) (h : l.all lenB = true) : low l 0 = 0 := by
  unfold low
  apply wgt_eq_zero
  intro x hx
  rw [List.mem_filter] at hx
  have h1 := List.all_eq_true.1 h x hx.1
  have h2 := of_decide_eq_true h1
  have h3 : x < ((0 : Nat) : Int) := of_decide_eq_true hx.2
  omega
theorem low_one (l : List Int) (h : l.all lenB = true) : low l 1 = 0 := by
  rw [low_succ, low_zero l h]
  unfold eqk
  rw [Nat.zero_add]
  apply wgt_eq_zero
  intro x hx
  rw [List.mem_filter] at hx
  simpa using hx.2
theorem low_all (l : List Int) (h : l.all lenB = true) : low l 16 = wgt l := by
  unfold low
  congr 1
  rw [List.filter_eq_self]
  intro x hx
  have h1 := List.all_eq_true.1 h x hx
  have h2 := of_decide_eq_true h1
  exact decide_eq_true (by omega)
theorem low_le (l : List Int) (h : l.all lenB = true) (n : Nat) (hn : n ≤ 16) : low l n ≤ wgt l := by rw [← low_all l h]; exact low_mono l hn
theorem nxt_le (l : List Int) (h : l.all lenB = true) (n k : Nat) (hn : n ≤ 15) (hk : k ≤ l.length) : nxt l n k ≤ wgt l := by
  have h1 := low_le l h (n + 1) (by omega)
  rw [low_succ] at h1
  have h2 := eqk_mono l n hk (Nat.le_refl _)
  unfold nxt; omega
theorem dvd_wgt (d : Nat) (l : List Int) (h : ∀ x ∈ l, d ∣ shr x) : d ∣ wgt l := by
  induction l with
  | nil => exact Nat.dvd_zero _
  | cons x r ih => exact Nat.dvd_add (h x List.mem_cons_self) (ih fun y hy => h y (List.mem_cons_of_mem _ hy))
theorem dvd_shr (n : Nat) (x : Int) (h : x ≤ (n : Int)) (_ : 0 ≤ x) : 2 ^ (15 - n) ∣ shr x := by
  unfold shr
  split
  · exact Nat.dvd_zero _
  · exact Nat.pow_dvd_pow 2 (by omega)
theorem dvd_nxt (l : List Int) (h : l.all lenB = true) (n k : Nat) : 2 ^ (15 - n) ∣ nxt l n k := by
  unfold nxt low eqk
  apply Nat.dvd_add
  · apply dvd_wgt
    intro x hx
    rw [List.mem_filter] at hx
    have h1 := of_decide_eq_true (List.all_eq_true.1 h x hx.1)
    have h2 := of_decide_eq_true hx.2
    exact dvd_shr n x (by omega) h1.1
  · apply dvd_wgt
    intro x hx
    rw [List.mem_filter] at hx
    have h2 : x = (n : Int) := by simpa using hx.2
    exact dvd_shr n x (by omega) (by omega)
theorem ln_le (l : List Int) (h : l.all lenB = true) (i : Nat) : ln l i ≤ 15 ∧ (l.getD i 0) = (ln l i : Int) := by
  unfold ln
  by_cases hi : i < l.length
  · have := of_decide_eq_true (all_get lenB l h i hi)
    omega
  · have e : l.getD i 0 = 0 := by rw [List.getD_eq_getElem?_getD, List.getElem?_eq_none (by omega)]; rfl
    rw [e]; exact ⟨by decide, rfl⟩
theorem shr_pos (n : Nat) (h : n ≠ 0) (_ : n ≤ 15) : shr (n : Int) = 2 ^ (15 - n) := by
  unfold shr; rw [if_neg (by omega), Int.toNat_natCast]
/-- The next place behind the code of i. -/
theorem nxt_succ (l : List Int) (h : l.all lenB = true) (i : Nat) (hi : i < l.length) (h0 : ln l i ≠ 0) : nxt l (ln l i) (i + 1) = nxt l (ln l i) i + 2 ^ (15 - ln l i) := by
  unfold nxt
  rw [eqk_succ l _ i hi, if_pos (ln_le l h i).2, shr_pos _ h0 (ln_le l h i).1]
  omega
theorem nxt_other (l : List Int) (n k : Nat) (h : k < l.length) (hn : l.getD k 0 ≠ (n : Int)) : nxt l n (k + 1) = nxt l n k := by
  unfold nxt; rw [eqk_succ l n k h, if_neg hn]; omega
theorem end_le (l : List Int) (h : l.all lenB = true) (i : Nat) (hi : i < l.length) (h0 : ln l i ≠ 0) : nxt l (ln l i) i + 2 ^ (15 - ln l i) ≤ wgt l := by
  rw [← nxt_succ l h i hi h0]
  exact nxt_le l h _ _ (ln_le l h i).1 hi
/-- One of two codes lies wholly ahead of the other. -/
theorem apart (l : List Int) (h : l.all lenB = true) (i j : Nat) (hi : i < l.length) (hj : j < l.length) (hij : i ≠ j) (h0 : ln l i ≠ 0) (k0 : ln l j ≠ 0) :
    nxt l (ln l i) i + 2 ^ (15 - ln l i) ≤ nxt l (ln l j) j ∨ nxt l (ln l j) j + 2 ^ (15 - ln l j) ≤ nxt l (ln l i) i := by
  have key : ∀ i j, i < l.length → j < l.length → ln l i ≠ 0 → (ln l i < ln l j ∨ (ln l i = ln l j ∧ i < j)) → nxt l (ln l i) i + 2 ^ (15 - ln l i) ≤ nxt l (ln l j) j := by
    intro i j hi hj h0 hlt
    rw [← nxt_succ l h i hi h0]
    rcases hlt with h1 | ⟨h1, h2⟩
    · have a1 := eqk_mono l (ln l i) (show i + 1 ≤ l.length from hi) (Nat.le_refl _)
      have a2 := low_succ l (ln l i)
      have a3 := low_mono l (show ln l i + 1 ≤ ln l j from h1)
      unfold nxt; omega
    · rw [h1]
      have a1 := eqk_mono l (ln l j) (show i + 1 ≤ j from h2) (by omega)
      unfold nxt; omega
  rcases Nat.lt_trichotomy (ln l i) (ln l j) with h1 | h1 | h1
  · exact .inl (key i j hi hj h0 (.inl h1))
  · rcases Nat.lt_or_gt_of_ne hij with h2 | h2
    · exact .inl (key i j hi hj h0 (.inr ⟨h1, h2⟩))
    · exact .inr (key j i hj hi k0 (.inr ⟨h1.symm, h2⟩))
  · exact .inr (key j i hj hi k0 (.inl h1))
theorem step_find (f : Nat → Nat) (v : Nat) : ∀ b a, a ≤ b → f a ≤ v → v < f b → ∃ n, a ≤ n ∧ n < b ∧ f n ≤ v ∧ v < f (n + 1)
  | 0, a, hab, h1, h2 => by
    have : a = 0 := by omega
    subst this; omega
  | b + 1, a, hab, h1, h2 => by
    by_cases h3 : a = b + 1
    · subst h3; omega
    · by_cases h4 : v < f b
      · obtain ⟨n, p1, p2, p3⟩ := step_find f v b a (by omega) h1 h4
        exact ⟨n, p1, by omega, p3⟩
      · exact ⟨b, by omega, by omega, by omega, h2⟩
/-- The codes leave no gap below the weight. -/
theorem cover (l : List Int) (h : l.all lenB = true) (v : Nat) (hv : v < wgt l) : ∃ i, i < l.length ∧ ln l i ≠ 0 ∧ nxt l (ln l i) i ≤ v ∧ v < nxt l (ln l i) i + 2 ^ (15 - ln l i) := by
  obtain ⟨n, h1, h2, h3, h4⟩ := step_find (low l) v 16 1 (by decide) (by rw [low_one l h]; omega) (by rw [low_all l h]; exact hv)
  obtain ⟨k, g1, g2, g3, g4⟩ := step_find (nxt l n) v l.length 0 (Nat.zero_le _) (by unfold nxt; rw [eqk_zero]; omega) (by unfold nxt; rw [← low_succ]; exact h4)
  have hk : l.getD k 0 = (n : Int) := Classical.byContradiction fun hn => by rw [nxt_other l n k g2 hn] at g4; omega
  have hl : ln l k = n := by unfold ln; rw [hk]; rfl
  have h0 : ln l k ≠ 0 := by omega
  refine ⟨k, g2, h0, by rw [hl]; exact g3, ?_⟩
  rw [← nxt_succ l h k g2 h0, hl]; exact g4
theorem cod_mul (l : List Int) (h : l.all lenB = true) (i : Nat) : cod l i * 2 ^ (15 - ln l i) = nxt l (ln l i) i := by
  unfold cod; exact Nat.div_mul_cancel (dvd_nxt l h _ _)
theorem cod_lt (l : List Int) (h : l.all lenB = true) (hw : wgt l ≤ 32768) (i : Nat) (hi : i < l.length) : cod l i < 2 ^ ln l i := by
  by_cases h0 : ln l i = 0
  · have : cod l i = 0 := by
      unfold cod
      rw [h0]
      have h1 : nxt l 0 i ≤ low l 1 := by
        rw [low_succ]; unfold nxt
        have := eqk_mono l 0 (show i ≤ l.length by omega) (Nat.le_refl _)
        omega
      rw [low_one l h] at h1
      have : nxt l 0 i = 0 := by omega
      rw [this, Nat.zero_div]
    rw [this]; exact Nat.two_pow_pos _
  · have h1 := end_le l h i hi h0
    have h2 := cod_mul l h i
    have h3 := (ln_le l h i).1
    have h4 : 2 ^ ln l i * 2 ^ (15 - ln l i) = 32768 := by rw [← Nat.pow_add, show ln l i + (15 - ln l i) = 15 by omega]
    apply Nat.lt_of_mul_lt_mul_right (a := 2 ^ (15 - ln l i))
    rw [h2, h4]
    have := Nat.two_pow_pos (15 - ln l i)
    omega
theorem cod_zero (l : List Int) (h : l.all lenB = true) (hw : wgt l ≤ 32768) (i : Nat) (hi : i < l.length) (h0 : ln l i = 0) : cod l i = 0 := by
  have := cod_lt l h hw i hi
  rw [h0] at this; omega
/-- The bits c, s of them, begin with the code of i if and only if they stand within its share. -/
theorem begins (l : List Int) (h : l.all lenB = true) (i s c : Nat) (hs : s ≤ 15) (hi : ln l i ≤ s) : c / 2 ^ (s - ln l i) = cod l i ↔ nxt l (ln l i) i ≤ c * 2 ^ (15 - s) ∧ c * 2 ^ (15 - s) < nxt l (ln l i) i + 2 ^ (15 - ln l i) := by
  rw [← cod_mul l h i]
  have e : 2 ^ (15 - ln l i) = 2 ^ (s - ln l i) * 2 ^ (15 - s) := by rw [← Nat.pow_add]; congr 1; omega
  rw [e, ← Nat.mul_assoc, ← Nat.add_mul]
  have p1 := Nat.two_pow_pos (15 - s)
  have p2 := Nat.two_pow_pos (s - ln l i)
  rw [Nat.mul_le_mul_right_iff p1, Nat.mul_lt_mul_right p1, Nat.div_eq_iff p2]
  constructor
  · rintro ⟨h1, h2⟩; exact ⟨h1, by omega⟩
  · rintro ⟨h1, h2⟩; exact ⟨h1, by omega⟩
/-- No code begins another one. -/
theorem free (l : List Int) (h : l.all lenB = true) (i j : Nat) (hi : i < l.length) (hj : j < l.length) (hij : i ≠ j) (h0 : ln l i ≠ 0) (hl : ln l i ≤ ln l j) : cod l j / 2 ^ (ln l j - ln l i) ≠ cod l i := by
  intro he
  have h15 := (ln_le l h j).1
  have hb := (begins l h i (ln l j) (cod l j) h15 hl).1 he
  rw [cod_mul l h j] at hb
  have ha := apart l h i j hi hj hij h0 (by omega)
  have := Nat.two_pow_pos (15 - ln l j)
  omega
theorem cod_inj (l : List Int) (h : l.all lenB = true) (i j : Nat) (hi : i < l.length) (hj : j < l.length) (h0 : ln l i ≠ 0) (hl : ln l i = ln l j) (hc : cod l i = cod l j) : i = j :=
  Classical.byContradiction fun hij => free l h i j hi hj hij h0 (by omega) (by rw [hl, Nat.sub_self, Nat.pow_zero, Nat.div_one, hc])
end Go.Proofs.Ytcppfoolhkcfaaa.Gf
