/- The plain mathematics of lengths and their weight: no Go, no program. -/
import Derived.Test.YtcjfaahlchbcmaaK05
import Derived.Test.YtcjfaahlchbcmaaK02
import Derived.Deep.QuietTactic
import Derived.BigQuiet
namespace Go.Proofs.Ytcjfaahlchbcmaa.Gf
def shr (x : Int) : Nat := if x = 0 then 0 else 2 ^ (15 - x.toNat)
def wgt : List Int → Nat
  | [] => 0
  | x :: r => shr x + wgt r
def lenB (x : Int) : Bool := decide (0 ≤ x ∧ x ≤ 15)
def cntB (x : Int) : Bool := decide (0 ≤ x ∧ x ≤ 1048576)
def chkE (l : List Int) : Int := if l.all lenB = false ∨ 32768 < wgt l then 2 else if 512 < l.length then 4 else 0
def wgtE (l : List Int) : Int := if l.all lenB = false then 2 else if 512 < l.length then 4 else 0
def wgtN (l : List Int) : Nat := if wgtE l = 0 then wgt l else 0
def badE (c : List Int) : Int := if c.all cntB = false then 2 else if 512 < c.length then 4 else 0
def cstE (c l : List Int) : Int := if c.length ≠ l.length ∨ c.all cntB = false then 2 else chkE l
theorem shr_le (x : Int) : shr x ≤ 32768 := by
  unfold shr; split
  · omega
  · exact Nat.le_trans (Nat.pow_le_pow_right (by decide) (Nat.sub_le _ _)) (by decide)
theorem wgt_app (a b : List Int) : wgt (a ++ b) = wgt a + wgt b := by
  induction a with
  | nil => simp [wgt]
  | cons x r ih => simp only [List.cons_append, wgt, ih]; omega
theorem wgt_take (l : List Int) (k : Nat) (h : k < l.length) : wgt (l.take (k + 1)) = wgt (l.take k) + shr (l.getD k 0) := by
  rw [List.take_succ_eq_append_getElem h, wgt_app]
  have e : l.getD k 0 = l[k] := by simp [h]
  rw [e]; rfl
theorem wgt_take_le (l : List Int) (k : Nat) : wgt (l.take k) ≤ wgt l := by
  have := wgt_app (l.take k) (l.drop k)
  rw [List.take_append_drop] at this
  omega
theorem all_take (p : Int → Bool) (l : List Int) (k : Nat) (h : k < l.length) (ht : (l.take k).all p = true) (hm : p (l.getD k 0) = true) : (l.take (k + 1)).all p = true := by
  have e : l.getD k 0 = l[k] := by simp [h]
  rw [e] at hm
  rw [List.take_succ_eq_append_getElem h, List.all_append, ht]; simp [hm]
theorem all_not (p : Int → Bool) (l : List Int) (k : Nat) (h : k < l.length) (hm : p (l.getD k 0) = false) : l.all p = false := by
  have e : l.getD k 0 = l[k] := by simp [h]
  rw [e] at hm
  rw [List.all_eq_false]
  exact ⟨_, List.getElem_mem h, by simp [hm]⟩
theorem all_get (p : Int → Bool) (l : List Int) (ha : l.all p = true) (k : Nat) (h : k < l.length) : p (l.getD k 0) = true := by
  have e : l.getD k 0 = l[k] := by simp [h]
  rw [e]; exact List.all_eq_true.1 ha _ (List.getElem_mem h)
theorem chkE_cases (l : List Int) : (chkE l = 0 ∧ l.all lenB = true ∧ wgt l ≤ 32768 ∧ l.length ≤ 512) ∨ (chkE l = 4 ∧ l.all lenB = true ∧ wgt l ≤ 32768 ∧ 512 < l.length) ∨ (chkE l = 2 ∧ (l.all lenB = false ∨ 32768 < wgt l)) := by
  unfold chkE
  by_cases h : l.all lenB = false ∨ 32768 < wgt l
  · rw [if_pos h]; exact .inr (.inr ⟨rfl, h⟩)
  · rw [if_neg h]
    have h1 : l.all lenB = true := by cases he : l.all lenB <;> simp_all
    have h2 : wgt l ≤ 32768 := by
      apply Nat.le_of_not_lt; intro h3; exact h (.inr h3)
    by_cases h3 : 512 < l.length
    · rw [if_pos h3]; exact .inr (.inl ⟨rfl, h1, h2, h3⟩)
    · rw [if_neg h3]; exact .inl ⟨rfl, h1, h2, by omega⟩
end Go.Proofs.Ytcjfaahlchbcmaa.Gf
namespace Go.Proofs.Ytcjfaahlchbcmaa.Gf
def num : List UInt8 → Nat
  | [] => 0
  | x :: r => x.toNat + 256 * num r
def byt (n X : Nat) : List UInt8 := (List.range n).map fun j => UInt8.ofNat (X / 256 ^ j)
theorem byt_len (n X : Nat) : (byt n X).length = n := by simp [byt]
theorem num_bit (l : List UInt8) (p : Nat) : (num l).testBit p = (l.getD (p / 8) 0).toNat.testBit (p % 8) := by
  induction l generalizing p with
  | nil => simp [num]
  | cons x r ih =>
    have e : num (x :: r) = 2 ^ 8 * num r + x.toNat := by show x.toNat + 256 * num r = _; omega
    rw [e, Nat.testBit_two_pow_mul_add _ (show x.toNat < 2 ^ 8 from x.toNat_lt)]
    by_cases h : p < 8
    · rw [if_pos h, Nat.div_eq_of_lt h, Nat.mod_eq_of_lt h]; rfl
    · rw [if_neg h, ih]
      have e1 : p / 8 = (p - 8) / 8 + 1 := by omega
      have e2 : p % 8 = (p - 8) % 8 := by omega
      rw [e1, e2]; rfl
theorem byt_getD (n X j : Nat) (h : j < n) : (byt n X).getD j 0 = UInt8.ofNat (X / 256 ^ j) := by
  simp [byt, h]
theorem byt_bit (n X p : Nat) (h : p / 8 < n) : ((byt n X).getD (p / 8) 0).toNat.testBit (p % 8) = X.testBit p := by
  rw [byt_getD _ _ _ h]
  have e : (UInt8.ofNat (X / 256 ^ (p / 8))).toNat = X / 2 ^ (8 * (p / 8)) % 2 ^ 8 := by
    rw [UInt8.toNat_ofNat', Nat.pow_mul]
  rw [e, Nat.testBit_mod_two_pow, Nat.testBit_div_two_pow]
  have h1 : p % 8 < 8 := Nat.mod_lt _ (by decide)
  have h2 : p % 8 + 8 * (p / 8) = p := by omega
  simp [h1, h2]
theorem num_byt (n X : Nat) (h : X < 256 ^ n) : num (byt n X) = X := by
  apply Nat.eq_of_testBit_eq
  intro p
  rw [num_bit]
  by_cases hp : p / 8 < n
  · exact byt_bit n X p hp
  · have h1 : (byt n X).getD (p / 8) 0 = 0 := by
      rw [List.getD_eq_getElem?_getD, List.getElem?_eq_none (by rw [byt_len]; omega)]; rfl
    rw [h1]
    have h2 : X < 2 ^ p := Nat.lt_of_lt_of_le h (by
      have : (256 : Nat) = 2 ^ 8 := rfl
      rw [this, ← Nat.pow_mul]; exact Nat.pow_le_pow_right (by decide) (by omega))
    rw [Nat.testBit_lt_two_pow h2]
    simp
theorem ext_bits {a b : List UInt8} (hl : a.length = b.length) (h : ∀ j, j < a.length → ∀ r, r < 8 → (a.getD j 0).toNat.testBit r = (b.getD j 0).toNat.testBit r) : a = b := by
  apply List.ext_getElem hl
  intro j h1 h2
  have hj := h j h1
  have e1 : a.getD j 0 = a[j] := by simp [h1]
  have e2 : b.getD j 0 = b[j] := by simp [h2]
  rw [e1, e2] at hj
  apply UInt8.toNat_inj.1
  apply Nat.eq_of_testBit_eq
  intro r
  by_cases hr : r < 8
  · exact hj r hr
  · have q : ∀ x : UInt8, x.toNat.testBit r = false := fun x => Nat.testBit_lt_two_pow (Nat.lt_of_lt_of_le x.toNat_lt (Nat.pow_le_pow_right (by decide) (show 8 ≤ r by omega)))
    rw [q, q]
theorem byt_bit' (n X j r : Nat) (hj : j < n) (hr : r < 8) : ((byt n X).getD j 0).toNat.testBit r = X.testBit (8 * j + r) := by
  have := byt_bit n X (8 * j + r) (by omega)
  rwa [show (8 * j + r) / 8 = j by omega, show (8 * j + r) % 8 = r by omega] at this
theorem byt_or (n X at' c : Nat) (hX : X < 2 ^ at') (hn : at' / 8 < n) (hc : c < 2 ^ (8 - at' % 8)) :
    (byt n X).set (at' / 8) ((byt n X).getD (at' / 8) 0 ||| UInt8.ofNat (c * 2 ^ (at' % 8))) = byt n (X + c * 2 ^ at') := by
  have hsum : X + c * 2 ^ at' = 2 ^ at' * c + X := by rw [Nat.mul_comm]; omega
  apply ext_bits
  · rw [List.length_set, byt_len, byt_len]
  intro j hj r hr
  rw [List.length_set, byt_len] at hj
  rw [byt_bit' n _ j r hj hr, hsum, Nat.testBit_two_pow_mul_add _ hX]
  by_cases e : j = at' / 8
  · subst e
    rw [List.getD_eq_getElem?_getD, List.getElem?_set_self (by rw [byt_len]; exact hn)]
    simp only [Option.getD_some, UInt8.toNat_or, Nat.testBit_or]
    rw [byt_bit' n _ _ r hj hr]
    have hb : c * 2 ^ (at' % 8) < 256 := by
      calc c * 2 ^ (at' % 8) < 2 ^ (8 - at' % 8) * 2 ^ (at' % 8) := Nat.mul_lt_mul_of_pos_right hc (Nat.two_pow_pos _)
        _ = 2 ^ 8 := by rw [← Nat.pow_add]; congr 1; omega
    rw [UInt8.toNat_ofNat_of_lt' (show _ < 256 from hb), Nat.mul_comm c, Nat.testBit_two_pow_mul]
    by_cases hp : 8 * (at' / 8) + r < at'
    · rw [if_pos hp]
      have : ¬ at' % 8 ≤ r := by omega
      simp [this]
    · rw [if_neg hp, Nat.testBit_lt_two_pow (Nat.lt_of_lt_of_le hX (Nat.pow_le_pow_right (by decide) (by omega)))]
      have h1 : at' % 8 ≤ r := by omega
      have h2 : 8 * (at' / 8) + r - at' = r - at' % 8 := by omega
      rw [h2]; simp [h1]
  · rw [List.getD_eq_getElem?_getD, List.getElem?_set_ne (by omega), ← List.getD_eq_getElem?_getD, byt_bit' n _ _ r hj hr]
    by_cases hp : 8 * j + r < at'
    · rw [if_pos hp]
    · rw [if_neg hp, Nat.testBit_lt_two_pow (Nat.lt_of_lt_of_le hX (Nat.pow_le_pow_right (by decide) (by omega)))]
      symm
      apply Nat.testBit_lt_two_pow
      exact Nat.lt_of_lt_of_le hc (Nat.pow_le_pow_right (by decide) (by omega))
def may (x : Nat × Int) : Bool := decide (0 ≤ x.2 ∧ x.2 ≤ 64 ∧ x.1 < 2 ^ x.2.toNat)
def tot : List (Nat × Int) → Nat
  | [] => 0
  | x :: r => x.2.toNat + tot r
def val : List (Nat × Int) → Nat
  | [] => 0
  | x :: r => x.1 + 2 ^ x.2.toNat * val r
theorem tot_app (a b : List (Nat × Int)) : tot (a ++ b) = tot a + tot b := by
  induction a with
  | nil => simp [tot]
  | cons x r ih => simp only [List.cons_append, tot, ih]; omega
theorem val_app (a b : List (Nat × Int)) : val (a ++ b) = val a + 2 ^ tot a * val b := by
  induction a with
  | nil => simp [tot, val]
  | cons x r ih =>
    simp only [List.cons_append, val, tot, ih, Nat.pow_add, Nat.mul_add, Nat.mul_assoc]
    omega
theorem val_lt (l : List (Nat × Int)) (h : ∀ x ∈ l, may x = true) : val l < 2 ^ tot l := by
  induction l with
  | nil => simp [val, tot]
  | cons x r ih =>
    have h1 := h x (by simp)
    have h2 := ih fun y hy => h y (by simp [hy])
    simp only [may, decide_eq_true_eq] at h1
    simp only [val, tot, Nat.pow_add]
    have : 2 ^ x.2.toNat * val r + 2 ^ x.2.toNat ≤ 2 ^ x.2.toNat * 2 ^ tot r := by
      rw [← Nat.mul_succ]; exact Nat.mul_le_mul_left _ h2
    omega
theorem tot_take (l : List (Nat × Int)) (k : Nat) (h : k < l.length) : tot (l.take (k + 1)) = tot (l.take k) + (l.getD k (0, 0)).2.toNat := by
  rw [List.take_succ_eq_append_getElem h, tot_app]
  simp [tot, h]
theorem val_take (l : List (Nat × Int)) (k : Nat) (h : k < l.length) : val (l.take (k + 1)) = val (l.take k) + (l.getD k (0, 0)).1 * 2 ^ tot (l.take k) := by
  rw [List.take_succ_eq_append_getElem h, val_app]
  simp [val, h, Nat.mul_comm]
theorem tot_le (l : List (Nat × Int)) (k : Nat) : tot (l.take k) ≤ tot l := by
  have := tot_app (l.take k) (l.drop k)
  rw [List.take_append_drop] at this; omega
def cntE (l : List (Nat × Int)) : Int := if ∀ x ∈ l, may x = true then (if tot l ≤ 524288 then 0 else 4) else 2
def cntN (l : List (Nat × Int)) : Int := if cntE l = 0 then (tot l : Int) else 0
def wid (l : List (Nat × Int)) : Nat := (tot l + 7) / 8
def out (l : List (Nat × Int)) : List UInt8 := if cntE l = 0 then byt (wid l) (val l) else []
def rdE (n : Nat) (at' size : Int) : Int := if at' < 0 ∨ size < 0 ∨ 64 < size then 2 else if 8 * (n : Int) < at' + size then 7 else 0
def rdV (l : List UInt8) (at' size : Int) : Nat := if rdE l.length at' size = 0 then num l / 2 ^ at'.toNat % 2 ^ size.toNat else 0
theorem cntE_cases (l : List (Nat × Int)) : cntE l = 0 ∧ (∀ x ∈ l, may x = true) ∧ tot l ≤ 524288 ∨ cntE l = 4 ∧ (∀ x ∈ l, may x = true) ∧ 524288 < tot l ∨ cntE l = 2 ∧ ¬ ∀ x ∈ l, may x = true := by
  unfold cntE
  by_cases h : ∀ x ∈ l, may x = true
  · rw [if_pos h]
    by_cases h2 : tot l ≤ 524288
    · rw [if_pos h2]; exact .inl ⟨rfl, h, h2⟩
    · rw [if_neg h2]; exact .inr (.inl ⟨rfl, h, by omega⟩)
  · rw [if_neg h]; exact .inr (.inr ⟨rfl, h⟩)
def rev (v : Nat) : Nat → Nat
  | 0 => 0
  | k + 1 => 2 * rev v k + v / 2 ^ k % 2
theorem rev_lt (v k : Nat) : rev v k < 2 ^ k := by
  induction k with
  | zero => simp [rev]
  | succ k ih => simp only [rev, Nat.pow_succ]; omega
theorem rev_bit (v k j : Nat) : (rev v k).testBit j = (decide (j < k) && v.testBit (k - 1 - j)) := by
  induction k generalizing j with
  | zero => simp [rev]
  | succ k ih =>
    have hb : v / 2 ^ k % 2 < 2 ^ 1 := by omega
    have e : rev v (k + 1) = 2 ^ 1 * rev v k + v / 2 ^ k % 2 := rfl
    rw [e, Nat.testBit_two_pow_mul_add _ hb]
    by_cases hj : j < 1
    · have : j = 0 := by omega
      subst this
      rw [if_pos hj]
      simp [Nat.testBit_eq_decide_div_mod_eq]
    · rw [if_neg hj, ih]
      have e2 : k - 1 - (j - 1) = k + 1 - 1 - j := by omega
      rw [e2]
      have : (j - 1 < k) ↔ (j < k + 1) := by omega
      simp [this]
theorem num_drop (l : List UInt8) (k : Nat) : num (l.drop k) = num l / 256 ^ k := by
  apply Nat.eq_of_testBit_eq
  intro p
  rw [num_bit, show (256 : Nat) = 2 ^ 8 from rfl, ← Nat.pow_mul, Nat.testBit_div_two_pow, num_bit]
  have e1 : (p + 8 * k) / 8 = k + p / 8 := by omega
  have e2 : (p + 8 * k) % 8 = p % 8 := by omega
  rw [e1, e2]
  simp [List.getD_eq_getElem?_getD, List.getElem?_drop]
theorem mod_step (X k : Nat) : X % 2 ^ k ||| X / 2 ^ k % 2 * 2 ^ k = X % 2 ^ (k + 1) := by
  apply Nat.eq_of_testBit_eq
  intro p
  rw [Nat.mul_comm]
  simp only [Nat.testBit_or, Nat.testBit_mod_two_pow, Nat.testBit_two_pow_mul]
  have e : (X / 2 ^ k % 2).testBit (p - k) = (decide (p - k < 1) && X.testBit (p - k + k)) := by
    have := Nat.testBit_mod_two_pow (X / 2 ^ k) 1 (p - k)
    rw [Nat.testBit_div_two_pow] at this
    exact this
  rw [e]
  by_cases h1 : p < k
  · have h2 : ¬ k ≤ p := by omega
    have h3 : p < k + 1 := by omega
    simp [h1, h2, h3]
  · by_cases h4 : p = k
    · subst h4; simp
    · have h5 : ¬ p - k < 1 := by omega
      have h6 : ¬ p < k + 1 := by omega
      simp [h1, h5, h6]
theorem bit_at (l : List UInt8) (p : Nat) : (l.getD (p / 8) 0).toNat / 2 ^ (p % 8) % 2 = num l / 2 ^ p % 2 := by
  have := num_bit l p
  rw [Nat.testBit_eq_decide_div_mod_eq, Nat.testBit_eq_decide_div_mod_eq] at this
  have h2 := decide_eq_decide.1 this
  omega
end Go.Proofs.Ytcjfaahlchbcmaa.Gf
namespace Go.Proofs.Ytcjfaahlchbcmaa.Gf
def low (l : List Int) (n : Nat) : Nat := wgt (l.filter fun x => decide (x < (n : Int)))
def eqk (l : List Int) (n k : Nat) : Nat := wgt ((l.take k).filter fun x => x == (n : Int))
def nxt (l : List Int) (n k : Nat) : Nat := low l n + eqk l n k
def ln (l : List Int) (i : Nat) : Nat := (l.getD i 0).toNat
def cod (l : List Int) (i : Nat) : Nat := nxt l (ln l i) i / 2 ^ (15 - ln l i)
theorem low_succ (l : List Int) (n : Nat) : low l (n + 1) = low l n + eqk l n l.length := by
  unfold low eqk
  rw [List.take_length]
  induction l with
  | nil => simp [wgt]
  | cons x r ih =>
    simp only [List.filter_cons]
    by_cases h1 : x < (n : Int)
    · have h2 : x < ((n + 1 : Nat) : Int) := by omega
      have h3 : (x == (n : Int)) = false := by rw [beq_eq_false_iff_ne]; omega
      simp only [h1, h2, h3, decide_true, if_true, wgt]
      simp only [Bool.false_eq_true, if_false]
      omega
    · by_cases h4 : x = (n : Int)
      · subst h4
        have h2 : (n : Int) < ((n + 1 : Nat) : Int) := by omega
        simp only [h2, decide_true, if_true, wgt, Int.lt_irrefl, decide_false, beq_self_eq_true, Bool.false_eq_true, if_false]
        omega
      · have h2 : ¬ x < ((n + 1 : Nat) : Int) := by omega
        have h3 : (x == (n : Int)) = false := by rw [beq_eq_false_iff_ne]; exact h4
        simp only [h1, h2, h3, decide_false, Bool.false_eq_true, if_false]
        exact ih
theorem eqk_zero (l : List Int) (n : Nat) : eqk l n 0 = 0 := by simp [eqk, wgt]
theorem eqk_succ (l : List Int) (n k : Nat) (h : k < l.length) : eqk l n (k + 1) = eqk l n k + if l.getD k 0 = (n : Int) then shr (n : Int) else 0 := by
  unfold eqk
  have e : l.getD k 0 = l[k] := by simp [h]
  rw [List.take_succ_eq_append_getElem h, List.filter_append, wgt_app, e]
  congr 1
  by_cases h1 : l[k] = (n : Int)
  · simp [h1, wgt]
  · have h2 : (l[k] == (n : Int)) = false := by rw [beq_eq_false_iff_ne]; exact h1
    simp [h1, wgt]
theorem eqk_mono (l : List Int) (n : Nat) {j k : Nat} (h : j ≤ k) (hk : k ≤ l.length) : eqk l n j ≤ eqk l n k := by
  induction k with
  | zero => have : j = 0 := by omega
            subst this; exact Nat.le_refl _
  | succ k ih =>
    by_cases h1 : j = k + 1
    · subst h1; exact Nat.le_refl _
    · have := ih (by omega) (by omega)
      rw [eqk_succ l n k (by omega)]
      omega
theorem low_mono (l : List Int) {m n : Nat} (h : m ≤ n) : low l m ≤ low l n := by
  induction n with
  | zero => have : m = 0 := by omega
            subst this; exact Nat.le_refl _
  | succ n ih =>
    by_cases h1 : m = n + 1
    · subst h1; exact Nat.le_refl _
    · have := ih (by omega)
      rw [low_succ]
      omega
theorem wgt_eq_zero (l : List Int) (h : ∀ x ∈ l, x = 0) : wgt l = 0 := by
  induction l with
  | nil => rfl
  | cons x r ih =>
    rw [wgt, ih fun y hy => h y (List.mem_cons_of_mem _ hy), h x List.mem_cons_self]; rfl
theorem low_zero (l : List Int) (h : l.all lenB = true) : low l 0 = 0 := by
  unfold low
  apply wgt_eq_zero
  intro x hx
  rw [List.mem_filter] at hx
  have h1 := List.all_eq_true.1 h x hx.1
  have h2 := of_decide_eq_true h1
  have h3 : x < ((0 : Nat) : Int) := of_decide_eq_true hx.2
  omega
theorem low_one (l : List Int) (h : l.all lenB = true) : low l 1 = 0 := by
  rw [low_succ, low_zero l h]
  unfold eqk
  rw [Nat.zero_add]
  apply wgt_eq_zero
  intro x hx
  rw [List.mem_filter] at hx
  simpa using hx.2
theorem low_all (l : List Int) (h : l.all lenB = true) : low l 16 = wgt l := by
  unfold low
  congr 1
  rw [List.filter_eq_self]
  intro x hx
  have h1 := List.all_eq_true.1 h x hx
  have h2 := of_decide_eq_true h1
  exact decide_eq_true (by omega)
theorem low_le (l : List Int) (h : l.all lenB = true) (n : Nat) (hn : n ≤ 16) : low l n ≤ wgt l := by rw [← low_all l h]; exact low_mono l hn
theorem nxt_le (l : List Int) (h : l.all lenB = true) (n k : Nat) (hn : n ≤ 15) (hk : k ≤ l.length) : nxt l n k ≤ wgt l := by
  have h1 := low_le l h (n + 1) (by omega)
  rw [low_succ] at h1
  have h2 := eqk_mono l n hk (Nat.le_refl _)
  unfold nxt; omega
theorem dvd_wgt (d : Nat) (l : List Int) (h : ∀ x ∈ l, d ∣ shr x) : d ∣ wgt l := by
  induction l with
  | nil => exact Nat.dvd_zero _
  | cons x r ih => exact Nat.dvd_add (h x List.mem_cons_self) (ih fun y hy => h y (List.mem_cons_of_mem _ hy))
theorem dvd_shr (n : Nat) (x : Int) (h : x ≤ (n : Int)) (_ : 0 ≤ x) : 2 ^ (15 - n) ∣ shr x := by
  unfold shr
  split
  · exact Nat.dvd_zero _
  · exact Nat.pow_dvd_pow 2 (by omega)
theorem dvd_nxt (l : List Int) (h : l.all lenB = true) (n k : Nat) : 2 ^ (15 - n) ∣ nxt l n k := by
  unfold nxt low eqk
  apply Nat.dvd_add
  · apply dvd_wgt
    intro x hx
    rw [List.mem_filter] at hx
    have h1 := of_decide_eq_true (List.all_eq_true.1 h x hx.1)
    have h2 := of_decide_eq_true hx.2
    exact dvd_shr n x (by omega) h1.1
  · apply dvd_wgt
    intro x hx
    rw [List.mem_filter] at hx
    have h2 : x = (n : Int) := by simpa using hx.2
    exact dvd_shr n x (by omega) (by omega)
theorem ln_le (l : List Int) (h : l.all lenB = true) (i : Nat) : ln l i ≤ 15 ∧ (l.getD i 0) = (ln l i : Int) := by
  unfold ln
  by_cases hi : i < l.length
  · have := of_decide_eq_true (all_get lenB l h i hi)
    omega
  · have e : l.getD i 0 = 0 := by rw [List.getD_eq_getElem?_getD, List.getElem?_eq_none (by omega)]; rfl
    rw [e]; exact ⟨by decide, rfl⟩
theorem shr_pos (n : Nat) (h : n ≠ 0) (_ : n ≤ 15) : shr (n : Int) = 2 ^ (15 - n) := by
  unfold shr; rw [if_neg (by omega), Int.toNat_natCast]
theorem nxt_succ (l : List Int) (h : l.all lenB = true) (i : Nat) (hi : i < l.length) (h0 : ln l i ≠ 0) : nxt l (ln l i) (i + 1) = nxt l (ln l i) i + 2 ^ (15 - ln l i) := by
  unfold nxt
  rw [eqk_succ l _ i hi, if_pos (ln_le l h i).2, shr_pos _ h0 (ln_le l h i).1]
  omega
theorem nxt_other (l : List Int) (n k : Nat) (h : k < l.length) (hn : l.getD k 0 ≠ (n : Int)) : nxt l n (k + 1) = nxt l n k := by
  unfold nxt; rw [eqk_succ l n k h, if_neg hn]; omega
theorem end_le (l : List Int) (h : l.all lenB = true) (i : Nat) (hi : i < l.length) (h0 : ln l i ≠ 0) : nxt l (ln l i) i + 2 ^ (15 - ln l i) ≤ wgt l := by
  rw [← nxt_succ l h i hi h0]
  exact nxt_le l h _ _ (ln_le l h i).1 hi
theorem apart (l : List Int) (h : l.all lenB = true) (i j : Nat) (hi : i < l.length) (hj : j < l.length) (hij : i ≠ j) (h0 : ln l i ≠ 0) (k0 : ln l j ≠ 0) :
    nxt l (ln l i) i + 2 ^ (15 - ln l i) ≤ nxt l (ln l j) j ∨ nxt l (ln l j) j + 2 ^ (15 - ln l j) ≤ nxt l (ln l i) i := by
  have key : ∀ i j, i < l.length → j < l.length → ln l i ≠ 0 → (ln l i < ln l j ∨ (ln l i = ln l j ∧ i < j)) → nxt l (ln l i) i + 2 ^ (15 - ln l i) ≤ nxt l (ln l j) j := by
    intro i j hi hj h0 hlt
    rw [← nxt_succ l h i hi h0]
    rcases hlt with h1 | ⟨h1, h2⟩
    · have a1 := eqk_mono l (ln l i) (show i + 1 ≤ l.length from hi) (Nat.le_refl _)
      have a2 := low_succ l (ln l i)
      have a3 := low_mono l (show ln l i + 1 ≤ ln l j from h1)
      unfold nxt; omega
    · rw [h1]
      have a1 := eqk_mono l (ln l j) (show i + 1 ≤ j from h2) (by omega)
      unfold nxt; omega
  rcases Nat.lt_trichotomy (ln l i) (ln l j) with h1 | h1 | h1
  · exact .inl (key i j hi hj h0 (.inl h1))
  · rcases Nat.lt_or_gt_of_ne hij with h2 | h2
    · exact .inl (key i j hi hj h0 (.inr ⟨h1, h2⟩))
    · exact .inr (key j i hj hi k0 (.inr ⟨h1.symm, h2⟩))
  · exact .inr (key j i hj hi k0 (.inl h1))
theorem step_find (f : Nat → Nat) (v : Nat) : ∀ b a, a ≤ b → f a ≤ v → v < f b → ∃ n, a ≤ n ∧ n < b ∧ f n ≤ v ∧ v < f (n + 1)
  | 0, a, hab, h1, h2 => by
    have : a = 0 := by omega
    subst this; omega
  | b + 1, a, hab, h1, h2 => by
    by_cases h3 : a = b + 1
    · subst h3; omega
    · by_cases h4 : v < f b
      · obtain ⟨n, p1, p2, p3⟩ := step_find f v b a (by omega) h1 h4
        exact ⟨n, p1, by omega, p3⟩
      · exact ⟨b, by omega, by omega, by omega, h2⟩
theorem cover (l : List Int) (h : l.all lenB = true) (v : Nat) (hv : v < wgt l) : ∃ i, i < l.length ∧ ln l i ≠ 0 ∧ nxt l (ln l i) i ≤ v ∧ v < nxt l (ln l i) i + 2 ^ (15 - ln l i) := by
  obtain ⟨n, h1, h2, h3, h4⟩ := step_find (low l) v 16 1 (by decide) (by rw [low_one l h]; omega) (by rw [low_all l h]; exact hv)
  obtain ⟨k, g1, g2, g3, g4⟩ := step_find (nxt l n) v l.length 0 (Nat.zero_le _) (by unfold nxt; rw [eqk_zero]; omega) (by unfold nxt; rw [← low_succ]; exact h4)
  have hk : l.getD k 0 = (n : Int) := Classical.byContradiction fun hn => by rw [nxt_other l n k g2 hn] at g4; omega
  have hl : ln l k = n := by unfold ln; rw [hk]; rfl
  have h0 : ln l k ≠ 0 := by omega
  refine ⟨k, g2, h0, by rw [hl]; exact g3, ?_⟩
  rw [← nxt_succ l h k g2 h0, hl]; exact g4
theorem cod_mul (l : List Int) (h : l.all lenB = true) (i : Nat) : cod l i * 2 ^ (15 - ln l i) = nxt l (ln l i) i := by
  unfold cod; exact Nat.div_mul_cancel (dvd_nxt l h _ _)
theorem cod_lt (l : List Int) (h : l.all lenB = true) (hw : wgt l ≤ 32768) (i : Nat) (hi : i < l.length) : cod l i < 2 ^ ln l i := by
  by_cases h0 : ln l i = 0
  · have : cod l i = 0 := by
      unfold cod
      rw [h0]
      have h1 : nxt l 0 i ≤ low l 1 := by
        rw [low_succ]; unfold nxt
        have := eqk_mono l 0 (show i ≤ l.length by omega) (Nat.le_refl _)
        omega
      rw [low_one l h] at h1
      have : nxt l 0 i = 0 := by omega
      rw [this, Nat.zero_div]
    rw [this]; exact Nat.two_pow_pos _
  · have h1 := end_le l h i hi h0
    have h2 := cod_mul l h i
    have h3 := (ln_le l h i).1
    have h4 : 2 ^ ln l i * 2 ^ (15 - ln l i) = 32768 := by rw [← Nat.pow_add, show ln l i + (15 - ln l i) = 15 by omega]
    apply Nat.lt_of_mul_lt_mul_right (a := 2 ^ (15 - ln l i))
    rw [h2, h4]
    have := Nat.two_pow_pos (15 - ln l i)
    omega
theorem cod_zero (l : List Int) (h : l.all lenB = true) (hw : wgt l ≤ 32768) (i : Nat) (hi : i < l.length) (h0 : ln l i = 0) : cod l i = 0 := by
  have := cod_lt l h hw i hi
  rw [h0] at this; omega
theorem begins (l : List Int) (h : l.all lenB = true) (i s c : Nat) (hs : s ≤ 15) (hi : ln l i ≤ s) : c / 2 ^ (s - ln l i) = cod l i ↔ nxt l (ln l i) i ≤ c * 2 ^ (15 - s) ∧ c * 2 ^ (15 - s) < nxt l (ln l i) i + 2 ^ (15 - ln l i) := by
  rw [← cod_mul l h i]
  have e : 2 ^ (15 - ln l i) = 2 ^ (s - ln l i) * 2 ^ (15 - s) := by rw [← Nat.pow_add]; congr 1; omega
  rw [e, ← Nat.mul_assoc, ← Nat.add_mul]
  have p1 := Nat.two_pow_pos (15 - s)
  have p2 := Nat.two_pow_pos (s - ln l i)
  rw [Nat.mul_le_mul_right_iff p1, Nat.mul_lt_mul_right p1, Nat.div_eq_iff p2]
  constructor
  · rintro ⟨h1, h2⟩; exact ⟨h1, by omega⟩
  · rintro ⟨h1, h2⟩; exact ⟨h1, by omega⟩
theorem free (l : List Int) (h : l.all lenB = true) (i j : Nat) (hi : i < l.length) (hj : j < l.length) (hij : i ≠ j) (h0 : ln l i ≠ 0) (hl : ln l i ≤ ln l j) : cod l j / 2 ^ (ln l j - ln l i) ≠ cod l i := by
  intro he
  have h15 := (ln_le l h j).1
  have hb := (begins l h i (ln l j) (cod l j) h15 hl).1 he
  rw [cod_mul l h j] at hb
  have ha := apart l h i j hi hj hij h0 (by omega)
  have := Nat.two_pow_pos (15 - ln l j)
  omega
theorem cod_inj (l : List Int) (h : l.all lenB = true) (i j : Nat) (hi : i < l.length) (hj : j < l.length) (h0 : ln l i ≠ 0) (hl : ln l i = ln l j) (hc : cod l i = cod l j) : i = j :=
  Classical.byContradiction fun hij => free l h i j hi hj hij h0 (by omega) (by rw [hl, Nat.sub_self, Nat.pow_zero, Nat.div_one, hc])
end Go.Proofs.Ytcjfaahlchbcmaa.Gf
namespace Go.Proofs.Ytcjfaahlchbcmaa
open Go.RowKit Go.BigFrame
theorem ret_int {k : IntKind} {a b : Int} (h : a = b) : Ending.returned (.int k a) = .returned (.int k b) := by rw [h]
theorem wrap_nat (n : Nat) : IntKind.u64.wrap ((n : Nat) : Int) = ((n % 18446744073709551616 : Nat) : Int) := by
  simp [IntKind.wrap, IntKind.bits, IntKind.signed]
def sizeB (s : Int) : Bool := decide (0 ≤ s ∧ s ≤ 64)
theorem isSize_any (s : Int) (w : World) : Calls Try.prog 87 #[.int .i64 s] w fun e w' => e = .returned (.bool (sizeB s)) ∧ w' = w := by
  unfold sizeB
  by_cases h1 : 0 ≤ s
  · by_cases h2 : s ≤ 64
    · rw [decide_eq_true (⟨h1, h2⟩ : 0 ≤ s ∧ s ≤ 64)]
      go_enter Try.func87, Try.ntmps87
      go_wp2
      go_ret
      exact ⟨rfl, rfl⟩
    · rw [decide_eq_false (fun h => h2 h.2 : ¬ (0 ≤ s ∧ s ≤ 64))]
      go_enter Try.func87, Try.ntmps87
      go_wp2
      go_ret
      exact ⟨rfl, rfl⟩
  · rw [decide_eq_false (fun h => h1 h.1 : ¬ (0 ≤ s ∧ s ≤ 64))]
    go_enter Try.func87, Try.ntmps87
    go_wp2
    go_ret
    exact ⟨rfl, rfl⟩
theorem low_int' : ∀ s : Nat, s < 65 → IntKind.u64.wrap (IntKind.u64.wrap (2 ^ s) - 1) = ((2 ^ s - 1 : Nat) : Int) := by decide +kernel
def lowN (s : Nat) : Nat := 2 ^ s - 1
theorem low_int (s : Nat) (h : s ≤ 64) : IntKind.u64.wrap (IntKind.u64.wrap (2 ^ s) - 1) = ((lowN s : Nat) : Int) := low_int' s (by omega)
set_option maxHeartbeats 400000 in
theorem lowest_any (s : Nat) (hs : s ≤ 64) (w : World) : Calls Try.prog 88 #[.int .i64 (s : Int)] w fun e w' => e = .returned (.int .u64 ((lowN s : Nat) : Int)) ∧ w' = w := by
  go_enter Try.func88, Try.ntmps88
  go_wp2
  go_ret
  exact ⟨ret_int (low_int s hs), rfl⟩
theorem bytesFor_any (s : Nat) (hs : s ≤ 9007199254740992) (w : World) : Calls Try.prog 65 #[.int .i64 (s : Int)] w fun e w' => e = .returned (.int .i64 (((s + 7) / 8 : Nat) : Int)) ∧ w' = w := by
  go_enter Try.func65, Try.ntmps65
  go_wp2
  go_ret
  exact ⟨ret_int (by omega), rfl⟩
set_option maxHeartbeats 1000000 in
theorem bitsMayBe_any (v : Nat) (s : Int) (w : World) : Calls Try.prog 78 #[.agg #[.int .u64 (v : Int), .int .i64 s]] w fun e w' => e = .returned (.bool (Gf.may (v, s))) ∧ Below w.heap.size w w' := by
  by_cases hs : 0 ≤ s ∧ s ≤ 64
  · obtain ⟨n, rfl⟩ : ∃ n : Nat, s = (n : Int) := ⟨s.toNat, by omega⟩
    have hn : n ≤ 64 := by omega
    have hB : sizeB (n : Int) = true := decide_eq_true hs
    have hM : Gf.may (v, (n : Int)) = decide (v ≤ lowN n) := by
      unfold Gf.may lowN
      have := Nat.two_pow_pos n
      rw [decide_eq_decide]
      simp only [Int.toNat_natCast]
      omega
    have h1 := fun w => isSize_any (n : Int) w
    rw [hB] at h1
    have h2 := fun w => lowest_any n hn w
    rw [hM]
    generalize lowN n = L at *
    clear hs hB hM
    go_enter Try.func78, Try.ntmps78
    go_wp2
    go_quiet ((first | (go_at_call 87; exact Calls.quiet_of_same (h1 _)) | (go_at_call 88; exact Calls.quiet_of_same (h2 _))))
    go_wp2
    go_ret
    exact ⟨rfl, Below.drewN ((Below.refl _ _).alloc (Nat.le_refl _) _) nq⟩
  · have hM : Gf.may (v, s) = false := decide_eq_false fun h => hs ⟨h.1, h.2.1⟩
    have h1 := fun w => isSize_any s w
    rw [show sizeB s = false from decide_eq_false hs] at h1
    rw [hM]
    clear hs hM
    go_enter Try.func78, Try.ntmps78
    go_wp2
    go_quiet ((go_at_call 87; exact Calls.quiet_of_same (h1 _)))
    go_wp2
    go_ret
    exact ⟨rfl, Below.drewN ((Below.refl _ _).alloc (Nat.le_refl _) _) nq⟩
open Go.RowKit Go.BigFrame
def Ints (N : Nat) (w : World) (v : Value) (l : List Int) : Prop :=
  ∃ a c, v = .slice a l.length c ∧ l.length ≤ c ∧ (l = [] ∨ ∃ b o, a = some ⟨b, o, none⟩ ∧ b < N ∧ ∀ k, k < l.length → w.cell? ⟨b, o + k, none⟩ = some (.int .i64 (l.getD k 0)))
theorem Ints.below {N M : Nat} {w w' : World} {v : Value} {l : List Int} (h : Ints N w v l) (hb : Below M w w') (hN : N ≤ M) : Ints N w' v l := by
  obtain ⟨a, c, h1, h2, h4⟩ := h
  refine ⟨a, c, h1, h2, ?_⟩
  rcases h4 with h4 | ⟨b, o, h5, h6, h7⟩
  · exact .inl h4
  · refine .inr ⟨b, o, h5, h6, fun k hk => ?_⟩
    rw [hb.cell (p := ⟨b, o + k, none⟩) (by show b < M; omega)]
    exact h7 k hk
theorem Ints.up {N M : Nat} {w : World} {v : Value} {l : List Int} (h : Ints N w v l) (hN : N ≤ M) : Ints M w v l := by
  obtain ⟨a, c, h1, h2, h4⟩ := h
  refine ⟨a, c, h1, h2, ?_⟩
  rcases h4 with h4 | ⟨b, o, h5, h6, h7⟩
  · exact .inl h4
  · exact .inr ⟨b, o, h5, by omega, h7⟩
theorem Ints.on {w w' : World} {v : Value} {l : List Int} (h : Ints w.heap.size w v l) (hb : Below w.heap.size w w') : Ints w'.heap.size w' v l :=
  (h.below hb (Nat.le_refl _)).up hb.size
theorem Ints.cells {N : Nat} {w : World} {a : Option Addr} {l : List Int} (h3 : l = [] ∨ ∃ b o, a = some ⟨b, o, none⟩ ∧ b < N ∧ ∀ k, k < l.length → w.cell? ⟨b, o + k, none⟩ = some (.int .i64 (l.getD k 0))) :
    ∀ k, k < l.length → ∃ b o, a = some ⟨b, o, none⟩ ∧ b < N ∧ w.cell? ⟨b, o + k, none⟩ = some (.int .i64 (l.getD k 0)) := by
  intro k hk
  rcases h3 with rfl | ⟨b, o, rfl, h5, h6⟩
  · simp at hk
  exact ⟨b, o, rfl, h5, h6 k hk⟩
theorem isLength_any (s : Int) (w : World) : Calls Try.prog 80 #[.int .i64 s] w fun e w' => e = .returned (.bool (Gf.lenB s)) ∧ w' = w := by
  unfold Gf.lenB
  by_cases h1 : 0 ≤ s
  · by_cases h2 : s ≤ 15
    · rw [decide_eq_true (⟨h1, h2⟩ : 0 ≤ s ∧ s ≤ 15)]
      go_enter Try.func80, Try.ntmps80
      go_wp2
      go_ret
      exact ⟨rfl, rfl⟩
    · rw [decide_eq_false (fun h => h2 h.2 : ¬ (0 ≤ s ∧ s ≤ 15))]
      go_enter Try.func80, Try.ntmps80
      go_wp2
      go_ret
      exact ⟨rfl, rfl⟩
  · rw [decide_eq_false (fun h => h1 h.1 : ¬ (0 ≤ s ∧ s ≤ 15))]
    go_enter Try.func80, Try.ntmps80
    go_wp2
    go_ret
    exact ⟨rfl, rfl⟩
theorem shl_shr' : ∀ n : Nat, n < 16 → n ≠ 0 → wrap64 (2 ^ (15 - n)) = ((Gf.shr (n : Int) : Nat) : Int) := by decide +kernel
theorem shl_shr (n : Nat) (h : n ≤ 15) (h0 : n ≠ 0) : wrap64 (2 ^ (15 - n)) = ((Gf.shr (n : Int) : Nat) : Int) := shl_shr' n (by omega) h0
theorem share_any (s : Int) (hs : Gf.lenB s = true) (w : World) : Calls Try.prog 81 #[.int .i64 s] w fun e w' => e = .returned (.int .i64 ((Gf.shr s : Nat) : Int)) ∧ w' = w := by
  have hs' := of_decide_eq_true hs
  obtain ⟨n, rfl⟩ : ∃ n : Nat, s = (n : Int) := ⟨s.toNat, by omega⟩
  have hn : n ≤ 15 := by omega
  clear hs hs'
  by_cases h0 : n = 0
  · subst h0
    go_enter Try.func81, Try.ntmps81
    go_wp2
    go_ret
    exact ⟨rfl, rfl⟩
  · have i0 : ((n : Int) == 0) = false := by rw [beq_eq_false_iff_ne]; omega
    go_enter Try.func81, Try.ntmps81
    go_wp2
    go_ret
    exact ⟨ret_int (shl_shr n hn h0), rfl⟩
set_option maxHeartbeats 1000000 in
theorem check_any (v : Value) (l : List Int) (hl : l.length ≤ 17592186044416) (w : World) (h : Ints w.heap.size w v l) :
    Calls Try.prog 69 #[v] w fun e w' => e = .returned (.int .i64 (Gf.chkE l)) ∧ w' = w := by
  obtain ⟨a, c, rfl, hc, h3⟩ := h
  have HCL := Box'.mk (Ints.cells h3)
  have TT := Box'.mk (Gf.wgt_take l)
  have TL := Box'.mk (Gf.wgt_take_le l)
  have AT := Box'.mk (Gf.all_take Gf.lenB l)
  have AN := Box'.mk (Gf.all_not Gf.lenB l)
  have CC := Box'.mk (Gf.chkE_cases l)
  have BAD : Box' (l.all Gf.lenB = false ∨ 32768 < Gf.wgt l → Gf.chkE l = 2) := ⟨fun h => if_pos h⟩
  have LE : Box' (l.take l.length = l) := ⟨List.take_length⟩
  generalize hn : l.length = n at *
  clear h3 hn
  go_enter Try.func69, Try.ntmps69
  go_wp2_with fail
  go_loop [3, 8] (fun t i => ∃ k m : Nat, k ≤ n ∧ i = .int .i64 (k : Int) ∧ t = .int .i64 (32768 - (m : Int)) ∧ m ≤ 32768 ∧ Box' (m = Gf.wgt (l.take k)) ∧ Box' ((l.take k).all Gf.lenB = true)) (fun _ i => n - (intOf i).toNat)
  case atStart => exact ⟨0, 0, by omega, rfl, rfl, by omega, ⟨by simp [Gf.wgt]⟩, ⟨by simp⟩⟩
  case round =>
    obtain ⟨k, m, hk, rfl, rfl, hm, HM, HA⟩ := hrel
    by_cases hlt : k < n
    · obtain ⟨b, o, rfl, hbw, c0⟩ := HCL.out k hlt
      have TK := Box'.mk (TT.out k hlt)
      have AK := Box'.mk (AT.out k hlt HA.out)
      have NK := Box'.mk (AN.out k hlt)
      have T1 := Box'.mk (TL.out (k + 1))
      have hi := fun w => isLength_any (l.getD k 0) w
      have hs := fun h w => share_any (l.getD k 0) h w
      have hsl := Gf.shr_le (l.getD k 0)
      generalize l.getD k 0 = x at *
      cases hx : Gf.lenB x with
      | false =>
        rw [hx] at hi
        have e2 := Box'.mk (BAD.out (.inl (NK.out hx)))
        clear HCL TT AT AN NK AK TL T1 CC BAD hs
        go_wp2_with (go_at_call 80; refine (hi _).mono ?_; rintro e w' ⟨rfl, rfl⟩)
        go_ret
        exact ⟨by rw [e2.out]; rfl, rfl⟩
      | true =>
        rw [hx] at hi
        have hs := hs hx
        have AK := Box'.mk (AK.out hx)
        generalize Gf.shr x = y at *
        clear hx
        by_cases hneg : m + y ≤ 32768
        · have i1 : ¬ (32768 : Int) - (m : Int) - (y : Int) < 0 := by omega
          clear HCL TT AT AN NK TL T1 CC BAD
          go_wp2_with (first | (go_at_call 80; refine (hi _).mono ?_; rintro e w' ⟨rfl, rfl⟩) | (go_at_call 81; refine (hs _).mono ?_; rintro e w' ⟨rfl, rfl⟩) | fail)
          refine ⟨⟨k + 1, m + y, by omega, by go_num, by go_num, by omega, ⟨by rw [TK.out, HM.out]⟩, ⟨AK.out⟩⟩, by simp [intOf]; omega⟩
        · have i1 : (32768 : Int) - (m : Int) - (y : Int) < 0 := by omega
          have e2 := Box'.mk (BAD.out (.inr (by have := T1.out; have := TK.out; have := HM.out; omega)))
          clear HCL TT AT AN NK TL T1 CC BAD
          go_wp2_with (first | (go_at_call 80; refine (hi _).mono ?_; rintro e w' ⟨rfl, rfl⟩) | (go_at_call 81; refine (hs _).mono ?_; rintro e w' ⟨rfl, rfl⟩) | fail)
          go_ret
          exact ⟨by rw [e2.out]; rfl, rfl⟩
    · obtain rfl : k = n := by omega
      have h1 := HM.out
      have hA := HA.out
      rw [LE.out] at h1 hA
      rcases CC.out with ⟨e1, _, _, e3⟩ | ⟨e1, _, _, e3⟩ | ⟨e1, e2⟩
      · have e5 := Box'.mk e1
        have e6 : ¬ (512 : Int) < (k : Int) := by omega
        clear h1 hA HCL TT AT AN TL CC BAD HM HA e1
        go_wp2_with fail
        go_ret
        exact ⟨by rw [e5.out]; rfl, rfl⟩
      · have e5 := Box'.mk e1
        have e6 : (512 : Int) < (k : Int) := by omega
        clear h1 hA HCL TT AT AN TL CC BAD HM HA e1
        go_wp2_with fail
        go_ret
        exact ⟨by rw [e5.out]; rfl, rfl⟩
      · exact absurd e2 (by rw [hA]; simp; omega)
end Go.Proofs.Ytcjfaahlchbcmaa
