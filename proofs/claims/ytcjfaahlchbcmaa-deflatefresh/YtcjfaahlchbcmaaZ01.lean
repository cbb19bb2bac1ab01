/- The plain mathematics of lengths and their weight: no Go, no program. -/

namespace Go.Proofs.Ytcjfaahlchbcmaa.Gf

/-- What a code of such a length takes of the whole. -/
def shr (x : Int) : Nat := if x = 0 then 0 else 2 ^ (15 - x.toNat)
def wgt : List Int → Nat
  | [] => 0
  | x :: r => shr x + wgt r
def lenB (x : Int) : Bool := decide (0 ≤ x ∧ x ≤ 15)
def cntB (x : Int) : Bool := decide (0 ≤ x ∧ x ≤ 1048576)
def chkE (l : List Int) : Int := if l.all lenB = false ∨ 32768 < wgt l then 2 else if 512 < l.length then 4 else 0
def wgtE (l : List Int) : Int := if l.all lenB = false then 2 else if 512 < l.length then 4 else 0
def wgtN (l : List Int) : Nat := if wgtE l = 0 then wgt l else 0
def badE (c : List Int) : Int := if c.all cntB = false then 2 else if 512 < c.length then 4 else 0
def cst : List Int → List Int → Int
  | x :: r, y :: q => x * y + cst r q
  | _, _ => 0
def cstE (c l : List Int) : Int := if c.length ≠ l.length ∨ c.all cntB = false then 2 else chkE l
def cstN (c l : List Int) : Int := if cstE c l = 0 then cst c l else 0

theorem shr_le (x : Int) : shr x ≤ 32768 := by
  unfold shr; split
  · omega
  · exact Nat.le_trans (Nat.pow_le_pow_right (by decide) (Nat.sub_le _ _)) (by decide)
theorem wgt_app (a b : List Int) : wgt (a ++ b) = wgt a + wgt b := by
  induction a with
  | nil => simp [wgt]
  | cons x r ih => simp only [List.cons_append, wgt, ih]; omega
theorem wgt_take (l : List Int) (k : Nat) (h : k < l.length) : wgt (l.take (k + 1)) = wgt (l.take k) + shr (l.getD k 0) := by
  rw [List.take_succ_eq_append_getElem h, wgt_app]
  have e : l.getD k 0 = l[k] := by simp [h]
  rw [e]; rfl
theorem wgt_take_le (l : List Int) (k : Nat) : wgt (l.take k) ≤ wgt l := by
  have := wgt_app (l.take k) (l.drop k)
  rw [List.take_append_drop] at this
  omega
theorem wgt_len (l : List Int) : wgt l ≤ 32768 * l.length := by
  induction l with
  | nil => simp [wgt]
  | cons x r ih => have := shr_le x; simp only [wgt, List.length_cons]; omega
theorem all_take (p : Int → Bool) (l : List Int) (k : Nat) (h : k < l.length) (ht : (l.take k).all p = true) (hm : p (l.getD k 0) = true) : (l.take (k + 1)).all p = true := by
  have e : l.getD k 0 = l[k] := by simp [h]
  rw [e] at hm
  rw [List.take_succ_eq_append_getElem h, List.all_append, ht]; simp [hm]
theorem all_not (p : Int → Bool) (l : List Int) (k : Nat) (h : k < l.length) (hm : p (l.getD k 0) = false) : l.all p = false := by
  have e : l.getD k 0 = l[k] := by simp [h]
  rw [e] at hm
  rw [List.all_eq_false]
  exact ⟨_, List.getElem_mem h, by simp [hm]⟩
theorem all_get (p : Int → Bool) (l : List Int) (ha : l.all p = true) (k : Nat) (h : k < l.length) : p (l.getD k 0) = true := by
  have e : l.getD k 0 = l[k] := by simp [h]
  rw [e]; exact List.all_eq_true.1 ha _ (List.getElem_mem h)
theorem cst_take (c l : List Int) (k : Nat) (h : k < c.length) (hl : k < l.length) : cst (c.take (k + 1)) (l.take (k + 1)) = cst (c.take k) (l.take k) + c.getD k 0 * l.getD k 0 := by
  induction c generalizing l k with
  | nil => simp at h
  | cons x r ih =>
    cases l with
    | nil => simp at hl
    | cons y q =>
      cases k with
      | zero => simp [cst]
      | succ k =>
        have := ih q k (by simpa using h) (by simpa using hl)
        simp only [List.take_succ_cons, cst] at this ⊢
        simp only [List.getD_cons_succ]
        omega
theorem cst_bound (c l : List Int) (hc : c.all cntB = true) (hl : l.all lenB = true) : 0 ≤ cst c l ∧ cst c l ≤ 15728640 * c.length := by
  induction c generalizing l with
  | nil => simp [cst]
  | cons x r ih =>
    cases l with
    | nil => simp [cst]; omega
    | cons y q =>
      simp only [List.all_cons, Bool.and_eq_true, cntB, lenB, decide_eq_true_eq] at hc hl
      have := ih q hc.2 hl.2
      have h1 : 0 ≤ x * y := Int.mul_nonneg hc.1.1 hl.1.1
      have h2 : x * y ≤ 1048576 * 15 := Int.mul_le_mul hc.1.2 hl.1.2 hl.1.1 (by decide)
      simp only [cst, List.length_cons]
      omega
theorem all_take_of (p : Int → Bool) (l : List Int) (k : Nat) (h : l.all p = true) : (l.take k).all p = true := by
  rw [List.all_eq_true] at *
  exact fun x hx => h x (List.mem_of_mem_take hx)
theorem chkE_cases (l : List Int) : (chkE l = 0 ∧ l.all lenB = true ∧ wgt l ≤ 32768 ∧ l.length ≤ 512) ∨ (chkE l = 4 ∧ l.all lenB = true ∧ wgt l ≤ 32768 ∧ 512 < l.length) ∨ (chkE l = 2 ∧ (l.all lenB = false ∨ 32768 < wgt l)) := by
  unfold chkE
  by_cases h : l.all lenB = false ∨ 32768 < wgt l
  · rw [if_pos h]; exact .inr (.inr ⟨rfl, h⟩)
  · rw [if_neg h]
    have h1 : l.all lenB = true := by cases he : l.all lenB <;> simp_all
    have h2 : wgt l ≤ 32768 := by
      apply Nat.le_of_not_lt; intro h3; exact h (.inr h3)
    by_cases h3 : 512 < l.length
    · rw [if_pos h3]; exact .inr (.inl ⟨rfl, h1, h2, h3⟩)
    · rw [if_neg h3]; exact .inl ⟨rfl, h1, h2, by omega⟩
end Go.Proofs.Ytcjfaahlchbcmaa.Gf

/- The plain mathematics of bits in bytes: no Go, no program. -/

namespace Go.Proofs.Ytcjfaahlchbcmaa.Gf

/-- The number of which the bytes are, the lowest first. -/
def num : List UInt8 → Nat
  | [] => 0
  | x :: r => x.toNat + 256 * num r
/-- So many bytes of a number, the lowest first. -/
def byt (n X : Nat) : List UInt8 := (List.range n).map fun j => UInt8.ofNat (X / 256 ^ j)
theorem byt_len (n X : Nat) : (byt n X).length = n := by simp [byt]

theorem num_bit (l : List UInt8) (p : Nat) : (num l).testBit p = (l.getD (p / 8) 0).toNat.testBit (p % 8) := by
  induction l generalizing p with
  | nil => simp [num]
  | cons x r ih =>
    have e : num (x :: r) = 2 ^ 8 * num r + x.toNat := by show x.toNat + 256 * num r = _; omega
    rw [e, Nat.testBit_two_pow_mul_add _ (show x.toNat < 2 ^ 8 from x.toNat_lt)]
    by_cases h : p < 8
    · rw [if_pos h, Nat.div_eq_of_lt h, Nat.mod_eq_of_lt h]; rfl
    · rw [if_neg h, ih]
      have e1 : p / 8 = (p - 8) / 8 + 1 := by omega
      have e2 : p % 8 = (p - 8) % 8 := by omega
      rw [e1, e2]; rfl
theorem num_lt (l : List UInt8) : num l < 256 ^ l.length := by
  induction l with
  | nil => simp [num]
  | cons x r ih =>
    have := x.toNat_lt
    simp only [num, List.length_cons, Nat.pow_succ]
    omega
theorem byt_getD (n X j : Nat) (h : j < n) : (byt n X).getD j 0 = UInt8.ofNat (X / 256 ^ j) := by
  simp [byt, h]
theorem byt_bit (n X p : Nat) (h : p / 8 < n) : ((byt n X).getD (p / 8) 0).toNat.testBit (p % 8) = X.testBit p := by
  rw [byt_getD _ _ _ h]
  have e : (UInt8.ofNat (X / 256 ^ (p / 8))).toNat = X / 2 ^ (8 * (p / 8)) % 2 ^ 8 := by
    rw [UInt8.toNat_ofNat', Nat.pow_mul]
  rw [e, Nat.testBit_mod_two_pow, Nat.testBit_div_two_pow]
  have h1 : p % 8 < 8 := Nat.mod_lt _ (by decide)
  have h2 : p % 8 + 8 * (p / 8) = p := by omega
  simp [h1, h2]
theorem num_byt (n X : Nat) (h : X < 256 ^ n) : num (byt n X) = X := by
  apply Nat.eq_of_testBit_eq
  intro p
  rw [num_bit]
  by_cases hp : p / 8 < n
  · exact byt_bit n X p hp
  · have h1 : (byt n X).getD (p / 8) 0 = 0 := by
      rw [List.getD_eq_getElem?_getD, List.getElem?_eq_none (by rw [byt_len]; omega)]; rfl
    rw [h1]
    have h2 : X < 2 ^ p := Nat.lt_of_lt_of_le h (by
      have : (256 : Nat) = 2 ^ 8 := rfl
      rw [this, ← Nat.pow_mul]; exact Nat.pow_le_pow_right (by decide) (by omega))
    rw [Nat.testBit_lt_two_pow h2]
    simp
theorem ext_bits {a b : List UInt8} (hl : a.length = b.length) (h : ∀ j, j < a.length → ∀ r, r < 8 → (a.getD j 0).toNat.testBit r = (b.getD j 0).toNat.testBit r) : a = b := by
  apply List.ext_getElem hl
  intro j h1 h2
  have hj := h j h1
  have e1 : a.getD j 0 = a[j] := by simp [h1]
  have e2 : b.getD j 0 = b[j] := by simp [h2]
  rw [e1, e2] at hj
  apply UInt8.toNat_inj.1
  apply Nat.eq_of_testBit_eq
  intro r
  by_cases hr : r < 8
  · exact hj r hr
  · have q : ∀ x : UInt8, x.toNat.testBit r = false := fun x => Nat.testBit_lt_two_pow (Nat.lt_of_lt_of_le x.toNat_lt (Nat.pow_le_pow_right (by decide) (show 8 ≤ r by omega)))
    rw [q, q]
theorem byt_bit' (n X j r : Nat) (hj : j < n) (hr : r < 8) : ((byt n X).getD j 0).toNat.testBit r = X.testBit (8 * j + r) := by
  have := byt_bit n X (8 * j + r) (by omega)
  rwa [show (8 * j + r) / 8 = j by omega, show (8 * j + r) % 8 = r by omega] at this

/-- One byte more is laid, from a place within it on. -/
theorem byt_or (n X at' c : Nat) (hX : X < 2 ^ at') (hn : at' / 8 < n) (hc : c < 2 ^ (8 - at' % 8)) :
    (byt n X).set (at' / 8) ((byt n X).getD (at' / 8) 0 ||| UInt8.ofNat (c * 2 ^ (at' % 8))) = byt n (X + c * 2 ^ at') := by
  have hsum : X + c * 2 ^ at' = 2 ^ at' * c + X := by rw [Nat.mul_comm]; omega
  apply ext_bits
  · rw [List.length_set, byt_len, byt_len]
  intro j hj r hr
  rw [List.length_set, byt_len] at hj
  rw [byt_bit' n _ j r hj hr, hsum, Nat.testBit_two_pow_mul_add _ hX]
  by_cases e : j = at' / 8
  · subst e
    rw [List.getD_eq_getElem?_getD, List.getElem?_set_self (by rw [byt_len]; exact hn)]
    simp only [Option.getD_some, UInt8.toNat_or, Nat.testBit_or]
    rw [byt_bit' n _ _ r hj hr]
    have hb : c * 2 ^ (at' % 8) < 256 := by
      calc c * 2 ^ (at' % 8) < 2 ^ (8 - at' % 8) * 2 ^ (at' % 8) := Nat.mul_lt_mul_of_pos_right hc (Nat.two_pow_pos _)
        _ = 2 ^ 8 := by rw [← Nat.pow_add]; congr 1; omega
    rw [UInt8.toNat_ofNat_of_lt' (show _ < 256 from hb), Nat.mul_comm c, Nat.testBit_two_pow_mul]
    by_cases hp : 8 * (at' / 8) + r < at'
    · rw [if_pos hp]
      have : ¬ at' % 8 ≤ r := by omega
      simp [this]
    · rw [if_neg hp, Nat.testBit_lt_two_pow (Nat.lt_of_lt_of_le hX (Nat.pow_le_pow_right (by decide) (by omega)))]
      have h1 : at' % 8 ≤ r := by omega
      have h2 : 8 * (at' / 8) + r - at' = r - at' % 8 := by omega
      rw [h2]; simp [h1]
  · rw [List.getD_eq_getElem?_getD, List.getElem?_set_ne (by omega), ← List.getD_eq_getElem?_getD, byt_bit' n _ _ r hj hr]
    by_cases hp : 8 * j + r < at'
    · rw [if_pos hp]
    · rw [if_neg hp, Nat.testBit_lt_two_pow (Nat.lt_of_lt_of_le hX (Nat.pow_le_pow_right (by decide) (by omega)))]
      symm
      apply Nat.testBit_lt_two_pow
      exact Nat.lt_of_lt_of_le hc (Nat.pow_le_pow_right (by decide) (by omega))

/-! Bits, one behind the other. -/
def may (x : Nat × Int) : Bool := decide (0 ≤ x.2 ∧ x.2 ≤ 64 ∧ x.1 < 2 ^ x.2.toNat)
def tot : List (Nat × Int) → Nat
  | [] => 0
  | x :: r => x.2.toNat + tot r
def val : List (Nat × Int) → Nat
  | [] => 0
  | x :: r => x.1 + 2 ^ x.2.toNat * val r
theorem tot_app (a b : List (Nat × Int)) : tot (a ++ b) = tot a + tot b := by
  induction a with
  | nil => simp [tot]
  | cons x r ih => simp only [List.cons_append, tot, ih]; omega
theorem val_app (a b : List (Nat × Int)) : val (a ++ b) = val a + 2 ^ tot a * val b := by
  induction a with
  | nil => simp [tot, val]
  | cons x r ih =>
    simp only [List.cons_append, val, tot, ih, Nat.pow_add, Nat.mul_add, Nat.mul_assoc]
    omega
theorem val_lt (l : List (Nat × Int)) (h : ∀ x ∈ l, may x = true) : val l < 2 ^ tot l := by
  induction l with
  | nil => simp [val, tot]
  | cons x r ih =>
    have h1 := h x (by simp)
    have h2 := ih fun y hy => h y (by simp [hy])
    simp only [may, decide_eq_true_eq] at h1
    simp only [val, tot, Nat.pow_add]
    have : 2 ^ x.2.toNat * val r + 2 ^ x.2.toNat ≤ 2 ^ x.2.toNat * 2 ^ tot r := by
      rw [← Nat.mul_succ]; exact Nat.mul_le_mul_left _ h2
    omega
theorem tot_take (l : List (Nat × Int)) (k : Nat) (h : k < l.length) : tot (l.take (k + 1)) = tot (l.take k) + (l.getD k (0, 0)).2.toNat := by
  rw [List.take_succ_eq_append_getElem h, tot_app]
  simp [tot, h]
theorem val_take (l : List (Nat × Int)) (k : Nat) (h : k < l.length) : val (l.take (k + 1)) = val (l.take k) + (l.getD k (0, 0)).1 * 2 ^ tot (l.take k) := by
  rw [List.take_succ_eq_append_getElem h, val_app]
  simp [val, h, Nat.mul_comm]
theorem tot_le (l : List (Nat × Int)) (k : Nat) : tot (l.take k) ≤ tot l := by
  have := tot_app (l.take k) (l.drop k)
  rw [List.take_append_drop] at this; omega
theorem tot_64 (l : List (Nat × Int)) (h : ∀ x ∈ l, may x = true) : tot l ≤ 64 * l.length := by
  induction l with
  | nil => simp [tot]
  | cons x r ih =>
    have h1 := h x (by simp)
    have h2 := ih fun y hy => h y (by simp [hy])
    simp only [may, decide_eq_true_eq] at h1
    simp only [tot, List.length_cons]
    omega
/-- What stands at a place is what was put there. -/
theorem val_read (l : List (Nat × Int)) (h : ∀ x ∈ l, may x = true) (k : Nat) (hk : k < l.length) : val l / 2 ^ tot (l.take k) % 2 ^ (l.getD k (0, 0)).2.toNat = (l.getD k (0, 0)).1 := by
  have e1 := val_app (l.take k) (l.drop k)
  rw [List.take_append_drop] at e1
  have lt := val_lt (l.take k) fun x hx => h x (List.mem_of_mem_take hx)
  rw [List.drop_eq_getElem_cons hk] at e1
  have e3 : l.getD k (0, 0) = l[k] := by simp [hk]
  have hm := h _ (List.getElem_mem hk)
  rw [e3]
  generalize l[k] = x at *
  simp only [may, decide_eq_true_eq] at hm
  rw [e1, Nat.add_comm, Nat.mul_add_div (Nat.two_pow_pos _), Nat.div_eq_of_lt lt, Nat.add_zero]
  simp only [val]
  rw [Nat.add_mul_mod_self_left, Nat.mod_eq_of_lt hm.2.2]

/-! The errors, and the answers. -/
def cntE (l : List (Nat × Int)) : Int := if ∀ x ∈ l, may x = true then (if tot l ≤ 524288 then 0 else 4) else 2
def cntN (l : List (Nat × Int)) : Int := if cntE l = 0 then (tot l : Int) else 0
def wid (l : List (Nat × Int)) : Nat := (tot l + 7) / 8
def out (l : List (Nat × Int)) : List UInt8 := if cntE l = 0 then byt (wid l) (val l) else []
def rdE (n : Nat) (at' size : Int) : Int := if at' < 0 ∨ size < 0 ∨ 64 < size then 2 else if 8 * (n : Int) < at' + size then 7 else 0
def rdV (l : List UInt8) (at' size : Int) : Nat := if rdE l.length at' size = 0 then num l / 2 ^ at'.toNat % 2 ^ size.toNat else 0
theorem rdV_lt (l : List UInt8) (at' size : Int) : rdV l at' size < 2 ^ 64 := by
  unfold rdV
  split
  · rename_i h
    unfold rdE at h
    split at h
    · omega
    · refine Nat.lt_of_lt_of_le (Nat.mod_lt _ (Nat.two_pow_pos _)) (Nat.pow_le_pow_right (by decide) (by omega))
  · exact Nat.two_pow_pos _
theorem cntE_cases (l : List (Nat × Int)) : cntE l = 0 ∧ (∀ x ∈ l, may x = true) ∧ tot l ≤ 524288 ∨ cntE l = 4 ∧ (∀ x ∈ l, may x = true) ∧ 524288 < tot l ∨ cntE l = 2 ∧ ¬ ∀ x ∈ l, may x = true := by
  unfold cntE
  by_cases h : ∀ x ∈ l, may x = true
  · rw [if_pos h]
    by_cases h2 : tot l ≤ 524288
    · rw [if_pos h2]; exact .inl ⟨rfl, h, h2⟩
    · rw [if_neg h2]; exact .inr (.inl ⟨rfl, h, by omega⟩)
  · rw [if_neg h]; exact .inr (.inr ⟨rfl, h⟩)

/-! Turned round. -/
def rev (v : Nat) : Nat → Nat
  | 0 => 0
  | k + 1 => 2 * rev v k + v / 2 ^ k % 2
theorem rev_lt (v k : Nat) : rev v k < 2 ^ k := by
  induction k with
  | zero => simp [rev]
  | succ k ih => simp only [rev, Nat.pow_succ]; omega
theorem rev_bit (v k j : Nat) : (rev v k).testBit j = (decide (j < k) && v.testBit (k - 1 - j)) := by
  induction k generalizing j with
  | zero => simp [rev]
  | succ k ih =>
    have hb : v / 2 ^ k % 2 < 2 ^ 1 := by omega
    have e : rev v (k + 1) = 2 ^ 1 * rev v k + v / 2 ^ k % 2 := rfl
    rw [e, Nat.testBit_two_pow_mul_add _ hb]
    by_cases hj : j < 1
    · have : j = 0 := by omega
      subst this
      rw [if_pos hj]
      simp [Nat.testBit_eq_decide_div_mod_eq]
    · rw [if_neg hj, ih]
      have e2 : k - 1 - (j - 1) = k + 1 - 1 - j := by omega
      rw [e2]
      have : (j - 1 < k) ↔ (j < k + 1) := by omega
      simp [this]
theorem rev_rev (v k : Nat) (h : v < 2 ^ k) : rev (rev v k) k = v := by
  apply Nat.eq_of_testBit_eq
  intro j
  rw [rev_bit, rev_bit]
  by_cases hj : j < k
  · have h1 : k - 1 - j < k := by omega
    have h2 : k - 1 - (k - 1 - j) = j := by omega
    simp [hj, h1, h2]
  · have h3 : v.testBit j = false := Nat.testBit_lt_two_pow (Nat.lt_of_lt_of_le h (Nat.pow_le_pow_right (by decide) (by omega)))
    simp [hj, h3]

/-! Reading. -/
/-- bytes gathered, from a place within the first one on -/
def gat (l : List UInt8) (r k : Nat) : Nat := num (l.take k) / 2 ^ r % 2 ^ 64
theorem num_take (l : List UInt8) (k : Nat) (h : k < l.length) : num (l.take (k + 1)) = num (l.take k) + 256 ^ k * (l.getD k 0).toNat := by
  induction l generalizing k with
  | nil => simp at h
  | cons x t ih =>
    cases k with
    | zero => simp [num]
    | succ k =>
      have := ih k (by simpa using h)
      simp only [List.take_succ_cons, num, List.getD_cons_succ] at *
      rw [this, Nat.pow_succ, Nat.mul_add]
      have : 256 * (256 ^ k * (t.getD k 0).toNat) = 256 ^ k * 256 * (t.getD k 0).toNat := by rw [Nat.mul_comm (256 ^ k) 256, Nat.mul_assoc]
      omega
theorem gat_one (l : List UInt8) (r : Nat) (h : 0 < l.length) : gat l r 1 = (l.getD 0 0).toNat / 2 ^ r := by
  have h1 := num_take l 0 h
  simp only [List.take_zero, num, Nat.pow_zero, Nat.one_mul, Nat.zero_add] at h1
  unfold gat
  rw [h1]
  exact Nat.mod_eq_of_lt (Nat.lt_of_le_of_lt (Nat.div_le_self _ _) (Nat.lt_trans (UInt8.toNat_lt _) (by decide)))
theorem gat_step (l : List UInt8) (r k : Nat) (h : k < l.length) (hk : 0 < k) (hr : r < 8) : gat l r k ||| (l.getD k 0).toNat * 2 ^ (8 * k - r) % 2 ^ 64 = gat l r (k + 1) := by
  have hlt := num_lt (l.take k)
  rw [List.length_take, Nat.min_eq_left (by omega), show (256 : Nat) = 2 ^ 8 from rfl, ← Nat.pow_mul] at hlt
  apply Nat.eq_of_testBit_eq
  intro p
  unfold gat
  rw [num_take l k h, show (256 : Nat) = 2 ^ 8 from rfl, ← Nat.pow_mul, Nat.add_comm (num _), Nat.mul_comm _ (2 ^ _)]
  simp only [Nat.testBit_or, Nat.testBit_mod_two_pow, Nat.testBit_div_two_pow, Nat.testBit_two_pow_mul]
  rw [Nat.testBit_two_pow_mul_add _ hlt]
  by_cases hp : p < 64
  · simp only [hp, decide_true, Bool.true_and]
    by_cases hq : p + r < 8 * k
    · rw [if_pos hq]
      have : ¬ (8 * k - r ≤ p) := by omega
      simp [this]
    · rw [if_neg hq, Nat.testBit_lt_two_pow (Nat.lt_of_lt_of_le hlt (Nat.pow_le_pow_right (by decide) (by omega)))]
      have h1 : 8 * k - r ≤ p := by omega
      have h2 : p - (8 * k - r) = p + r - 8 * k := by omega
      simp [h1, h2]
  · simp [hp]
theorem num_drop (l : List UInt8) (k : Nat) : num (l.drop k) = num l / 256 ^ k := by
  apply Nat.eq_of_testBit_eq
  intro p
  rw [num_bit, show (256 : Nat) = 2 ^ 8 from rfl, ← Nat.pow_mul, Nat.testBit_div_two_pow, num_bit]
  have e1 : (p + 8 * k) / 8 = k + p / 8 := by omega
  have e2 : (p + 8 * k) % 8 = p % 8 := by omega
  rw [e1, e2]
  simp [List.getD_eq_getElem?_getD, List.getElem?_drop]
theorem num_takeN (l : List UInt8) (k : Nat) : num (l.take k) = num l % 256 ^ k := by
  apply Nat.eq_of_testBit_eq
  intro p
  rw [num_bit, show (256 : Nat) = 2 ^ 8 from rfl, ← Nat.pow_mul, Nat.testBit_mod_two_pow, num_bit]
  by_cases h : p < 8 * k
  · simp only [h, decide_true, Bool.true_and]
    rw [List.getD_eq_getElem?_getD, List.getElem?_take_of_lt (by omega), ← List.getD_eq_getElem?_getD]
  · simp only [h, decide_false, Bool.false_and]
    rw [List.getD_eq_getElem?_getD, List.getElem?_eq_none (by rw [List.length_take]; omega)]
    simp
/-- what is read by whole bytes is what stands at the place -/
theorem read_gat (l : List UInt8) (at' size c : Nat) (hs : size ≤ 64) (hc : at' % 8 + size ≤ 8 * c) :
    gat ((l.drop (at' / 8)).take c) (at' % 8) c % 2 ^ size = num l / 2 ^ at' % 2 ^ size := by
  unfold gat
  rw [List.take_take, Nat.min_self, num_takeN, num_drop]
  apply Nat.eq_of_testBit_eq
  intro p
  simp only [show (256 : Nat) = 2 ^ 8 from rfl, ← Nat.pow_mul, Nat.testBit_mod_two_pow, Nat.testBit_div_two_pow]
  by_cases hp : p < size
  · have h1 : p < 64 := by omega
    have h2 : p + at' % 8 < 8 * c := by omega
    have h3 : p + at' % 8 + 8 * (at' / 8) = p + at' := by omega
    simp [hp, h1, h2, h3]
  · simp [hp]
/-- one bit more -/
theorem mod_step (X k : Nat) : X % 2 ^ k ||| X / 2 ^ k % 2 * 2 ^ k = X % 2 ^ (k + 1) := by
  apply Nat.eq_of_testBit_eq
  intro p
  rw [Nat.mul_comm]
  simp only [Nat.testBit_or, Nat.testBit_mod_two_pow, Nat.testBit_two_pow_mul]
  have e : (X / 2 ^ k % 2).testBit (p - k) = (decide (p - k < 1) && X.testBit (p - k + k)) := by
    have := Nat.testBit_mod_two_pow (X / 2 ^ k) 1 (p - k)
    rw [Nat.testBit_div_two_pow] at this
    exact this
  rw [e]
  by_cases h1 : p < k
  · have h2 : ¬ k ≤ p := by omega
    have h3 : p < k + 1 := by omega
    simp [h1, h2, h3]
  · by_cases h4 : p = k
    · subst h4; simp
    · have h5 : ¬ p - k < 1 := by omega
      have h6 : ¬ p < k + 1 := by omega
      simp [h1, h5, h6]
theorem bit_at (l : List UInt8) (p : Nat) : (l.getD (p / 8) 0).toNat / 2 ^ (p % 8) % 2 = num l / 2 ^ p % 2 := by
  have := num_bit l p
  rw [Nat.testBit_eq_decide_div_mod_eq, Nat.testBit_eq_decide_div_mod_eq] at this
  have h2 := decide_eq_decide.1 this
  omega
end Go.Proofs.Ytcjfaahlchbcmaa.Gf
