/- The plain mathematics of the reference's doubles: bit by bit. -/
import Derived.Test.YtmolhljgmaoflaaDoorOm
namespace Go.Proofs.YtmolhljgmaoflaaDoor.Gf

theorem numTo_bit (b : List UInt8) (o k p : Nat) (h : p < 8 * k) : (numTo b o k).testBit p = (b.getD (o + (k - 1 - p / 8)) 0).toNat.testBit (p % 8) := by
  induction k generalizing p with
  | zero => omega
  | succ k ih =>
    have e : numTo b o (k + 1) = 2 ^ 8 * numTo b o k + (b.getD (o + k) 0).toNat := by show numTo b o k * 256 + _ = _; omega
    rw [e, Nat.testBit_two_pow_mul_add _ (show (b.getD (o + k) 0).toNat < 2 ^ 8 from UInt8.toNat_lt _)]
    by_cases hp : p < 8
    · rw [if_pos hp, Nat.div_eq_of_lt hp, Nat.mod_eq_of_lt hp]; rfl
    · rw [if_neg hp, ih (p - 8) (by omega)]
      have e1 : k - 1 - (p - 8) / 8 = k + 1 - 1 - p / 8 := by omega
      have e2 : (p - 8) % 8 = p % 8 := by omega
      rw [e1, e2]
theorem half_bit (b : List UInt8) (o p : Nat) (h : p < 64) : (half b o).testBit p = (b.getD (o + (7 - p / 8)) 0).toNat.testBit (p % 8) := numTo_bit b o 8 p (by omega)
theorem half_out (b : List UInt8) (o p : Nat) (h : 64 ≤ p) : (half b o).testBit p = false :=
  Nat.testBit_lt_two_pow (Nat.lt_of_lt_of_le (show half b o < 2 ^ 64 from numTo_lt8 b o) (Nat.pow_le_pow_right (by decide) h))
theorem jTo_lo (h l k j : Nat) (hj : j < k) (hk : k ≤ 8) : (jTo h l k)[j]? = some (UInt8.ofNat (h / 2 ^ (56 - 8 * j))) := by
  induction k with
  | zero => omega
  | succ k ih =>
    rw [jTo, List.getElem?_set_ne (by omega)]
    by_cases e : j = k
    · subst e; rw [List.getElem?_set_self (by rw [jTo_len]; omega)]
    · rw [List.getElem?_set_ne (by omega)]; exact ih (by omega) (by omega)
theorem jTo_hi (h l k j : Nat) (hj : j < k) (hk : k ≤ 8) : (jTo h l k)[j + 8]? = some (UInt8.ofNat (l / 2 ^ (56 - 8 * j))) := by
  induction k with
  | zero => omega
  | succ k ih =>
    rw [jTo]
    by_cases e : j = k
    · subst e; rw [List.getElem?_set_self (by rw [List.length_set, jTo_len]; omega)]
    · rw [List.getElem?_set_ne (by omega), List.getElem?_set_ne (by omega)]; exact ih (by omega) (by omega)
theorem joinL_lo (h l j : Nat) (hj : j < 8) : (joinL h l).getD j 0 = UInt8.ofNat (h / 2 ^ (56 - 8 * j)) := by
  unfold joinL; rw [List.getD_eq_getElem?_getD, jTo_lo h l 8 j hj (Nat.le_refl _)]; rfl
theorem joinL_hi (h l j : Nat) (hj : j < 8) : (joinL h l).getD (j + 8) 0 = UInt8.ofNat (l / 2 ^ (56 - 8 * j)) := by
  unfold joinL; rw [List.getD_eq_getElem?_getD, jTo_hi h l 8 j hj (Nat.le_refl _)]; rfl
theorem ofNat_bit (X s r : Nat) (hr : r < 8) : (UInt8.ofNat (X / 2 ^ s)).toNat.testBit r = X.testBit (s + r) := by
  rw [UInt8.toNat_ofNat', show (2 : Nat) ^ 8 = 2 ^ 8 from rfl, Nat.testBit_mod_two_pow, Nat.testBit_div_two_pow]
  simp [hr, Nat.add_comm]
theorem byte_bit_out (x : UInt8) (r : Nat) (hr : 8 ≤ r) : x.toNat.testBit r = false :=
  Nat.testBit_lt_two_pow (Nat.lt_of_lt_of_le x.toNat_lt (Nat.pow_le_pow_right (by decide) hr))
theorem ext_bits {a b : List UInt8} (hl : a.length = b.length) (h : ∀ j, j < a.length → ∀ r, r < 8 → (a.getD j 0).toNat.testBit r = (b.getD j 0).toNat.testBit r) : a = b := by
  apply List.ext_getElem hl
  intro j h1 h2
  have hj := h j h1
  have e1 : a.getD j 0 = a[j] := by simp [h1]
  have e2 : b.getD j 0 = b[j] := by simp [h2]
  rw [e1, e2] at hj
  apply UInt8.toNat_inj.1
  apply Nat.eq_of_testBit_eq
  intro r
  by_cases hr : r < 8
  · exact hj r hr
  · rw [byte_bit_out _ _ (by omega), byte_bit_out _ _ (by omega)]

/-! The reference's double. -/
def rdB (b : List UInt8) (i : Nat) : UInt8 := UInt8.ofNat ((b.getD i 0).toNat * 2 % 256 ||| (b.getD (i + 1) 0).toNat / 128)
def rdbl (b : List UInt8) : List UInt8 := if (b.getD 0 0).toNat / 128 = 1 then ((List.range 16).map (rdB b)).set 15 (rdB b 15 ^^^ 135) else (List.range 16).map (rdB b)
theorem rdbl_len (b : List UInt8) : (rdbl b).length = 16 := by unfold rdbl; split <;> simp
theorem rdB_bit (b : List UInt8) (i r : Nat) (hr : r < 8) : (rdB b i).toNat.testBit r = if r = 0 then (b.getD (i + 1) 0).toNat.testBit 7 else (b.getD i 0).toNat.testBit (r - 1) := by
  have h1 : (b.getD i 0).toNat * 2 % 256 < 2 ^ 8 := Nat.mod_lt _ (by decide)
  have h2 : (b.getD (i + 1) 0).toNat / 128 < 2 ^ 8 := by have := (b.getD (i + 1) 0).toNat_lt; omega
  have h3 := Nat.or_lt_two_pow h1 h2
  unfold rdB
  rw [UInt8.toNat_ofNat_of_lt' (show _ < 256 from h3), Nat.testBit_or]
  have e1 : (b.getD i 0).toNat * 2 % 256 = (2 ^ 1 * (b.getD i 0).toNat) % 2 ^ 8 := by rw [Nat.mul_comm]
  have e2 : (b.getD (i + 1) 0).toNat / 128 = (b.getD (i + 1) 0).toNat / 2 ^ 7 := rfl
  rw [e1, e2, Nat.testBit_mod_two_pow, Nat.testBit_two_pow_mul, Nat.testBit_div_two_pow]
  by_cases h0 : r = 0
  · subst h0; simp
  · rw [if_neg h0, byte_bit_out _ (r + 7) (by omega)]
    have : 1 ≤ r := by omega
    simp [hr, this]
theorem top_bit (b : List UInt8) : (b.getD 0 0).toNat.testBit 7 = decide ((b.getD 0 0).toNat / 128 = 1) := by
  rw [Nat.testBit_eq_decide_div_mod_eq]
  have := (b.getD 0 0).toNat_lt
  rw [decide_eq_decide]
  omega
theorem half_top (b : List UInt8) : half b 0 / 2 ^ 63 = (b.getD 0 0).toNat / 128 := by
  have h1 := half_bit b 0 63 (by decide)
  have h2 : half b 0 < 18446744073709551616 := numTo_lt8 b 0
  have h3 := (b.getD 0 0).toNat_lt
  rw [Nat.testBit_eq_decide_div_mod_eq, Nat.testBit_eq_decide_div_mod_eq] at h1
  have h4 := decide_eq_decide.1 h1
  simp only [show 63 / 8 = 7 from rfl, show 63 % 8 = 7 from rfl, Nat.sub_self, Nat.add_zero] at h4
  omega
theorem rdbl_eq (b : List UInt8) (hb : b.length = 16) : rdbl b = dblk b := by
  apply ext_bits
  · rw [rdbl_len, dblk_len]
  intro j hj r hr
  rw [rdbl_len] at hj
  have h16 : b.getD 16 0 = 0 := by rw [List.getD_eq_getElem?_getD, List.getElem?_eq_none (by omega)]; rfl
  have get : ∀ i, i < 16 → ((List.range 16).map (rdB b)).getD i 0 = rdB b i := fun i hi => by simp [hi]
  unfold dblk
  by_cases h8 : j < 8
  · rw [joinL_lo _ _ j h8, ofNat_bit _ _ _ hr, Nat.testBit_or, Nat.testBit_mod_two_pow, Nat.mul_comm (half b 0) 2, show 2 * half b 0 = 2 ^ 1 * half b 0 from rfl, Nat.testBit_two_pow_mul, Nat.testBit_div_two_pow]
    have hL : (rdbl b).getD j 0 = rdB b j := by
      unfold rdbl
      split
      · rw [List.getD_eq_getElem?_getD, List.getElem?_set_ne (by omega), ← List.getD_eq_getElem?_getD, get j hj]
      · exact get j hj
    rw [hL, rdB_bit b j r hr]
    by_cases h0 : r = 0
    · subst h0
      rw [if_pos rfl]
      by_cases h7 : j = 7
      · subst h7
        simp only [show 56 - 8 * 7 + 0 = 0 from rfl, Nat.zero_add]
        rw [half_bit b 8 63 (by decide)]
        simp
      · rw [half_out b 8 _ (by omega), half_bit b 0 _ (by omega)]
        have e1 : 0 + (7 - (56 - 8 * j + 0 - 1) / 8) = j + 1 := by omega
        have e2 : (56 - 8 * j + 0 - 1) % 8 = 7 := by omega
        rw [e1, e2]
        have e3 : 56 - 8 * j + 0 < 64 := by omega
        have e4 : 1 ≤ 56 - 8 * j + 0 := by omega
        simp only [e3, decide_true, Bool.true_and, e4, Bool.or_false]
    · rw [if_neg h0, half_out b 8 _ (by omega), half_bit b 0 _ (by omega)]
      have e1 : 0 + (7 - (56 - 8 * j + r - 1) / 8) = j := by omega
      have e2 : (56 - 8 * j + r - 1) % 8 = r - 1 := by omega
      rw [e1, e2]
      have e3 : 56 - 8 * j + r < 64 := by omega
      have e4 : 1 ≤ 56 - 8 * j + r := by omega
      simp only [e3, decide_true, Bool.true_and, e4, Bool.or_false]
  · obtain ⟨i, rfl⟩ : ∃ i, j = i + 8 := ⟨j - 8, by omega⟩
    have hi : i < 8 := by omega
    rw [joinL_hi _ _ i hi, ofNat_bit _ _ _ hr, Nat.testBit_xor, Nat.testBit_mod_two_pow, Nat.mul_comm (half b 8) 2, show 2 * half b 8 = 2 ^ 1 * half b 8 from rfl, Nat.testBit_two_pow_mul, half_top]
    have hbase : (decide (56 - 8 * i + r < 64) && (decide (56 - 8 * i + r ≥ 1) && (half b 8).testBit (56 - 8 * i + r - 1))) = (rdB b (i + 8)).toNat.testBit r := by
      rw [rdB_bit b (i + 8) r hr]
      by_cases h0 : r = 0
      · subst h0
        rw [if_pos rfl]
        by_cases h7 : i = 7
        · subst h7
          rw [show 7 + 8 + 1 = 16 from rfl, h16]; simp
        · rw [half_bit b 8 _ (by omega)]
          have e1 : 8 + (7 - (56 - 8 * i + 0 - 1) / 8) = i + 8 + 1 := by omega
          have e2 : (56 - 8 * i + 0 - 1) % 8 = 7 := by omega
          rw [e1, e2]
          have e3 : 56 - 8 * i + 0 < 64 := by omega
          have e4 : 1 ≤ 56 - 8 * i + 0 := by omega
          simp only [e3, decide_true, Bool.true_and, e4]
      · rw [if_neg h0, half_bit b 8 _ (by omega)]
        have e1 : 8 + (7 - (56 - 8 * i + r - 1) / 8) = i + 8 := by omega
        have e2 : (56 - 8 * i + r - 1) % 8 = r - 1 := by omega
        rw [e1, e2]
        have e3 : 56 - 8 * i + r < 64 := by omega
        have e4 : 1 ≤ 56 - 8 * i + r := by omega
        simp only [e3, decide_true, Bool.true_and, e4]
    rw [hbase]
    unfold rdbl
    by_cases ht : (b.getD 0 0).toNat / 128 = 1
    · rw [if_pos ht, ht, Nat.one_mul]
      by_cases h15 : i = 7
      · subst h15
        rw [List.getD_eq_getElem?_getD, List.getElem?_set_self (by simp)]
        simp only [Option.getD_some, UInt8.toNat_xor, Nat.testBit_xor]
        rw [show 56 - 8 * 7 + r = r by omega]
        rfl
      · rw [List.getD_eq_getElem?_getD, List.getElem?_set_ne (by omega), ← List.getD_eq_getElem?_getD, get _ hj]
        have : Nat.testBit 135 (56 - 8 * i + r) = false := Nat.testBit_lt_two_pow (Nat.lt_of_lt_of_le (show 135 < 2 ^ 8 by decide) (Nat.pow_le_pow_right (by decide) (by omega)))
        rw [this, Bool.xor_false]
    · rw [if_neg ht, get _ hj]
      have : (b.getD 0 0).toNat / 128 = 0 := by have := (b.getD 0 0).toNat_lt; omega
      rw [this, Nat.zero_mul, Nat.zero_testBit, Bool.xor_false]
end Go.Proofs.YtmolhljgmaoflaaDoor.Gf
