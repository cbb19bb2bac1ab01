/- The plain mathematics of the reference's beginning: bits of stretched bytes, one by one. -/
import Derived.Test.YtfipijcnihpaiaaDoorRa
import Derived.Test.YtfipijcnihpaiaaDoorOj
namespace Go.Proofs.YtfipijcnihpaiaaDoor.Gf

def more (k : List UInt8) : Nat → List UInt8
  | 0 => k
  | i + 1 => more k i ++ [bx (k.getD i 0) (k.getD (i + 1) 0)]
theorem more_len (k : List UInt8) (i : Nat) : (more k i).length = k.length + i := by
  induction i with
  | zero => rfl
  | succ i ih => rw [more, List.length_append, ih]; rfl
theorem more_lo (k : List UInt8) (i j : Nat) (h : j < k.length) : (more k i)[j]? = k[j]? := by
  induction i with
  | zero => rfl
  | succ i ih => rw [more, List.getElem?_append_left (by rw [more_len]; omega), ih]
theorem more_hi (k : List UInt8) (i j : Nat) (h : j < i) : (more k i)[k.length + j]? = some (bx (k.getD j 0) (k.getD (j + 1) 0)) := by
  induction i with
  | zero => omega
  | succ i ih =>
    rw [more]
    by_cases e : j = i
    · subst e
      rw [List.getElem?_append_right (by rw [more_len]; omega), more_len, Nat.sub_self]; rfl
    · rw [List.getElem?_append_left (by rw [more_len]; omega)]; exact ih (by omega)
def bitAt (s : List UInt8) (q : Nat) : Nat := (s.getD (q / 8) 0).toNat / 2 ^ (7 - q % 8) % 2
theorem bitAt_bit (s : List UInt8) (q : Nat) : (bitAt s q = 1) = ((s.getD (q / 8) 0).toNat.testBit (7 - q % 8) = true) := by
  unfold bitAt
  rw [Nat.testBit_eq_decide_div_mod_eq, decide_eq_true_eq]
def oTo (s : List UInt8) (p : Nat) : Nat → List UInt8
  | 0 => zeros 16
  | t + 1 => (oTo s p t).set (t / 8) ((oTo s p t).getD (t / 8) 0 ||| UInt8.ofNat (bitAt s (p + t) * 2 ^ (7 - t % 8)))
theorem oTo_len (s : List UInt8) (p t : Nat) : (oTo s p t).length = 16 := by
  induction t with
  | zero => rfl
  | succ t ih => rw [oTo, List.length_set, ih]
theorem one_bit (d m r : Nat) (hd : d < 2) (hm : m < 8) : (UInt8.ofNat (d * 2 ^ m)).toNat.testBit r = (decide (r = m) && decide (d = 1)) := by
  have h2 : d * 2 ^ m < 256 := by
    have h3 : d * 2 ^ m ≤ 1 * 2 ^ m := Nat.mul_le_mul_right _ (by omega)
    have h4 : 2 ^ m ≤ 2 ^ 7 := Nat.pow_le_pow_right (by decide) (by omega)
    omega
  rw [UInt8.toNat_ofNat_of_lt' (show _ < 256 from h2), Nat.mul_comm, Nat.testBit_two_pow_mul]
  have hc : d = 0 ∨ d = 1 := by omega
  rcases hc with rfl | rfl
  · simp
  · by_cases e : r = m
    · subst e; simp
    · by_cases h : m ≤ r
      · have : r - m ≠ 0 := by omega
        simp only [ge_iff_le, h, decide_true, Bool.true_and, e, decide_false, Bool.false_and]
        exact Nat.testBit_lt_two_pow (Nat.lt_of_lt_of_le (show 1 < 2 ^ 1 by decide) (Nat.pow_le_pow_right (by decide) (by omega)))
      · simp [h, e]
theorem oTo_bit (s : List UInt8) (p t j r : Nat) (hj : j < 16) (hr : r < 8) (ht : t ≤ 128) : ((oTo s p t).getD j 0).toNat.testBit r = (decide (8 * j + 7 - r < t) && (s.getD ((p + (8 * j + 7 - r)) / 8) 0).toNat.testBit (7 - (p + (8 * j + 7 - r)) % 8)) := by
  induction t with
  | zero =>
    have : (oTo s p 0).getD j 0 = 0 := by rw [oTo, zeros, List.getD_eq_getElem?_getD, List.getElem?_replicate, if_pos hj]; rfl
    rw [this]; simp
  | succ t ih =>
    have ih := ih (by omega)
    rw [oTo]
    by_cases e : j = t / 8
    · subst e
      rw [List.getD_eq_getElem?_getD, List.getElem?_set_self (by rw [oTo_len]; exact hj)]
      simp only [Option.getD_some, UInt8.toNat_or, Nat.testBit_or]
      rw [ih, one_bit _ _ _ (show bitAt s (p + t) < 2 from Nat.mod_lt _ (by decide)) (by omega)]
      by_cases hq : r = 7 - t % 8
      · have e2 : 8 * (t / 8) + 7 - r = t := by omega
        rw [e2]
        have h1 : ¬ t < t := by omega
        have h2 : t < t + 1 := by omega
        simp only [h1, h2, decide_true, decide_false, Bool.false_and, Bool.true_and, Bool.false_or, hq]
        rw [Bool.eq_iff_iff, decide_eq_true_eq, bitAt_bit]
      · have h3 : (8 * (t / 8) + 7 - r < t) ↔ (8 * (t / 8) + 7 - r < t + 1) := by omega
        simp [hq, h3]
    · rw [List.getD_eq_getElem?_getD, List.getElem?_set_ne (by omega), ← List.getD_eq_getElem?_getD, ih]
      have h3 : (8 * j + 7 - r < t) ↔ (8 * j + 7 - r < t + 1) := by omega
      simp [h3]
theorem behind_bit (k : List UInt8) (x : Nat) (hx : x < 64) : (behind (half k 0) (half k 8)).testBit x = (bx (k.getD (7 - x / 8) 0) (k.getD (7 - x / 8 + 1) 0)).toNat.testBit (x % 8) := by
  unfold behind bx
  rw [UInt8.toNat_xor, Nat.testBit_xor, Nat.testBit_xor, Nat.testBit_or, show (18446744073709551616 : Nat) = 2 ^ 64 from rfl, show (72057594037927936 : Nat) = 2 ^ 56 from rfl, Nat.testBit_mod_two_pow, Nat.mul_comm, show 256 * half k 0 = 2 ^ 8 * half k 0 from rfl, Nat.testBit_two_pow_mul, Nat.testBit_div_two_pow, half_bit k 0 x hx]
  rw [Nat.zero_add]
  congr 1
  by_cases h8 : 8 ≤ x
  · rw [half_out k 8 _ (by omega), half_bit k 0 (x - 8) (by omega)]
    have e1 : 0 + (7 - (x - 8) / 8) = 7 - x / 8 + 1 := by omega
    have e2 : (x - 8) % 8 = x % 8 := by omega
    rw [e1, e2]
    simp only [hx, decide_true, Bool.true_and, ge_iff_le, h8, Bool.or_false]
  · rw [half_bit k 8 (x + 56) (by omega)]
    have e1 : 8 + (7 - (x + 56) / 8) = 7 - x / 8 + 1 := by omega
    have e2 : (x + 56) % 8 = x % 8 := by omega
    rw [e1, e2]
    simp only [ge_iff_le, h8, decide_false, Bool.false_and, Bool.and_false, Bool.false_or]
theorem behind_out (k : List UInt8) (x : Nat) (hx : 64 ≤ x) : (behind (half k 0) (half k 8)).testBit x = false := by
  unfold behind
  rw [Nat.testBit_xor, Nat.testBit_or, show (18446744073709551616 : Nat) = 2 ^ 64 from rfl, show (72057594037927936 : Nat) = 2 ^ 56 from rfl, Nat.testBit_mod_two_pow, Nat.testBit_div_two_pow, half_out k 0 x hx, half_out k 8 _ (by omega)]
  have : ¬ x < 64 := by omega
  simp [this]
theorem shift_bit (h l p q : Nat) (hp : p < 64) (hq : q < 64) (hl : ∀ x, 64 ≤ x → l.testBit x = false) : ((h * 2 ^ p % 18446744073709551616) ||| (l / 2 ^ (64 - p))).testBit q = if p ≤ q then h.testBit (q - p) else l.testBit (q + 64 - p) := by
  rw [Nat.testBit_or, show (18446744073709551616 : Nat) = 2 ^ 64 from rfl, Nat.testBit_mod_two_pow, Nat.mul_comm, Nat.testBit_two_pow_mul, Nat.testBit_div_two_pow]
  by_cases h1 : p ≤ q
  · rw [if_pos h1, hl _ (by omega)]
    simp only [hq, decide_true, Bool.true_and, ge_iff_le, h1, Bool.or_false]
  · rw [if_neg h1, show q + (64 - p) = q + 64 - p by omega]
    simp only [ge_iff_le, h1, decide_false, Bool.false_and, Bool.and_false, Bool.false_or]
theorem begin_eq (k : List UInt8) (hk : k.length = 16) (p : Nat) (hp : p < 64) : oTo (more k 8) p 128 = shifted (half k 0) (half k 8) p := by
  apply ext_bits
  · rw [oTo_len]; unfold shifted; rw [joinL_len]
  intro j hj r hr
  rw [oTo_len] at hj
  rw [oTo_bit _ _ _ _ _ hj hr (Nat.le_refl _)]
  have h128 : 8 * j + 7 - r < 128 := by omega
  rw [decide_eq_true h128, Bool.true_and]
  have lo : ∀ i, i < 16 → (more k 8).getD i 0 = k.getD i 0 := fun i hi => by rw [List.getD_eq_getElem?_getD, more_lo k 8 i (by omega), ← List.getD_eq_getElem?_getD]
  have hi' : ∀ i, i < 8 → (more k 8).getD (16 + i) 0 = bx (k.getD i 0) (k.getD (i + 1) 0) := fun i hi => by rw [List.getD_eq_getElem?_getD, ← hk, more_hi k 8 i hi]; rfl
  unfold shifted
  by_cases h8 : j < 8
  · rw [joinL_lo _ _ j h8, ofNat_bit _ _ _ hr, shift_bit _ _ _ _ hp (by omega) (fun x hx => half_out k 8 x hx)]
    by_cases h1 : p ≤ 56 - 8 * j + r
    · rw [if_pos h1, half_bit k 0 _ (by omega), lo _ (by omega)]
      congr 1
      · congr 2; omega
      · omega
    · rw [if_neg h1, half_bit k 8 _ (by omega), lo _ (by omega)]
      congr 1
      · congr 2; omega
      · omega
  · obtain ⟨i, rfl⟩ : ∃ i, j = i + 8 := ⟨j - 8, by omega⟩
    rw [joinL_hi _ _ i (by omega), ofNat_bit _ _ _ hr, shift_bit _ _ _ _ hp (by omega) (fun x hx => behind_out k x hx)]
    by_cases h1 : p ≤ 56 - 8 * i + r
    · rw [if_pos h1, half_bit k 8 _ (by omega), lo _ (by omega)]
      congr 1
      · congr 2; omega
      · omega
    · rw [if_neg h1, behind_bit k _ (by omega)]
      have e : (p + (8 * (i + 8) + 7 - r)) / 8 = 16 + (7 - (56 - 8 * i + r + 64 - p) / 8) := by omega
      rw [e, hi' _ (by omega)]
      congr 1
      omega

/-! The block of a nonce. -/
theorem nblock_eq (l : List UInt8) (h : l.length ≤ 15) : (splice (zeros 16) (16 - l.length) l).set (15 - l.length) 1 = nblock l := by
  unfold nblock
  have hz : (zeros 16).length = 16 := rfl
  have hs : ∀ z : List UInt8, z.length = 16 → (splice z (16 - l.length) l).length = 16 := fun z hz => by rw [splice_len _ _ _ (by omega)]; exact hz
  apply List.ext_getElem?
  intro i
  by_cases e : i = 15 - l.length
  · subst e
    rw [List.getElem?_set_self (by rw [hs _ hz]; omega)]
    unfold splice
    rw [List.getElem?_append_left (by simp [hz]; omega), List.getElem?_take_of_lt (by omega), List.getElem?_set_self (by rw [hz]; omega)]
  · rw [List.getElem?_set_ne (by omega)]
    unfold splice
    by_cases h1 : i < 16 - l.length
    · rw [List.getElem?_append_left (by simp [hz]; omega), List.getElem?_append_left (by simp [hz]; omega), List.getElem?_take_of_lt h1, List.getElem?_take_of_lt h1, List.getElem?_set_ne (by omega)]
    · have e1 : (List.take (16 - l.length) (zeros 16)).length = 16 - l.length := by simp [hz]
      have e2 : (List.take (16 - l.length) ((zeros 16).set (15 - l.length) 1)).length = 16 - l.length := by simp [hz]
      rw [List.getElem?_append_right (by rw [e1]; omega), List.getElem?_append_right (l₁ := List.take (16 - l.length) ((zeros 16).set (15 - l.length) 1)) (by rw [e2]; omega), e1, e2]
      by_cases h2 : i - (16 - l.length) < l.length
      · rw [List.getElem?_append_left h2, List.getElem?_append_left h2]
      · rw [List.getElem?_append_right (by omega), List.getElem?_append_right (by omega), List.getElem?_drop, List.getElem?_drop, List.getElem?_set_ne (by omega)]
end Go.Proofs.YtfipijcnihpaiaaDoor.Gf
