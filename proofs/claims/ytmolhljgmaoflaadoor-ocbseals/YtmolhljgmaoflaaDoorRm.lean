/- The plain mathematics of the reference's round keys: byte by byte they are those of package aes. -/
import Derived.Test.YtmolhljgmaoflaaDoorBm
namespace Go.Proofs.YtmolhljgmaoflaaDoor.Gf

theorem set_getD_ne (l : List UInt32) (i k : Nat) (x : UInt32) (h : i ≠ k) : (l.set i x).getD k 0 = l.getD k 0 := by
  simp only [List.getD_eq_getElem?_getD]; rw [List.getElem?_set_ne h]
theorem set_getD_eq (l : List UInt32) (i : Nat) (x : UInt32) (h : i < l.length) : (l.set i x).getD i 0 = x := by
  simp only [List.getD_eq_getElem?_getD]; rw [List.getElem?_set_self h]; rfl
theorem wTo_keep (t key : List UInt8) (i k : Nat) (h : k ≠ i) : (wTo t key (i + 1)).1.getD k 0 = (wTo t key i).1.getD k 0 := by
  simp only [wTo]
  split
  · exact set_getD_ne _ _ _ _ (Ne.symm h)
  · split <;> exact set_getD_ne _ _ _ _ (Ne.symm h)
theorem wTo_stable (t key : List UInt8) (k d : Nat) : (wTo t key (k + 1 + d)).1.getD k 0 = (wTo t key (k + 1)).1.getD k 0 := by
  induction d with
  | zero => rfl
  | succ d ih => rw [← Nat.add_assoc, wTo_keep t key _ k (by omega)]; exact ih
theorem words_at (t key : List UInt8) (k j : Nat) (hk : k < j) (hj : j ≤ 44) : (wTo t key j).1.getD k 0 = (words t key).getD k 0 := by
  have e1 : j = k + 1 + (j - k - 1) := by omega
  have e2 : (44 : Nat) = k + 1 + (44 - k - 1) := by omega
  unfold words
  rw [e1, wTo_stable]
  conv => rhs; rw [e2]
  rw [wTo_stable]
theorem words_lt4 (t key : List UInt8) (k : Nat) (hk : k < 4) : (words t key).getD k 0 = wordAt key k := by
  rw [← words_at t key k (k + 1) (by omega) (by omega)]
  simp only [wTo, hk, if_true]
  exact set_getD_eq _ _ _ (by rw [wTo_len]; omega)
theorem words_mul (t key : List UInt8) (k : Nat) (h4 : 4 ≤ k) (hk : k < 44) (hm : k % 4 = 0) :
    (words t key).getD k 0 = bx32 ((words t key).getD (k - 4) 0) (turned t ((words t key).getD (k - 1) 0) (wTo t key k).2) := by
  rw [← words_at t key k (k + 1) (by omega) (by omega), ← words_at t key (k - 4) k (by omega) (by omega), ← words_at t key (k - 1) k (by omega) (by omega)]
  have hn : ¬ k < 4 := by omega
  conv => lhs; simp only [wTo, hn, hm, if_false, if_true]
  exact set_getD_eq _ _ _ (by rw [wTo_len]; omega)
theorem words_else (t key : List UInt8) (k : Nat) (h4 : 4 ≤ k) (hk : k < 44) (hm : ¬ k % 4 = 0) :
    (words t key).getD k 0 = bx32 ((words t key).getD (k - 4) 0) ((words t key).getD (k - 1) 0) := by
  rw [← words_at t key k (k + 1) (by omega) (by omega), ← words_at t key (k - 4) k (by omega) (by omega), ← words_at t key (k - 1) k (by omega) (by omega)]
  have hn : ¬ k < 4 := by omega
  conv => lhs; simp only [wTo, hn, hm, if_false]
  exact set_getD_eq _ _ _ (by rw [wTo_len]; omega)
theorem rc_keep (t key : List UInt8) (k : Nat) (h : k < 4 ∨ ¬ k % 4 = 0) : (wTo t key (k + 1)).2 = (wTo t key k).2 := by
  simp only [wTo]
  split
  · rfl
  · rcases h with h | h
    · omega
    · simp [h]
theorem rc_dbl (t key : List UInt8) (k : Nat) (h4 : 4 ≤ k) (hm : k % 4 = 0) : (wTo t key (k + 1)).2 = dbl (wTo t key k).2 := by
  have hn : ¬ k < 4 := by omega
  simp [wTo, hn, hm]

/-! Bytes of words. -/
theorem byt_bx32 (x y : UInt32) (m : Nat) : byt (bx32 x y) (2 ^ m) = bx (byt x (2 ^ m)) (byt y (2 ^ m)) := by
  apply UInt8.toNat_inj.1
  unfold bx bx32
  rw [UInt8.toNat_xor, byt_toNat, byt_toNat, byt_toNat, UInt32.toNat_xor]
  have h : (x.toNat ^^^ y.toNat) / 2 ^ m = x.toNat / 2 ^ m ^^^ y.toNat / 2 ^ m := by
    rw [← Nat.shiftRight_eq_div_pow, ← Nat.shiftRight_eq_div_pow, ← Nat.shiftRight_eq_div_pow, Nat.shiftRight_xor_distrib]
  rw [h]
  exact Nat.xor_mod_two_pow (n := 8)
theorem or_mul (a b : Nat) (k : Nat) (hb : b < 2 ^ k) : (a * 2 ^ k ||| b) = a * 2 ^ k + b := by
  rw [Nat.mul_comm]; exact (Nat.two_pow_add_eq_or_of_lt hb a).symm
theorem jnN_eq (a b c d : Nat) (hb : b < 256) (hc : c < 256) (hd : d < 256) : jnN a b c d = a * 16777216 + b * 65536 + c * 256 + d := by
  unfold jnN
  have e1 : (a * 16777216 ||| b * 65536) = (a * 256 + b) * 65536 := by
    have := or_mul a (b * 65536) 24 (by omega)
    rw [show (16777216 : Nat) = 2 ^ 24 from by decide, this]; omega
  have e2 : ((a * 256 + b) * 65536 ||| c * 256) = ((a * 256 + b) * 256 + c) * 256 := by
    have := or_mul (a * 256 + b) (c * 256) 16 (by omega)
    rw [show (65536 : Nat) = 2 ^ 16 from by decide, this]; omega
  have e3 : (((a * 256 + b) * 256 + c) * 256 ||| d) = ((a * 256 + b) * 256 + c) * 256 + d := or_mul _ d 8 (by omega)
  rw [e1, e2, e3]; omega
theorem byt_jn (a b c d : UInt8) : byt (jn a b c d) (2 ^ 24) = a ∧ byt (jn a b c d) (2 ^ 16) = b ∧ byt (jn a b c d) (2 ^ 8) = c ∧ byt (jn a b c d) (2 ^ 0) = d := by
  have ha : a.toNat < 256 := a.toNat_lt
  have hb : b.toNat < 256 := b.toNat_lt
  have hc : c.toNat < 256 := c.toNat_lt
  have hd : d.toNat < 256 := d.toNat_lt
  refine ⟨?_, ?_, ?_, ?_⟩ <;>
  · apply UInt8.toNat_inj.1
    rw [byt_toNat, jn_toNat, jnN_eq _ _ _ _ hb hc hd]
    simp only [show (2 : Nat) ^ 24 = 16777216 from by decide, show (2 : Nat) ^ 16 = 65536 from by decide, show (2 : Nat) ^ 8 = 256 from by decide, show (2 : Nat) ^ 0 = 1 from by decide]
    omega
theorem keyByte_at (ws : List UInt32) (k n : Nat) (hn : n < 4) : keyByte ws (4 * k + n) = byt (ws.getD k 0) (2 ^ (24 - 8 * n)) := by
  have e1 : (4 * k + n) / 4 = k := by omega
  have e2 : (4 * k + n) % 4 = n := by omega
  unfold keyByte; rw [e1, e2]
theorem key_lt4 (t key : List UInt8) (k n : Nat) (hk : k < 4) (hn : n < 4) : keyByte (words t key) (4 * k + n) = key.getD (4 * k + n) 0 := by
  rw [keyByte_at _ _ _ hn, words_lt4 t key k hk]
  unfold wordAt
  have h := byt_jn (key.getD (4 * k) 0) (key.getD (4 * k + 1) 0) (key.getD (4 * k + 2) 0) (key.getD (4 * k + 3) 0)
  have hc : n = 0 ∨ n = 1 ∨ n = 2 ∨ n = 3 := by omega
  rcases hc with rfl | rfl | rfl | rfl
  · exact h.1
  · exact h.2.1
  · exact h.2.2.1
  · exact h.2.2.2
/-- The four bytes that a word is put against. -/
def xByte (t : List UInt8) (ws : List UInt32) (r : UInt8) (k n : Nat) : UInt8 :=
  if k % 4 = 0 then (if n = 0 then bx (look t (keyByte ws (4 * (k - 1) + 1))) r else look t (keyByte ws (4 * (k - 1) + (n + 1) % 4))) else keyByte ws (4 * (k - 1) + n)
theorem byt_one (x : UInt32) : byt x 1 = byt x (2 ^ 0) := rfl
theorem key_ge4 (t key : List UInt8) (k n : Nat) (h4 : 4 ≤ k) (hk : k < 44) (hn : n < 4) :
    keyByte (words t key) (4 * k + n) = bx (keyByte (words t key) (4 * (k - 4) + n)) (xByte t (words t key) (wTo t key k).2 k n) := by
  rw [keyByte_at _ _ _ hn, keyByte_at _ _ _ hn]
  unfold xByte
  by_cases hm : k % 4 = 0
  · rw [if_pos hm, words_mul t key k h4 hk hm, byt_bx32]
    congr 1
    unfold turned
    have h := byt_jn (bx (look t (byt ((words t key).getD (k - 1) 0) 65536)) (wTo t key k).2) (look t (byt ((words t key).getD (k - 1) 0) 256)) (look t (byt ((words t key).getD (k - 1) 0) 1)) (look t (byt ((words t key).getD (k - 1) 0) 16777216))
    have hc : n = 0 ∨ n = 1 ∨ n = 2 ∨ n = 3 := by omega
    rcases hc with rfl | rfl | rfl | rfl
    · rw [if_pos rfl, keyByte_at _ _ _ (by decide)]; exact h.1
    · rw [if_neg (by decide), keyByte_at _ _ _ (by decide)]; exact h.2.1
    · rw [if_neg (by decide), keyByte_at _ _ _ (by decide)]; exact h.2.2.1
    · rw [if_neg (by decide), keyByte_at _ _ _ (by decide)]; exact h.2.2.2
  · rw [if_neg hm, words_else t key k h4 hk hm, byt_bx32, keyByte_at _ _ _ hn]
end Go.Proofs.YtmolhljgmaoflaaDoor.Gf
