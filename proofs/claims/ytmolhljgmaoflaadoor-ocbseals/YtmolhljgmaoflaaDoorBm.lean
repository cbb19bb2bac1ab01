/- The plain mathematics of the reference's bytes: its products and substitutes are those of package aes. -/
import Derived.Test.YtmolhljgmaoflaaDoorW
namespace Go.Proofs.YtmolhljgmaoflaaDoor.Gf

/-! Products, bit by bit. -/
def xt (a : UInt8) : Nat → UInt8
  | 0 => a
  | k + 1 => dbl (xt a k)
def rs (a b : UInt8) : Nat → UInt8
  | 0 => 0
  | k + 1 => if b.toNat.testBit k then bx (rs a b k) (xt a k) else rs a b k
theorem pow2_step : ∀ k, k < 7 → timesN (2 ^ k) 2 = 2 ^ (k + 1) := by decide +kernel
theorem xt_times (a : UInt8) (k : Nat) (hk : k < 8) : (xt a k).toNat = timesN a.toNat (2 ^ k) := by
  induction k with
  | zero => exact (timesN_one _ a.toNat_lt).symm
  | succ k ih =>
    have h := ih (by omega)
    have hp : 2 ^ k < 256 := Nat.lt_of_lt_of_le (Nat.pow_lt_pow_right (by decide) (by omega : k < 8)) (by decide)
    show (dbl (xt a k)).toNat = _
    rw [dbl_toNat, dbl_times _ (xt a k).toNat_lt, timesN_comm _ _ (by decide) (xt a k).toNat_lt, h, timesN_assoc _ _ _ a.toNat_lt hp (by decide), pow2_step k (by omega)]
theorem rs_step (a b : UInt8) (k : Nat) (hk : k < 8) : (rs a b (k + 1)).toNat = (rs a b k).toNat ^^^ timesN a.toNat (bitOf b.toNat k) := by
  unfold bitOf
  by_cases h : b.toNat.testBit k
  · simp only [rs, h, if_true]
    show (rs a b k ^^^ xt a k).toNat = _
    rw [UInt8.toNat_xor, xt_times a k hk]
  · simp only [rs, h]
    simp [timesN_zero_right]
theorem rs_times (a b : UInt8) : rs a b 8 = times a b := by
  apply UInt8.toNat_inj.1
  rw [times_toNat]
  have e := sum_bits b.toNat b.toNat_lt
  conv => rhs; rw [← e]
  simp only [timesN_xor_right]
  rw [rs_step a b 7 (by decide), rs_step a b 6 (by decide), rs_step a b 5 (by decide), rs_step a b 4 (by decide), rs_step a b 3 (by decide), rs_step a b 2 (by decide), rs_step a b 1 (by decide), rs_step a b 0 (by decide)]
  show ((((((((0 : UInt8).toNat ^^^ _) ^^^ _) ^^^ _) ^^^ _) ^^^ _) ^^^ _) ^^^ _) ^^^ _ = _
  rw [show (0 : UInt8).toNat = 0 from rfl, Nat.zero_xor]
  simp only [Nat.xor_assoc]

/-! Inverses, found one by one. -/
def ivLit : List UInt8 := [0, 1, 141, 246, 203, 82, 123, 209, 232, 79, 41, 192, 176, 225, 229, 199, 116, 180, 170, 75, 153, 43, 96, 95, 88, 63, 253, 204, 255, 64, 238, 178, 58, 110, 90, 241, 85, 77, 168, 201, 193, 10, 152, 21, 48, 68, 162, 194, 44, 69, 146, 108, 243, 57, 102, 66, 242, 53, 32, 111, 119, 187, 89, 25, 29, 254, 55, 103, 45, 49, 245, 105, 167, 100, 171, 19, 84, 37, 233, 9, 237, 92, 5, 202, 76, 36, 135, 191, 24, 62, 34, 240, 81, 236, 97, 23, 22, 94, 175, 211, 73, 166, 54, 67, 244, 71, 145, 223, 51, 147, 33, 59, 121, 183, 151, 133, 16, 181, 186, 60, 182, 112, 208, 6, 161, 250, 129, 130, 131, 126, 127, 128, 150, 115, 190, 86, 155, 158, 149, 217, 247, 2, 185, 164, 222, 106, 50, 109, 216, 138, 132, 114, 42, 20, 159, 136, 249, 220, 137, 154, 251, 124, 46, 195, 143, 184, 101, 72, 38, 200, 18, 74, 206, 231, 210, 98, 12, 224, 31, 239, 17, 117, 120, 113, 165, 142, 118, 61, 189, 188, 134, 87, 11, 40, 47, 163, 218, 212, 228, 15, 169, 39, 83, 4, 27, 252, 172, 230, 122, 7, 174, 99, 197, 219, 226, 234, 148, 139, 196, 213, 157, 248, 144, 107, 177, 13, 214, 235, 198, 14, 207, 173, 8, 78, 215, 227, 93, 80, 30, 179, 91, 35, 56, 52, 104, 70, 3, 140, 221, 156, 125, 160, 205, 26, 65, 28]
theorem iv_times : ∀ n, n < 256 → n ≠ 0 → timesN n (ivLit.getD n 0).toNat = 1 := by decide +kernel
theorem iv_sct : ∀ n, n < 256 → sct (ivLit.getD n 0) = sboxLit.getD n 0 := by decide +kernel
def fnd (b : UInt8) : Nat → UInt8
  | 0 => 0
  | k + 1 => if 1 ≤ k ∧ times b (UInt8.ofNat k) = 1 then UInt8.ofNat k else fnd b k
theorem fnd_one (b : UInt8) : fnd b 1 = 0 := by simp [fnd]
theorem times_zero_left (x : UInt8) : times 0 x = 0 := (times_zero_iff 0 x).2 (.inl rfl)
theorem fnd_zero (k : Nat) : fnd 0 k = 0 := by
  induction k with
  | zero => rfl
  | succ k ih =>
    unfold fnd
    rw [if_neg (by rw [times_zero_left]; intro h; exact absurd h.2 (by decide))]; exact ih
theorem iv_spec (b : UInt8) (hb : b ≠ 0) : times b (look ivLit b) = 1 := by
  apply UInt8.toNat_inj.1
  rw [times_toNat]
  exact iv_times b.toNat b.toNat_lt (fun h => hb (UInt8.toNat_inj.1 (by simpa using h)))
theorem iv_only (b c : UInt8) (h : times b c = 1) : c = look ivLit b := by
  by_cases hb : b = 0
  · subst hb; rw [times_zero_left] at h; exact absurd h (by decide)
  · have h1 := times_assoc (look ivLit b) b c
    rw [times_comm (look ivLit b) b, iv_spec b hb, h, times_one, times_comm 1 c, times_one] at h1
    exact h1
theorem fnd_iv (b : UInt8) (hb : b ≠ 0) (m : Nat) (hm : m ≤ 256) : fnd b m = if (look ivLit b).toNat < m then look ivLit b else 0 := by
  have hne : look ivLit b ≠ 0 := fun h => by
    have := iv_spec b hb
    rw [h, times_comm, times_zero_left] at this; exact absurd this (by decide)
  have hpos : (look ivLit b).toNat ≠ 0 := fun h => hne (UInt8.toNat_inj.1 (by simpa using h))
  induction m with
  | zero => simp [fnd]
  | succ k ih =>
    have hk : (UInt8.ofNat k).toNat = k := UInt8.toNat_ofNat_of_lt' (by show k < 256; omega)
    unfold fnd
    by_cases h : 1 ≤ k ∧ times b (UInt8.ofNat k) = 1
    · rw [if_pos h]
      have e := iv_only b _ h.2
      rw [← e, hk, if_pos (by omega)]
    · rw [if_neg h, ih (by omega)]
      by_cases hlt : (look ivLit b).toNat < k
      · rw [if_pos hlt, if_pos (by omega)]
      · have hnk : (look ivLit b).toNat ≠ k := fun e => h ⟨by omega, by
          have : UInt8.ofNat k = look ivLit b := UInt8.toNat_inj.1 (by rw [hk, e])
          rw [this]; exact iv_spec b hb⟩
        rw [if_neg hlt, if_neg (by omega)]

/-! The substitute, bit by bit. -/
def atOf (i k : Nat) : Nat := if k = 0 then i else (i + 3 + k) % 8
def bt (c i : Nat) : Nat → Nat
  | 0 => 99 / 2 ^ i % 2
  | k + 1 => bt c i k ^^^ (c / 2 ^ atOf i k % 2)
def sTo (c : Nat) : Nat → Nat
  | 0 => 0
  | i + 1 => sTo c i ||| (bt c i 5 <<< i)
theorem bt_lt (c i k : Nat) : bt c i k < 2 := by
  induction k with
  | zero => exact Nat.mod_lt _ (by decide)
  | succ k ih => exact Nat.xor_lt_two_pow (n := 1) ih (Nat.mod_lt _ (by decide))
theorem sTo_lt (c i : Nat) (hi : i ≤ 8) : sTo c i < 256 := by
  induction i with
  | zero => simp [sTo]
  | succ i ih =>
    refine Nat.or_lt_two_pow (n := 8) (ih (by omega)) ?_
    rw [Nat.shiftLeft_eq]
    have h1 := bt_lt c i 5
    have h2 : 2 ^ i ≤ 2 ^ 7 := Nat.pow_le_pow_right (by decide) (by omega)
    have h3 : bt c i 5 * 2 ^ i ≤ 1 * 2 ^ i := Nat.mul_le_mul_right _ (by omega)
    have : (2 : Nat) ^ 7 = 128 := by decide
    omega
theorem sTo_sct : ∀ n, n < 256 → sTo n 8 = sctN n := by decide +kernel
theorem ref_sub (b : UInt8) : sTo (fnd b 256).toNat 8 = (look sbox b).toNat := by
  rw [sTo_sct _ (UInt8.toNat_lt _), ← sct_toNat]
  have h : fnd b 256 = look ivLit b := by
    by_cases hb : b = 0
    · subst hb; rw [fnd_zero]; decide +kernel
    · rw [fnd_iv b hb 256 (Nat.le_refl _), if_pos (UInt8.toNat_lt _)]
  rw [h, sbox_lit]
  unfold look
  rw [iv_sct b.toNat b.toNat_lt]
theorem sbox_map : (List.range 256).map (fun i => look sbox (UInt8.ofNat i)) = sbox := by
  rw [sbox_lit]; decide +kernel
end Go.Proofs.YtmolhljgmaoflaaDoor.Gf

/- The plain mathematics of the reference's way back: products by 14, 11, 13 and 9, and the places that the rows come from. -/
namespace Go.Proofs.YtmolhljgmaoflaaDoor.Gf
theorem n14 : ∀ n, n < 256 → timesN n 14 = dblN (dblN (dblN n)) ^^^ (dblN (dblN n) ^^^ dblN n) := by decide +kernel
theorem n11 : ∀ n, n < 256 → timesN n 11 = dblN (dblN (dblN n)) ^^^ (dblN n ^^^ n) := by decide +kernel
theorem n13 : ∀ n, n < 256 → timesN n 13 = dblN (dblN (dblN n)) ^^^ (dblN (dblN n) ^^^ n) := by decide +kernel
theorem n9 : ∀ n, n < 256 → timesN n 9 = dblN (dblN (dblN n)) ^^^ n := by decide +kernel
theorem t14 (x : UInt8) : times x 14 = bx (dbl (dbl (dbl x))) (bx (dbl (dbl x)) (dbl x)) := by
  apply UInt8.toNat_inj.1
  unfold bx
  rw [UInt8.toNat_xor, UInt8.toNat_xor, times_toNat]
  simp only [dbl_toNat]
  exact n14 x.toNat x.toNat_lt
theorem t11 (x : UInt8) : times x 11 = bx (dbl (dbl (dbl x))) (bx (dbl x) x) := by
  apply UInt8.toNat_inj.1
  unfold bx
  rw [UInt8.toNat_xor, UInt8.toNat_xor, times_toNat]
  simp only [dbl_toNat]
  exact n11 x.toNat x.toNat_lt
theorem t13 (x : UInt8) : times x 13 = bx (dbl (dbl (dbl x))) (bx (dbl (dbl x)) x) := by
  apply UInt8.toNat_inj.1
  unfold bx
  rw [UInt8.toNat_xor, UInt8.toNat_xor, times_toNat]
  simp only [dbl_toNat]
  exact n13 x.toNat x.toNat_lt
theorem t9 (x : UInt8) : times x 9 = bx (dbl (dbl (dbl x))) x := by
  apply UInt8.toNat_inj.1
  unfold bx
  rw [UInt8.toNat_xor, times_toNat]
  simp only [dbl_toNat]
  exact n9 x.toNat x.toNat_lt
def r0 (a b c d : UInt8) : UInt8 := bx (bx (bx (times a 14) (times b 11)) (times c 13)) (times d 9)
theorem r0_eq (a b c d : UInt8) : r0 a b c d = m0 (u0 a c) (u0 b d) (u0 c a) (u0 d b) := by
  simp only [r0, t14, t11, t13, t9, m0, u0, all4, dbl_bx, bx_assoc]
  simp only [bx_comm, bx_left, bx_self_left]
def umix (s : List UInt8) (m : Nat) : UInt8 :=
  r0 (s.getD (4 * (m / 4) + m % 4) 0) (s.getD (4 * (m / 4) + (m % 4 + 1) % 4) 0) (s.getD (4 * (m / 4) + (m % 4 + 2) % 4) 0) (s.getD (4 * (m / 4) + (m % 4 + 3) % 4) 0)
theorem umix_unmix (s : List UInt8) (h : s.length = 16) : (List.range 16).map (umix s) = unmixL s := by
  obtain ⟨a0, a1, a2, a3, a4, a5, a6, a7, a8, a9, a10, a11, a12, a13, a14, a15, rfl⟩ := list16 s h
  unfold unmixL
  rw [preTo_lit, mixL_lit]
  have e : (List.range 16).map (umix [a0, a1, a2, a3, a4, a5, a6, a7, a8, a9, a10, a11, a12, a13, a14, a15]) = [r0 a0 a1 a2 a3, r0 a1 a2 a3 a0, r0 a2 a3 a0 a1, r0 a3 a0 a1 a2, r0 a4 a5 a6 a7, r0 a5 a6 a7 a4, r0 a6 a7 a4 a5, r0 a7 a4 a5 a6, r0 a8 a9 a10 a11, r0 a9 a10 a11 a8, r0 a10 a11 a8 a9, r0 a11 a8 a9 a10, r0 a12 a13 a14 a15, r0 a13 a14 a15 a12, r0 a14 a15 a12 a13, r0 a15 a12 a13 a14] := by kernel_rfl
  rw [e]
  simp only [r0_eq]
def plc (b s u : List UInt8) : Nat → List UInt8
  | 0 => b
  | k + 1 => (plc b s u k).set ((k + 4 * (k % 4)) % 16) (look u (s.getD k 0))
theorem plc_len (b s u : List UInt8) (k : Nat) : (plc b s u k).length = b.length := by
  induction k with
  | zero => rfl
  | succ k ih => simp [plc, ih]
theorem plc_full (b s u : List UInt8) (hb : b.length = 16) (hs : s.length = 16) : plc b s u 16 = subst u (turn s 3) := by
  obtain ⟨a0, a1, a2, a3, a4, a5, a6, a7, a8, a9, a10, a11, a12, a13, a14, a15, rfl⟩ := list16 s hs
  obtain ⟨b0, b1, b2, b3, b4, b5, b6, b7, b8, b9, b10, b11, b12, b13, b14, b15, rfl⟩ := list16 b hb
  kernel_rfl
end Go.Proofs.YtmolhljgmaoflaaDoor.Gf
