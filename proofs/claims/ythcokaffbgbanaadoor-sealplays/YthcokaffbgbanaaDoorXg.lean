/- The plain mathematics of the reference's bytes: its products and substitutes are those of package aes. -/
import Derived.Test.YthcokaffbgbanaaDoorXa
import Derived.Test.YthcokaffbgbanaaDoorXb
import Derived.Laws.StructEq
import Derived.Test.YthcokaffbgbanaaDoorXc
import Derived.Laws.CopyOwn
import Derived.Test.YthcokaffbgbanaaDoorXf
namespace Go.Proofs.YthcokaffbgbanaaDoor.Gf

/-! Products, bit by bit. -/
def xt (a : UInt8) : Nat → UInt8
  | 0 => a
  | k + 1 => dbl (xt a k)
def rs (a b : UInt8) : Nat → UInt8
  | 0 => 0
  | k + 1 => if b.toNat.testBit k then bx (rs a b k) (xt a k) else rs a b k
theorem pow2_step : ∀ k, k < 7 → timesN (2 ^ k) 2 = 2 ^ (k + 1) := by decide +kernel
theorem xt_times (a : UInt8) (k : Nat) (hk : k < 8) : (xt a k).toNat = timesN a.toNat (2 ^ k) := by
  induction k with
  | zero => exact (timesN_one _ a.toNat_lt).symm
  | succ k ih =>
    have h := ih (by omega)
    have hp : 2 ^ k < 256 := Nat.lt_of_lt_of_le (Nat.pow_lt_pow_right (by decide) (by omega : k < 8)) (by decide)
    show (dbl (xt a k)).toNat = _
    rw [dbl_toNat, dbl_times _ (xt a k).toNat_lt, timesN_comm _ _ (by decide) (xt a k).toNat_lt, h, timesN_assoc _ _ _ a.toNat_lt hp (by decide), pow2_step k (by omega)]
theorem rs_step (a b : UInt8) (k : Nat) (hk : k < 8) : (rs a b (k + 1)).toNat = (rs a b k).toNat ^^^ timesN a.toNat (bitOf b.toNat k) := by
  unfold bitOf
  by_cases h : b.toNat.testBit k
  · simp only [rs, h, if_true]
    show (rs a b k ^^^ xt a k).toNat = _
    rw [UInt8.toNat_xor, xt_times a k hk]
  · simp only [rs, h]
    simp [timesN_zero_right]
theorem rs_times (a b : UInt8) : rs a b 8 = times a b := by
  apply UInt8.toNat_inj.1
  rw [times_toNat]
  have e := sum_bits b.toNat b.toNat_lt
  conv => rhs; rw [← e]
  simp only [timesN_xor_right]
  rw [rs_step a b 7 (by decide), rs_step a b 6 (by decide), rs_step a b 5 (by decide), rs_step a b 4 (by decide), rs_step a b 3 (by decide), rs_step a b 2 (by decide), rs_step a b 1 (by decide), rs_step a b 0 (by decide)]
  show ((((((((0 : UInt8).toNat ^^^ _) ^^^ _) ^^^ _) ^^^ _) ^^^ _) ^^^ _) ^^^ _) ^^^ _ = _
  rw [show (0 : UInt8).toNat = 0 from rfl, Nat.zero_xor]
  simp only [Nat.xor_assoc]

/-! Inverses, found one by one. -/
def ivLit : List UInt8 := [0, 1, 141, 246, 203, 82, 123, 209, 232, 79, 41, 192, 176, 225, 229, 199, 116, 180, 170, 75, 153, 43, 96, 95, 88, 63, 253, 204, 255, 64, 238, 178, 58, 110, 90, 241, 85, 77, 168, 201, 193, 10, 152, 21, 48, 68, 162, 194, 44, 69, 146, 108, 243, 57, 102, 66, 242, 53, 32, 111, 119, 187, 89, 25, 29, 254, 55, 103, 45, 49, 245, 105, 167, 100, 171, 19, 84, 37, 233, 9, 237, 92, 5, 202, 76, 36, 135, 191, 24, 62, 34, 240, 81, 236, 97, 23, 22, 94, 175, 211, 73, 166, 54, 67, 244, 71, 145, 223, 51, 147, 33, 59, 121, 183, 151, 133, 16, 181, 186, 60, 182, 112, 208, 6, 161, 250, 129, 130, 131, 126, 127, 128, 150, 115, 190, 86, 155, 158, 149, 217, 247, 2, 185, 164, 222, 106, 50, 109, 216, 138, 132, 114, 42, 20, 159, 136, 249, 220, 137, 154, 251, 124, 46, 195, 143, 184, 101, 72, 38, 200, 18, 74, 206, 231, 210, 98, 12, 224, 31, 239, 17, 117, 120, 113, 165, 142, 118, 61, 189, 188, 134, 87, 11, 40, 47, 163, 218, 212, 228, 15, 169, 39, 83, 4, 27, 252, 172, 230, 122, 7, 174, 99, 197, 219, 226, 234, 148, 139, 196, 213, 157, 248, 144, 107, 177, 13, 214, 235, 198, 14, 207, 173, 8, 78, 215, 227, 93, 80, 30, 179, 91, 35, 56, 52, 104, 70, 3, 140, 221, 156, 125, 160, 205, 26, 65, 28]
theorem iv_times : ∀ n, n < 256 → n ≠ 0 → timesN n (ivLit.getD n 0).toNat = 1 := by decide +kernel
theorem iv_sct : ∀ n, n < 256 → sct (ivLit.getD n 0) = sboxLit.getD n 0 := by decide +kernel
def fnd (b : UInt8) : Nat → UInt8
  | 0 => 0
  | k + 1 => if 1 ≤ k ∧ times b (UInt8.ofNat k) = 1 then UInt8.ofNat k else fnd b k
theorem fnd_one (b : UInt8) : fnd b 1 = 0 := by simp [fnd]
theorem times_zero_left (x : UInt8) : times 0 x = 0 := (times_zero_iff 0 x).2 (.inl rfl)
theorem fnd_zero (k : Nat) : fnd 0 k = 0 := by
  induction k with
  | zero => rfl
  | succ k ih =>
    unfold fnd
    rw [if_neg (by rw [times_zero_left]; intro h; exact absurd h.2 (by decide))]; exact ih
theorem iv_spec (b : UInt8) (hb : b ≠ 0) : times b (look ivLit b) = 1 := by
  apply UInt8.toNat_inj.1
  rw [times_toNat]
  exact iv_times b.toNat b.toNat_lt (fun h => hb (UInt8.toNat_inj.1 (by simpa using h)))
theorem iv_only (b c : UInt8) (h : times b c = 1) : c = look ivLit b := by
  by_cases hb : b = 0
  · subst hb; rw [times_zero_left] at h; exact absurd h (by decide)
  · have h1 := times_assoc (look ivLit b) b c
    rw [times_comm (look ivLit b) b, iv_spec b hb, h, times_one, times_comm 1 c, times_one] at h1
    exact h1
theorem fnd_iv (b : UInt8) (hb : b ≠ 0) (m : Nat) (hm : m ≤ 256) : fnd b m = if (look ivLit b).toNat < m then look ivLit b else 0 := by
  have hne : look ivLit b ≠ 0 := fun h => by
    have := iv_spec b hb
    rw [h, times_comm, times_zero_left] at this; exact absurd this (by decide)
  have hpos : (look ivLit b).toNat ≠ 0 := fun h => hne (UInt8.toNat_inj.1 (by simpa using h))
  induction m with
  | zero => simp [fnd]
  | succ k ih =>
    have hk : (UInt8.ofNat k).toNat = k := UInt8.toNat_ofNat_of_lt' (by show k < 256; omega)
    unfold fnd
    by_cases h : 1 ≤ k ∧ times b (UInt8.ofNat k) = 1
    · rw [if_pos h]
      have e := iv_only b _ h.2
      rw [← e, hk, if_pos (by omega)]
    · rw [if_neg h, ih (by omega)]
      by_cases hlt : (look ivLit b).toNat < k
      · rw [if_pos hlt, if_pos (by omega)]
      · have hnk : (look ivLit b).toNat ≠ k := fun e => h ⟨by omega, by
          have : UInt8.ofNat k = look ivLit b := UInt8.toNat_inj.1 (by rw [hk, e])
          rw [this]; exact iv_spec b hb⟩
        rw [if_neg hlt, if_neg (by omega)]

/-! The substitute, bit by bit. -/
def atOf (i k : Nat) : Nat := if k = 0 then i else (i + 3 + k) % 8
def bt (c i : Nat) : Nat → Nat
  | 0 => 99 / 2 ^ i % 2
  | k + 1 => bt c i k ^^^ (c / 2 ^ atOf i k % 2)
def sTo (c : Nat) : Nat → Nat
  | 0 => 0
  | i + 1 => sTo c i ||| (bt c i 5 <<< i)
theorem bt_lt (c i k : Nat) : bt c i k < 2 := by
  induction k with
  | zero => exact Nat.mod_lt _ (by decide)
  | succ k ih => exact Nat.xor_lt_two_pow (n := 1) ih (Nat.mod_lt _ (by decide))
theorem sTo_lt (c i : Nat) (hi : i ≤ 8) : sTo c i < 256 := by
  induction i with
  | zero => simp [sTo]
  | succ i ih =>
    refine Nat.or_lt_two_pow (n := 8) (ih (by omega)) ?_
    rw [Nat.shiftLeft_eq]
    have h1 := bt_lt c i 5
    have h2 : 2 ^ i ≤ 2 ^ 7 := Nat.pow_le_pow_right (by decide) (by omega)
    have h3 : bt c i 5 * 2 ^ i ≤ 1 * 2 ^ i := Nat.mul_le_mul_right _ (by omega)
    have : (2 : Nat) ^ 7 = 128 := by decide
    omega
theorem sTo_sct : ∀ n, n < 256 → sTo n 8 = sctN n := by decide +kernel
theorem ref_sub (b : UInt8) : sTo (fnd b 256).toNat 8 = (look sbox b).toNat := by
  rw [sTo_sct _ (UInt8.toNat_lt _), ← sct_toNat]
  have h : fnd b 256 = look ivLit b := by
    by_cases hb : b = 0
    · subst hb; rw [fnd_zero]; decide +kernel
    · rw [fnd_iv b hb 256 (Nat.le_refl _), if_pos (UInt8.toNat_lt _)]
  rw [h, sbox_lit]
  unfold look
  rw [iv_sct b.toNat b.toNat_lt]
theorem sbox_map : (List.range 256).map (fun i => look sbox (UInt8.ofNat i)) = sbox := by
  rw [sbox_lit]; decide +kernel
end Go.Proofs.YthcokaffbgbanaaDoor.Gf

/- The plain mathematics of the reference's way back: products by 14, 11, 13 and 9, and the places that the rows come from. -/
namespace Go.Proofs.YthcokaffbgbanaaDoor.Gf
theorem n14 : ∀ n, n < 256 → timesN n 14 = dblN (dblN (dblN n)) ^^^ (dblN (dblN n) ^^^ dblN n) := by decide +kernel
theorem n11 : ∀ n, n < 256 → timesN n 11 = dblN (dblN (dblN n)) ^^^ (dblN n ^^^ n) := by decide +kernel
theorem n13 : ∀ n, n < 256 → timesN n 13 = dblN (dblN (dblN n)) ^^^ (dblN (dblN n) ^^^ n) := by decide +kernel
theorem n9 : ∀ n, n < 256 → timesN n 9 = dblN (dblN (dblN n)) ^^^ n := by decide +kernel
theorem t14 (x : UInt8) : times x 14 = bx (dbl (dbl (dbl x))) (bx (dbl (dbl x)) (dbl x)) := by
  apply UInt8.toNat_inj.1
  unfold bx
  rw [UInt8.toNat_xor, UInt8.toNat_xor, times_toNat]
  simp only [dbl_toNat]
  exact n14 x.toNat x.toNat_lt
theorem t11 (x : UInt8) : times x 11 = bx (dbl (dbl (dbl x))) (bx (dbl x) x) := by
  apply UInt8.toNat_inj.1
  unfold bx
  rw [UInt8.toNat_xor, UInt8.toNat_xor, times_toNat]
  simp only [dbl_toNat]
  exact n11 x.toNat x.toNat_lt
theorem t13 (x : UInt8) : times x 13 = bx (dbl (dbl (dbl x))) (bx (dbl (dbl x)) x) := by
  apply UInt8.toNat_inj.1
  unfold bx
  rw [UInt8.toNat_xor, UInt8.toNat_xor, times_toNat]
  simp only [dbl_toNat]
  exact n13 x.toNat x.toNat_lt
theorem t9 (x : UInt8) : times x 9 = bx (dbl (dbl (dbl x))) x := by
  apply UInt8.toNat_inj.1
  unfold bx
  rw [UInt8.toNat_xor, times_toNat]
  simp only [dbl_toNat]
  exact n9 x.toNat x.toNat_lt
def r0 (a b c d : UInt8) : UInt8 := bx (bx (bx (times a 14) (times b 11)) (times c 13)) (times d 9)
theorem r0_eq (a b c d : UInt8) : r0 a b c d = m0 (u0 a c) (u0 b d) (u0 c a) (u0 d b) := by
  simp only [r0, t14, t11, t13, t9, m0, u0, all4, dbl_bx, bx_assoc]
  simp only [bx_comm, bx_left, bx_self_left]
def umix (s : List UInt8) (m : Nat) : UInt8 :=
  r0 (s.getD (4 * (m / 4) + m % 4) 0) (s.getD (4 * (m / 4) + (m % 4 + 1) % 4) 0) (s.getD (4 * (m / 4) + (m % 4 + 2) % 4) 0) (s.getD (4 * (m / 4) + (m % 4 + 3) % 4) 0)
theorem umix_unmix (s : List UInt8) (h : s.length = 16) : (List.range 16).map (umix s) = unmixL s := by
  obtain ⟨a0, a1, a2, a3, a4, a5, a6, a7, a8, a9, a10, a11, a12, a13, a14, a15, rfl⟩ := list16 s h
  unfold unmixL
  rw [preTo_lit, mixL_lit]
  have e : (List.range 16).map (umix [a0, a1, a2, a3, a4, a5, a6, a7, a8, a9, a10, a11, a12, a13, a14, a15]) = [r0 a0 a1 a2 a3, r0 a1 a2 a3 a0, r0 a2 a3 a0 a1, r0 a3 a0 a1 a2, r0 a4 a5 a6 a7, r0 a5 a6 a7 a4, r0 a6 a7 a4 a5, r0 a7 a4 a5 a6, r0 a8 a9 a10 a11, r0 a9 a10 a11 a8, r0 a10 a11 a8 a9, r0 a11 a8 a9 a10, r0 a12 a13 a14 a15, r0 a13 a14 a15 a12, r0 a14 a15 a12 a13, r0 a15 a12 a13 a14] := by kernel_rfl
  rw [e]
  simp only [r0_eq]
def plc (b s u : List UInt8) : Nat → List UInt8
  | 0 => b
  | k + 1 => (plc b s u k).set ((k + 4 * (k % 4)) % 16) (look u (s.getD k 0))
theorem plc_len (b s u : List UInt8) (k : Nat) : (plc b s u k).length = b.length := by
  induction k with
  | zero => rfl
  | succ k ih => simp [plc, ih]
theorem plc_full (b s u : List UInt8) (hb : b.length = 16) (hs : s.length = 16) : plc b s u 16 = subst u (turn s 3) := by
  obtain ⟨a0, a1, a2, a3, a4, a5, a6, a7, a8, a9, a10, a11, a12, a13, a14, a15, rfl⟩ := list16 s hs
  obtain ⟨b0, b1, b2, b3, b4, b5, b6, b7, b8, b9, b10, b11, b12, b13, b14, b15, rfl⟩ := list16 b hb
  kernel_rfl
end Go.Proofs.YthcokaffbgbanaaDoor.Gf

/- The walks of the reference's functions on bytes, and of Sub and Unsub of package aes. -/
namespace Go.Proofs.YthcokaffbgbanaaDoor
open Go.RowKit Go.BigFrame

theorem xd_int : ∀ n : Nat, n < 256 → bits .xor .u8 ((n : Int) * 2 % 256) ((n : Int) / 128 * 27) = ((Gf.dblN n : Nat) : Int) := by decide +kernel

set_option maxHeartbeats 800000 in
theorem refTimes_any (a b : UInt8) (w : World) :
    Calls Tryd.prog 81 #[.int .u8 (a.toNat : Int), .int .u8 (b.toNat : Int)] w fun e w' => e = .returned (.int .u8 ((Gf.times a b).toNat : Int)) ∧ w' = w := by
  have hb : b.toNat < 256 := b.toNat_lt
  go_enter Tryd.func81, Tryd.ntmps81
  go_wp2
  go_loop [0, 5, 6] (fun x s i => ∃ k : Nat, k ≤ 8 ∧ i = .int .i64 k ∧ x = .int .u8 ((Gf.xt a k).toNat : Int) ∧ s = .int .u8 ((Gf.rs a b k).toNat : Int)) (fun _ _ i => 8 - (intOf i).toNat)
  case atStart => exact ⟨0, by omega, rfl, rfl, rfl⟩
  case round =>
    obtain ⟨k, hk, rfl, rfl, rfl⟩ := hrel
    by_cases hlt : k < 8
    · have ht := test_u8 b.toNat k hb
      have hx : ∀ x y : UInt8, bits .xor .u8 (x.toNat : Int) (y.toNat : Int) = ((Gf.bx x y).toNat : Int) := xor_bx
      have hxl : (Gf.xt a k).toNat < 256 := UInt8.toNat_lt _
      cases hbit : b.toNat.testBit k
      · rw [hbit] at ht
        have HS : Hid (Gf.rs a b (k + 1) = Gf.rs a b k) := by show _ = _; simp [Gf.rs, hbit]
        clear hbit
        go_wp2
        go_round
        case rel => exact ⟨k + 1, by omega, by go_num, by rw [xd_int _ hxl, ← Gf.dbl_toNat]; rfl, by rw [HS.out]⟩
        case measure => simp [intOf]; omega
      · rw [hbit] at ht
        have HS : Hid (Gf.rs a b (k + 1) = Gf.bx (Gf.rs a b k) (Gf.xt a k)) := by show _ = _; simp [Gf.rs, hbit]
        clear hbit
        go_wp2
        go_round
        case rel => exact ⟨k + 1, by omega, by go_num, by rw [xd_int _ hxl, ← Gf.dbl_toNat]; rfl, by rw [HS.out]⟩
        case measure => simp [intOf]; omega
    · have hk8 : k = 8 := by omega
      subst hk8
      rw [Gf.rs_times]
      go_wp2
      go_ret
      exact ⟨rfl, rfl⟩

theorem and1_i64 : ∀ n : Nat, n < 256 → bits .and .i64 (n : Int) 1 = ((n % 2 : Nat) : Int) := by decide +kernel
theorem xor_i64 : ∀ a : Nat, a < 2 → ∀ b : Nat, b < 2 → bits .xor .i64 (a : Int) (b : Int) = ((a ^^^ b : Nat) : Int) := by decide +kernel
theorem w64 : ∀ n : Nat, n < 256 → wrap64 (n : Int) = (n : Int) := by decide +kernel
theorem bit0_int (c i : Nat) : bits .and .i64 ((99 : Int) / 2 ^ i) 1 = ((Gf.bt c i 0 : Nat) : Int) := by
  have e : ((99 : Int) / 2 ^ i) = ((99 / 2 ^ i : Nat) : Int) := by simp
  rw [e, and1_i64 _ (Nat.lt_of_le_of_lt (Nat.div_le_self _ _) (by decide))]; rfl
theorem bitk_int (c i k m : Nat) (hc : c < 256) (hm : Gf.atOf i k = m) : bits .xor .i64 ((Gf.bt c i k : Nat) : Int) (bits .and .i64 (wrap64 ((c : Int) / 2 ^ m)) 1) = ((Gf.bt c i (k + 1) : Nat) : Int) := by
  have e : ((c : Int) / 2 ^ m) = ((c / 2 ^ m : Nat) : Int) := by simp
  rw [e, w64 _ (Nat.lt_of_le_of_lt (Nat.div_le_self _ _) hc), and1_i64 _ (Nat.lt_of_le_of_lt (Nat.div_le_self _ _) hc), xor_i64 _ (Gf.bt_lt _ _ _) _ (Nat.mod_lt _ (by decide)), ← hm]; rfl
theorem put_int (c i : Nat) (hi : i < 8) : bits .or .u8 ((Gf.sTo c i : Nat) : Int) (wrap64 (((Gf.bt c i 5 : Nat) : Int) * 2 ^ i) % 256) = ((Gf.sTo c (i + 1) : Nat) : Int) := by
  have e : (((Gf.bt c i 5 : Nat) : Int) * 2 ^ i) = ((Gf.bt c i 5 <<< i : Nat) : Int) := by rw [Nat.shiftLeft_eq]; simp
  have h1 := Gf.bt_lt c i 5
  have h2 : 2 ^ i ≤ 2 ^ 7 := Nat.pow_le_pow_right (by decide) (by omega)
  have h3 : Gf.bt c i 5 * 2 ^ i ≤ 1 * 2 ^ i := Nat.mul_le_mul_right _ (by omega)
  have h4 : (2 : Nat) ^ 7 = 128 := by decide
  have h5 : Gf.bt c i 5 <<< i < 256 := by rw [Nat.shiftLeft_eq]; omega
  have h6 : (((Gf.bt c i 5 <<< i : Nat) : Int)) % 256 = ((Gf.bt c i 5 <<< i : Nat) : Int) := by omega
  rw [e, w64 _ h5, h6, u8_or_nat _ _ (Gf.sTo_lt c i (by omega)) (by rw [Nat.shiftLeft_eq]; omega)]; rfl

theorem mod_byte (k : Nat) (hk : k < 256) : (((UInt8.ofNat k).toNat : Nat) : Int) = (k : Int) := by
  rw [UInt8.toNat_ofNat_of_lt' hk]

theorem refTimes_k (a : UInt8) (k : Nat) (hk : k < 256) (w : World) :
    Calls Tryd.prog 81 #[.int .u8 (a.toNat : Int), .int .u8 (k : Int)] w fun e w' => e = .returned (.int .u8 ((Gf.times a (UInt8.ofNat k)).toNat : Int)) ∧ w' = w := by
  have h := refTimes_any a (UInt8.ofNat k) w
  rw [mod_byte k hk] at h; exact h

set_option maxRecDepth 100000 in
set_option maxHeartbeats 2000000 in
theorem refSub_any (b : UInt8) (w : World) :
    Calls Tryd.prog 93 #[.int .u8 (b.toNat : Int)] w fun e w' => e = .returned (.int .u8 ((Gf.look Gf.sbox b).toNat : Int)) ∧ w' = w := by
  have hbl : b.toNat < 256 := b.toNat_lt
  obtain ⟨M, hM⟩ : ∃ M, M = 256 := ⟨_, rfl⟩
  have HR : Hid ((Gf.sTo (Gf.fnd b M).toNat 8 : Nat) = (Gf.look Gf.sbox b).toNat) := by rw [hM]; exact Gf.ref_sub b
  have HM256 := show Hid _ from hM
  clear hM
  generalize Gf.look Gf.sbox b = res at *
  go_enter Tryd.func93, Tryd.ntmps93
  go_wp2
  go_loop [3, 4] (fun c i => ∃ k : Nat, 1 ≤ k ∧ k ≤ 256 ∧ i = .int .i64 k ∧ c = .int .u8 ((Gf.fnd b k).toNat : Int)) (fun _ i => 256 - (intOf i).toNat)
  case atStart => exact ⟨1, by omega, by omega, rfl, rfl⟩
  case round =>
    obtain ⟨k, hk1, hk, rfl, rfl⟩ := hrel
    by_cases hgo : k < 256 ∧ b ≠ 0
    · obtain ⟨hlt, hb0⟩ := hgo
      have hb1 : ((b.toNat : Int) == 0) = false := by
        rw [beq_eq_false_iff_ne]; intro h; exact hb0 (UInt8.toNat_inj.1 (by simp; omega))
      have hb2 : ((b.toNat : Int) != 0) = true := by simp [bne, hb1]
      have hbn : ¬ (b.toNat : Int) = 0 := by simpa using hb1
      by_cases h1 : Gf.times b (UInt8.ofNat k) = 1
      · have ht : (((Gf.times b (UInt8.ofNat k)).toNat : Int) == 1) = true := by rw [h1]; rfl
        have HS : Hid (Gf.fnd b (k + 1) = UInt8.ofNat k) := by show _ = _; simp [Gf.fnd, hk1, h1]
        have HM : Hid ((((UInt8.ofNat k).toNat : Nat) : Int) = (k : Int)) := mod_byte k hlt
        clear h1 hb0
        go_wp2_with (go_at_call 81; refine (refTimes_k b k hlt _).mono ?_; rintro e w' ⟨rfl, rfl⟩)
        go_round
        case rel => exact ⟨k + 1, by omega, by omega, by go_num, by rw [HS.out, HM.out]⟩
        case measure => simp [intOf]; omega
      · have ht : (((Gf.times b (UInt8.ofNat k)).toNat : Int) == 1) = false := by
          rw [beq_eq_false_iff_ne]; intro h; exact h1 (UInt8.toNat_inj.1 (by simp; omega))
        have HS : Hid (Gf.fnd b (k + 1) = Gf.fnd b k) := by show _ = _; simp [Gf.fnd, h1]
        clear h1 hb0
        go_wp2_with (go_at_call 81; refine (refTimes_k b k hlt _).mono ?_; rintro e w' ⟨rfl, rfl⟩)
        go_round
        case rel => exact ⟨k + 1, by omega, by omega, by go_num, by rw [HS.out]⟩
        case measure => simp [intOf]; omega
    · have hc : Gf.fnd b k = Gf.fnd b M := by
        by_cases hb0 : b = 0
        · subst hb0; rw [Gf.fnd_zero, Gf.fnd_zero]
        · have : k = 256 := by
            rcases Nat.lt_or_ge k 256 with h | h
            · exact absurd ⟨h, hb0⟩ hgo
            · omega
          rw [this, HM256.out]
      have hor : ¬ k < 256 ∨ (k < 256 ∧ (b.toNat : Int) = 0) := by
        rcases Nat.lt_or_ge k 256 with h | h
        · right
          by_cases hb0 : b = 0
          · subst hb0; exact ⟨h, rfl⟩
          · exact absurd ⟨h, hb0⟩ hgo
        · left; omega
      rw [hc]
      clear hc hgo
      generalize Gf.fnd b M = c at *
      have hcl : c.toNat < 256 := c.toNat_lt
      rcases hor with hor | hor
      · go_wp2
        go_loop [5, 6] (fun s i => ∃ k : Nat, k ≤ 8 ∧ i = .int .i64 k ∧ s = .int .u8 ((Gf.sTo c.toNat k : Nat) : Int)) (fun _ i => 8 - (intOf i).toNat)
        case atStart => exact ⟨0, by omega, rfl, rfl⟩
        case round =>
          clear hk1 hk
          obtain ⟨i, hi, rfl, rfl⟩ := hrel
          by_cases hi8 : i < 8
          · have e0 := bit0_int c.toNat i
            go_wp2
            go_loop [7, 8] (fun t j => ∃ k : Nat, k ≤ 5 ∧ j = .int .i64 k ∧ t = .int .i64 ((Gf.bt c.toNat i k : Nat) : Int)) (fun _ j => 5 - (intOf j).toNat)
            case atStart => exact ⟨0, by omega, rfl, rfl⟩
            case round =>
              clear e0
              obtain ⟨j, hj, rfl, rfl⟩ := hrel
              by_cases hj5 : j < 5
              · have hbt := Gf.bt_lt c.toNat i j
                by_cases hj0 : j = 0
                · subst hj0
                  have e1 := bitk_int c.toNat i 0 i hcl rfl
                  go_wp2
                  go_round
                  case rel => exact ⟨0 + 1, by omega, by go_num, rfl⟩
                  case measure => simp [intOf]
                · obtain ⟨m, hm⟩ : ∃ m, (i + 3 + j) % 8 = m := ⟨_, rfl⟩
                  have hm2 : ((i : Int) + 3 + (j : Int)) % 8 = (m : Int) := by omega
                  have hm8 : m < 8 := by omega
                  have e1 := bitk_int c.toNat i j m hcl (by unfold Gf.atOf; rw [if_neg hj0]; exact hm)
                  have hj1 : 0 < j := by omega
                  clear hm hj0
                  go_wp2
                  go_round
                  case rel => exact ⟨j + 1, by omega, by go_num, rfl⟩
                  case measure => simp [intOf]; omega
              · have hj' : j = 5 := by omega
                subst hj'
                have e2 := put_int c.toNat i hi8
                have hbt := Gf.bt_lt c.toNat i 5
                go_wp2
                go_round
                case rel => exact ⟨i + 1, by omega, by go_num, rfl⟩
                case measure => simp [intOf]; omega
          · have hi' : i = 8 := by omega
            subst hi'
            rw [HR.out]
            go_wp2
            go_ret
            exact ⟨rfl, rfl⟩
      · have hk256 : k < 256 := hor.1
        have hb3 : (b.toNat : Int) = 0 := hor.2
        have hb4 : b.toNat = 0 := by omega
        have hb2 : ((b.toNat : Int) != 0) = false := by simp [hb4]
        have hb5 : ((b.toNat : Int) == 0) = true := by simp [hb4]
        clear hor hb3 hb4
        go_wp2
        go_loop [5, 6] (fun s i => ∃ k : Nat, k ≤ 8 ∧ i = .int .i64 k ∧ s = .int .u8 ((Gf.sTo c.toNat k : Nat) : Int)) (fun _ i => 8 - (intOf i).toNat)
        case atStart => exact ⟨0, by omega, rfl, rfl⟩
        case round =>
          clear hk1 hk
          obtain ⟨i, hi, rfl, rfl⟩ := hrel
          by_cases hi8 : i < 8
          · have e0 := bit0_int c.toNat i
            go_wp2
            go_loop [7, 8] (fun t j => ∃ k : Nat, k ≤ 5 ∧ j = .int .i64 k ∧ t = .int .i64 ((Gf.bt c.toNat i k : Nat) : Int)) (fun _ j => 5 - (intOf j).toNat)
            case atStart => exact ⟨0, by omega, rfl, rfl⟩
            case round =>
              clear e0
              obtain ⟨j, hj, rfl, rfl⟩ := hrel
              by_cases hj5 : j < 5
              · have hbt := Gf.bt_lt c.toNat i j
                by_cases hj0 : j = 0
                · subst hj0
                  have e1 := bitk_int c.toNat i 0 i hcl rfl
                  go_wp2
                  go_round
                  case rel => exact ⟨0 + 1, by omega, by go_num, rfl⟩
                  case measure => simp [intOf]
                · obtain ⟨m, hm⟩ : ∃ m, (i + 3 + j) % 8 = m := ⟨_, rfl⟩
                  have hm2 : ((i : Int) + 3 + (j : Int)) % 8 = (m : Int) := by omega
                  have hm8 : m < 8 := by omega
                  have e1 := bitk_int c.toNat i j m hcl (by unfold Gf.atOf; rw [if_neg hj0]; exact hm)
                  have hj1 : 0 < j := by omega
                  clear hm hj0
                  go_wp2
                  go_round
                  case rel => exact ⟨j + 1, by omega, by go_num, rfl⟩
                  case measure => simp [intOf]; omega
              · have hj' : j = 5 := by omega
                subst hj'
                have e2 := put_int c.toNat i hi8
                have hbt := Gf.bt_lt c.toNat i 5
                go_wp2
                go_round
                case rel => exact ⟨i + 1, by omega, by go_num, rfl⟩
                case measure => simp [intOf]; omega
          · have hi' : i = 8 := by omega
            subst hi'
            rw [HR.out]
            go_wp2
            go_ret
            exact ⟨rfl, rfl⟩

set_option maxRecDepth 100000 in
set_option maxHeartbeats 1000000 in
theorem refTable_any (w : World) :
    Calls Tryd.prog 89 #[] w fun e w' => e = .returned (.agg (ag Gf.sbox)) ∧ Below w.heap.size w w' := by
  have HF : Hid (Gf.fill (Gf.zeros 256) (fun i => Gf.look Gf.sbox (UInt8.ofNat i)) 256 = Gf.sbox) := (Gf.fill_full (Gf.zeros 256) _ 256 List.length_replicate).trans Gf.sbox_map
  have HS : Hid (Gf.sbox.length = 256) := Gf.sbox_len
  have HQ : Hid (∀ (b : UInt8) (w : World), Calls Tryd.prog 93 #[.int .u8 (b.toNat : Int)] w fun e w' => e = .returned (.int .u8 ((Gf.look Gf.sbox b).toNat : Int)) ∧ w' = w) := refSub_any
  go_enter Tryd.func89, Tryd.ntmps89
  generalize Gf.sbox = T at *
  obtain ⟨M, hM⟩ : ∃ M, M = 256 := ⟨_, rfl⟩
  have HFM : Hid (Gf.fill (Gf.zeros M) (fun i => Gf.look T (UInt8.ofNat i)) M = T) := by rw [hM]; exact HF
  have HM256 := show Hid _ from hM
  clear hM HF
  go_wp2_with (refine wpList_alloc_row rfl 118 rfl _ _ Tryd.zero118 ?_)
  go_loopw [2] (fun i wr => ∃ k : Nat, k ≤ 256 ∧ i = .int .i64 k ∧ Room wr w.heap.size 118 256 ∧ Row wr (w.heap.size + 1) 118 (ag (Gf.fill (Gf.zeros M) (fun i => Gf.look T (UInt8.ofNat i)) k)) ∧ Below w.heap.size w wr) (fun i _ => 256 - (intOf i).toNat)
  case atStart =>
    refine ⟨0, by omega, rfl, ?_, ?_, ?_⟩
    · exact (Room.new _ _ _ _ (by rw [ag_size]; exact List.length_replicate)).alloc _
    · exact Row.made _ _ _ _ _ (by rw [HM256.out]; rfl) (by simp)
    · exact ((Below.refl _ _).alloc (Nat.le_refl _) _).alloc (by simp) _
  case round =>
    obtain ⟨k, hk, rfl, h0, h1, hbl⟩ := hrel
    by_cases hlt : k < 256
    · have c1 := h1.byte (k := k) (by rw [Gf.fill_len]; show k < (List.replicate M (0 : UInt8)).length; rw [List.length_replicate, HM256.out]; exact hlt)
      have f1 := h1.frozen k
      have HK : Hid ((((UInt8.ofNat k).toNat : Nat) : Int) = (k : Int)) := mod_byte k hlt
      go_wp2_with fail
      have hcall := HQ.out (UInt8.ofNat k) wr
      rw [HK.out] at hcall
      refine hcall.mono ?_
      clear hcall
      rintro e w' ⟨rfl, rfl⟩
      go_wp2
      go_roundw
      case rel => exact ⟨k + 1, by omega, by go_num, h0.setOther _ _ (by simp), h1.setByte k _, hbl.setCell (by simp) _⟩
      case measure => simp [intOf]; omega
    · have hk' : k = M := by rw [HM256.out]; omega
      subst hk'
      rw [HFM.out] at h1
      go_wp2_with (first
        | (refine wpList_load_row rfl 118 _ rfl _ rfl _ _ h1 _ Tryd.underlying118 rfl 256 Tryd.info118 (by rw [ag_size]; exact HS.out) ?_)
        | (refine wpList_store_row rfl 118 _ _ rfl _ rfl _ rfl _ _ h0 Tryd.info118 (by rw [ag_size]; exact HS.out) (ag_one _) ?_))
      exact bodyPost_ret (results_row rfl _ _ rfl _ _ (h0.setRow _) _ Tryd.underlying118 rfl 256 Tryd.info118 (by rw [ag_size]; exact HS.out)) rfl ⟨rfl, below_setRow hbl (by omega) _⟩

end Go.Proofs.YthcokaffbgbanaaDoor

/- The plain mathematics of the reference's round keys: byte by byte they are those of package aes. -/
namespace Go.Proofs.YthcokaffbgbanaaDoor.Gf

theorem set_getD_ne (l : List UInt32) (i k : Nat) (x : UInt32) (h : i ≠ k) : (l.set i x).getD k 0 = l.getD k 0 := by
  simp only [List.getD_eq_getElem?_getD]; rw [List.getElem?_set_ne h]
theorem set_getD_eq (l : List UInt32) (i : Nat) (x : UInt32) (h : i < l.length) : (l.set i x).getD i 0 = x := by
  simp only [List.getD_eq_getElem?_getD]; rw [List.getElem?_set_self h]; rfl
theorem wTo_keep (t key : List UInt8) (i k : Nat) (h : k ≠ i) : (wTo t key (i + 1)).1.getD k 0 = (wTo t key i).1.getD k 0 := by
  simp only [wTo]
  split
  · exact set_getD_ne _ _ _ _ (Ne.symm h)
  · split <;> exact set_getD_ne _ _ _ _ (Ne.symm h)
theorem wTo_stable (t key : List UInt8) (k d : Nat) : (wTo t key (k + 1 + d)).1.getD k 0 = (wTo t key (k + 1)).1.getD k 0 := by
  induction d with
  | zero => rfl
  | succ d ih => rw [← Nat.add_assoc, wTo_keep t key _ k (by omega)]; exact ih
theorem words_at (t key : List UInt8) (k j : Nat) (hk : k < j) (hj : j ≤ 44) : (wTo t key j).1.getD k 0 = (words t key).getD k 0 := by
  have e1 : j = k + 1 + (j - k - 1) := by omega
  have e2 : (44 : Nat) = k + 1 + (44 - k - 1) := by omega
  unfold words
  rw [e1, wTo_stable]
  conv => rhs; rw [e2]
  rw [wTo_stable]
theorem words_lt4 (t key : List UInt8) (k : Nat) (hk : k < 4) : (words t key).getD k 0 = wordAt key k := by
  rw [← words_at t key k (k + 1) (by omega) (by omega)]
  simp only [wTo, hk, if_true]
  exact set_getD_eq _ _ _ (by rw [wTo_len]; omega)
theorem words_mul (t key : List UInt8) (k : Nat) (h4 : 4 ≤ k) (hk : k < 44) (hm : k % 4 = 0) :
    (words t key).getD k 0 = bx32 ((words t key).getD (k - 4) 0) (turned t ((words t key).getD (k - 1) 0) (wTo t key k).2) := by
  rw [← words_at t key k (k + 1) (by omega) (by omega), ← words_at t key (k - 4) k (by omega) (by omega), ← words_at t key (k - 1) k (by omega) (by omega)]
  have hn : ¬ k < 4 := by omega
  conv => lhs; simp only [wTo, hn, hm, if_false, if_true]
  exact set_getD_eq _ _ _ (by rw [wTo_len]; omega)
theorem words_else (t key : List UInt8) (k : Nat) (h4 : 4 ≤ k) (hk : k < 44) (hm : ¬ k % 4 = 0) :
    (words t key).getD k 0 = bx32 ((words t key).getD (k - 4) 0) ((words t key).getD (k - 1) 0) := by
  rw [← words_at t key k (k + 1) (by omega) (by omega), ← words_at t key (k - 4) k (by omega) (by omega), ← words_at t key (k - 1) k (by omega) (by omega)]
  have hn : ¬ k < 4 := by omega
  conv => lhs; simp only [wTo, hn, hm, if_false]
  exact set_getD_eq _ _ _ (by rw [wTo_len]; omega)
theorem rc_keep (t key : List UInt8) (k : Nat) (h : k < 4 ∨ ¬ k % 4 = 0) : (wTo t key (k + 1)).2 = (wTo t key k).2 := by
  simp only [wTo]
  split
  · rfl
  · rcases h with h | h
    · omega
    · simp [h]
theorem rc_dbl (t key : List UInt8) (k : Nat) (h4 : 4 ≤ k) (hm : k % 4 = 0) : (wTo t key (k + 1)).2 = dbl (wTo t key k).2 := by
  have hn : ¬ k < 4 := by omega
  simp [wTo, hn, hm]

/-! Bytes of words. -/
theorem byt_bx32 (x y : UInt32) (m : Nat) : byt (bx32 x y) (2 ^ m) = bx (byt x (2 ^ m)) (byt y (2 ^ m)) := by
  apply UInt8.toNat_inj.1
  unfold bx bx32
  rw [UInt8.toNat_xor, byt_toNat, byt_toNat, byt_toNat, UInt32.toNat_xor]
  have h : (x.toNat ^^^ y.toNat) / 2 ^ m = x.toNat / 2 ^ m ^^^ y.toNat / 2 ^ m := by
    rw [← Nat.shiftRight_eq_div_pow, ← Nat.shiftRight_eq_div_pow, ← Nat.shiftRight_eq_div_pow, Nat.shiftRight_xor_distrib]
  rw [h]
  exact Nat.xor_mod_two_pow (n := 8)
theorem or_mul (a b : Nat) (k : Nat) (hb : b < 2 ^ k) : (a * 2 ^ k ||| b) = a * 2 ^ k + b := by
  rw [Nat.mul_comm]; exact (Nat.two_pow_add_eq_or_of_lt hb a).symm
theorem jnN_eq (a b c d : Nat) (hb : b < 256) (hc : c < 256) (hd : d < 256) : jnN a b c d = a * 16777216 + b * 65536 + c * 256 + d := by
  unfold jnN
  have e1 : (a * 16777216 ||| b * 65536) = (a * 256 + b) * 65536 := by
    have := or_mul a (b * 65536) 24 (by omega)
    rw [show (16777216 : Nat) = 2 ^ 24 from by decide, this]; omega
  have e2 : ((a * 256 + b) * 65536 ||| c * 256) = ((a * 256 + b) * 256 + c) * 256 := by
    have := or_mul (a * 256 + b) (c * 256) 16 (by omega)
    rw [show (65536 : Nat) = 2 ^ 16 from by decide, this]; omega
  have e3 : (((a * 256 + b) * 256 + c) * 256 ||| d) = ((a * 256 + b) * 256 + c) * 256 + d := or_mul _ d 8 (by omega)
  rw [e1, e2, e3]; omega
theorem byt_jn (a b c d : UInt8) : byt (jn a b c d) (2 ^ 24) = a ∧ byt (jn a b c d) (2 ^ 16) = b ∧ byt (jn a b c d) (2 ^ 8) = c ∧ byt (jn a b c d) (2 ^ 0) = d := by
  have ha : a.toNat < 256 := a.toNat_lt
  have hb : b.toNat < 256 := b.toNat_lt
  have hc : c.toNat < 256 := c.toNat_lt
  have hd : d.toNat < 256 := d.toNat_lt
  refine ⟨?_, ?_, ?_, ?_⟩ <;>
  · apply UInt8.toNat_inj.1
    rw [byt_toNat, jn_toNat, jnN_eq _ _ _ _ hb hc hd]
    simp only [show (2 : Nat) ^ 24 = 16777216 from by decide, show (2 : Nat) ^ 16 = 65536 from by decide, show (2 : Nat) ^ 8 = 256 from by decide, show (2 : Nat) ^ 0 = 1 from by decide]
    omega
theorem keyByte_at (ws : List UInt32) (k n : Nat) (hn : n < 4) : keyByte ws (4 * k + n) = byt (ws.getD k 0) (2 ^ (24 - 8 * n)) := by
  have e1 : (4 * k + n) / 4 = k := by omega
  have e2 : (4 * k + n) % 4 = n := by omega
  unfold keyByte; rw [e1, e2]
theorem key_lt4 (t key : List UInt8) (k n : Nat) (hk : k < 4) (hn : n < 4) : keyByte (words t key) (4 * k + n) = key.getD (4 * k + n) 0 := by
  rw [keyByte_at _ _ _ hn, words_lt4 t key k hk]
  unfold wordAt
  have h := byt_jn (key.getD (4 * k) 0) (key.getD (4 * k + 1) 0) (key.getD (4 * k + 2) 0) (key.getD (4 * k + 3) 0)
  have hc : n = 0 ∨ n = 1 ∨ n = 2 ∨ n = 3 := by omega
  rcases hc with rfl | rfl | rfl | rfl
  · exact h.1
  · exact h.2.1
  · exact h.2.2.1
  · exact h.2.2.2
/-- The four bytes that a word is put against. -/
def xByte (t : List UInt8) (ws : List UInt32) (r : UInt8) (k n : Nat) : UInt8 :=
  if k % 4 = 0 then (if n = 0 then bx (look t (keyByte ws (4 * (k - 1) + 1))) r else look t (keyByte ws (4 * (k - 1) + (n + 1) % 4))) else keyByte ws (4 * (k - 1) + n)
theorem byt_one (x : UInt32) : byt x 1 = byt x (2 ^ 0) := rfl
theorem key_ge4 (t key : List UInt8) (k n : Nat) (h4 : 4 ≤ k) (hk : k < 44) (hn : n < 4) :
    keyByte (words t key) (4 * k + n) = bx (keyByte (words t key) (4 * (k - 4) + n)) (xByte t (words t key) (wTo t key k).2 k n) := by
  rw [keyByte_at _ _ _ hn, keyByte_at _ _ _ hn]
  unfold xByte
  by_cases hm : k % 4 = 0
  · rw [if_pos hm, words_mul t key k h4 hk hm, byt_bx32]
    congr 1
    unfold turned
    have h := byt_jn (bx (look t (byt ((words t key).getD (k - 1) 0) 65536)) (wTo t key k).2) (look t (byt ((words t key).getD (k - 1) 0) 256)) (look t (byt ((words t key).getD (k - 1) 0) 1)) (look t (byt ((words t key).getD (k - 1) 0) 16777216))
    have hc : n = 0 ∨ n = 1 ∨ n = 2 ∨ n = 3 := by omega
    rcases hc with rfl | rfl | rfl | rfl
    · rw [if_pos rfl, keyByte_at _ _ _ (by decide)]; exact h.1
    · rw [if_neg (by decide), keyByte_at _ _ _ (by decide)]; exact h.2.1
    · rw [if_neg (by decide), keyByte_at _ _ _ (by decide)]; exact h.2.2.1
    · rw [if_neg (by decide), keyByte_at _ _ _ (by decide)]; exact h.2.2.2
  · rw [if_neg hm, words_else t key k h4 hk hm, byt_bx32, keyByte_at _ _ _ hn]
end Go.Proofs.YthcokaffbgbanaaDoor.Gf

/- Arrays of bytes compared as one. -/
namespace Go.Proofs.YthcokaffbgbanaaDoor
variable {P : Program}

theorem run_part_byte (w : World) (e : TypeId) (ek : IntKind) (he : P.underlying e = some (.int ek)) (c : Array Value) (k : Nat) (v : Value) (hc : c[k]? = some v) : (part e c k).run P w = .ok v w := by
  simp [part, isAgg, underlying, he, hc]

theorem drop_cons_getD (l : List UInt8) (s : Nat) (h : s < l.length) : l.drop s = l.getD s 0 :: l.drop (s + 1) := by
  rw [List.drop_eq_getElem_cons h]; simp [h]

theorem run_eq_arr (w : World) (d : Nat) (t e : TypeId) (n : Nat) (ek : IntKind) (hu : P.underlying t = some (.array n e)) (he : P.underlying e = some (.int ek)) (hs : (P.info? e).map (·.size) = some 1)
    (l l' : List UInt8) (hl : l.length = n) (hl' : l'.length = n) (hd : ∃ m, d = m + 1) : (Op.equalIn (d + 1) t (.agg (ag l)) (.agg (ag l'))).run P w = .ok (decide (l = l')) w := by
  have hsz : ∀ w, (sizeOf e).run P w = .ok 1 w := by
    intro w
    cases hq : P.info? e with
    | none => simp [hq] at hs
    | some i => simp [hq] at hs; simp [sizeOf, typeInfo, hq, hs]
  have hin : ∀ (w : World) (a b : Int), (Op.equalIn d e (.int .u8 a) (.int .u8 b)).run P w = .ok (a == b) w := by
    obtain ⟨m, rfl⟩ := hd
    intro w a b; exact run_equalIn_int w m e .u8 ek a b he
  clear hd
  simp only [Op.equalIn, Sem.run_bind, run_underlying hu, Result.andThen_ok, hsz]
  rw [Std.Legacy.Range.forIn_eq_forIn_range']
  have key : ∀ (k s : Nat), s + k = n → ∀ w : World, (Sem.run P (forIn (List.range' s k) ((none : Option Bool), ()) fun i __s => do
            let a ← part e (ag l) (i * 1)
            let b ← part e (ag l') (i * 1)
            let r ← Op.equalIn d e a b
            if (!r) = true then pure (ForInStep.done (some false, ())) else pure (ForInStep.yield (none, ()))) w) = .ok (if l.drop s = l'.drop s then (none, ()) else (some false, ())) w := by
    intro k
    induction k with
    | zero =>
      intro s hsn w
      have h1 : l.drop s = [] := List.drop_eq_nil_of_le (by omega)
      have h2 : l'.drop s = [] := List.drop_eq_nil_of_le (by omega)
      simp [h1, h2]
    | succ k ih =>
      intro s hsn w
      rw [List.range'_succ, List.forIn_cons]
      have p1 := run_part_byte (P := P) w e ek he (ag l) (s * 1) _ (by rw [Nat.mul_one]; exact ag_get (by omega))
      have p2 := run_part_byte (P := P) w e ek he (ag l') (s * 1) _ (by rw [Nat.mul_one]; exact ag_get (by omega))
      simp only [Sem.run_bind, p1, p2, Result.andThen_ok, hin]
      rw [drop_cons_getD l s (by omega), drop_cons_getD l' s (by omega)]
      by_cases hx : l.getD s 0 = l'.getD s 0
      · rw [hx]
        simp only [beq_self_eq_true, Bool.not_true, Bool.false_eq_true, if_false, Sem.run_pure, Result.andThen_ok, List.cons.injEq, true_and]
        exact ih (s + 1) (by omega) w
      · have hne : (((l.getD s 0).toNat : Int) == ((l'.getD s 0).toNat : Int)) = false := by
          rw [beq_eq_false_iff_ne]; intro h; exact hx (UInt8.toNat_inj.1 (by omega))
        simp only [hne, Bool.not_false, if_true, Sem.run_pure, Result.andThen_ok, List.cons.injEq, hx, false_and, if_false]
  have hk := key n 0 (by omega) w
  have e1 : [:n].size = n := by simp [Std.Legacy.Range.size]
  have e2 : ([:n].start) = 0 := rfl
  have e3 : ([:n].step) = 1 := rfl
  rw [e1, e2, e3, hk]
  simp only [List.drop_zero, Result.andThen_ok]
  by_cases h : l = l' <;> simp [h]

/-- Two arrays of bytes, compared by '=='. -/
theorem run_eql_arr (w : World) (t e : TypeId) (n : Nat) (ek : IntKind) (hu : P.underlying t = some (.array n e)) (he : P.underlying e = some (.int ek)) (hs : (P.info? e).map (·.size) = some 1)
    (l l' : List UInt8) (hl : l.length = n) (hl' : l'.length = n) : (binOp .eql t (.agg (ag l)) (.agg (ag l'))).run P w = .ok (.bool (decide (l = l'))) w := by
  rw [run_eql_struct, run_eq_arr w 9999 t e n ek hu he hs l l' hl hl' ⟨9998, rfl⟩]; rfl
/-- The same as an operation. -/
theorem run_eql_op {op : Oper} {a : Act} (t e ty : TypeId) (n : Nat) (ek : IntKind) (x y : Operand) (ho : op.op = .binOp .eql t x y ty) (hm : P.eqGuardType P.depth t = false) (hu : P.underlying t = some (.array n e)) (he : P.underlying e = some (.int ek)) (hs : (P.info? e).map (·.size) = some 1)
    (l l' : List UInt8) (hx : a.eval x = .agg (ag l)) (hy : a.eval y = .agg (ag l')) (hl : l.length = n) (hl' : l'.length = n) (r : Bool) (hr : decide (l = l') = r) (w : World) : (execOp a.eval op).run P w = .ok (.value (.bool r)) w := by
  unfold execOp
  simp only [ho, hx, hy, Sem.run_bind, run_eqGuard_agg w _ _ _ _ _ _ hm, Result.andThen_ok, run_eql_arr w t e n ek hu he hs l l' hl hl', hr, Sem.run_pure]
theorem run_pick_op {op : Oper} {a : Act} (c x y : Operand) (ho : op.op = .pick c x y) (t : Bool) (hc : a.eval c = .bool t) (v : Value) (hv : (if t then a.eval x else a.eval y) = v) (w : World) : (execOp a.eval op).run P w = .ok (.value v) w := by
  unfold execOp
  subst hv
  cases t <;> simp [ho, hc, asBool]

end Go.Proofs.YthcokaffbgbanaaDoor

/- The walks of the reference's functions on blocks: exclusive or, round keys. -/
namespace Go.Proofs.YthcokaffbgbanaaDoor
open Go.RowKit Go.BigFrame

set_option maxHeartbeats 400000 in
theorem refAgainst_any (a b : List UInt8) (ha : a.length = 16) (hb : b.length = 16) (w : World) :
    Calls Tryd.prog 80 #[.agg (ag a), .agg (ag b)] w fun e w' => e = .returned (.agg (ag (Gf.bxor a b))) ∧ Below w.heap.size w w' := by
  have hF : Gf.fill a (fun i => a.getD i 0 ^^^ b.getD i 0) 16 = Gf.bxor a b := Gf.fill_full _ _ _ ha
  have HF := show Hid _ from hF
  clear hF
  go_enter Tryd.func80, Tryd.ntmps80
  go_wp2
  go_loopw [5] (fun i wr => ∃ k : Nat, k ≤ 16 ∧ i = .int .i64 k ∧ Row wr w.heap.size 23 (ag (Gf.fill a (fun i => a.getD i 0 ^^^ b.getD i 0) k)) ∧ Row wr (w.heap.size + 1) 23 (ag b) ∧ Room wr (w.heap.size + 1 + 1) 23 16 ∧ Below w.heap.size w wr) (fun i _ => 16 - (intOf i).toNat)
  case atStart =>
    refine ⟨0, by omega, rfl, ?_, ?_, ?_, ?_⟩
    · exact ((Row.new _ _ _).alloc _).alloc _
    · simpa using (Row.new (w.alloc (.cells (ag a) 23)) 23 (ag b)).alloc _
    · simpa using Room.new ((w.alloc (.cells (ag a) 23)).alloc (.cells (ag b) 23)) 23 _ 16 rfl
    · exact (((Below.refl _ _).alloc (Nat.le_refl _) _).alloc (by simp) _).alloc (by simp; omega) _
  case round =>
    obtain ⟨k, hk, rfl, h1, h2, h3, hbl⟩ := hrel
    by_cases hlt : k < 16
    · have c1 := h1.byte (k := k) (by rw [Gf.fill_len, ha]; exact hlt)
      have f1 := h1.frozen k
      have c2 := h2.byte (k := k) (by rw [hb]; exact hlt)
      rw [Gf.fill_get _ _ _ _ (Nat.le_refl _)] at c1
      go_wp2
      go_region
      go_wp2
      go_roundw
      case rel =>
        refine ⟨k + 1, by omega, by go_num, ?_, ?_, ?_, ?_⟩
        · have e : Gf.fill a (fun i => a.getD i 0 ^^^ b.getD i 0) (k + 1) = (Gf.fill a (fun i => a.getD i 0 ^^^ b.getD i 0) k).set k (a[k] ^^^ b[k]) := by simp [Gf.fill, ha, hb, hlt]
          rw [e, xor_u8]; exact (h1.setByte k _).drew
        · exact (h2.setOther _ _ (by simp)).drew
        · exact (h3.setOther _ _ (by simp; omega)).drew
        · exact (hbl.setCell (Nat.le_refl _) _).drew
      case measure => simp [intOf]; omega
    · have hk' : k = 16 := by omega
      subst hk'
      rw [HF.out] at h1
      have hl := Gf.bxor_len a b
      go_wp2_with (first
        | (refine wpList_load_row rfl 23 _ rfl _ rfl _ _ h1 _ Tryd.underlying23 rfl 16 Tryd.info23 (by rw [ag_size, hl]) ?_)
        | (refine wpList_store_row rfl 23 _ _ rfl _ rfl _ rfl _ _ h3 Tryd.info23 (by rw [ag_size, hl]) (ag_one _) ?_))
      exact bodyPost_ret (results_row rfl _ _ rfl _ _ (h3.setRow _) _ Tryd.underlying23 rfl 16 Tryd.info23 (by rw [ag_size, hl])) rfl ⟨rfl, below_setRow hbl (by omega) _⟩


theorem fill_four (z : List UInt8) (f : Nat → UInt8) (m a : Nat) (h : a + 4 ≤ m) (hz : a + 4 ≤ z.length) : List.take 4 (List.drop a (Gf.fill z f m)) = [f a, f (a + 1), f (a + 2), f (a + 3)] := by
  have hl := Gf.fill_len z f m
  have hg : ∀ j, j < 4 → (Gf.fill z f m).getD (a + j) 0 = f (a + j) := fun j hj => by
    rw [List.getD_eq_getElem?_getD, Gf.fill_at z f m (a + j) (by omega) (by omega)]; rfl
  rw [drop_cons_getD _ a (by omega), drop_cons_getD _ (a + 1) (by omega), drop_cons_getD _ (a + 2) (by omega), drop_cons_getD _ (a + 3) (by omega)]
  have g0 := hg 0 (by decide)
  rw [Nat.add_zero] at g0
  rw [g0, hg 1 (by decide), hg 2 (by decide), hg 3 (by decide)]
  rfl
theorem times_two : ∀ n, n < 256 → Gf.timesN n 2 = Gf.dblN n := by decide +kernel
theorem refTimes_two (q : UInt8) (w : World) : Calls Tryd.prog 81 #[.int .u8 (q.toNat : Int), .int .u8 2] w fun e w' => e = .returned (.int .u8 ((Gf.dbl q).toNat : Int)) ∧ w' = w := by
  have h := refTimes_any q 2 w
  have e : Gf.times q 2 = Gf.dbl q := by
    apply UInt8.toNat_inj.1
    rw [Gf.times_toNat, Gf.dbl_toNat]
    exact times_two q.toNat q.toNat_lt
  rw [e] at h; exact h
theorem Tryd.zero140 : (Tryd.prog.info? 140).map (fun i => (i.zero, i.size)) = some (some (.agg (ag (Gf.zeros 176))), 176) := by kernel_rfl
theorem Tryd.zero139 : (Tryd.prog.info? 139).map (fun i => (i.zero, i.size)) = some (some (.agg (ag (Gf.zeros 4))), 4) := by kernel_rfl
theorem Tryd.info139 : (Tryd.prog.info? 139).map (·.size) = some 4 := by kernel_rfl

set_option maxRecDepth 100000 in
set_option maxHeartbeats 1000000 in
theorem refExpand_any (key t : List UInt8) (hkey : key.length = 16) (ht : t.length = 256) (w : World) (tb : Nat) (tt : TypeId) (htb : Row w tb tt (ag t)) :
    Calls Tryd.prog 90 #[.pointer (some ⟨tb, 0, none⟩), .agg (ag key)] w fun e w' => e = .returned (.agg (ag (Gf.keys t key))) ∧ Below w.heap.size w w' := by
  have hlt0 := htb.lt
  have HW : Hid (Gf.keys t key = (List.range 176).map (Gf.keyByte (Gf.words t key))) := rfl
  have HF : Hid (∀ k n, k < 4 → n < 4 → Gf.keyByte (Gf.words t key) (4 * k + n) = key.getD (4 * k + n) 0) := Gf.key_lt4 t key
  have HG : Hid (∀ k n, 4 ≤ k → k < 44 → n < 4 → Gf.keyByte (Gf.words t key) (4 * k + n) = Gf.bx (Gf.keyByte (Gf.words t key) (4 * (k - 4) + n)) (Gf.xByte t (Gf.words t key) (Gf.wTo t key k).2 k n)) := Gf.key_ge4 t key
  generalize Gf.words t key = ws at *
  go_enter Tryd.func90, Tryd.ntmps90
  go_wp2_with (first
    | (refine wpList_alloc_row rfl 106 rfl _ _ Tryd.zero106 ?_)
    | (refine wpList_alloc_row rfl 140 rfl _ _ Tryd.zero140 ?_))
  go_loopw [6, 7] (fun p i wr => ∃ (k : Nat) (q : UInt8), k ≤ 44 ∧ Hid (q = (Gf.wTo t key k).2) ∧ i = .int .i64 k ∧ p = .int .u8 (q.toNat : Int) ∧ Row wr w.heap.size 23 (ag key) ∧ Room wr (w.heap.size + 1) 106 176 ∧ Row wr (w.heap.size + 1 + 1) 140 (ag (Gf.fill (Gf.zeros 176) (Gf.keyByte ws) (4 * k))) ∧ Below w.heap.size w wr) (fun _ i _ => 44 - (intOf i).toNat)
  case atStart =>
    refine ⟨0, 1, by omega, rfl, rfl, rfl, ?_, ?_, ?_, ?_⟩
    · exact ((Row.new _ _ _).alloc _).alloc _
    · exact (Room.made _ _ _ _ _ (by rw [ag_size]; exact List.length_replicate) (by simp)).alloc _
    · exact Row.made _ _ _ _ _ rfl (by simp)
    · exact (((Below.refl _ _).alloc (Nat.le_refl _) _).alloc (by simp) _).alloc (by simp; omega) _
  case round =>
    obtain ⟨k, q, hk, hQ, rfl, rfl, h0, h1, h2, hbl⟩ := hrel
    have hfl : (Gf.fill (Gf.zeros 176) (Gf.keyByte ws) (4 * k)).length = 176 := by rw [Gf.fill_len]; exact List.length_replicate
    by_cases hlt : k < 44
    · by_cases h4 : k < 4
      · obtain ⟨m, hm⟩ : ∃ m, m = 4 * k := ⟨_, rfl⟩
        have hm' : (4 : Int) * (k : Int) = (m : Int) := by omega
        have hm12 : m ≤ 12 := by omega
        have HMM := show Hid _ from hm
        clear hm
        go_wp2
        refine wp_region_tail 9 (by kernel_rfl) (by kernel_rfl) ?_
        simp only [List.take_succ_cons, List.take_zero, List.drop_succ_cons, List.drop_zero]
        repeat (go_big_quiet_step (fail))
        go_big_quiet_want
        refine quiet_run _ (fun w' => slice_op 23 _ _ _ _ rfl _ w' (by exact run_slice_arr w' 23 5 16 Tryd.underlying23 (by kernel_rfl) w.heap.size 0 m (m + 4) (by omega) (by omega) (by omega))) ?_
        go_big_quiet_on
        simp only [Act.put, List.setIfInBounds_toArray, List.set_cons_succ, List.set_cons_zero]
        refine wpQuiet_nil ?_
        refine wpList_copy_bytes rfl _ _ 26 26 rfl 5 Tryd.underlying26 (by kernel_rfl) (w.heap.size + 1 + 1) (k * 4) 4 4 w.heap.size (0 + m) (m + 4 - m) (16 - m) rfl rfl _ key 140 23 h2.drew h0.drew 4 (by rw [show m + 4 - m = 4 from by omega]; rfl) (by rw [hfl]; omega) (by rw [hkey]; omega) ?_
        have HE : Hid (splice (Gf.fill (Gf.zeros 176) (Gf.keyByte ws) (4 * k)) (k * 4) (List.take 4 (List.drop (0 + m) key)) = Gf.fill (Gf.zeros 176) (Gf.keyByte ws) (4 * (k + 1))) := by
          show _ = _
          have e1 : k * 4 = 4 * k := by omega
          have e2 : 4 * (k + 1) = 4 * k + 4 := by omega
          rw [e1, e2]
          refine fill_splice _ _ _ (by rw [show (Gf.zeros 176).length = 176 from List.length_replicate]; omega) _ ?_
          rw [HF.out k 1 h4 (by decide), HF.out k 2 h4 (by decide), HF.out k 3 h4 (by decide)]
          have h00 := HF.out k 0 h4 (by decide)
          rw [Nat.add_zero] at h00
          rw [h00, Nat.zero_add, HMM.out]
          rw [drop_cons_getD key (4 * k) (by omega), drop_cons_getD key (4 * k + 1) (by omega), drop_cons_getD key (4 * k + 2) (by omega), drop_cons_getD key (4 * k + 3) (by omega)]
          rfl
        have HQ' : Hid (q = (Gf.wTo t key (k + 1)).2) := by
          have := hQ.out
          show _ = _
          rw [Gf.rc_keep t key k (.inl h4)]; exact this
        generalize splice (Gf.fill (Gf.zeros 176) (Gf.keyByte ws) (4 * k)) (k * 4) (List.take 4 (List.drop (0 + m) key)) = s1 at *
        go_wp2
        go_roundw
        case rel =>
          refine ⟨k + 1, q, by omega, HQ', by go_num, rfl, (h0.drew).setRowOther _ _ (by omega), (h1.drew).setRowOther _ _ (by omega), ?_, below_setRow hbl.drew (by omega) _⟩
          rw [← HE.out]; exact h2.drew.setRow _
        case measure => simp [intOf]; omega
      · have hpart : (Gf.fill (Gf.zeros 176) (Gf.keyByte ws) (4 * k)).length = 176 := hfl
        obtain ⟨k1, hk1⟩ : ∃ k1, k1 = k - 1 := ⟨_, rfl⟩
        have hk1' : (k : Int) - 1 = (k1 : Int) := by omega
        have hb1 : k1 < 44 := by omega
        have HK1 := show Hid _ from hk1
        clear hk1
        by_cases hm4 : k % 4 = 0
        · have hmi : (k : Int) % 4 = 0 := by omega
          go_wp2_with (first
            | (refine wpList_load_part rfl 139 _ rfl _ _ rfl _ _ h2 _ Tryd.underlying139 rfl 4 Tryd.info139 (by rw [hfl]; omega) ?_)
            | (refine wpList_alloc_row rfl 139 rfl _ _ Tryd.zero139 ?_)
            | (refine wpList_store_row rfl 139 _ _ rfl _ rfl _ rfl _ _ (Room.new _ _ _ _ (by rw [ag_size]; rfl)) Tryd.info139 (by rw [ag_size, List.length_take, List.length_drop, hfl]; omega) (ag_one _) ?_; rw [World.setRow_alloc_new])
            | fail)
          have hxs : List.take 4 (List.drop (k1 * 4) (Gf.fill (Gf.zeros 176) (Gf.keyByte ws) (4 * k))) = [Gf.keyByte ws (4 * k1), Gf.keyByte ws (4 * k1 + 1), Gf.keyByte ws (4 * k1 + 2), Gf.keyByte ws (4 * k1 + 3)] := by
            have e1 : k1 * 4 = 4 * k1 := by omega
            have e2 : 4 * k1 + 4 ≤ 4 * k := by have := HK1.out; omega
            rw [e1]
            exact fill_four _ _ _ _ e2 (by rw [show (Gf.zeros 176).length = 176 from List.length_replicate]; omega)
          rw [hxs]
          clear hxs
          have g0 := h0.alloc (.cells (ag [Gf.keyByte ws (4 * k1), Gf.keyByte ws (4 * k1 + 1), Gf.keyByte ws (4 * k1 + 2), Gf.keyByte ws (4 * k1 + 3)]) 139)
          have g1 := h1.alloc (.cells (ag [Gf.keyByte ws (4 * k1), Gf.keyByte ws (4 * k1 + 1), Gf.keyByte ws (4 * k1 + 2), Gf.keyByte ws (4 * k1 + 3)]) 139)
          have g2 := h2.alloc (.cells (ag [Gf.keyByte ws (4 * k1), Gf.keyByte ws (4 * k1 + 1), Gf.keyByte ws (4 * k1 + 2), Gf.keyByte ws (4 * k1 + 3)]) 139)
          have gx := Row.new wr 139 (ag [Gf.keyByte ws (4 * k1), Gf.keyByte ws (4 * k1 + 1), Gf.keyByte ws (4 * k1 + 2), Gf.keyByte ws (4 * k1 + 3)])
          have gb := hbl.alloc hbl.size (.cells (ag [Gf.keyByte ws (4 * k1), Gf.keyByte ws (4 * k1 + 1), Gf.keyByte ws (4 * k1 + 2), Gf.keyByte ws (4 * k1 + 3)]) 139)
          have hxb : w.heap.size + 1 + 1 < wr.heap.size := h2.lt
          have gt := (htb.below hbl hlt0).alloc (.cells (ag [Gf.keyByte ws (4 * k1), Gf.keyByte ws (4 * k1 + 1), Gf.keyByte ws (4 * k1 + 2), Gf.keyByte ws (4 * k1 + 3)]) 139)
          clear h0 h1 h2 hbl
          generalize wr.alloc (.cells (ag [Gf.keyByte ws (4 * k1), Gf.keyByte ws (4 * k1 + 1), Gf.keyByte ws (4 * k1 + 2), Gf.keyByte ws (4 * k1 + 3)]) 139) = W1 at *
          generalize wr.heap.size = xb at *
          have c0 := gx.byte (k := 0) (by simp)
          have c1 := gx.byte (k := 1) (by simp)
          have c2 := gx.byte (k := 2) (by simp)
          have c3 := gx.byte (k := 3) (by simp)
          simp only [List.getD_cons_zero, List.getD_cons_succ] at c0 c1 c2 c3
          have t0 := gt.byte (k := (Gf.keyByte ws (4 * k1)).toNat) (by rw [ht]; exact UInt8.toNat_lt _)
          have t1 := gt.byte (k := (Gf.keyByte ws (4 * k1 + 1)).toNat) (by rw [ht]; exact UInt8.toNat_lt _)
          have t2 := gt.byte (k := (Gf.keyByte ws (4 * k1 + 2)).toNat) (by rw [ht]; exact UInt8.toNat_lt _)
          have t3 := gt.byte (k := (Gf.keyByte ws (4 * k1 + 3)).toNat) (by rw [ht]; exact UInt8.toNat_lt _)
          have b0 : (Gf.keyByte ws (4 * k1)).toNat < 256 := UInt8.toNat_lt _
          have b1 : (Gf.keyByte ws (4 * k1 + 1)).toNat < 256 := UInt8.toNat_lt _
          have b2 : (Gf.keyByte ws (4 * k1 + 2)).toNat < 256 := UInt8.toNat_lt _
          have b3 : (Gf.keyByte ws (4 * k1 + 3)).toNat < 256 := UInt8.toNat_lt _
          have HXB0 : Hid (∀ n, n < 4 → ([Gf.bx (t.getD (Gf.keyByte ws (4 * k1 + 1)).toNat 0) q, t.getD (Gf.keyByte ws (4 * k1 + 2)).toNat 0, t.getD (Gf.keyByte ws (4 * k1 + 3)).toNat 0, t.getD (Gf.keyByte ws (4 * k1)).toNat 0] : List UInt8).getD n 0 = Gf.xByte t ws (Gf.wTo t key k).2 k n) := by
            intro n hn
            have e1 := HK1.out
            have e2 := hQ.out
            unfold Gf.xByte
            rw [if_pos hm4, ← e1, ← e2]
            have hc : n = 0 ∨ n = 1 ∨ n = 2 ∨ n = 3 := by omega
            rcases hc with rfl | rfl | rfl | rfl <;> rfl
          have HQ' : Hid (Gf.dbl q = (Gf.wTo t key (k + 1)).2) := by
            have := hQ.out
            show _ = _
            rw [Gf.rc_dbl t key k (by omega) hm4, this]
          clear hQ
          generalize t.getD (Gf.keyByte ws (4 * k1)).toNat 0 = z0 at *
          generalize t.getD (Gf.keyByte ws (4 * k1 + 1)).toNat 0 = z1 at *
          generalize t.getD (Gf.keyByte ws (4 * k1 + 2)).toNat 0 = z2 at *
          generalize t.getD (Gf.keyByte ws (4 * k1 + 3)).toNat 0 = z3 at *
          have HXB := HXB0
          clear HXB0 hm4
          generalize Gf.keyByte ws (4 * k1) = y0 at *
          generalize Gf.keyByte ws (4 * k1 + 1) = y1 at *
          generalize Gf.keyByte ws (4 * k1 + 2) = y2 at *
          generalize Gf.keyByte ws (4 * k1 + 3) = y3 at *
          have hxx : ∀ x y : UInt8, bits .xor .u8 (x.toNat : Int) (y.toNat : Int) = ((Gf.bx x y).toNat : Int) := xor_bx
          refine wp_region_tail 27 (by kernel_rfl) (by kernel_rfl) ?_
          simp only [List.take_succ_cons, List.take_zero, List.drop_succ_cons, List.drop_zero]
          repeat (go_big_quiet_step (fail))
          refine wpQuiet_nil ?_
          refine wpList_store_row rfl 139 _ _ rfl _ rfl (ag [Gf.bx z1 q, z2, z3, z0]) rfl _ _ (gx.drew.room (by rw [ag_size]; rfl)) Tryd.info139 (by rw [ag_size]; rfl) (ag_one _) ?_
          have k0 := g0.drew.setRowOther xb (ag [Gf.bx z1 q, z2, z3, z0]) (by omega)
          have k1' := g1.drew.setRowOther xb (ag [Gf.bx z1 q, z2, z3, z0]) (by omega)
          have k2 := g2.drew.setRowOther xb (ag [Gf.bx z1 q, z2, z3, z0]) (by omega)
          have kx := gx.drew.setRow (ag [Gf.bx z1 q, z2, z3, z0])
          have kb := below_setRow gb.drew (Nat.le_of_lt (by omega : w.heap.size < xb)) (ag [Gf.bx z1 q, z2, z3, z0])
          clear g0 g1 g2 gx gb gt c0 c1 c2 c3 t0 t1 t2 t3 hxx
          generalize W1.drew.setRow xb (ag [Gf.bx z1 q, z2, z3, z0]) = W2 at *
          go_wp2_with (go_at_call 81; refine (refTimes_two q _).mono ?_; rintro e w' ⟨rfl, rfl⟩)
          go_loopw [9] (fun i wr => ∃ n : Nat, n ≤ 4 ∧ i = .int .i64 n ∧ Row wr w.heap.size 23 (ag key) ∧ Room wr (w.heap.size + 1) 106 176 ∧ Row wr (w.heap.size + 1 + 1) 140 (ag (Gf.fill (Gf.zeros 176) (Gf.keyByte ws) (4 * k + n))) ∧ Row wr xb 139 (ag [Gf.bx z1 q, z2, z3, z0]) ∧ Below w.heap.size w wr) (fun i _ => 4 - (intOf i).toNat)
          case atStart => exact ⟨0, by omega, rfl, k0, k1', k2, kx, kb⟩
          case round =>
            clear k0 k1' k2 kx kb
            obtain ⟨n, hn, rfl, f0, f1, f2, fx, fb⟩ := hrel
            by_cases hn4 : n < 4
            · obtain ⟨x, hx⟩ : ∃ x, ([Gf.bx z1 q, z2, z3, z0] : List UInt8).getD n 0 = x := ⟨_, rfl⟩
              obtain ⟨y, hy⟩ : ∃ y, Gf.keyByte ws (4 * (k - 4) + n) = y := ⟨_, rfl⟩
              have HE : Hid (Gf.fill (Gf.zeros 176) (Gf.keyByte ws) (4 * k + n + 1) = (Gf.fill (Gf.zeros 176) (Gf.keyByte ws) (4 * k + n)).set (4 * k + n) (Gf.bx y x)) := by
                show _ = _
                rw [Gf.fill, HG.out k n (by omega) hlt hn4, ← HXB.out n hn4, hx, hy]
              obtain ⟨k4, hk4⟩ : ∃ k4, k4 = k - 4 := ⟨_, rfl⟩
              have hk4' : (k : Int) - 4 = (k4 : Int) := by omega
              have hb4 : k4 < 44 := by omega
              have hln : ([Gf.bx z1 q, z2, z3, z0] : List UInt8).length = 4 := rfl
              have cx := cell_form (fx.byte (k := n) (by rw [hln]; exact hn4)) hx
              have cy : wr.cell? ⟨w.heap.size + 1 + 1, k4 * 4 + n, none⟩ = some (.int .u8 (y.toNat : Int)) := by
                have e : k4 * 4 + n = 4 * (k - 4) + n := by omega
                rw [e, f2.cell, ag_get (by rw [Gf.fill_len]; show _ < (List.replicate 176 (0 : UInt8)).length; rw [List.length_replicate]; omega)]
                rw [List.getD_eq_getElem?_getD, Gf.fill_at _ _ _ _ (by omega) (by show _ < (List.replicate 176 (0 : UInt8)).length; rw [List.length_replicate]; omega), Option.getD_some, hy]
              have cz : wr.cell? ⟨w.heap.size + 1 + 1, k * 4 + n, none⟩ = some (.int .u8 (((Gf.fill (Gf.zeros 176) (Gf.keyByte ws) (4 * k + n)).getD (k * 4 + n) 0).toNat : Int)) := f2.byte (by rw [Gf.fill_len]; show _ < (List.replicate 176 (0 : UInt8)).length; rw [List.length_replicate]; omega)
              have fz := f2.frozen (k * 4 + n)
              have HO : Hid (k * 4 + n = 4 * k + n) := by show _ = _; omega
              clear hx hy hk4
              generalize (Gf.fill (Gf.zeros 176) (Gf.keyByte ws) (4 * k + n)).getD (k * 4 + n) 0 = zz at *
              have hxx : ∀ x y : UInt8, bits .xor .u8 (x.toNat : Int) (y.toNat : Int) = ((Gf.bx x y).toNat : Int) := xor_bx
              go_wp2
              refine wp_region_tail 13 (by kernel_rfl) (by kernel_rfl) ?_
              simp only [List.take_succ_cons, List.take_zero, List.drop_succ_cons, List.drop_zero]
              repeat (go_big_quiet_step (fail))
              refine wpQuiet_nil ?_
              go_wp2
              refine ⟨⟨n + 1, by omega, by go_num, ?_, ?_, ?_, ?_, ?_⟩, by simp [intOf]; omega⟩
              · exact (f0.setOther _ _ (by simp; omega)).drew
              · exact (f1.setOther _ _ (by simp)).drew
              · rw [← Nat.add_assoc, HE.out, HO.out]; exact (f2.setByte (4 * k + n) _).drew
              · exact (fx.setOther _ _ (by simp; omega)).drew
              · exact (fb.setCell (by simp; omega) _).drew
            · have hn' : n = 4 := by omega
              subst hn'
              go_wp2
              go_roundw
              case rel => exact ⟨k + 1, Gf.dbl q, by omega, HQ', by go_num, rfl, f0, f1, f2, fb⟩
              case measure => simp [intOf]; omega
        · have hmi : ((k : Int) % 4 == 0) = false := by rw [beq_eq_false_iff_ne]; omega
          go_wp2_with (first
            | (refine wpList_load_part rfl 139 _ rfl _ _ rfl _ _ h2 _ Tryd.underlying139 rfl 4 Tryd.info139 (by rw [hfl]; omega) ?_)
            | (refine wpList_alloc_row rfl 139 rfl _ _ Tryd.zero139 ?_)
            | (refine wpList_store_row rfl 139 _ _ rfl _ rfl _ rfl _ _ (Room.new _ _ _ _ (by rw [ag_size]; rfl)) Tryd.info139 (by rw [ag_size, List.length_take, List.length_drop, hfl]; omega) (ag_one _) ?_; rw [World.setRow_alloc_new])
            | fail)
          have hxs : List.take 4 (List.drop (k1 * 4) (Gf.fill (Gf.zeros 176) (Gf.keyByte ws) (4 * k))) = [Gf.keyByte ws (4 * k1), Gf.keyByte ws (4 * k1 + 1), Gf.keyByte ws (4 * k1 + 2), Gf.keyByte ws (4 * k1 + 3)] := by
            have e1 : k1 * 4 = 4 * k1 := by omega
            have e2 : 4 * k1 + 4 ≤ 4 * k := by have := HK1.out; omega
            rw [e1]
            exact fill_four _ _ _ _ e2 (by rw [show (Gf.zeros 176).length = 176 from List.length_replicate]; omega)
          rw [hxs]
          clear hxs
          have g0 := h0.alloc (.cells (ag [Gf.keyByte ws (4 * k1), Gf.keyByte ws (4 * k1 + 1), Gf.keyByte ws (4 * k1 + 2), Gf.keyByte ws (4 * k1 + 3)]) 139)
          have g1 := h1.alloc (.cells (ag [Gf.keyByte ws (4 * k1), Gf.keyByte ws (4 * k1 + 1), Gf.keyByte ws (4 * k1 + 2), Gf.keyByte ws (4 * k1 + 3)]) 139)
          have g2 := h2.alloc (.cells (ag [Gf.keyByte ws (4 * k1), Gf.keyByte ws (4 * k1 + 1), Gf.keyByte ws (4 * k1 + 2), Gf.keyByte ws (4 * k1 + 3)]) 139)
          have gx := Row.new wr 139 (ag [Gf.keyByte ws (4 * k1), Gf.keyByte ws (4 * k1 + 1), Gf.keyByte ws (4 * k1 + 2), Gf.keyByte ws (4 * k1 + 3)])
          have gb := hbl.alloc hbl.size (.cells (ag [Gf.keyByte ws (4 * k1), Gf.keyByte ws (4 * k1 + 1), Gf.keyByte ws (4 * k1 + 2), Gf.keyByte ws (4 * k1 + 3)]) 139)
          have hxb : w.heap.size + 1 + 1 < wr.heap.size := h2.lt
          have gt := (htb.below hbl hlt0).alloc (.cells (ag [Gf.keyByte ws (4 * k1), Gf.keyByte ws (4 * k1 + 1), Gf.keyByte ws (4 * k1 + 2), Gf.keyByte ws (4 * k1 + 3)]) 139)
          clear h0 h1 h2 hbl
          generalize wr.alloc (.cells (ag [Gf.keyByte ws (4 * k1), Gf.keyByte ws (4 * k1 + 1), Gf.keyByte ws (4 * k1 + 2), Gf.keyByte ws (4 * k1 + 3)]) 139) = W1 at *
          generalize wr.heap.size = xb at *
          have HXB : Hid (∀ n, n < 4 → ([Gf.keyByte ws (4 * k1), Gf.keyByte ws (4 * k1 + 1), Gf.keyByte ws (4 * k1 + 2), Gf.keyByte ws (4 * k1 + 3)] : List UInt8).getD n 0 = Gf.xByte t ws (Gf.wTo t key k).2 k n) := by
            intro n hn
            have e1 := HK1.out
            unfold Gf.xByte
            rw [if_neg hm4, ← e1]
            have hc : n = 0 ∨ n = 1 ∨ n = 2 ∨ n = 3 := by omega
            rcases hc with rfl | rfl | rfl | rfl <;> rfl
          have HQ' : Hid (q = (Gf.wTo t key (k + 1)).2) := by
            have := hQ.out
            show _ = _
            rw [Gf.rc_keep t key k (.inr hm4)]; exact this
          clear hQ gt hm4
          generalize Gf.keyByte ws (4 * k1) = y0 at *
          generalize Gf.keyByte ws (4 * k1 + 1) = y1 at *
          generalize Gf.keyByte ws (4 * k1 + 2) = y2 at *
          generalize Gf.keyByte ws (4 * k1 + 3) = y3 at *
          go_loopw [9] (fun i wr => ∃ n : Nat, n ≤ 4 ∧ i = .int .i64 n ∧ Row wr w.heap.size 23 (ag key) ∧ Room wr (w.heap.size + 1) 106 176 ∧ Row wr (w.heap.size + 1 + 1) 140 (ag (Gf.fill (Gf.zeros 176) (Gf.keyByte ws) (4 * k + n))) ∧ Row wr xb 139 (ag [y0, y1, y2, y3]) ∧ Below w.heap.size w wr) (fun i _ => 4 - (intOf i).toNat)
          case atStart => exact ⟨0, by omega, rfl, g0, g1, g2, gx, gb⟩
          case round =>
            clear g0 g1 g2 gx gb
            obtain ⟨n, hn, rfl, f0, f1, f2, fx, fb⟩ := hrel
            by_cases hn4 : n < 4
            · obtain ⟨x, hx⟩ : ∃ x, ([y0, y1, y2, y3] : List UInt8).getD n 0 = x := ⟨_, rfl⟩
              obtain ⟨y, hy⟩ : ∃ y, Gf.keyByte ws (4 * (k - 4) + n) = y := ⟨_, rfl⟩
              have HE : Hid (Gf.fill (Gf.zeros 176) (Gf.keyByte ws) (4 * k + n + 1) = (Gf.fill (Gf.zeros 176) (Gf.keyByte ws) (4 * k + n)).set (4 * k + n) (Gf.bx y x)) := by
                show _ = _
                rw [Gf.fill, HG.out k n (by omega) hlt hn4, ← HXB.out n hn4, hx, hy]
              obtain ⟨k4, hk4⟩ : ∃ k4, k4 = k - 4 := ⟨_, rfl⟩
              have hk4' : (k : Int) - 4 = (k4 : Int) := by omega
              have hb4 : k4 < 44 := by omega
              have hln : ([y0, y1, y2, y3] : List UInt8).length = 4 := rfl
              have cx := cell_form (fx.byte (k := n) (by rw [hln]; exact hn4)) hx
              have cy : wr.cell? ⟨w.heap.size + 1 + 1, k4 * 4 + n, none⟩ = some (.int .u8 (y.toNat : Int)) := by
                have e : k4 * 4 + n = 4 * (k - 4) + n := by omega
                rw [e, f2.cell, ag_get (by rw [Gf.fill_len]; show _ < (List.replicate 176 (0 : UInt8)).length; rw [List.length_replicate]; omega)]
                rw [List.getD_eq_getElem?_getD, Gf.fill_at _ _ _ _ (by omega) (by show _ < (List.replicate 176 (0 : UInt8)).length; rw [List.length_replicate]; omega), Option.getD_some, hy]
              have cz : wr.cell? ⟨w.heap.size + 1 + 1, k * 4 + n, none⟩ = some (.int .u8 (((Gf.fill (Gf.zeros 176) (Gf.keyByte ws) (4 * k + n)).getD (k * 4 + n) 0).toNat : Int)) := f2.byte (by rw [Gf.fill_len]; show _ < (List.replicate 176 (0 : UInt8)).length; rw [List.length_replicate]; omega)
              have fz := f2.frozen (k * 4 + n)
              have HO : Hid (k * 4 + n = 4 * k + n) := by show _ = _; omega
              clear hx hy hk4
              generalize (Gf.fill (Gf.zeros 176) (Gf.keyByte ws) (4 * k + n)).getD (k * 4 + n) 0 = zz at *
              have hxx : ∀ x y : UInt8, bits .xor .u8 (x.toNat : Int) (y.toNat : Int) = ((Gf.bx x y).toNat : Int) := xor_bx
              go_wp2
              refine wp_region_tail 13 (by kernel_rfl) (by kernel_rfl) ?_
              simp only [List.take_succ_cons, List.take_zero, List.drop_succ_cons, List.drop_zero]
              repeat (go_big_quiet_step (fail))
              refine wpQuiet_nil ?_
              go_wp2
              refine ⟨⟨n + 1, by omega, by go_num, ?_, ?_, ?_, ?_, ?_⟩, by simp [intOf]; omega⟩
              · exact (f0.setOther _ _ (by simp; omega)).drew
              · exact (f1.setOther _ _ (by simp)).drew
              · rw [← Nat.add_assoc, HE.out, HO.out]; exact (f2.setByte (4 * k + n) _).drew
              · exact (fx.setOther _ _ (by simp; omega)).drew
              · exact (fb.setCell (by simp; omega) _).drew
            · have hn' : n = 4 := by omega
              subst hn'
              go_wp2
              go_roundw
              case rel => exact ⟨k + 1, q, by omega, HQ', by go_num, rfl, f0, f1, f2, fb⟩
              case measure => simp [intOf]; omega
    · have HK44 : Hid (k = 44) := by show _ = _; omega
      clear hQ
      have hob := h2.lt
      go_wp2_with (refine wpList_alloc_row rfl 106 rfl _ _ Tryd.zero106 ?_)
      have g1 := h1.alloc (.cells (ag (Gf.zeros 176)) 106)
      have g2 := h2.alloc (.cells (ag (Gf.zeros 176)) 106)
      have go := Row.new wr 106 (ag (Gf.zeros 176))
      have gb := hbl.alloc hbl.size (.cells (ag (Gf.zeros 176)) 106)
      clear h0 h1 h2 hbl
      generalize wr.alloc (.cells (ag (Gf.zeros 176)) 106) = W1 at *
      generalize wr.heap.size = ob at *
      go_loopw [11] (fun i wr => ∃ j : Nat, j ≤ 44 ∧ i = .int .i64 j ∧ Room wr (w.heap.size + 1) 106 176 ∧ Row wr (w.heap.size + 1 + 1) 140 (ag (Gf.fill (Gf.zeros 176) (Gf.keyByte ws) (4 * k))) ∧ Row wr ob 106 (ag (Gf.fill (Gf.zeros 176) (Gf.keyByte ws) (4 * j))) ∧ Below w.heap.size w wr) (fun i _ => 44 - (intOf i).toNat)
      case atStart => exact ⟨0, by omega, rfl, g1, g2, go, gb⟩
      case round =>
        clear g1 g2 go gb
        obtain ⟨j, hj, rfl, f1, f2, fo, fb⟩ := hrel
        by_cases hj4 : j < 44
        · obtain ⟨q4, hq4⟩ : ∃ q4, j / 4 = q4 := ⟨_, rfl⟩
          obtain ⟨m4, hm4⟩ : ∃ m4, j % 4 = m4 := ⟨_, rfl⟩
          have i1 : (j : Int) / 4 = (q4 : Int) := by omega
          have i2 : (j : Int) % 4 = (m4 : Int) := by omega
          have i3 : q4 < 11 := by omega
          have i4 : m4 < 4 := by omega
          obtain ⟨o4, ho4⟩ : ∃ o4, 4 * m4 = o4 := ⟨_, rfl⟩
          have i5 : (4 : Int) * (m4 : Int) = (o4 : Int) := by omega
          have i6 : o4 ≤ 12 := by omega
          have HO : Hid (q4 * 16 + o4 = 4 * j) := by show _ = _; omega
          have hflo : (Gf.fill (Gf.zeros 176) (Gf.keyByte ws) (4 * j)).length = 176 := by rw [Gf.fill_len]; exact List.length_replicate
          clear hq4 hm4 ho4
          go_wp2
          refine wp_region_tail 10 (by kernel_rfl) (by kernel_rfl) ?_
          simp only [List.take_succ_cons, List.take_zero, List.drop_succ_cons, List.drop_zero]
          repeat (go_big_quiet_step (fail))
          go_big_quiet_want
          refine quiet_run _ (fun w' => slice_op 23 _ _ _ _ rfl _ w' (by exact run_slice_from w' 23 5 16 Tryd.underlying23 (by kernel_rfl) ob (q4 * 16) o4 (by omega))) ?_
          go_big_quiet_on
          simp only [Act.put, List.setIfInBounds_toArray, List.set_cons_succ, List.set_cons_zero]
          repeat (go_big_quiet_step (fail))
          refine wpQuiet_nil ?_
          refine wpList_copy_bytes rfl _ _ 26 26 rfl 5 Tryd.underlying26 (by kernel_rfl) ob (q4 * 16 + o4) (16 - o4) (16 - o4) (w.heap.size + 1 + 1) (j * 4) 4 4 rfl rfl _ _ 106 140 fo.drew f2.drew 4 (by show 4 = min 4 (16 - o4); omega) (by rw [hflo]; have := HO.out; omega) (by rw [hfl]; omega) ?_
          have HE : Hid (splice (Gf.fill (Gf.zeros 176) (Gf.keyByte ws) (4 * j)) (q4 * 16 + o4) (List.take 4 (List.drop (j * 4) (Gf.fill (Gf.zeros 176) (Gf.keyByte ws) (4 * k)))) = Gf.fill (Gf.zeros 176) (Gf.keyByte ws) (4 * (j + 1))) := by
            show _ = _
            have e2 : 4 * (j + 1) = 4 * j + 4 := by omega
            have e3 : j * 4 = 4 * j := by omega
            have hz : (Gf.zeros 176).length = 176 := List.length_replicate
            rw [HO.out, e2, e3]
            exact fill_splice _ _ _ (by rw [hz]; omega) _ (fill_four _ _ _ _ (by have := HK44.out; omega) (by rw [hz]; omega))
          generalize splice (Gf.fill (Gf.zeros 176) (Gf.keyByte ws) (4 * j)) (q4 * 16 + o4) (List.take 4 (List.drop (j * 4) (Gf.fill (Gf.zeros 176) (Gf.keyByte ws) (4 * k)))) = s1 at *
          go_wp2
          go_roundw
          case rel =>
            refine ⟨j + 1, by omega, by go_num, f1.drew.setRowOther _ _ (by omega), f2.drew.setRowOther _ _ (by omega), ?_, below_setRow fb.drew (by omega) _⟩
            rw [← HE.out]; exact fo.drew.setRow _
          case measure => simp [intOf]; omega
        · have hs : Row wr ob 106 (ag (Gf.keys t key)) := by
            have e : 4 * j = 176 := by omega
            have hF := Gf.fill_full (Gf.zeros 176) (Gf.keyByte ws) 176 List.length_replicate
            rw [e, hF, ← HW.out] at fo; exact fo
          have hlen := Gf.keys_len t key
          have HLen := show Hid _ from hlen
          clear hlen fo
          go_wp2_with (first
            | (refine wpList_load_row rfl 106 _ rfl _ rfl _ _ hs _ Tryd.underlying106 rfl 176 Tryd.info106 (by rw [ag_size]; exact HLen.out) ?_)
            | (refine wpList_store_row rfl 106 _ _ rfl _ rfl _ rfl _ _ f1 Tryd.info106 (by rw [ag_size]; exact HLen.out) (ag_one _) ?_))
          exact bodyPost_ret (results_row rfl _ _ rfl _ _ (f1.setRow _) _ Tryd.underlying106 rfl 176 Tryd.info106 (by rw [ag_size]; exact HLen.out)) rfl ⟨rfl, below_setRow fb (by omega) _⟩
end Go.Proofs.YthcokaffbgbanaaDoor

/- A Cipher, built of a pointer and of round keys. -/
namespace Go.Proofs.YthcokaffbgbanaaDoor
open Go.RowKit

theorem fold_get (off : Nat) (c : List Value) : ∀ (s : Nat) (z : Array Value) (j : Nat), ((c.zipIdx s).foldl (fun cs (p : Value × Nat) => cs.setIfInBounds (off + p.2) p.1) z)[j]? = if off + s ≤ j ∧ j < off + s + c.length ∧ j < z.size then c[j - (off + s)]? else z[j]? := by
  induction c with
  | nil => intro s z j; rw [if_neg (by simp; omega)]; rfl
  | cons x c ih =>
    intro s z j
    rw [List.zipIdx_cons, List.foldl_cons, ih (s + 1)]
    simp only [Array.size_setIfInBounds, List.length_cons]
    by_cases h1 : off + (s + 1) ≤ j ∧ j < off + (s + 1) + c.length ∧ j < z.size
    · rw [if_pos h1, if_pos (by omega)]
      have e : j - (off + s) = (j - (off + (s + 1))) + 1 := by omega
      rw [e, List.getElem?_cons_succ]
    · rw [if_neg h1]
      by_cases h2 : j = off + s
      · subst h2
        by_cases h3 : off + s < z.size
        · rw [if_pos (by omega), Array.getElem?_setIfInBounds_self_of_lt h3, Nat.sub_self, List.getElem?_cons_zero]
        · rw [if_neg (by omega), Array.getElem?_eq_none (by simp; omega), Array.getElem?_eq_none (by omega)]
      · rw [Array.getElem?_setIfInBounds_ne (by omega), if_neg (by omega)]

def cip (a : Value) (K : List UInt8) : Array Value := #[a] ++ ag K
theorem cip_size (a : Value) (K : List UInt8) : (cip a K).size = K.length + 1 := by rw [cip, Array.size_append, ag_size, Nat.add_comm]; rfl
theorem Tryd.zero108 : (Tryd.prog.info? 108).map (fun i => (i.zero, i.size)) = some (some (.agg (cip (.pointer none) (Gf.zeros 176))), 177) := by kernel_rfl
theorem Tryd.info108 : (Tryd.prog.info? 108).map (·.size) = some 177 := by kernel_rfl

theorem run_sizeOf {P : Program} (w : World) (t : TypeId) (n : Nat) (h : (P.info? t).map (·.size) = some n) : (sizeOf t).run P w = .ok n w := by
  cases hq : P.info? t with
  | none => simp [hq] at h
  | some i => simp [hq] at h; simp [sizeOf, typeInfo, hq, h]
theorem run_build46 (w : World) (a : Option Addr) (K : List UInt8) (hK : K.length = 176) : (Instr.build 108 #[(0, .pointer a), (1, .agg (ag K))]).run Tryd.prog w = .ok (.agg (cip (.pointer a) K)) w := by
  have hz := (zero_of_info Tryd.zero108).1
  have hs28 : ∀ w, (sizeOf 106).run Tryd.prog w = .ok 176 w := fun w => run_sizeOf w 106 176 Tryd.info106
  have hlen : (Gf.zeros 176).length = 176 := List.length_replicate
  have hf : Instr.fill (fun x => ([(0, 1), (1, 176)] : List (Nat × Nat))[x]?) (Value.agg (cip (.pointer none) (Gf.zeros 176))).cells [(0, Value.pointer a), (1, Value.agg (ag K))] = some (cip (.pointer a) K) := by
    have hc : (ag K).size = 176 := by rw [ag_size, hK]
    have hzs : (cip (.pointer none) (Gf.zeros 176)).size = 177 := by rw [cip_size, hlen]
    simp only [Instr.fill, Value.cells, List.getElem?_cons_zero, List.getElem?_cons_succ, hc, hzs]
    simp [hzs]
    apply Array.ext_getElem?
    intro j
    have e : Array.foldl (fun cs (x : Value × Nat) => cs.setIfInBounds (1 + x.snd) x.fst) ((cip (Value.pointer none) (Gf.zeros 176)).setIfInBounds 0 (Value.pointer a)) (ag K).zipIdx 0 (ag K).size = ((K.map B).zipIdx 0).foldl (fun cs (p : Value × Nat) => cs.setIfInBounds (1 + p.2) p.1) ((cip (Value.pointer none) (Gf.zeros 176)).setIfInBounds 0 (Value.pointer a)) := by
      unfold ag
      simp
    rw [e, fold_get]
    simp only [Array.size_setIfInBounds, hzs, List.length_map, hK]
    by_cases h0 : j = 0
    · subst h0
      rw [if_neg (by omega), Array.getElem?_setIfInBounds_self_of_lt (by omega)]
      rw [cip, Array.getElem?_append_left (by simp)]; rfl
    · by_cases h1 : j < 177
      · rw [if_pos (by omega)]
        simp only [cip, ag]
        rw [Array.getElem?_append_right (by simp; omega)]
        simp
      · rw [if_neg (by omega), Array.getElem?_eq_none (by simp; omega), Array.getElem?_eq_none (by rw [cip_size]; omega)]
  unfold Instr.build
  simp only [Sem.run_bind, hz, Result.andThen_ok, run_underlying Tryd.underlying108]
  simp [hs28, hf]
theorem wpList_run {P : Program} {ops : Array Oper} {rest : List Oper} {op : Oper} {a : Act} {w : World} {Q : Exit → Act → World → Prop} (hgd : op.guard = none) (v : Value) (hrun : (execOp a.eval op).run P w = .ok (.value v) w)
    (h : wpList P ops Q rest (a.put op.dst v) w) : wpList P ops Q (op :: rest) a w :=
  wpList_plain hgd fun K hK => by unfold Oper.wp; rw [hrun]; exact hK _ _ h
theorem build_op {P : Program} {op : Oper} {a : Act} (t : TypeId) (parts : Array (Nat × Operand)) (vals : Array (Nat × Value)) (ho : op.op = .build t parts) (hp : parts.map (fun (i, x) => (i, a.eval x)) = vals) (v : Value) (w : World) (h : (Instr.build t vals).run P w = .ok v w) :
    (execOp a.eval op).run P w = .ok (.value v) w := by
  unfold execOp
  simp only [ho, hp, Sem.run_bind, h, Result.andThen_ok, Sem.run_pure]
end Go.Proofs.YthcokaffbgbanaaDoor

/- The walks of Expand, of the reference's Expand and New. -/
namespace Go.Proofs.YthcokaffbgbanaaDoor
open Go.RowKit Go.BigFrame

theorem cip_one (a : Option Addr) (K : List UInt8) : (cip (.pointer a) K).all (·.oneCell') = true := by
  rw [Array.all_eq_true_iff_forall_mem]; intro v hv
  simp only [cip, Array.mem_append] at hv
  rcases hv with hv | hv
  · simp at hv; subst hv; rfl
  · exact Array.all_eq_true_iff_forall_mem.1 (ag_one K) v hv

set_option maxRecDepth 100000 in
set_option maxHeartbeats 1000000 in
theorem new_any (key : List UInt8) (hkey : key.length = 16) (w : World) :
    Calls Tryd.prog 78 #[.agg (ag key)] w fun e w' => ∃ sb, e = .returned (.agg (cip (.pointer (some ⟨sb, 0, none⟩)) (Gf.keys Gf.sbox key))) ∧ Row w' sb 118 (ag Gf.sbox) ∧ Below w.heap.size w w' := by
  have HK0 : Hid ((Gf.keys Gf.sbox key).length = 176) := Gf.keys_len Gf.sbox key
  have HS : Hid (Gf.sbox.length = 256) := Gf.sbox_len
  obtain ⟨R, hR⟩ : ∃ R, Gf.keys Gf.sbox key = R := ⟨_, rfl⟩
  obtain ⟨T, hT⟩ : ∃ T, Gf.sbox = T := ⟨_, rfl⟩
  rw [hR, hT]
  rw [hR] at HK0
  rw [hT] at HS hR
  have HT := show Hid _ from hT
  have HR := show Hid _ from hR
  clear hR hT
  go_enter Tryd.func78, Tryd.ntmps78
  go_wp2_with (first
    | (refine wpList_alloc_row rfl 108 rfl _ _ Tryd.zero108 ?_)
    | fail)
  refine (refTable_any _).mono ?_
  rintro e w1 ⟨rfl, hb1⟩
  have r1 : Row w1 w.heap.size 23 (ag key) := Row.below ((Row.new _ _ _).alloc _) hb1 (by simp; omega)
  have r2 : Room w1 (w.heap.size + 1) 108 177 := Room.below (Room.made _ _ _ _ _ (by rw [cip_size]; show (List.replicate 176 (0 : UInt8)).length + 1 = 177; rw [List.length_replicate]) (by simp)) hb1 (by simp)
  have hbl : Below w.heap.size w w1 := (((Below.refl _ _).alloc (Nat.le_refl _) _).alloc (by simp) _).trans (hb1.mono (by simp; omega))
  have hz1 : w.heap.size + 1 < w1.heap.size := r2.elim fun _ h => h.1.lt
  clear hb1
  rw [HT.out]
  go_wp2_with (first
    | (refine wpList_alloc_row rfl 118 rfl _ _ Tryd.zero118 ?_)
    | (refine wpList_store_row rfl 118 _ _ rfl _ rfl _ rfl _ _ (Room.new _ _ _ _ (by rw [ag_size]; exact List.length_replicate)) Tryd.info118 (by rw [ag_size]; exact HS.out) (ag_one _) ?_; rw [World.setRow_alloc_new])
    | (refine wpList_load_row rfl 23 _ rfl _ rfl _ _ (r1.alloc _) _ Tryd.underlying23 rfl 16 Tryd.info23 (by rw [ag_size]; exact hkey) ?_)
    | fail)
  refine (refExpand_any key T hkey HS.out _ _ _ (Row.new _ _ _)).mono ?_
  rintro e w2 ⟨rfl, hb2⟩
  have q2 : Room w2 (w.heap.size + 1) 108 177 := (r2.alloc _).below hb2 (by simp; omega)
  have q3 : Row w2 w1.heap.size 118 (ag T) := (Row.new _ _ _).below hb2 (by simp)
  have hbl2 : Below w.heap.size w w2 := (hbl.alloc (by omega) _).trans (hb2.mono (by simp; omega))
  clear r1 r2 hbl hb2
  rw [HR.out]
  generalize w1.heap.size = sb at *
  have hbu : (Instr.build 108 #[(0, .pointer (some ⟨sb, 0, none⟩)), (1, .agg (ag R))]).run Tryd.prog w2 = .ok (.agg (cip (.pointer (some ⟨sb, 0, none⟩)) R)) w2 := run_build46 w2 _ R HK0.out
  go_wp2_with (first
    | (refine wpList_run rfl (.agg (cip (.pointer (some ⟨sb, 0, none⟩)) R)) (build_op 108 #[(0, .tmp 3), (1, .tmp 6)] #[(0, .pointer (some ⟨sb, 0, none⟩)), (1, .agg (ag R))] rfl (by simp [Act.eval]) _ _ hbu) ?_)
    | (refine wpList_store_row rfl 108 _ _ rfl _ rfl _ rfl _ _ q2 Tryd.info108 (by rw [cip_size, HK0.out]) (cip_one _ _) ?_)
    | fail)
  have q4 := q2.setRow (cip (.pointer (some ⟨sb, 0, none⟩)) R)
  have hcs : (cip (.pointer (some ⟨sb, 0, none⟩)) R).size = 177 := by rw [cip_size, HK0.out]
  exact bodyPost_ret (results_row rfl _ _ rfl _ _ q4 _ Tryd.underlying108 rfl 177 Tryd.info108 hcs) rfl ⟨sb, rfl, q3.setRowOther _ _ (by have := q3.lt; omega), below_setRow hbl2 (by omega) _⟩

end Go.Proofs.YthcokaffbgbanaaDoor

/- The mixing loops of the reference's Cipher.Encrypt, walked by themselves. -/
namespace Go.Proofs.YthcokaffbgbanaaDoor
open Go.RowKit Go.BigFrame

/-- What lies in the block of a number. -/
def inBlock (n : Nat) : Code → Option Code
  | .block m c => if m = n then some c else inBlock n c
  | .seq a b => match inBlock n a with
    | some c => some c
    | none => inBlock n b
  | .loop c => inBlock n c
  | .scope c => inBlock n c
  | .cond _ a b => match inBlock n a with
    | some c => some c
    | none => inBlock n b
  | _ => none
theorem refTimes_three (x : UInt8) (w : World) : Calls Tryd.prog 81 #[.int .u8 (x.toNat : Int), .int .u8 3] w fun e w' => e = .returned (.int .u8 ((Gf.times x 3).toNat : Int)) ∧ w' = w := refTimes_any x 3 w
def rmix (s : List UInt8) (m : Nat) : UInt8 :=
  Gf.bx (Gf.bx (Gf.bx (Gf.dbl (s.getD (4 * (m / 4) + m % 4) 0)) (Gf.times (s.getD (4 * (m / 4) + (m % 4 + 1) % 4) 0) 3)) (s.getD (4 * (m / 4) + (m % 4 + 2) % 4) 0)) (s.getD (4 * (m / 4) + (m % 4 + 3) % 4) 0)
theorem three : ∀ n, n < 256 → Gf.timesN n 3 = n ^^^ Gf.dblN n := by decide +kernel
theorem times3 (x : UInt8) : Gf.times x 3 = Gf.bx x (Gf.dbl x) := by
  apply UInt8.toNat_inj.1
  unfold Gf.bx
  rw [UInt8.toNat_xor, Gf.times_toNat, Gf.dbl_toNat]
  exact three x.toNat x.toNat_lt
theorem m0_ref (a b c d : UInt8) : Gf.bx (Gf.bx (Gf.bx (Gf.dbl a) (Gf.times b 3)) c) d = Gf.m0 a b c d := by
  rw [times3]
  simp only [Gf.m0, Gf.all4, Gf.dbl_bx, Gf.bx_assoc]
  simp only [Gf.bx_comm, Gf.bx_left, Gf.bx_self_left]
  simp only [Gf.bx_assoc]
theorem rmix_mix (s : List UInt8) (h : s.length = 16) : (List.range 16).map (rmix s) = Gf.mixL s := by
  obtain ⟨a0, a1, a2, a3, a4, a5, a6, a7, a8, a9, a10, a11, a12, a13, a14, a15, rfl⟩ := Gf.list16 s h
  rw [Gf.mixL_lit]
  have e : (List.range 16).map (rmix [a0, a1, a2, a3, a4, a5, a6, a7, a8, a9, a10, a11, a12, a13, a14, a15]) = [
    Gf.bx (Gf.bx (Gf.bx (Gf.dbl a0) (Gf.times a1 3)) a2) a3, Gf.bx (Gf.bx (Gf.bx (Gf.dbl a1) (Gf.times a2 3)) a3) a0, Gf.bx (Gf.bx (Gf.bx (Gf.dbl a2) (Gf.times a3 3)) a0) a1, Gf.bx (Gf.bx (Gf.bx (Gf.dbl a3) (Gf.times a0 3)) a1) a2,
    Gf.bx (Gf.bx (Gf.bx (Gf.dbl a4) (Gf.times a5 3)) a6) a7, Gf.bx (Gf.bx (Gf.bx (Gf.dbl a5) (Gf.times a6 3)) a7) a4, Gf.bx (Gf.bx (Gf.bx (Gf.dbl a6) (Gf.times a7 3)) a4) a5, Gf.bx (Gf.bx (Gf.bx (Gf.dbl a7) (Gf.times a4 3)) a5) a6,
    Gf.bx (Gf.bx (Gf.bx (Gf.dbl a8) (Gf.times a9 3)) a10) a11, Gf.bx (Gf.bx (Gf.bx (Gf.dbl a9) (Gf.times a10 3)) a11) a8, Gf.bx (Gf.bx (Gf.bx (Gf.dbl a10) (Gf.times a11 3)) a8) a9, Gf.bx (Gf.bx (Gf.bx (Gf.dbl a11) (Gf.times a8 3)) a9) a10,
    Gf.bx (Gf.bx (Gf.bx (Gf.dbl a12) (Gf.times a13 3)) a14) a15, Gf.bx (Gf.bx (Gf.bx (Gf.dbl a13) (Gf.times a14 3)) a15) a12, Gf.bx (Gf.bx (Gf.bx (Gf.dbl a14) (Gf.times a15 3)) a12) a13, Gf.bx (Gf.bx (Gf.bx (Gf.dbl a15) (Gf.times a12 3)) a13) a14] := by kernel_rfl
  rw [e]
  simp only [m0_ref]

set_option maxRecDepth 1000000 in
set_option maxHeartbeats 4000000 in
theorem nest30_any (s1 : List UInt8) (lt : s1.length = 16) (p q : Nat) (hpq : p < q) (u0 u1 u2 u3 u4 u5 u7 u8 u9 u12 u13 u14 u15 u16 u17 u18 u19 u20 u21 u22 u23 u24 u25 u26 u27 u28 u29 u30 u31 u32 u33 u34 u35 u36 u37 u38 u39 u40 u41 u42 u43 u44 u45 u46 u47 u48 u49 u50 u51 u52 u53 u54 u55 u56 u57 u58 u59 u60 u61 u62 u63 u64 u65 u66 u67 u68 u69 u70 u71 u72 u73 u74 u75 u76 u77 u78 u79 u80 u81 u82 u83 u84 u85 u86 u87 u88 u89 u90 u91 u92 u93 u94 u95 u96 u97 u98 u99 u100 u101 u102 u103 : Value) (w : World) (gp : Row w p 23 (ag s1)) (gq : Row w q 23 (ag (Gf.zeros 16))) :
    Code.wp Tryd.prog ((Tryd.f57.body.bind (inBlock 4)).getD .skip) (fun e a' w' => e = .exit 4 ∧ (∃ v11 v12 v48 v49 v50 v51 v52 v53 v54 v55 v56 v57 v58 v59 v60 v61 v62 v63 v64 v65 v66 v67 v68 v69 v70 v71 v72 v73 v74 v75 v76 v77 v78 v79 v80 v81 v82 v83 v84 v85 v86 v87 v88 v89 v90 v91 v92 v93 v94 v95 : Value, a' = ⟨List.toArray (u0 :: u1 :: u2 :: u3 :: u4 :: u5 :: .pointer (some ⟨p, 0, none⟩) :: u7 :: u8 :: u9 :: .pointer (some ⟨q, 0, none⟩) :: v11 :: v12 :: u13 :: u14 :: u15 :: u16 :: u17 :: u18 :: u19 :: u20 :: u21 :: u22 :: u23 :: u24 :: u25 :: u26 :: u27 :: u28 :: u29 :: u30 :: u31 :: u32 :: u33 :: u34 :: u35 :: u36 :: u37 :: u38 :: u39 :: u40 :: u41 :: u42 :: u43 :: u44 :: u45 :: u46 :: u47 :: v48 :: v49 :: v50 :: v51 :: v52 :: v53 :: v54 :: v55 :: v56 :: v57 :: v58 :: v59 :: v60 :: v61 :: v62 :: v63 :: v64 :: v65 :: v66 :: v67 :: v68 :: v69 :: v70 :: v71 :: v72 :: v73 :: v74 :: v75 :: v76 :: v77 :: v78 :: v79 :: v80 :: v81 :: v82 :: v83 :: v84 :: v85 :: v86 :: v87 :: v88 :: v89 :: v90 :: v91 :: v92 :: v93 :: v94 :: v95 :: u96 :: u97 :: u98 :: u99 :: u100 :: u101 :: u102 :: u103 :: []), []⟩) ∧ Row w' q 23 (ag ((List.range 16).map (rmix s1))) ∧ Below q w w') ⟨List.toArray (u0 :: u1 :: u2 :: u3 :: u4 :: u5 :: .pointer (some ⟨p, 0, none⟩) :: u7 :: u8 :: u9 :: .pointer (some ⟨q, 0, none⟩) :: .int .i64 0 :: u12 :: u13 :: u14 :: u15 :: u16 :: u17 :: u18 :: u19 :: u20 :: u21 :: u22 :: u23 :: u24 :: u25 :: u26 :: u27 :: u28 :: u29 :: u30 :: u31 :: u32 :: u33 :: u34 :: u35 :: u36 :: u37 :: u38 :: u39 :: u40 :: u41 :: u42 :: u43 :: u44 :: u45 :: u46 :: u47 :: u48 :: u49 :: u50 :: u51 :: u52 :: u53 :: u54 :: u55 :: u56 :: u57 :: u58 :: u59 :: u60 :: u61 :: u62 :: u63 :: u64 :: u65 :: u66 :: u67 :: u68 :: u69 :: u70 :: u71 :: u72 :: u73 :: u74 :: u75 :: u76 :: u77 :: u78 :: u79 :: u80 :: u81 :: u82 :: u83 :: u84 :: u85 :: u86 :: u87 :: u88 :: u89 :: u90 :: u91 :: u92 :: u93 :: u94 :: u95 :: u96 :: u97 :: u98 :: u99 :: u100 :: u101 :: u102 :: u103 :: []), []⟩ w := by
  conv => arg 2; whnf
  have HM : Hid (Gf.fill (Gf.zeros 16) (rmix s1) 16 = (List.range 16).map (rmix s1)) := Gf.fill_full (Gf.zeros 16) _ 16 rfl
  generalize (List.range 16).map (rmix s1) = res at *
  go_loopw [11] (fun i wr' => ∃ c : Nat, c ≤ 4 ∧ i = .int .i64 c ∧ Row wr' p 23 (ag s1) ∧ Row wr' q 23 (ag (Gf.fill (Gf.zeros 16) (rmix s1) (4 * c))) ∧ Below q w wr') (fun i _ => 4 - (intOf i).toNat)
  case atStart => exact ⟨0, by omega, rfl, gp, gq, Below.refl _ _⟩
  case round =>
    clear gp gq
    obtain ⟨c, hc, rfl, gp, gq, gv⟩ := hrel
    by_cases hc4 : c < 4
    · go_wp2
      go_loopw [12] (fun i wr' => ∃ r : Nat, r ≤ 4 ∧ i = .int .i64 r ∧ Row wr' p 23 (ag s1) ∧ Row wr' q 23 (ag (Gf.fill (Gf.zeros 16) (rmix s1) (4 * c + r))) ∧ Below q w wr') (fun i _ => 4 - (intOf i).toNat)
      case atStart => exact ⟨0, by omega, rfl, gp, gq, gv⟩
      case round =>
        clear gp gq gv
        obtain ⟨r, hr, rfl, gp, gq, gv⟩ := hrel
        by_cases hr4 : r < 4
        · obtain ⟨c4, hc4e⟩ : ∃ c4, 4 * c = c4 := ⟨_, rfl⟩
          have n0 : (4 : Int) * (c : Int) = (c4 : Int) := by omega
          obtain ⟨r1, hr1⟩ : ∃ r1, (r + 1) % 4 = r1 := ⟨_, rfl⟩
          obtain ⟨r2, hr2⟩ : ∃ r2, (r + 2) % 4 = r2 := ⟨_, rfl⟩
          obtain ⟨r3, hr3⟩ : ∃ r3, (r + 3) % 4 = r3 := ⟨_, rfl⟩
          have n1 : ((r : Int) + 1) % 4 = (r1 : Int) := by omega
          have n2 : ((r : Int) + 2) % 4 = (r2 : Int) := by omega
          have n3 : ((r : Int) + 3) % 4 = (r3 : Int) := by omega
          have b0 : c4 ≤ 12 := by omega
          have b1 : r1 < 4 := by omega
          have b2 : r2 < 4 := by omega
          have b3 : r3 < 4 := by omega
          have d0 := gp.byte (k := c4 + r) (by rw [lt]; omega)
          have d1 := gp.byte (k := c4 + r1) (by rw [lt]; omega)
          have d2 := gp.byte (k := c4 + r2) (by rw [lt]; omega)
          have d3 := gp.byte (k := c4 + r3) (by rw [lt]; omega)
          have dq := gq.byte (k := c4 + r) (by rw [Gf.fill_len]; show _ < (List.replicate 16 (0 : UInt8)).length; rw [List.length_replicate]; omega)
          have fq := gq.frozen (c4 + r)
          have HE : Hid (Gf.fill (Gf.zeros 16) (rmix s1) (4 * c + r + 1) = (Gf.fill (Gf.zeros 16) (rmix s1) (4 * c + r)).set (c4 + r) (Gf.bx (Gf.bx (Gf.bx (Gf.dbl (s1.getD (c4 + r) 0)) (Gf.times (s1.getD (c4 + r1) 0) 3)) (s1.getD (c4 + r2) 0)) (s1.getD (c4 + r3) 0))) := by
            show _ = _
            have e1 : (4 * c + r) / 4 = c := by omega
            have e2 : (4 * c + r) % 4 = r := by omega
            rw [Gf.fill]
            unfold rmix
            rw [e1, e2, hr1, hr2, hr3, hc4e]
          generalize s1.getD (c4 + r) 0 = x0 at *
          generalize s1.getD (c4 + r1) 0 = x1 at *
          generalize s1.getD (c4 + r2) 0 = x2 at *
          generalize s1.getD (c4 + r3) 0 = x3 at *
          generalize (Gf.fill (Gf.zeros 16) (rmix s1) (4 * c + r)).getD (c4 + r) 0 = zz at *
          clear hr1 hr2 hr3 hc4e HM
          have hxx : ∀ x y : UInt8, bits .xor .u8 (x.toNat : Int) (y.toNat : Int) = ((Gf.bx x y).toNat : Int) := xor_bx
          go_wp2
          refine wp_region_tail 39 (by kernel_rfl) (by kernel_rfl) ?_
          simp only [List.take_succ_cons, List.take_zero, List.drop_succ_cons, List.drop_zero]
          repeat (go_big_quiet_step (fail))
          go_big_quiet_want
          go_big_quiet_op
          refine ⟨_, refTimes_two _ _, ?_⟩
          go_big_quiet_on
          repeat (go_big_quiet_step (fail))
          go_big_quiet_want
          go_big_quiet_op
          refine ⟨_, refTimes_three _ _, ?_⟩
          go_big_quiet_on
          repeat (go_big_quiet_step (fail))
          refine wpQuiet_nil ?_
          go_wp2
          refine ⟨⟨r + 1, by omega, by go_num, ?_, ?_, ?_⟩, by simp [intOf]; omega⟩
          · exact (gp.setOther _ _ (by simp; omega)).drew
          · rw [← Nat.add_assoc, HE.out]; exact (gq.setByte (c4 + r) _).drew
          · exact (gv.setCell (Nat.le_refl _) _).drew
        · have hr' : r = 4 := by omega
          subst hr'
          go_wp2
          go_roundw
          case rel => exact ⟨c + 1, by omega, by go_num, gp, gq, gv⟩
          case measure => simp [intOf]; omega
    · have hc' : c = 4 := by omega
      subst hc'
      rw [show 4 * 4 = 16 from rfl, HM.out] at gq
      go_wp2
      exact ⟨trivial, ⟨_, _, _, _, _, _, _, _, _, _, _, _, _, _, _, _, _, _, _, _, _, _, _, _, _, _, _, _, _, _, _, _, _, _, _, _, _, _, _, _, _, _, _, _, _, _, _, _, _, _, rfl⟩, gq, gv⟩
end Go.Proofs.YthcokaffbgbanaaDoor
