/- The walks of the byte functions of package aes: products, doubles, scattered bytes, joined words. -/
import Derived.Test.YtmolhljgmaoflaaDoorRows
import Derived.Test.YtmolhljgmaoflaaDoorL
import Derived.Test.YtmolhljgmaoflaaDoorM
namespace Go.Proofs.YtmolhljgmaoflaaDoor
open Go.RowKit

theorem dbl_int : ∀ n : Nat, n < 256 → bits .xor .u16 ((n : Int) * 2) ((n : Int) * 2 / 256 * 283) % 256 = ((Gf.dblN n : Nat) : Int) := by decide +kernel
theorem sct_int : ∀ n : Nat, n < 256 → bits .xor .u8 (bits .xor .u16 (bits .xor .u16 (bits .xor .u16 (bits .xor .u16 (bits .or .u16 ((n : Int) * 256) (n : Int)) (bits .or .u16 ((n : Int) * 256) (n : Int) / 16)) (bits .or .u16 ((n : Int) * 256) (n : Int) / 32)) (bits .or .u16 ((n : Int) * 256) (n : Int) / 64)) (bits .or .u16 ((n : Int) * 256) (n : Int) / 128) % 256) 99 = ((Gf.sctN n : Nat) : Int) := by decide +kernel

theorem xor_bx (x y : UInt8) : bits .xor .u8 (x.toNat : Int) (y.toNat : Int) = ((Gf.bx x y).toNat : Int) := xor_u8 x y
theorem ret_int {k : IntKind} {a b : Int} (h : a = b) : Ending.returned (.int k a) = .returned (.int k b) := by rw [h]

set_option maxHeartbeats 400000 in
theorem double_any (b : UInt8) (w : World) :
    Calls Tryd.prog 56 #[.int .u8 (b.toNat : Int)] w fun e w' => e = .returned (.int .u8 ((Gf.dbl b).toNat : Int)) ∧ w' = w := by
  have hb := b.toNat_lt
  go_enter Tryd.func56, Tryd.ntmps56
  go_wp2
  go_ret
  exact ⟨ret_int (by rw [Gf.dbl_toNat]; exact dbl_int _ hb), rfl⟩

set_option maxHeartbeats 400000 in
theorem scatter_any (b : UInt8) (w : World) :
    Calls Tryd.prog 57 #[.int .u8 (b.toNat : Int)] w fun e w' => e = .returned (.int .u8 ((Gf.sct b).toNat : Int)) ∧ w' = w := by
  have hb := b.toNat_lt
  go_enter Tryd.func57, Tryd.ntmps57
  go_wp2
  go_ret
  exact ⟨ret_int (by rw [Gf.sct_toNat]; exact sct_int _ hb), rfl⟩

theorem jn_int (a b c d : Nat) (ha : a < 256) (hb : b < 256) (hc : c < 256) (hd : d < 256) :
    bits .or .u32 (bits .or .u32 (bits .or .u32 ((a : Int) * 16777216) ((b : Int) * 65536)) ((c : Int) * 256)) (d : Int) = ((Gf.jnN a b c d : Nat) : Int) := by
  have e1 : ((a : Int) * 16777216) = ((a * 16777216 : Nat) : Int) := by simp
  have e2 : ((b : Int) * 65536) = ((b * 65536 : Nat) : Int) := by simp
  have e3 : ((c : Int) * 256) = ((c * 256 : Nat) : Int) := by simp
  rw [e1, e2, e3, u32_or_nat _ _ (by omega) (by omega), u32_or_nat _ _ (Nat.or_lt_two_pow (n := 32) (by omega) (by omega)) (by omega),
    u32_or_nat _ _ (Nat.or_lt_two_pow (n := 32) (Nat.or_lt_two_pow (n := 32) (by omega) (by omega)) (by omega)) (by omega)]
  rfl

set_option maxHeartbeats 400000 in
theorem join_any (a b c d : UInt8) (w : World) :
    Calls Tryd.prog 58 #[.int .u8 (a.toNat : Int), .int .u8 (b.toNat : Int), .int .u8 (c.toNat : Int), .int .u8 (d.toNat : Int)] w fun e w' => e = .returned (.int .u32 ((Gf.jn a b c d).toNat : Int)) ∧ w' = w := by
  have ha := a.toNat_lt
  have hb := b.toNat_lt
  have hc := c.toNat_lt
  have hd := d.toNat_lt
  go_enter Tryd.func58, Tryd.ntmps58
  go_wp2
  go_ret
  exact ⟨ret_int (by rw [Gf.jn_toNat]; exact jn_int _ _ _ _ ha hb hc hd), rfl⟩

/-! Products. -/
theorem and1_u8 (n : Nat) (h : n < 256) : bits .and .u8 (n : Int) 1 = ((n % 2 : Nat) : Int) := by
  have := u8_and_nat n 1 h (by decide)
  rw [Nat.and_one_is_mod] at this; exact this
theorem and1_u16 (n : Nat) (h : n < 65536) : bits .and .u16 (n : Int) 1 = ((n % 2 : Nat) : Int) := by
  have := u16_and_nat n 1 h (by decide)
  rw [Nat.and_one_is_mod] at this; exact this
theorem test_u8 (b k : Nat) (hb : b < 256) : (bits .and .u8 ((b : Int) / 2 ^ k) 1 == 1) = b.testBit k := by
  have e : ((b : Int) / 2 ^ k) = ((b / 2 ^ k : Nat) : Int) := by simp
  rw [e, and1_u8 _ (Nat.lt_of_le_of_lt (Nat.div_le_self _ _) hb), Nat.testBit_eq_decide_div_mod_eq]
  rw [Bool.eq_iff_iff]; simp; omega
theorem test_u16 (b k : Nat) (hb : b < 65536) : (bits .and .u16 ((b : Int) / 2 ^ k) 1 == 1) = b.testBit k := by
  have e : ((b : Int) / 2 ^ k) = ((b / 2 ^ k : Nat) : Int) := by simp
  rw [e, and1_u16 _ (Nat.lt_of_le_of_lt (Nat.div_le_self _ _) hb), Nat.testBit_eq_decide_div_mod_eq]
  rw [Bool.eq_iff_iff]; simp; omega
theorem prodN_lt (a b k : Nat) (ha : a < 256) (hk : k ≤ 8) : Gf.prodN a b k < 65536 := by
  induction k with
  | zero => simp [Gf.prodN]
  | succ k ih =>
    have := ih (by omega)
    simp only [Gf.prodN]
    split
    · refine Nat.xor_lt_two_pow (n := 16) this ?_
      rw [Nat.shiftLeft_eq]
      calc a * 2 ^ k < 256 * 2 ^ k := Nat.mul_lt_mul_of_pos_right ha (Nat.two_pow_pos _)
        _ ≤ 256 * 2 ^ 8 := Nat.mul_le_mul_left _ (Nat.pow_le_pow_right (by decide) (by omega))
    · exact this
theorem redN_lt (q j : Nat) (hq : q < 65536) (hj : j ≤ 7) : Gf.redN q j < 65536 := by
  induction j with
  | zero => exact hq
  | succ j ih =>
    have := ih (by omega)
    simp only [Gf.redN]
    split
    · refine Nat.xor_lt_two_pow (n := 16) this ?_
      rw [Nat.shiftLeft_eq]
      calc 283 * 2 ^ (6 - j) ≤ 283 * 2 ^ 6 := Nat.mul_le_mul_left _ (Nat.pow_le_pow_right (by decide) (by omega))
        _ < 2 ^ 16 := by decide
    · exact this
theorem shl_int (a k : Nat) (ha : a < 256) (hk : k < 8) : IntKind.u16.wrap ((a : Int) * 2 ^ k) = ((a <<< k : Nat) : Int) := by
  have h : a * 2 ^ k < 65536 := by
    calc a * 2 ^ k < 256 * 2 ^ k := Nat.mul_lt_mul_of_pos_right ha (Nat.two_pow_pos _)
      _ ≤ 256 * 2 ^ 8 := Nat.mul_le_mul_left _ (Nat.pow_le_pow_right (by decide) (by omega))
  have e : ((a : Int) * 2 ^ k) = ((a * 2 ^ k : Nat) : Int) := by simp
  rw [e, IntKind.wrap_u16, Nat.shiftLeft_eq]
  omega
theorem prod_step1 (a b k : Nat) (ha : a < 256) (hk : k < 8) (h : b.testBit k = true) : bits .xor .u16 ((Gf.prodN a b k : Nat) : Int) (IntKind.u16.wrap ((a : Int) * 2 ^ k)) = ((Gf.prodN a b (k + 1) : Nat) : Int) := by
  rw [shl_int a k ha hk, u16_xor_nat _ _ (prodN_lt _ _ _ ha (by omega))]
  · simp [Gf.prodN, h]
  · rw [Nat.shiftLeft_eq]
    calc a * 2 ^ k < 256 * 2 ^ k := Nat.mul_lt_mul_of_pos_right ha (Nat.two_pow_pos _)
      _ ≤ 256 * 2 ^ 8 := Nat.mul_le_mul_left _ (Nat.pow_le_pow_right (by decide) (by omega))
theorem prod_step0 (a b k : Nat) (h : b.testBit k = false) : Gf.prodN a b k = Gf.prodN a b (k + 1) := by simp [Gf.prodN, h]

theorem mul_int (j : Nat) (hj : j < 7) : IntKind.u16.wrap (283 * 2 ^ (14 - j - 8)) = ((283 <<< (6 - j) : Nat) : Int) := by
  have : j = 0 ∨ j = 1 ∨ j = 2 ∨ j = 3 ∨ j = 4 ∨ j = 5 ∨ j = 6 := by omega
  rcases this with rfl | rfl | rfl | rfl | rfl | rfl | rfl <;> decide +kernel
theorem red_step1 (q j : Nat) (hq : q < 65536) (hj : j < 7) (h : (Gf.redN q j).testBit (14 - j) = true) : bits .xor .u16 ((Gf.redN q j : Nat) : Int) ((283 <<< (6 - j) : Nat) : Int) = ((Gf.redN q (j + 1) : Nat) : Int) := by
  rw [u16_xor_nat _ _ (redN_lt _ _ hq (by omega))]
  · simp [Gf.redN, h]
  · rw [Nat.shiftLeft_eq]
    calc 283 * 2 ^ (6 - j) ≤ 283 * 2 ^ 6 := Nat.mul_le_mul_left _ (Nat.pow_le_pow_right (by decide) (by omega))
      _ < 65536 := by decide
theorem red_step0 (q j : Nat) (h : (Gf.redN q j).testBit (14 - j) = false) : Gf.redN q j = Gf.redN q (j + 1) := by simp [Gf.redN, h]

end Go.Proofs.YtmolhljgmaoflaaDoor
