/- How often a number can be halved: what the library's table tells is so. -/
import Derived.Test.YtfipijcnihpaiaaDoorOb
namespace Go.Proofs.YtfipijcnihpaiaaDoor
theorem ntz_all : ∀ k, k < 13 → ∀ a, a < 17 → ∀ b, b < 256 → (a * 256 + b) % 2 = 1 → (a * 256 + b) * 2 ^ k < 4200 → Gf.ntz ((a * 256 + b) * 2 ^ k) = k := by decide +kernel
theorem ntz_pow (m k : Nat) (h : m % 2 = 1) (h2 : m * 2 ^ k < 4200) : Gf.ntz (m * 2 ^ k) = k := by
  have h3 : 0 < m := by omega
  have h4 : k < 13 := by
    rcases Nat.lt_or_ge k 13 with h | h
    · exact h
    · have : 2 ^ 13 ≤ 2 ^ k := Nat.pow_le_pow_right (by decide) h
      have : 1 * 2 ^ k ≤ m * 2 ^ k := Nat.mul_le_mul_right _ h3
      omega
  have h5 : m < 4200 := by
    have : m * 1 ≤ m * 2 ^ k := Nat.mul_le_mul_left _ (Nat.one_le_two_pow)
    omega
  have h6 : m / 256 * 256 + m % 256 = m := by omega
  have := ntz_all k h4 (m / 256) (by omega) (m % 256) (by omega)
  rw [h6] at this
  exact this h h2

end Go.Proofs.YtfipijcnihpaiaaDoor
