/- The plain mathematics of package ocb: blocks as two numbers, doubles. -/
import Derived.Test.YtmolhljgmaoflaaDoorW
namespace Go.Proofs.YtmolhljgmaoflaaDoor.Gf
def numTo (b : List UInt8) (o : Nat) : Nat → Nat
  | 0 => 0
  | k + 1 => numTo b o k * 256 + (b.getD (o + k) 0).toNat
theorem numTo_lt (b : List UInt8) (o k : Nat) : numTo b o k < 256 ^ k := by
  induction k with
  | zero => simp [numTo]
  | succ k ih =>
    have := (b.getD (o + k) 0).toNat_lt
    simp only [numTo, Nat.pow_succ]
    omega
theorem numTo_lt7 (b : List UInt8) (o k : Nat) (h : k < 8) : numTo b o k < 72057594037927936 :=
  Nat.lt_of_lt_of_le (numTo_lt b o k) (by have := Nat.pow_le_pow_right (n := 256) (by decide) (show k ≤ 7 by omega); simpa using this)
theorem numTo_lt8 (b : List UInt8) (o : Nat) : numTo b o 8 < 18446744073709551616 := by have := numTo_lt b o 8; simpa using this
def half (b : List UInt8) (o : Nat) : Nat := numTo b o 8
def jTo (h l : Nat) : Nat → List UInt8
  | 0 => zeros 16
  | k + 1 => ((jTo h l k).set k (UInt8.ofNat (h / 2 ^ (56 - 8 * k)))).set (k + 8) (UInt8.ofNat (l / 2 ^ (56 - 8 * k)))
theorem jTo_len (h l k : Nat) : (jTo h l k).length = 16 := by
  induction k with
  | zero => rfl
  | succ k ih => simp [jTo, ih]
def joinL (h l : Nat) : List UInt8 := jTo h l 8
theorem joinL_len (h l : Nat) : (joinL h l).length = 16 := jTo_len h l 8
def dblk (b : List UInt8) : List UInt8 := joinL ((half b 0 * 2 % 2 ^ 64) ||| (half b 8 / 2 ^ 63)) ((half b 8 * 2 % 2 ^ 64) ^^^ (half b 0 / 2 ^ 63 * 135))
theorem dblk_len (b : List UInt8) : (dblk b).length = 16 := joinL_len _ _
end Go.Proofs.YtmolhljgmaoflaaDoor.Gf
