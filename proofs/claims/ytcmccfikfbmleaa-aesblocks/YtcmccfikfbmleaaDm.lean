/- The plain mathematics of the reference's way back: products by 14, 11, 13 and 9, and the places that the rows come from. -/
import Derived.Test.YtcmccfikfbmleaaBm
namespace Go.Proofs.Ytcmccfikfbmleaa.Gf
theorem n14 : ∀ n, n < 256 → timesN n 14 = dblN (dblN (dblN n)) ^^^ (dblN (dblN n) ^^^ dblN n) := by decide +kernel
theorem n11 : ∀ n, n < 256 → timesN n 11 = dblN (dblN (dblN n)) ^^^ (dblN n ^^^ n) := by decide +kernel
theorem n13 : ∀ n, n < 256 → timesN n 13 = dblN (dblN (dblN n)) ^^^ (dblN (dblN n) ^^^ n) := by decide +kernel
theorem n9 : ∀ n, n < 256 → timesN n 9 = dblN (dblN (dblN n)) ^^^ n := by decide +kernel
theorem t14 (x : UInt8) : times x 14 = bx (dbl (dbl (dbl x))) (bx (dbl (dbl x)) (dbl x)) := by
  apply UInt8.toNat_inj.1
  unfold bx
  rw [UInt8.toNat_xor, UInt8.toNat_xor, times_toNat]
  simp only [dbl_toNat]
  exact n14 x.toNat x.toNat_lt
theorem t11 (x : UInt8) : times x 11 = bx (dbl (dbl (dbl x))) (bx (dbl x) x) := by
  apply UInt8.toNat_inj.1
  unfold bx
  rw [UInt8.toNat_xor, UInt8.toNat_xor, times_toNat]
  simp only [dbl_toNat]
  exact n11 x.toNat x.toNat_lt
theorem t13 (x : UInt8) : times x 13 = bx (dbl (dbl (dbl x))) (bx (dbl (dbl x)) x) := by
  apply UInt8.toNat_inj.1
  unfold bx
  rw [UInt8.toNat_xor, UInt8.toNat_xor, times_toNat]
  simp only [dbl_toNat]
  exact n13 x.toNat x.toNat_lt
theorem t9 (x : UInt8) : times x 9 = bx (dbl (dbl (dbl x))) x := by
  apply UInt8.toNat_inj.1
  unfold bx
  rw [UInt8.toNat_xor, times_toNat]
  simp only [dbl_toNat]
  exact n9 x.toNat x.toNat_lt
def r0 (a b c d : UInt8) : UInt8 := bx (bx (bx (times a 14) (times b 11)) (times c 13)) (times d 9)
theorem r0_eq (a b c d : UInt8) : r0 a b c d = m0 (u0 a c) (u0 b d) (u0 c a) (u0 d b) := by
  simp only [r0, t14, t11, t13, t9, m0, u0, all4, dbl_bx, bx_assoc]
  simp only [bx_comm, bx_left, bx_self_left]
def umix (s : List UInt8) (m : Nat) : UInt8 :=
  r0 (s.getD (4 * (m / 4) + m % 4) 0) (s.getD (4 * (m / 4) + (m % 4 + 1) % 4) 0) (s.getD (4 * (m / 4) + (m % 4 + 2) % 4) 0) (s.getD (4 * (m / 4) + (m % 4 + 3) % 4) 0)
theorem umix_unmix (s : List UInt8) (h : s.length = 16) : (List.range 16).map (umix s) = unmixL s := by
  obtain ⟨a0, a1, a2, a3, a4, a5, a6, a7, a8, a9, a10, a11, a12, a13, a14, a15, rfl⟩ := list16 s h
  unfold unmixL
  rw [preTo_lit, mixL_lit]
  have e : (List.range 16).map (umix [a0, a1, a2, a3, a4, a5, a6, a7, a8, a9, a10, a11, a12, a13, a14, a15]) = [r0 a0 a1 a2 a3, r0 a1 a2 a3 a0, r0 a2 a3 a0 a1, r0 a3 a0 a1 a2, r0 a4 a5 a6 a7, r0 a5 a6 a7 a4, r0 a6 a7 a4 a5, r0 a7 a4 a5 a6, r0 a8 a9 a10 a11, r0 a9 a10 a11 a8, r0 a10 a11 a8 a9, r0 a11 a8 a9 a10, r0 a12 a13 a14 a15, r0 a13 a14 a15 a12, r0 a14 a15 a12 a13, r0 a15 a12 a13 a14] := by kernel_rfl
  rw [e]
  simp only [r0_eq]
def place (b s u : List UInt8) : Nat → List UInt8
  | 0 => b
  | k + 1 => (place b s u k).set ((k + 4 * (k % 4)) % 16) (look u (s.getD k 0))
theorem place_len (b s u : List UInt8) (k : Nat) : (place b s u k).length = b.length := by
  induction k with
  | zero => rfl
  | succ k ih => simp [place, ih]
theorem place_full (b s u : List UInt8) (hb : b.length = 16) (hs : s.length = 16) : place b s u 16 = subst u (turn s 3) := by
  obtain ⟨a0, a1, a2, a3, a4, a5, a6, a7, a8, a9, a10, a11, a12, a13, a14, a15, rfl⟩ := list16 s hs
  obtain ⟨b0, b1, b2, b3, b4, b5, b6, b7, b8, b9, b10, b11, b12, b13, b14, b15, rfl⟩ := list16 b hb
  kernel_rfl
end Go.Proofs.Ytcmccfikfbmleaa.Gf
