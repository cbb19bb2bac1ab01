/- One block that the standard fixes, by the kernel. -/
import Derived.Test.YtmolhljgmaoflaaDoorM
import Derived.KernelRfl
namespace Go.Proofs.YtmolhljgmaoflaaDoor.Gf

def powsLit : List UInt8 := [1, 3, 5, 15, 17, 51, 85, 255, 26, 46, 114, 150, 161, 248, 19, 53, 95, 225, 56, 72, 216, 115, 149, 164, 247, 2, 6, 10, 30, 34, 102, 170, 229, 52, 92, 228, 55, 89, 235, 38, 106, 190, 217, 112, 144, 171, 230, 49, 83, 245, 4, 12, 20, 60, 68, 204, 79, 209, 104, 184, 211, 110, 178, 205, 76, 212, 103, 169, 224, 59, 77, 215, 98, 166, 241, 8, 24, 40, 120, 136, 131, 158, 185, 208, 107, 189, 220, 127, 129, 152, 179, 206, 73, 219, 118, 154, 181, 196, 87, 249, 16, 48, 80, 240, 11, 29, 39, 105, 187, 214, 97, 163, 254, 25, 43, 125, 135, 146, 173, 236, 47, 113, 147, 174, 233, 32, 96, 160, 251, 22, 58, 78, 210, 109, 183, 194, 93, 231, 50, 86, 250, 21, 63, 65, 195, 94, 226, 61, 71, 201, 64, 192, 91, 237, 44, 116, 156, 191, 218, 117, 159, 186, 213, 100, 172, 239, 42, 126, 130, 157, 188, 223, 122, 142, 137, 128, 155, 182, 193, 88, 232, 35, 101, 175, 234, 37, 111, 177, 200, 67, 197, 84, 252, 31, 33, 99, 165, 244, 7, 9, 27, 45, 119, 153, 176, 203, 70, 202, 69, 207, 74, 222, 121, 139, 134, 145, 168, 227, 62, 66, 198, 81, 243, 14, 18, 54, 90, 238, 41, 123, 141, 140, 143, 138, 133, 148, 167, 242, 13, 23, 57, 75, 221, 124, 132, 151, 162, 253, 28, 36, 108, 180, 199, 82, 246]
def sboxLit : List UInt8 := [99, 124, 119, 123, 242, 107, 111, 197, 48, 1, 103, 43, 254, 215, 171, 118, 202, 130, 201, 125, 250, 89, 71, 240, 173, 212, 162, 175, 156, 164, 114, 192, 183, 253, 147, 38, 54, 63, 247, 204, 52, 165, 229, 241, 113, 216, 49, 21, 4, 199, 35, 195, 24, 150, 5, 154, 7, 18, 128, 226, 235, 39, 178, 117, 9, 131, 44, 26, 27, 110, 90, 160, 82, 59, 214, 179, 41, 227, 47, 132, 83, 209, 0, 237, 32, 252, 177, 91, 106, 203, 190, 57, 74, 76, 88, 207, 208, 239, 170, 251, 67, 77, 51, 133, 69, 249, 2, 127, 80, 60, 159, 168, 81, 163, 64, 143, 146, 157, 56, 245, 188, 182, 218, 33, 16, 255, 243, 210, 205, 12, 19, 236, 95, 151, 68, 23, 196, 167, 126, 61, 100, 93, 25, 115, 96, 129, 79, 220, 34, 42, 144, 136, 70, 238, 184, 20, 222, 94, 11, 219, 224, 50, 58, 10, 73, 6, 36, 92, 194, 211, 172, 98, 145, 149, 228, 121, 231, 200, 55, 109, 141, 213, 78, 169, 108, 86, 244, 234, 101, 122, 174, 8, 186, 120, 37, 46, 28, 166, 180, 198, 232, 221, 116, 31, 75, 189, 139, 138, 112, 62, 181, 102, 72, 3, 246, 14, 97, 53, 87, 185, 134, 193, 29, 158, 225, 248, 152, 17, 105, 217, 142, 148, 155, 30, 135, 233, 206, 85, 40, 223, 140, 161, 137, 13, 191, 230, 66, 104, 65, 153, 45, 15, 176, 84, 187, 22]

theorem powsLit_step : ∀ k, k < 254 → powsLit.getD (k + 1) 0 = bx (powsLit.getD k 0) (dbl (powsLit.getD k 0)) := by decide +kernel
theorem pk_lit (k : Nat) (hk : k < 255) : pk k = powsLit.getD k 0 := by
  induction k with
  | zero => decide +kernel
  | succ k ih => rw [powsLit_step k (by omega), ← ih (by omega)]; rfl
theorem powsLit_map : (List.range 255).map (fun k => powsLit.getD k 0) = powsLit := by decide +kernel
theorem pows_lit : pows = powsLit := by
  have h : pows = (List.range 255).map (fun k => powsLit.getD k 0) := List.map_congr_left fun k hk => pk_lit k (by simpa using hk)
  rw [h, powsLit_map]
def subToL : Nat → List UInt8
  | 0 => (zeros 256).set 0 (sct 0)
  | k + 1 => (subToL k).set (powsLit.getD k 0).toNat (sct (powsLit.getD ((255 - k) % 255) 0))
theorem subTo_lit (k : Nat) : subTo k = subToL k := by
  induction k with
  | zero => rfl
  | succ k ih => rw [subTo, subToL, ih, pows_lit]
theorem sboxLit_eq : subToL 255 = sboxLit := by decide +kernel
theorem sbox_lit : sbox = sboxLit := by unfold sbox; rw [subTo_lit, sboxLit_eq]

def key0 : List UInt8 := [0, 1, 2, 3, 4, 5, 6, 7, 8, 9, 10, 11, 12, 13, 14, 15]
def blk0 : List UInt8 := [0, 17, 34, 51, 68, 85, 102, 119, 136, 153, 170, 187, 204, 221, 238, 255]
def out0 : List UInt8 := [0x69, 0xc4, 0xe0, 0xd8, 0x6a, 0x7b, 0x04, 0x30, 0xd8, 0xcd, 0xb7, 0x80, 0x70, 0xb4, 0xc5, 0x5a]
end Go.Proofs.YtmolhljgmaoflaaDoor.Gf

/- The plain mathematics of AES there and back: each step of a round is taken back. -/
namespace Go.Proofs.YtmolhljgmaoflaaDoor.Gf

theorem list16 (l : List UInt8) (h : l.length = 16) : ∃ a0 a1 a2 a3 a4 a5 a6 a7 a8 a9 a10 a11 a12 a13 a14 a15, l = [a0, a1, a2, a3, a4, a5, a6, a7, a8, a9, a10, a11, a12, a13, a14, a15] := by
  match l, h with
  | [a0, a1, a2, a3, a4, a5, a6, a7, a8, a9, a10, a11, a12, a13, a14, a15], _ => exact ⟨a0, a1, a2, a3, a4, a5, a6, a7, a8, a9, a10, a11, a12, a13, a14, a15, rfl⟩

theorem dbl_times : ∀ n, n < 256 → dblN n = timesN 2 n := by decide +kernel
theorem dbl_bx (x y : UInt8) : dbl (bx x y) = bx (dbl x) (dbl y) := by
  apply UInt8.toNat_inj.1
  unfold bx
  rw [UInt8.toNat_xor, dbl_toNat, dbl_toNat, dbl_toNat, UInt8.toNat_xor, dbl_times _ (Nat.xor_lt_two_pow (n := 8) x.toNat_lt y.toNat_lt), dbl_times _ x.toNat_lt, dbl_times _ y.toNat_lt, timesN_xor_right]

theorem bx_comm (x y : UInt8) : bx x y = bx y x := UInt8.xor_comm x y
theorem bx_assoc (x y z : UInt8) : bx (bx x y) z = bx x (bx y z) := UInt8.xor_assoc x y z
theorem bx_left (x y z : UInt8) : bx x (bx y z) = bx y (bx x z) := by rw [← bx_assoc, bx_comm x y, bx_assoc]
theorem bx_self (x : UInt8) : bx x x = 0 := UInt8.xor_self
theorem bx_zero (x : UInt8) : bx x 0 = x := UInt8.xor_zero
theorem zero_bx (x : UInt8) : bx 0 x = x := UInt8.zero_xor
theorem bx_self_left (x y : UInt8) : bx x (bx x y) = y := by rw [← bx_assoc, bx_self, zero_bx]

/-! One column. -/
def m0 (a b c d : UInt8) : UInt8 := bx a (bx (all4 a b c d) (dbl (bx a b)))
def u0 (a c : UInt8) : UInt8 := bx a (dbl (dbl (bx a c)))
theorem mm (a b c d : UInt8) : m0 (m0 a b c d) (m0 b c d a) (m0 c d a b) (m0 d a b c) = u0 a c := by
  simp only [m0, u0, all4, dbl_bx, bx_assoc]
  simp only [bx_left, bx_self_left]
theorem uu (a c : UInt8) : u0 (u0 a c) (u0 c a) = a := by
  simp only [u0, dbl_bx, bx_assoc]
  simp only [bx_comm, bx_left, bx_self, bx_zero, zero_bx]

theorem all4_rot (a b c d : UInt8) : all4 a b c d = all4 b c d a := by
  unfold all4; rw [bx_comm (bx (bx b c) d) a, bx_assoc, bx_assoc, bx_assoc]
theorem m1_eq (a b c d : UInt8) : bx b (bx (all4 a b c d) (dbl (bx b c))) = m0 b c d a := by unfold m0; rw [all4_rot a b c d]
theorem m2_eq (a b c d : UInt8) : bx c (bx (all4 a b c d) (dbl (bx c d))) = m0 c d a b := by unfold m0; rw [all4_rot a b c d, all4_rot b c d a]
theorem m3_eq (a b c d : UInt8) : bx d (bx (all4 a b c d) (dbl (bx d a))) = m0 d a b c := by unfold m0; rw [all4_rot a b c d, all4_rot b c d a, all4_rot c d a b]
theorem mixL_lit (a0 a1 a2 a3 a4 a5 a6 a7 a8 a9 a10 a11 a12 a13 a14 a15 : UInt8) : mixL [a0, a1, a2, a3, a4, a5, a6, a7, a8, a9, a10, a11, a12, a13, a14, a15] = [m0 a0 a1 a2 a3, m0 a1 a2 a3 a0, m0 a2 a3 a0 a1, m0 a3 a0 a1 a2, m0 a4 a5 a6 a7, m0 a5 a6 a7 a4, m0 a6 a7 a4 a5, m0 a7 a4 a5 a6, m0 a8 a9 a10 a11, m0 a9 a10 a11 a8, m0 a10 a11 a8 a9, m0 a11 a8 a9 a10, m0 a12 a13 a14 a15, m0 a13 a14 a15 a12, m0 a14 a15 a12 a13, m0 a15 a12 a13 a14] := by
  have h : mixL [a0, a1, a2, a3, a4, a5, a6, a7, a8, a9, a10, a11, a12, a13, a14, a15] = [bx a0 (bx (all4 a0 a1 a2 a3) (dbl (bx a0 a1))), bx a1 (bx (all4 a0 a1 a2 a3) (dbl (bx a1 a2))), bx a2 (bx (all4 a0 a1 a2 a3) (dbl (bx a2 a3))), bx a3 (bx (all4 a0 a1 a2 a3) (dbl (bx a3 a0))), bx a4 (bx (all4 a4 a5 a6 a7) (dbl (bx a4 a5))), bx a5 (bx (all4 a4 a5 a6 a7) (dbl (bx a5 a6))), bx a6 (bx (all4 a4 a5 a6 a7) (dbl (bx a6 a7))), bx a7 (bx (all4 a4 a5 a6 a7) (dbl (bx a7 a4))), bx a8 (bx (all4 a8 a9 a10 a11) (dbl (bx a8 a9))), bx a9 (bx (all4 a8 a9 a10 a11) (dbl (bx a9 a10))), bx a10 (bx (all4 a8 a9 a10 a11) (dbl (bx a10 a11))), bx a11 (bx (all4 a8 a9 a10 a11) (dbl (bx a11 a8))), bx a12 (bx (all4 a12 a13 a14 a15) (dbl (bx a12 a13))), bx a13 (bx (all4 a12 a13 a14 a15) (dbl (bx a13 a14))), bx a14 (bx (all4 a12 a13 a14 a15) (dbl (bx a14 a15))), bx a15 (bx (all4 a12 a13 a14 a15) (dbl (bx a15 a12)))] := by kernel_rfl
  rw [h]; simp only [m1_eq, m2_eq, m3_eq]; rfl
theorem preTo_lit (a0 a1 a2 a3 a4 a5 a6 a7 a8 a9 a10 a11 a12 a13 a14 a15 : UInt8) : preTo [a0, a1, a2, a3, a4, a5, a6, a7, a8, a9, a10, a11, a12, a13, a14, a15] 4 = [u0 a0 a2, u0 a1 a3, u0 a2 a0, u0 a3 a1, u0 a4 a6, u0 a5 a7, u0 a6 a4, u0 a7 a5, u0 a8 a10, u0 a9 a11, u0 a10 a8, u0 a11 a9, u0 a12 a14, u0 a13 a15, u0 a14 a12, u0 a15 a13] := by
  have h : preTo [a0, a1, a2, a3, a4, a5, a6, a7, a8, a9, a10, a11, a12, a13, a14, a15] 4 = [bx a0 (dbl (dbl (bx a0 a2))), bx a1 (dbl (dbl (bx a1 a3))), bx a2 (dbl (dbl (bx a0 a2))), bx a3 (dbl (dbl (bx a1 a3))), bx a4 (dbl (dbl (bx a4 a6))), bx a5 (dbl (dbl (bx a5 a7))), bx a6 (dbl (dbl (bx a4 a6))), bx a7 (dbl (dbl (bx a5 a7))), bx a8 (dbl (dbl (bx a8 a10))), bx a9 (dbl (dbl (bx a9 a11))), bx a10 (dbl (dbl (bx a8 a10))), bx a11 (dbl (dbl (bx a9 a11))), bx a12 (dbl (dbl (bx a12 a14))), bx a13 (dbl (dbl (bx a13 a15))), bx a14 (dbl (dbl (bx a12 a14))), bx a15 (dbl (dbl (bx a13 a15)))] := by kernel_rfl
  rw [h]
  simp only [u0, bx_comm a2 a0, bx_comm a3 a1, bx_comm a6 a4, bx_comm a7 a5, bx_comm a10 a8, bx_comm a11 a9, bx_comm a14 a12, bx_comm a15 a13]
theorem mix_mix (l : List UInt8) (h : l.length = 16) : mixL (mixL l) = preTo l 4 := by
  obtain ⟨a0, a1, a2, a3, a4, a5, a6, a7, a8, a9, a10, a11, a12, a13, a14, a15, rfl⟩ := list16 l h
  rw [mixL_lit, mixL_lit, preTo_lit]
  simp only [mm]
theorem pre_pre (l : List UInt8) (h : l.length = 16) : preTo (preTo l 4) 4 = l := by
  obtain ⟨a0, a1, a2, a3, a4, a5, a6, a7, a8, a9, a10, a11, a12, a13, a14, a15, rfl⟩ := list16 l h
  rw [preTo_lit, preTo_lit]
  simp only [uu]
theorem unmix_mix (l : List UInt8) (h : l.length = 16) : unmixL (mixL l) = l := by
  have h1 : (mixL l).length = 16 := by rw [mixL_len]; exact h
  have h2 : (mixL (mixL l)).length = 16 := by rw [mixL_len]; exact h1
  unfold unmixL
  rw [← mix_mix _ h1, mix_mix (mixL (mixL l)) h2, mix_mix l h, pre_pre l h]
theorem mix_unmix (l : List UInt8) (h : l.length = 16) : mixL (unmixL l) = l := by
  have h1 : (preTo l 4).length = 16 := by rw [preTo_len]; exact h
  unfold unmixL
  rw [mix_mix _ h1, pre_pre l h]

/-! The other steps. -/
theorem bxor_bxor (a k : List UInt8) (h : a.length = 16) (hk : k.length = 16) : bxor (bxor a k) k = a := by
  obtain ⟨a0, a1, a2, a3, a4, a5, a6, a7, a8, a9, a10, a11, a12, a13, a14, a15, rfl⟩ := list16 a h
  obtain ⟨b0, b1, b2, b3, b4, b5, b6, b7, b8, b9, b10, b11, b12, b13, b14, b15, rfl⟩ := list16 k hk
  have e : ∀ x y : UInt8, (x ^^^ y) ^^^ y = x := fun x y => by rw [UInt8.xor_assoc, UInt8.xor_self, UInt8.xor_zero]
  have h : ∀ (x y : List UInt8), bxor x y = (List.range 16).map fun i => x.getD i 0 ^^^ y.getD i 0 := fun _ _ => rfl
  rw [h, h]
  simp [List.range_succ, e]
theorem turn_13 (a : List UInt8) (h : a.length = 16) : turn (turn a 1) 3 = a := by
  obtain ⟨a0, a1, a2, a3, a4, a5, a6, a7, a8, a9, a10, a11, a12, a13, a14, a15, rfl⟩ := list16 a h
  rfl
theorem turn_31 (a : List UInt8) (h : a.length = 16) : turn (turn a 3) 1 = a := by
  obtain ⟨a0, a1, a2, a3, a4, a5, a6, a7, a8, a9, a10, a11, a12, a13, a14, a15, rfl⟩ := list16 a h
  rfl
theorem subst_subst (T U a : List UInt8) (h : a.length = 16) (hT : ∀ x, look U (look T x) = x) : subst U (subst T a) = a := by
  obtain ⟨a0, a1, a2, a3, a4, a5, a6, a7, a8, a9, a10, a11, a12, a13, a14, a15, rfl⟩ := list16 a h
  simp [subst, List.range_succ, hT]

/-! The table and the table back. -/
def invLit : List UInt8 := [82, 9, 106, 213, 48, 54, 165, 56, 191, 64, 163, 158, 129, 243, 215, 251, 124, 227, 57, 130, 155, 47, 255, 135, 52, 142, 67, 68, 196, 222, 233, 203, 84, 123, 148, 50, 166, 194, 35, 61, 238, 76, 149, 11, 66, 250, 195, 78, 8, 46, 161, 102, 40, 217, 36, 178, 118, 91, 162, 73, 109, 139, 209, 37, 114, 248, 246, 100, 134, 104, 152, 22, 212, 164, 92, 204, 93, 101, 182, 146, 108, 112, 72, 80, 253, 237, 185, 218, 94, 21, 70, 87, 167, 141, 157, 132, 144, 216, 171, 0, 140, 188, 211, 10, 247, 228, 88, 5, 184, 179, 69, 6, 208, 44, 30, 143, 202, 63, 15, 2, 193, 175, 189, 3, 1, 19, 138, 107, 58, 145, 17, 65, 79, 103, 220, 234, 151, 242, 207, 206, 240, 180, 230, 115, 150, 172, 116, 34, 231, 173, 53, 133, 226, 249, 55, 232, 28, 117, 223, 110, 71, 241, 26, 113, 29, 41, 197, 137, 111, 183, 98, 14, 170, 24, 190, 27, 252, 86, 62, 75, 198, 210, 121, 32, 154, 219, 192, 254, 120, 205, 90, 244, 31, 221, 168, 51, 136, 7, 199, 49, 177, 18, 16, 89, 39, 128, 236, 95, 96, 81, 127, 169, 25, 181, 74, 13, 45, 229, 122, 159, 147, 201, 156, 239, 160, 224, 59, 77, 174, 42, 245, 176, 200, 235, 187, 60, 131, 83, 153, 97, 23, 43, 4, 126, 186, 119, 214, 38, 225, 105, 20, 99, 85, 33, 12, 125]
theorem orig_lit : orig sboxLit = invLit := by decide +kernel
theorem box1 : ∀ n, n < 256 → look invLit (look sboxLit (UInt8.ofNat n)) = UInt8.ofNat n := by decide +kernel
theorem box2 : ∀ n, n < 256 → look sboxLit (look invLit (UInt8.ofNat n)) = UInt8.ofNat n := by decide +kernel
theorem back1 (x : UInt8) : look (orig sbox) (look sbox x) = x := by
  rw [sbox_lit, orig_lit]
  have h := box1 x.toNat x.toNat_lt
  rw [UInt8.ofNat_toNat] at h; exact h
theorem back2 (x : UInt8) : look sbox (look (orig sbox) x) = x := by
  rw [sbox_lit, orig_lit]
  have h := box2 x.toNat x.toNat_lt
  rw [UInt8.ofNat_toNat] at h; exact h

/-! There and back. -/
theorem dec_enc (T U K b : List UInt8) (hK : K.length = 176) (h1 : ∀ x, look U (look T x) = x) (j : Nat) (hj : j ≤ 10) : decTo T U K (encTo T K b 10) j = encTo T K b (10 - j) := by
  induction j with
  | zero => rfl
  | succ j ih =>
    obtain ⟨r, hr⟩ : ∃ r, 10 - j = r + 1 := ⟨10 - j - 1, by omega⟩
    have hr' : 10 - (j + 1) = r := by omega
    have hl := encTo_len T K b r
    have hs := subst_len T (encTo T K b r)
    have ht := turn_len (subst T (encTo T K b r)) 1
    have hm : (mixL (turn (subst T (encTo T K b r)) 1)).length = 16 := by rw [mixL_len]; exact ht
    have hk := rk_len K (r + 1) hK (by omega)
    simp only [decTo]
    rw [ih (by omega), hr, hr']
    by_cases h9 : r + 1 < 10
    · simp only [encTo, h9, if_true]
      rw [bxor_bxor _ _ hm hk, unmix_mix _ ht, turn_13 _ hs, subst_subst T U _ hl h1]
    · simp only [encTo, h9, if_false]
      rw [bxor_bxor _ _ ht hk, turn_13 _ hs, subst_subst T U _ hl h1]
theorem decrypt_encrypt (key b : List UInt8) (hb : b.length = 16) : decrypt key (encrypt key b) = b := by
  have hK := keys_len sbox key
  have h := dec_enc sbox (orig sbox) (keys sbox key) b hK back1 10 (Nat.le_refl _)
  have hk := rk_len (keys sbox key) 0 hK (by omega)
  show bxor (decTo sbox (orig sbox) (keys sbox key) (encTo sbox (keys sbox key) b 10) 10) (rk (keys sbox key) 0) = b
  rw [h]
  show bxor (bxor b (rk (keys sbox key) 0)) (rk (keys sbox key) 0) = b
  exact bxor_bxor _ _ hb hk
theorem enc_dec (T U K b : List UInt8) (hb : b.length = 16) (hK : K.length = 176) (h2 : ∀ x, look T (look U x) = x) (j : Nat) (hj : j ≤ 10) : encTo T K (bxor (decTo T U K b 10) (rk K 0)) j = decTo T U K b (10 - j) := by
  induction j with
  | zero => exact bxor_bxor _ _ (decTo_len T U K b 10 hb) (rk_len K 0 hK (by omega))
  | succ j ih =>
    obtain ⟨m, hm⟩ : ∃ m, 10 - j = m + 1 := ⟨10 - j - 1, by omega⟩
    have hm' : 10 - (j + 1) = m := by omega
    have hr : 10 - m = j + 1 := by omega
    have hl := decTo_len T U K b m hb
    have hk := rk_len K (j + 1) hK hj
    have hx := bxor_len (decTo T U K b m) (rk K (j + 1))
    have hu : (unmixL (bxor (decTo T U K b m) (rk K (j + 1)))).length = 16 := by rw [unmixL_len]; exact hx
    simp only [encTo]
    rw [ih (by omega), hm, hm']
    by_cases h9 : j + 1 < 10
    · simp only [decTo, hr, h9, if_true]
      rw [subst_subst U T _ (turn_len _ _) h2, turn_31 _ hu, mix_unmix _ hx, bxor_bxor _ _ hl hk]
    · simp only [decTo, hr, h9, if_false]
      rw [subst_subst U T _ (turn_len _ _) h2, turn_31 _ hx, bxor_bxor _ _ hl hk]
theorem encrypt_decrypt (key b : List UInt8) (hb : b.length = 16) : encrypt key (decrypt key b) = b :=
  enc_dec sbox (orig sbox) (keys sbox key) b hb (keys_len sbox key) back2 10 (Nat.le_refl _)
theorem encrypt_inj (key a b : List UInt8) (ha : a.length = 16) (hb : b.length = 16) : encrypt key a = encrypt key b ↔ a = b := by
  constructor
  · intro h
    rw [← decrypt_encrypt key a ha, ← decrypt_encrypt key b hb, h]
  · intro h; rw [h]

end Go.Proofs.YtmolhljgmaoflaaDoor.Gf
