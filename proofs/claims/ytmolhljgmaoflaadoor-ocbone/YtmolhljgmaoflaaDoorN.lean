/- Plain lists of bytes: filling, tables, columns. -/
import Derived.Test.YtmolhljgmaoflaaDoorM
namespace Go.Proofs.YtmolhljgmaoflaaDoor.Gf

def fill (z : List UInt8) (f : Nat → UInt8) : Nat → List UInt8
  | 0 => z
  | k + 1 => (fill z f k).set k (f k)
theorem fill_len (z : List UInt8) (f : Nat → UInt8) (k : Nat) : (fill z f k).length = z.length := by
  induction k with
  | zero => rfl
  | succ k ih => simp [fill, ih]
theorem fill_get (z : List UInt8) (f : Nat → UInt8) (k j : Nat) (h : k ≤ j) : (fill z f k).getD j 0 = z.getD j 0 := by
  induction k with
  | zero => rfl
  | succ k ih =>
    have := ih (by omega)
    simp only [fill, List.getD_eq_getElem?_getD] at *
    rw [List.getElem?_set_ne (by omega)]; exact this
theorem fill_at (z : List UInt8) (f : Nat → UInt8) (k j : Nat) (h : j < k) (hz : j < z.length) : (fill z f k)[j]? = some (f j) := by
  induction k with
  | zero => omega
  | succ k ih =>
    simp only [fill]
    by_cases e : j = k
    · subst e; rw [List.getElem?_set_self (by rw [fill_len]; exact hz)]
    · rw [List.getElem?_set_ne (by omega)]; exact ih (by omega)
theorem fill_full (z : List UInt8) (f : Nat → UInt8) (n : Nat) (h : z.length = n) : fill z f n = (List.range n).map f := by
  apply List.ext_getElem?
  intro j
  by_cases hj : j < n
  · rw [fill_at z f n j hj (by omega)]; simp [hj]
  · rw [List.getElem?_eq_none (by rw [fill_len]; omega), List.getElem?_eq_none (by simp; omega)]

def look (t : List UInt8) (x : UInt8) : UInt8 := t.getD x.toNat 0
def zeros (n : Nat) : List UInt8 := List.replicate n 0
def bxor (a b : List UInt8) : List UInt8 := (List.range 16).map fun i => a.getD i 0 ^^^ b.getD i 0
def subst (t b : List UInt8) : List UInt8 := (List.range 16).map fun i => look t (b.getD i 0)
def turn (b : List UInt8) (p : Nat) : List UInt8 := (List.range 16).map fun i => b.getD ((i + 4 * (i % 4) * p) % 16) 0
theorem bxor_len (a b : List UInt8) : (bxor a b).length = 16 := by simp [bxor]
theorem subst_len (a b : List UInt8) : (subst a b).length = 16 := by simp [subst]
theorem turn_len (a : List UInt8) (p : Nat) : (turn a p).length = 16 := by simp [turn]

def bx (x y : UInt8) : UInt8 := x ^^^ y
def all4 (a b c d : UInt8) : UInt8 := bx (bx (bx a b) c) d
def set4 (l : List UInt8) (m : Nat) (a b c d : UInt8) : List UInt8 := (((l.set m a).set (m + 1) b).set (m + 2) c).set (m + 3) d
theorem set4_len (l : List UInt8) (m : Nat) (a b c d : UInt8) : (set4 l m a b c d).length = l.length := by simp [set4]
def mcol (l : List UInt8) (m : Nat) (a b c d : UInt8) : List UInt8 :=
  set4 l m (bx a (bx (all4 a b c d) (dbl (bx a b)))) (bx b (bx (all4 a b c d) (dbl (bx b c)))) (bx c (bx (all4 a b c d) (dbl (bx c d)))) (bx d (bx (all4 a b c d) (dbl (bx d a))))
def mixTo (b : List UInt8) : Nat → List UInt8
  | 0 => b
  | k + 1 => mcol (mixTo b k) (4 * k) ((mixTo b k).getD (4 * k) 0) ((mixTo b k).getD (4 * k + 1) 0) ((mixTo b k).getD (4 * k + 2) 0) ((mixTo b k).getD (4 * k + 3) 0)
theorem mixTo_len (b : List UInt8) (k : Nat) : (mixTo b k).length = b.length := by
  induction k with
  | zero => rfl
  | succ k ih => simp [mixTo, mcol, set4_len, ih]
def ucol (l : List UInt8) (m : Nat) (a b c d : UInt8) : List UInt8 :=
  set4 l m (bx a (dbl (dbl (bx a c)))) (bx b (dbl (dbl (bx b d)))) (bx c (dbl (dbl (bx a c)))) (bx d (dbl (dbl (bx b d))))
def preTo (b : List UInt8) : Nat → List UInt8
  | 0 => b
  | k + 1 => ucol (preTo b k) (4 * k) ((preTo b k).getD (4 * k) 0) ((preTo b k).getD (4 * k + 1) 0) ((preTo b k).getD (4 * k + 2) 0) ((preTo b k).getD (4 * k + 3) 0)
theorem preTo_len (b : List UInt8) (k : Nat) : (preTo b k).length = b.length := by
  induction k with
  | zero => rfl
  | succ k ih => simp [preTo, ucol, set4_len, ih]
def mixL (b : List UInt8) : List UInt8 := mixTo b 4
def unmixL (b : List UInt8) : List UInt8 := mixL (preTo b 4)
theorem mixL_len (b : List UInt8) : (mixL b).length = b.length := mixTo_len b 4
theorem unmixL_len (b : List UInt8) : (unmixL b).length = b.length := by unfold unmixL; rw [mixL_len, preTo_len]

/-! The table of substitutes, as it is made. -/
def pk : Nat → UInt8
  | 0 => 1
  | k + 1 => bx (pk k) (dbl (pk k))
def pows : List UInt8 := (List.range 255).map pk
theorem pows_len : pows.length = 255 := by simp [pows]
def subTo : Nat → List UInt8
  | 0 => (zeros 256).set 0 (sct 0)
  | k + 1 => (subTo k).set (pows.getD k 0).toNat (sct (pows.getD ((255 - k) % 255) 0))
theorem subTo_len (k : Nat) : (subTo k).length = 256 := by
  induction k with
  | zero => rw [subTo, List.length_set]; exact List.length_replicate
  | succ k ih => simp [subTo, ih]
def sbox : List UInt8 := subTo 255
theorem sbox_len : sbox.length = 256 := subTo_len 255
def origTo (t : List UInt8) : Nat → List UInt8
  | 0 => zeros 256
  | k + 1 => (origTo t k).set (t.getD k 0).toNat (UInt8.ofNat k)
theorem origTo_len (t : List UInt8) (k : Nat) : (origTo t k).length = 256 := by
  induction k with
  | zero => exact List.length_replicate
  | succ k ih => simp [origTo, ih]
def orig (t : List UInt8) : List UInt8 := origTo t 256

/-! Round keys. -/
def bx32 (x y : UInt32) : UInt32 := x ^^^ y
def byt (x : UInt32) (s : Nat) : UInt8 := UInt8.ofNat (x.toNat / s)
theorem byt_toNat (x : UInt32) (s : Nat) : (byt x s).toNat = x.toNat / s % 256 := by simp [byt]
def zeros32 (n : Nat) : List UInt32 := List.replicate n 0
def wordAt (key : List UInt8) (i : Nat) : UInt32 := jn (key.getD (4 * i) 0) (key.getD (4 * i + 1) 0) (key.getD (4 * i + 2) 0) (key.getD (4 * i + 3) 0)
def turned (t : List UInt8) (x : UInt32) (p : UInt8) : UInt32 := jn (bx (look t (byt x 65536)) p) (look t (byt x 256)) (look t (byt x 1)) (look t (byt x 16777216))
def wTo (t key : List UInt8) : Nat → List UInt32 × UInt8
  | 0 => (zeros32 44, 1)
  | i + 1 =>
    if i < 4 then ((wTo t key i).1.set i (wordAt key i), (wTo t key i).2)
    else if i % 4 = 0 then ((wTo t key i).1.set i (bx32 ((wTo t key i).1.getD (i - 4) 0) (turned t ((wTo t key i).1.getD (i - 1) 0) (wTo t key i).2)), dbl (wTo t key i).2)
    else ((wTo t key i).1.set i (bx32 ((wTo t key i).1.getD (i - 4) 0) ((wTo t key i).1.getD (i - 1) 0)), (wTo t key i).2)
theorem wTo_len (t key : List UInt8) (i : Nat) : (wTo t key i).1.length = 44 := by
  induction i with
  | zero => exact List.length_replicate
  | succ i ih =>
    simp only [wTo]
    split
    · simp [ih]
    · split <;> simp [ih]
def words (t key : List UInt8) : List UInt32 := (wTo t key 44).1
theorem words_len (t key : List UInt8) : (words t key).length = 44 := wTo_len t key 44
def keyByte (ws : List UInt32) (j : Nat) : UInt8 := byt (ws.getD (j / 4) 0) (2 ^ (24 - 8 * (j % 4)))
def keys (t key : List UInt8) : List UInt8 := (List.range 176).map (keyByte (words t key))
theorem keys_len (t key : List UInt8) : (keys t key).length = 176 := by simp [keys]

/-! Encrypting. -/
def rk (K : List UInt8) (r : Nat) : List UInt8 := (K.drop (r * 16)).take 16
theorem rk_len (K : List UInt8) (r : Nat) (hK : K.length = 176) (hr : r ≤ 10) : (rk K r).length = 16 := by simp [rk, hK]; omega
def encTo (t K b : List UInt8) : Nat → List UInt8
  | 0 => bxor b (rk K 0)
  | j + 1 => bxor (if j + 1 < 10 then mixL (turn (subst t (encTo t K b j)) 1) else turn (subst t (encTo t K b j)) 1) (rk K (j + 1))
theorem encTo_len (t K b : List UInt8) (j : Nat) : (encTo t K b j).length = 16 := by
  cases j <;> exact bxor_len _ _
def encrypt (key b : List UInt8) : List UInt8 := encTo sbox (keys sbox key) b 10
theorem encrypt_len (key b : List UInt8) : (encrypt key b).length = 16 := encTo_len _ _ _ _
def decTo (t u K b : List UInt8) : Nat → List UInt8
  | 0 => b
  | j + 1 => subst u (turn (if 10 - j < 10 then unmixL (bxor (decTo t u K b j) (rk K (10 - j))) else bxor (decTo t u K b j) (rk K (10 - j))) 3)
theorem decTo_len (t u K b : List UInt8) (j : Nat) (hb : b.length = 16) : (decTo t u K b j).length = 16 := by
  cases j
  · exact hb
  · exact subst_len _ _
def decrypt (key b : List UInt8) : List UInt8 := bxor (decTo sbox (orig sbox) (keys sbox key) b 10) (rk (keys sbox key) 0)
theorem decrypt_len (key b : List UInt8) : (decrypt key b).length = 16 := bxor_len _ _

end Go.Proofs.YtmolhljgmaoflaaDoor.Gf
