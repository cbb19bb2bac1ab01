/- The plain mathematics of products of bytes: no Go, no program. -/

namespace Go.Proofs.YtmolhljgmaoflaaDoor.Gf

def prodN (a b : Nat) : Nat → Nat
  | 0 => 0
  | k + 1 => if b.testBit k then prodN a b k ^^^ (a <<< k) else prodN a b k
def redN (q : Nat) : Nat → Nat
  | 0 => q
  | j + 1 => if (redN q j).testBit (14 - j) then redN q j ^^^ (283 <<< (6 - j)) else redN q j
def timesN (a b : Nat) : Nat := redN (prodN a b 8) 7 % 256

theorem timesN_lt (a b : Nat) : timesN a b < 256 := Nat.mod_lt _ (by decide)

theorem x4 (p c q d : Nat) : (p ^^^ c) ^^^ (q ^^^ d) = (p ^^^ q) ^^^ (c ^^^ d) := by
  rw [Nat.xor_assoc, Nat.xor_assoc, ← Nat.xor_assoc c, Nat.xor_comm c q, Nat.xor_assoc q]
theorem x3 (p c q : Nat) : (p ^^^ c) ^^^ q = (p ^^^ q) ^^^ c := by
  rw [Nat.xor_assoc, Nat.xor_comm c q, Nat.xor_assoc]

theorem prodN_xor_left (a a' b k : Nat) : prodN (a ^^^ a') b k = prodN a b k ^^^ prodN a' b k := by
  induction k with
  | zero => simp [prodN]
  | succ k ih =>
    simp only [prodN, ih]
    split
    · rw [x4, Nat.shiftLeft_xor_distrib]
    · rfl
theorem prodN_xor_right (a b b' k : Nat) : prodN a (b ^^^ b') k = prodN a b k ^^^ prodN a b' k := by
  induction k with
  | zero => simp [prodN]
  | succ k ih =>
    simp only [prodN, ih, Nat.testBit_xor]
    cases b.testBit k <;> cases b'.testBit k <;> simp
    · rw [Nat.xor_assoc]
    · rw [x3]
    · rw [x4]; simp
theorem redN_xor (p q j : Nat) : redN (p ^^^ q) j = redN p j ^^^ redN q j := by
  induction j with
  | zero => rfl
  | succ j ih =>
    simp only [redN, ih, Nat.testBit_xor]
    cases (redN p j).testBit (14 - j) <;> cases (redN q j).testBit (14 - j) <;> simp
    · rw [Nat.xor_assoc]
    · rw [x3]
    · rw [x4]; simp
theorem timesN_xor_left (a a' b : Nat) : timesN (a ^^^ a') b = timesN a b ^^^ timesN a' b := by
  unfold timesN; rw [prodN_xor_left, redN_xor, Nat.xor_mod_two_pow (n := 8)]
theorem timesN_xor_right (a b b' : Nat) : timesN a (b ^^^ b') = timesN a b ^^^ timesN a b' := by
  unfold timesN; rw [prodN_xor_right, redN_xor, Nat.xor_mod_two_pow (n := 8)]

def bitOf (a i : Nat) : Nat := if a.testBit i then 2 ^ i else 0
theorem sum_bits : ∀ a, a < 256 → bitOf a 0 ^^^ (bitOf a 1 ^^^ (bitOf a 2 ^^^ (bitOf a 3 ^^^ (bitOf a 4 ^^^ (bitOf a 5 ^^^ (bitOf a 6 ^^^ bitOf a 7)))))) = a := by
  decide +kernel
theorem byte_ind (P : Nat → Prop) (h0 : P 0) (hb : ∀ i, i < 8 → P (2 ^ i)) (hx : ∀ a b, P a → P b → P (a ^^^ b)) (a : Nat) (ha : a < 256) : P a := by
  have hbit : ∀ i, i < 8 → P (bitOf a i) := fun i hi => by
    unfold bitOf; split
    · exact hb i hi
    · exact h0
  rw [← sum_bits a ha]
  exact hx _ _ (hbit 0 (by decide)) (hx _ _ (hbit 1 (by decide)) (hx _ _ (hbit 2 (by decide)) (hx _ _ (hbit 3 (by decide)) (hx _ _ (hbit 4 (by decide)) (hx _ _ (hbit 5 (by decide)) (hx _ _ (hbit 6 (by decide)) (hbit 7 (by decide))))))))

theorem timesN_zero_left (b : Nat) : timesN 0 b = 0 := by
  have h := timesN_xor_left 0 0 b
  rw [Nat.xor_self] at h; simpa using h
theorem timesN_zero_right (a : Nat) : timesN a 0 = 0 := by
  have h := timesN_xor_right a 0 0
  rw [Nat.xor_self] at h; simpa using h

theorem comm_basis : ∀ i, i < 8 → ∀ j, j < 8 → timesN (2 ^ i) (2 ^ j) = timesN (2 ^ j) (2 ^ i) := by decide +kernel
theorem timesN_comm (a b : Nat) (ha : a < 256) (hb : b < 256) : timesN a b = timesN b a := by
  refine byte_ind (fun a => timesN a b = timesN b a) ?_ ?_ ?_ a ha
  · simp [timesN_zero_left, timesN_zero_right]
  · intro i hi
    refine byte_ind (fun b => timesN (2 ^ i) b = timesN b (2 ^ i)) ?_ ?_ ?_ b hb
    · simp [timesN_zero_left, timesN_zero_right]
    · intro j hj; exact comm_basis i hi j hj
    · intro x y hx hy; simp only [timesN_xor_left, timesN_xor_right, hx, hy]
  · intro x y hx hy; simp only [timesN_xor_left, timesN_xor_right, hx, hy]

theorem assoc_basis : ∀ i, i < 8 → ∀ j, j < 8 → ∀ k, k < 8 → timesN (timesN (2 ^ i) (2 ^ j)) (2 ^ k) = timesN (2 ^ i) (timesN (2 ^ j) (2 ^ k)) := by decide +kernel
theorem timesN_assoc (a b c : Nat) (ha : a < 256) (hb : b < 256) (hc : c < 256) : timesN (timesN a b) c = timesN a (timesN b c) := by
  refine byte_ind (fun a => timesN (timesN a b) c = timesN a (timesN b c)) ?_ ?_ ?_ a ha
  · simp [timesN_zero_left]
  · intro i hi
    refine byte_ind (fun b => timesN (timesN (2 ^ i) b) c = timesN (2 ^ i) (timesN b c)) ?_ ?_ ?_ b hb
    · simp [timesN_zero_left, timesN_zero_right]
    · intro j hj
      refine byte_ind (fun c => timesN (timesN (2 ^ i) (2 ^ j)) c = timesN (2 ^ i) (timesN (2 ^ j) c)) ?_ ?_ ?_ c hc
      · simp [timesN_zero_right]
      · intro k hk; exact assoc_basis i hi j hj k hk
      · intro x y hx hy; simp only [timesN_xor_right, hx, hy]
    · intro x y hx hy; simp only [timesN_xor_left, timesN_xor_right, hx, hy]
  · intro x y hx hy; simp only [timesN_xor_left, hx, hy]

theorem timesN_one (a : Nat) (ha : a < 256) : timesN a 1 = a := by
  refine byte_ind (fun a => timesN a 1 = a) ?_ ?_ ?_ a ha
  · exact timesN_zero_left 1
  · decide +kernel
  · intro x y hx hy; simp only [timesN_xor_left, hx, hy]

def invN (a : Nat) : Nat :=
  let a2 := timesN a a
  let a3 := timesN a2 a
  let a6 := timesN a3 a3
  let a12 := timesN a6 a6
  let a15 := timesN a12 a3
  let a30 := timesN a15 a15
  let a60 := timesN a30 a30
  let a120 := timesN a60 a60
  let a126 := timesN a120 a6
  let a127 := timesN a126 a
  timesN a127 a127
theorem inv_all : ∀ a, a < 256 → a ≠ 0 → timesN (invN a) a = 1 := by decide +kernel
theorem timesN_zero_iff (a b : Nat) (ha : a < 256) (hb : b < 256) : timesN a b = 0 ↔ a = 0 ∨ b = 0 := by
  constructor
  · intro h
    by_cases e : a = 0
    · exact .inl e
    · right
      have h1 := timesN_assoc (invN a) a b (timesN_lt _ _) ha hb
      rw [inv_all a ha e, h, timesN_zero_right, timesN_comm 1 b (by decide) hb, timesN_one b hb] at h1
      exact h1
  · rintro (rfl | rfl)
    · exact timesN_zero_left b
    · exact timesN_zero_right a

/-! The same of bytes. -/
def times (x y : UInt8) : UInt8 := UInt8.ofNat (timesN x.toNat y.toNat)
theorem times_toNat (x y : UInt8) : (times x y).toNat = timesN x.toNat y.toNat := by
  unfold times; rw [UInt8.toNat_ofNat_of_lt' (timesN_lt _ _)]
theorem times_comm (x y : UInt8) : times x y = times y x := by
  apply UInt8.toNat_inj.1; rw [times_toNat, times_toNat]; exact timesN_comm _ _ x.toNat_lt y.toNat_lt
theorem times_assoc (x y z : UInt8) : times (times x y) z = times x (times y z) := by
  apply UInt8.toNat_inj.1; simp only [times_toNat]; exact timesN_assoc _ _ _ x.toNat_lt y.toNat_lt z.toNat_lt
theorem times_xor (x y z : UInt8) : times x (y ^^^ z) = times x y ^^^ times x z := by
  apply UInt8.toNat_inj.1; simp only [times_toNat, UInt8.toNat_xor]; exact timesN_xor_right _ _ _
theorem times_one (x : UInt8) : times x 1 = x := by
  apply UInt8.toNat_inj.1; simp only [times_toNat]; exact timesN_one _ x.toNat_lt
theorem times_zero_iff (x y : UInt8) : times x y = 0 ↔ x = 0 ∨ y = 0 := by
  rw [← UInt8.toNat_inj, ← UInt8.toNat_inj, ← UInt8.toNat_inj, times_toNat]; exact timesN_zero_iff _ _ x.toNat_lt y.toNat_lt

/-! Doubling, scattering, joining. -/
def dblN (n : Nat) : Nat := ((n * 2) ^^^ (n * 2 / 256 * 283)) % 256
theorem dblN_lt (n : Nat) : dblN n < 256 := Nat.mod_lt _ (by decide)
def dbl (x : UInt8) : UInt8 := UInt8.ofNat (dblN x.toNat)
theorem dbl_toNat (x : UInt8) : (dbl x).toNat = dblN x.toNat := by
  unfold dbl; rw [UInt8.toNat_ofNat_of_lt' (dblN_lt _)]
def sctN (n : Nat) : Nat := ((((((n * 256 ||| n) ^^^ (n * 256 ||| n) / 16) ^^^ (n * 256 ||| n) / 32) ^^^ (n * 256 ||| n) / 64) ^^^ (n * 256 ||| n) / 128) % 256) ^^^ 99
theorem sctN_lt : ∀ n, n < 256 → sctN n < 256 := by decide +kernel
def sct (x : UInt8) : UInt8 := UInt8.ofNat (sctN x.toNat)
theorem sct_toNat (x : UInt8) : (sct x).toNat = sctN x.toNat := by
  unfold sct; rw [UInt8.toNat_ofNat_of_lt' (sctN_lt _ x.toNat_lt)]
def jnN (a b c d : Nat) : Nat := ((a * 16777216 ||| b * 65536) ||| c * 256) ||| d
theorem jnN_lt (a b c d : Nat) (ha : a < 256) (hb : b < 256) (hc : c < 256) (hd : d < 256) : jnN a b c d < 2 ^ 32 := by
  unfold jnN
  exact Nat.or_lt_two_pow (Nat.or_lt_two_pow (Nat.or_lt_two_pow (by omega) (by omega)) (by omega)) (by omega)
def jn (a b c d : UInt8) : UInt32 := UInt32.ofNat (jnN a.toNat b.toNat c.toNat d.toNat)
theorem jn_toNat (a b c d : UInt8) : (jn a b c d).toNat = jnN a.toNat b.toNat c.toNat d.toNat := by
  unfold jn; rw [UInt32.toNat_ofNat_of_lt' (jnN_lt _ _ _ _ a.toNat_lt b.toNat_lt c.toNat_lt d.toNat_lt)]

end Go.Proofs.YtmolhljgmaoflaaDoor.Gf

/- Plain lists of bytes: filling, tables, columns. -/
namespace Go.Proofs.YtmolhljgmaoflaaDoor.Gf

def fill (z : List UInt8) (f : Nat → UInt8) : Nat → List UInt8
  | 0 => z
  | k + 1 => (fill z f k).set k (f k)
theorem fill_len (z : List UInt8) (f : Nat → UInt8) (k : Nat) : (fill z f k).length = z.length := by
  induction k with
  | zero => rfl
  | succ k ih => simp [fill, ih]
theorem fill_get (z : List UInt8) (f : Nat → UInt8) (k j : Nat) (h : k ≤ j) : (fill z f k).getD j 0 = z.getD j 0 := by
  induction k with
  | zero => rfl
  | succ k ih =>
    have := ih (by omega)
    simp only [fill, List.getD_eq_getElem?_getD] at *
    rw [List.getElem?_set_ne (by omega)]; exact this
theorem fill_at (z : List UInt8) (f : Nat → UInt8) (k j : Nat) (h : j < k) (hz : j < z.length) : (fill z f k)[j]? = some (f j) := by
  induction k with
  | zero => omega
  | succ k ih =>
    simp only [fill]
    by_cases e : j = k
    · subst e; rw [List.getElem?_set_self (by rw [fill_len]; exact hz)]
    · rw [List.getElem?_set_ne (by omega)]; exact ih (by omega)
theorem fill_full (z : List UInt8) (f : Nat → UInt8) (n : Nat) (h : z.length = n) : fill z f n = (List.range n).map f := by
  apply List.ext_getElem?
  intro j
  by_cases hj : j < n
  · rw [fill_at z f n j hj (by omega)]; simp [hj]
  · rw [List.getElem?_eq_none (by rw [fill_len]; omega), List.getElem?_eq_none (by simp; omega)]

def look (t : List UInt8) (x : UInt8) : UInt8 := t.getD x.toNat 0
def zeros (n : Nat) : List UInt8 := List.replicate n 0
def bxor (a b : List UInt8) : List UInt8 := (List.range 16).map fun i => a.getD i 0 ^^^ b.getD i 0
def subst (t b : List UInt8) : List UInt8 := (List.range 16).map fun i => look t (b.getD i 0)
def turn (b : List UInt8) (p : Nat) : List UInt8 := (List.range 16).map fun i => b.getD ((i + 4 * (i % 4) * p) % 16) 0
theorem bxor_len (a b : List UInt8) : (bxor a b).length = 16 := by simp [bxor]
theorem subst_len (a b : List UInt8) : (subst a b).length = 16 := by simp [subst]
theorem turn_len (a : List UInt8) (p : Nat) : (turn a p).length = 16 := by simp [turn]

def bx (x y : UInt8) : UInt8 := x ^^^ y
def all4 (a b c d : UInt8) : UInt8 := bx (bx (bx a b) c) d
def set4 (l : List UInt8) (m : Nat) (a b c d : UInt8) : List UInt8 := (((l.set m a).set (m + 1) b).set (m + 2) c).set (m + 3) d
theorem set4_len (l : List UInt8) (m : Nat) (a b c d : UInt8) : (set4 l m a b c d).length = l.length := by simp [set4]
def mcol (l : List UInt8) (m : Nat) (a b c d : UInt8) : List UInt8 :=
  set4 l m (bx a (bx (all4 a b c d) (dbl (bx a b)))) (bx b (bx (all4 a b c d) (dbl (bx b c)))) (bx c (bx (all4 a b c d) (dbl (bx c d)))) (bx d (bx (all4 a b c d) (dbl (bx d a))))
def mixTo (b : List UInt8) : Nat → List UInt8
  | 0 => b
  | k + 1 => mcol (mixTo b k) (4 * k) ((mixTo b k).getD (4 * k) 0) ((mixTo b k).getD (4 * k + 1) 0) ((mixTo b k).getD (4 * k + 2) 0) ((mixTo b k).getD (4 * k + 3) 0)
theorem mixTo_len (b : List UInt8) (k : Nat) : (mixTo b k).length = b.length := by
  induction k with
  | zero => rfl
  | succ k ih => simp [mixTo, mcol, set4_len, ih]
def ucol (l : List UInt8) (m : Nat) (a b c d : UInt8) : List UInt8 :=
  set4 l m (bx a (dbl (dbl (bx a c)))) (bx b (dbl (dbl (bx b d)))) (bx c (dbl (dbl (bx a c)))) (bx d (dbl (dbl (bx b d))))
def preTo (b : List UInt8) : Nat → List UInt8
  | 0 => b
  | k + 1 => ucol (preTo b k) (4 * k) ((preTo b k).getD (4 * k) 0) ((preTo b k).getD (4 * k + 1) 0) ((preTo b k).getD (4 * k + 2) 0) ((preTo b k).getD (4 * k + 3) 0)
theorem preTo_len (b : List UInt8) (k : Nat) : (preTo b k).length = b.length := by
  induction k with
  | zero => rfl
  | succ k ih => simp [preTo, ucol, set4_len, ih]
def mixL (b : List UInt8) : List UInt8 := mixTo b 4
def unmixL (b : List UInt8) : List UInt8 := mixL (preTo b 4)
theorem mixL_len (b : List UInt8) : (mixL b).length = b.length := mixTo_len b 4
theorem unmixL_len (b : List UInt8) : (unmixL b).length = b.length := by unfold unmixL; rw [mixL_len, preTo_len]

/-! The table of substitutes, as it is made. -/
def pk : Nat → UInt8
  | 0 => 1
  | k + 1 => bx (pk k) (dbl (pk k))
def pows : List UInt8 := (List.range 255).map pk
theorem pows_len : pows.length = 255 := by simp [pows]
def subTo : Nat → List UInt8
  | 0 => (zeros 256).set 0 (sct 0)
  | k + 1 => (subTo k).set (pows.getD k 0).toNat (sct (pows.getD ((255 - k) % 255) 0))
theorem subTo_len (k : Nat) : (subTo k).length = 256 := by
  induction k with
  | zero => rw [subTo, List.length_set]; exact List.length_replicate
  | succ k ih => simp [subTo, ih]
def sbox : List UInt8 := subTo 255
theorem sbox_len : sbox.length = 256 := subTo_len 255
def origTo (t : List UInt8) : Nat → List UInt8
  | 0 => zeros 256
  | k + 1 => (origTo t k).set (t.getD k 0).toNat (UInt8.ofNat k)
theorem origTo_len (t : List UInt8) (k : Nat) : (origTo t k).length = 256 := by
  induction k with
  | zero => exact List.length_replicate
  | succ k ih => simp [origTo, ih]
def orig (t : List UInt8) : List UInt8 := origTo t 256

/-! Round keys. -/
def bx32 (x y : UInt32) : UInt32 := x ^^^ y
def byt (x : UInt32) (s : Nat) : UInt8 := UInt8.ofNat (x.toNat / s)
theorem byt_toNat (x : UInt32) (s : Nat) : (byt x s).toNat = x.toNat / s % 256 := by simp [byt]
def zeros32 (n : Nat) : List UInt32 := List.replicate n 0
def wordAt (key : List UInt8) (i : Nat) : UInt32 := jn (key.getD (4 * i) 0) (key.getD (4 * i + 1) 0) (key.getD (4 * i + 2) 0) (key.getD (4 * i + 3) 0)
def turned (t : List UInt8) (x : UInt32) (p : UInt8) : UInt32 := jn (bx (look t (byt x 65536)) p) (look t (byt x 256)) (look t (byt x 1)) (look t (byt x 16777216))
def wTo (t key : List UInt8) : Nat → List UInt32 × UInt8
  | 0 => (zeros32 44, 1)
  | i + 1 =>
    if i < 4 then ((wTo t key i).1.set i (wordAt key i), (wTo t key i).2)
    else if i % 4 = 0 then ((wTo t key i).1.set i (bx32 ((wTo t key i).1.getD (i - 4) 0) (turned t ((wTo t key i).1.getD (i - 1) 0) (wTo t key i).2)), dbl (wTo t key i).2)
    else ((wTo t key i).1.set i (bx32 ((wTo t key i).1.getD (i - 4) 0) ((wTo t key i).1.getD (i - 1) 0)), (wTo t key i).2)
theorem wTo_len (t key : List UInt8) (i : Nat) : (wTo t key i).1.length = 44 := by
  induction i with
  | zero => exact List.length_replicate
  | succ i ih =>
    simp only [wTo]
    split
    · simp [ih]
    · split <;> simp [ih]
def words (t key : List UInt8) : List UInt32 := (wTo t key 44).1
theorem words_len (t key : List UInt8) : (words t key).length = 44 := wTo_len t key 44
def keyByte (ws : List UInt32) (j : Nat) : UInt8 := byt (ws.getD (j / 4) 0) (2 ^ (24 - 8 * (j % 4)))
def keys (t key : List UInt8) : List UInt8 := (List.range 176).map (keyByte (words t key))
theorem keys_len (t key : List UInt8) : (keys t key).length = 176 := by simp [keys]

/-! Encrypting. -/
def rk (K : List UInt8) (r : Nat) : List UInt8 := (K.drop (r * 16)).take 16
theorem rk_len (K : List UInt8) (r : Nat) (hK : K.length = 176) (hr : r ≤ 10) : (rk K r).length = 16 := by simp [rk, hK]; omega
def encTo (t K b : List UInt8) : Nat → List UInt8
  | 0 => bxor b (rk K 0)
  | j + 1 => bxor (if j + 1 < 10 then mixL (turn (subst t (encTo t K b j)) 1) else turn (subst t (encTo t K b j)) 1) (rk K (j + 1))
theorem encTo_len (t K b : List UInt8) (j : Nat) : (encTo t K b j).length = 16 := by
  cases j <;> exact bxor_len _ _
def encrypt (key b : List UInt8) : List UInt8 := encTo sbox (keys sbox key) b 10
theorem encrypt_len (key b : List UInt8) : (encrypt key b).length = 16 := encTo_len _ _ _ _
def decTo (t u K b : List UInt8) : Nat → List UInt8
  | 0 => b
  | j + 1 => subst u (turn (if 10 - j < 10 then unmixL (bxor (decTo t u K b j) (rk K (10 - j))) else bxor (decTo t u K b j) (rk K (10 - j))) 3)
theorem decTo_len (t u K b : List UInt8) (j : Nat) (hb : b.length = 16) : (decTo t u K b j).length = 16 := by
  cases j
  · exact hb
  · exact subst_len _ _
def decrypt (key b : List UInt8) : List UInt8 := bxor (decTo sbox (orig sbox) (keys sbox key) b 10) (rk (keys sbox key) 0)
theorem decrypt_len (key b : List UInt8) : (decrypt key b).length = 16 := bxor_len _ _

end Go.Proofs.YtmolhljgmaoflaaDoor.Gf
