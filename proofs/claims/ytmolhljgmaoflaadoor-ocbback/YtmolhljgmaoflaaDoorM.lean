/- The plain mathematics of products of bytes: no Go, no program. -/
namespace Go.Proofs.YtmolhljgmaoflaaDoor.Gf

def prodN (a b : Nat) : Nat → Nat
  | 0 => 0
  | k + 1 => if b.testBit k then prodN a b k ^^^ (a <<< k) else prodN a b k
def redN (q : Nat) : Nat → Nat
  | 0 => q
  | j + 1 => if (redN q j).testBit (14 - j) then redN q j ^^^ (283 <<< (6 - j)) else redN q j
def timesN (a b : Nat) : Nat := redN (prodN a b 8) 7 % 256

theorem timesN_lt (a b : Nat) : timesN a b < 256 := Nat.mod_lt _ (by decide)

theorem x4 (p c q d : Nat) : (p ^^^ c) ^^^ (q ^^^ d) = (p ^^^ q) ^^^ (c ^^^ d) := by
  rw [Nat.xor_assoc, Nat.xor_assoc, ← Nat.xor_assoc c, Nat.xor_comm c q, Nat.xor_assoc q]
theorem x3 (p c q : Nat) : (p ^^^ c) ^^^ q = (p ^^^ q) ^^^ c := by
  rw [Nat.xor_assoc, Nat.xor_comm c q, Nat.xor_assoc]

theorem prodN_xor_left (a a' b k : Nat) : prodN (a ^^^ a') b k = prodN a b k ^^^ prodN a' b k := by
  induction k with
  | zero => simp [prodN]
  | succ k ih =>
    simp only [prodN, ih]
    split
    · rw [x4, Nat.shiftLeft_xor_distrib]
    · rfl
theorem prodN_xor_right (a b b' k : Nat) : prodN a (b ^^^ b') k = prodN a b k ^^^ prodN a b' k := by
  induction k with
  | zero => simp [prodN]
  | succ k ih =>
    simp only [prodN, ih, Nat.testBit_xor]
    cases b.testBit k <;> cases b'.testBit k <;> simp
    · rw [Nat.xor_assoc]
    · rw [x3]
    · rw [x4]; simp
theorem redN_xor (p q j : Nat) : redN (p ^^^ q) j = redN p j ^^^ redN q j := by
  induction j with
  | zero => rfl
  | succ j ih =>
    simp only [redN, ih, Nat.testBit_xor]
    cases (redN p j).testBit (14 - j) <;> cases (redN q j).testBit (14 - j) <;> simp
    · rw [Nat.xor_assoc]
    · rw [x3]
    · rw [x4]; simp
theorem timesN_xor_left (a a' b : Nat) : timesN (a ^^^ a') b = timesN a b ^^^ timesN a' b := by
  unfold timesN; rw [prodN_xor_left, redN_xor, Nat.xor_mod_two_pow (n := 8)]
theorem timesN_xor_right (a b b' : Nat) : timesN a (b ^^^ b') = timesN a b ^^^ timesN a b' := by
  unfold timesN; rw [prodN_xor_right, redN_xor, Nat.xor_mod_two_pow (n := 8)]

def bitOf (a i : Nat) : Nat := if a.testBit i then 2 ^ i else 0
theorem sum_bits : ∀ a, a < 256 → bitOf a 0 ^^^ (bitOf a 1 ^^^ (bitOf a 2 ^^^ (bitOf a 3 ^^^ (bitOf a 4 ^^^ (bitOf a 5 ^^^ (bitOf a 6 ^^^ bitOf a 7)))))) = a := by
  decide +kernel
theorem byte_ind (P : Nat → Prop) (h0 : P 0) (hb : ∀ i, i < 8 → P (2 ^ i)) (hx : ∀ a b, P a → P b → P (a ^^^ b)) (a : Nat) (ha : a < 256) : P a := by
  have hbit : ∀ i, i < 8 → P (bitOf a i) := fun i hi => by
    unfold bitOf; split
    · exact hb i hi
    · exact h0
  rw [← sum_bits a ha]
  exact hx _ _ (hbit 0 (by decide)) (hx _ _ (hbit 1 (by decide)) (hx _ _ (hbit 2 (by decide)) (hx _ _ (hbit 3 (by decide)) (hx _ _ (hbit 4 (by decide)) (hx _ _ (hbit 5 (by decide)) (hx _ _ (hbit 6 (by decide)) (hbit 7 (by decide))))))))

theorem timesN_zero_left (b : Nat) : timesN 0 b = 0 := by
  have h := timesN_xor_left 0 0 b
  rw [Nat.xor_self] at h; simpa using h
theorem timesN_zero_right (a : Nat) : timesN a 0 = 0 := by
  have h := timesN_xor_right a 0 0
  rw [Nat.xor_self] at h; simpa using h

theorem comm_basis : ∀ i, i < 8 → ∀ j, j < 8 → timesN (2 ^ i) (2 ^ j) = timesN (2 ^ j) (2 ^ i) := by decide +kernel
theorem timesN_comm (a b : Nat) (ha : a < 256) (hb : b < 256) : timesN a b = timesN b a := by
  refine byte_ind (fun a => timesN a b = timesN b a) ?_ ?_ ?_ a ha
  · simp [timesN_zero_left, timesN_zero_right]
  · intro i hi
    refine byte_ind (fun b => timesN (2 ^ i) b = timesN b (2 ^ i)) ?_ ?_ ?_ b hb
    · simp [timesN_zero_left, timesN_zero_right]
    · intro j hj; exact comm_basis i hi j hj
    · intro x y hx hy; simp only [timesN_xor_left, timesN_xor_right, hx, hy]
  · intro x y hx hy; simp only [timesN_xor_left, timesN_xor_right, hx, hy]

theorem assoc_basis : ∀ i, i < 8 → ∀ j, j < 8 → ∀ k, k < 8 → timesN (timesN (2 ^ i) (2 ^ j)) (2 ^ k) = timesN (2 ^ i) (timesN (2 ^ j) (2 ^ k)) := by decide +kernel
theorem timesN_assoc (a b c : Nat) (ha : a < 256) (hb : b < 256) (hc : c < 256) : timesN (timesN a b) c = timesN a (timesN b c) := by
  refine byte_ind (fun a => timesN (timesN a b) c = timesN a (timesN b c)) ?_ ?_ ?_ a ha
  · simp [timesN_zero_left]
  · intro i hi
    refine byte_ind (fun b => timesN (timesN (2 ^ i) b) c = timesN (2 ^ i) (timesN b c)) ?_ ?_ ?_ b hb
    · simp [timesN_zero_left, timesN_zero_right]
    · intro j hj
      refine byte_ind (fun c => timesN (timesN (2 ^ i) (2 ^ j)) c = timesN (2 ^ i) (timesN (2 ^ j) c)) ?_ ?_ ?_ c hc
      · simp [timesN_zero_right]
      · intro k hk; exact assoc_basis i hi j hj k hk
      · intro x y hx hy; simp only [timesN_xor_right, hx, hy]
    · intro x y hx hy; simp only [timesN_xor_left, timesN_xor_right, hx, hy]
  · intro x y hx hy; simp only [timesN_xor_left, hx, hy]

theorem timesN_one (a : Nat) (ha : a < 256) : timesN a 1 = a := by
  refine byte_ind (fun a => timesN a 1 = a) ?_ ?_ ?_ a ha
  · exact timesN_zero_left 1
  · decide +kernel
  · intro x y hx hy; simp only [timesN_xor_left, hx, hy]

def invN (a : Nat) : Nat :=
  let a2 := timesN a a
  let a3 := timesN a2 a
  let a6 := timesN a3 a3
  let a12 := timesN a6 a6
  let a15 := timesN a12 a3
  let a30 := timesN a15 a15
  let a60 := timesN a30 a30
  let a120 := timesN a60 a60
  let a126 := timesN a120 a6
  let a127 := timesN a126 a
  timesN a127 a127
theorem inv_all : ∀ a, a < 256 → a ≠ 0 → timesN (invN a) a = 1 := by decide +kernel
theorem timesN_zero_iff (a b : Nat) (ha : a < 256) (hb : b < 256) : timesN a b = 0 ↔ a = 0 ∨ b = 0 := by
  constructor
  · intro h
    by_cases e : a = 0
    · exact .inl e
    · right
      have h1 := timesN_assoc (invN a) a b (timesN_lt _ _) ha hb
      rw [inv_all a ha e, h, timesN_zero_right, timesN_comm 1 b (by decide) hb, timesN_one b hb] at h1
      exact h1
  · rintro (rfl | rfl)
    · exact timesN_zero_left b
    · exact timesN_zero_right a

/-! The same of bytes. -/
def times (x y : UInt8) : UInt8 := UInt8.ofNat (timesN x.toNat y.toNat)
theorem times_toNat (x y : UInt8) : (times x y).toNat = timesN x.toNat y.toNat := by
  unfold times; rw [UInt8.toNat_ofNat_of_lt' (timesN_lt _ _)]
theorem times_comm (x y : UInt8) : times x y = times y x := by
  apply UInt8.toNat_inj.1; rw [times_toNat, times_toNat]; exact timesN_comm _ _ x.toNat_lt y.toNat_lt
theorem times_assoc (x y z : UInt8) : times (times x y) z = times x (times y z) := by
  apply UInt8.toNat_inj.1; simp only [times_toNat]; exact timesN_assoc _ _ _ x.toNat_lt y.toNat_lt z.toNat_lt
theorem times_xor (x y z : UInt8) : times x (y ^^^ z) = times x y ^^^ times x z := by
  apply UInt8.toNat_inj.1; simp only [times_toNat, UInt8.toNat_xor]; exact timesN_xor_right _ _ _
theorem times_one (x : UInt8) : times x 1 = x := by
  apply UInt8.toNat_inj.1; simp only [times_toNat]; exact timesN_one _ x.toNat_lt
theorem times_zero_iff (x y : UInt8) : times x y = 0 ↔ x = 0 ∨ y = 0 := by
  rw [← UInt8.toNat_inj, ← UInt8.toNat_inj, ← UInt8.toNat_inj, times_toNat]; exact timesN_zero_iff _ _ x.toNat_lt y.toNat_lt

/-! Doubling, scattering, joining. -/
def dblN (n : Nat) : Nat := ((n * 2) ^^^ (n * 2 / 256 * 283)) % 256
theorem dblN_lt (n : Nat) : dblN n < 256 := Nat.mod_lt _ (by decide)
def dbl (x : UInt8) : UInt8 := UInt8.ofNat (dblN x.toNat)
theorem dbl_toNat (x : UInt8) : (dbl x).toNat = dblN x.toNat := by
  unfold dbl; rw [UInt8.toNat_ofNat_of_lt' (dblN_lt _)]
def sctN (n : Nat) : Nat := ((((((n * 256 ||| n) ^^^ (n * 256 ||| n) / 16) ^^^ (n * 256 ||| n) / 32) ^^^ (n * 256 ||| n) / 64) ^^^ (n * 256 ||| n) / 128) % 256) ^^^ 99
theorem sctN_lt : ∀ n, n < 256 → sctN n < 256 := by decide +kernel
def sct (x : UInt8) : UInt8 := UInt8.ofNat (sctN x.toNat)
theorem sct_toNat (x : UInt8) : (sct x).toNat = sctN x.toNat := by
  unfold sct; rw [UInt8.toNat_ofNat_of_lt' (sctN_lt _ x.toNat_lt)]
def jnN (a b c d : Nat) : Nat := ((a * 16777216 ||| b * 65536) ||| c * 256) ||| d
theorem jnN_lt (a b c d : Nat) (ha : a < 256) (hb : b < 256) (hc : c < 256) (hd : d < 256) : jnN a b c d < 2 ^ 32 := by
  unfold jnN
  exact Nat.or_lt_two_pow (Nat.or_lt_two_pow (Nat.or_lt_two_pow (by omega) (by omega)) (by omega)) (by omega)
def jn (a b c d : UInt8) : UInt32 := UInt32.ofNat (jnN a.toNat b.toNat c.toNat d.toNat)
theorem jn_toNat (a b c d : UInt8) : (jn a b c d).toNat = jnN a.toNat b.toNat c.toNat d.toNat := by
  unfold jn; rw [UInt32.toNat_ofNat_of_lt' (jnN_lt _ _ _ _ a.toNat_lt b.toNat_lt c.toNat_lt d.toNat_lt)]

end Go.Proofs.YtmolhljgmaoflaaDoor.Gf
