/- Numbers' forms, and what is read of bytes: the mathematics. -/
namespace Go.Proofs.Ytikkekdmahdgaaa

/-- The form of a number, in at most so many steps. -/
def ufN : Nat → Nat → List UInt8
  | 0, n => [UInt8.ofNat n]
  | f + 1, n => if n < 128 then [UInt8.ofNat n] else UInt8.ofNat (n % 128 + 128) :: ufN f (n / 128)
theorem ufN_more (f g n : Nat) (hf : n ≤ f) (hg : n ≤ g) : ufN f n = ufN g n := by
  induction f generalizing g n with
  | zero =>
    obtain rfl : n = 0 := by omega
    cases g with
    | zero => rfl
    | succ g => rw [ufN, ufN, if_pos (by omega)]
  | succ f ih =>
    cases g with
    | zero =>
      obtain rfl : n = 0 := by omega
      rw [ufN, ufN, if_pos (by omega)]
    | succ g =>
      rw [ufN, ufN]
      by_cases h : n < 128
      · rw [if_pos h, if_pos h]
      · rw [if_neg h, if_neg h, ih g (n / 128) (by omega) (by omega)]
/-- The form of a number. -/
def uf (n : Nat) : List UInt8 := ufN n n
theorem uf_small {n : Nat} (h : n < 128) : uf n = [UInt8.ofNat n] := by
  cases n with
  | zero => rfl
  | succ n => rw [uf, ufN, if_pos h]
theorem uf_big {n : Nat} (h : ¬ n < 128) : uf n = UInt8.ofNat (n % 128 + 128) :: uf (n / 128) := by
  cases n with
  | zero => omega
  | succ n => rw [uf, ufN, if_neg h, uf, ufN_more n ((n + 1) / 128) _ (by omega) (Nat.le_refl _)]
/-- The number that bytes tell, seven bits each. -/
def nf : List UInt8 → Nat
  | [] => 0
  | c :: r => c.toNat % 128 + 128 * nf r
theorem ofNat_toNat {n : Nat} (h : n < 256) : (UInt8.ofNat n).toNat = n := UInt8.toNat_ofNat_of_lt' h
theorem nf_uf (n : Nat) : nf (uf n) = n := by
  induction n using Nat.strongRecOn with
  | _ n ih =>
    by_cases h : n < 128
    · rw [uf_small h]; simp only [nf]; rw [ofNat_toNat (by omega)]; omega
    · rw [uf_big h]; simp only [nf]; rw [ofNat_toNat (by omega), ih (n / 128) (by omega)]; omega
theorem nf_append (a b : List UInt8) : nf (a ++ b) = nf a + 128 ^ a.length * nf b := by
  induction a with
  | nil => simp [nf]
  | cons c r ih => simp only [List.cons_append, nf, ih, List.length_cons, Nat.pow_succ]; rw [Nat.mul_add, ← Nat.mul_assoc, Nat.mul_comm 128 (128 ^ r.length)]; omega
theorem nf_lt (l : List UInt8) : nf l < 128 ^ l.length := by
  induction l with
  | nil => simp [nf]
  | cons c r ih => simp only [nf, List.length_cons, Nat.pow_succ]; omega
theorem uf_len (n k : Nat) (h : n < 128 ^ (k + 1)) : (uf n).length ≤ k + 1 := by
  induction k generalizing n with
  | zero => rw [uf_small (by simpa using h)]; simp
  | succ k ih =>
    by_cases h1 : n < 128
    · rw [uf_small h1]; simp
    · rw [uf_big h1, List.length_cons]
      have := ih (n / 128) (by rw [Nat.div_lt_iff_lt_mul (by decide)]; rw [Nat.pow_succ] at h; exact h)
      omega
theorem uf_len64 {n : Nat} (h : n < 18446744073709551616) : (uf n).length ≤ 10 := uf_len n 9 (by omega)
theorem uf_ne (n : Nat) : uf n ≠ [] := by
  by_cases h : n < 128
  · rw [uf_small h]; simp
  · rw [uf_big h]; simp
theorem uf_pos (n : Nat) : 0 < (uf n).length := List.length_pos_iff.2 (uf_ne n)

/-- How many bytes are read as one number; 0, where they end ahead of it. -/
def szG : Nat → List UInt8 → Nat
  | _, [] => 0
  | i, c :: r => if c.toNat < 128 ∨ i = 9 then i + 1 else szG (i + 1) r
def szF (b : List UInt8) : Nat := szG 0 b
/-- What is read of bytes: the number, how many bytes it has, the error. -/
def rdU (b : List UInt8) : Nat × Nat × Int :=
  if szF b = 0 then (0, 0, 7)
  else if uf (nf (b.take (szF b))) = b.take (szF b) ∧ nf (b.take (szF b)) < 18446744073709551616 then (nf (b.take (szF b)), szF b, 0)
  else (0, 0, 8)

theorem szG_step (b : List UInt8) (k : Nat) (h : k < b.length) : szG k (b.drop k) = if (b.getD k 0).toNat < 128 ∨ k = 9 then k + 1 else szG (k + 1) (b.drop (k + 1)) := by
  rw [List.drop_eq_getElem_cons h]
  simp [szG, h]
theorem szG_end (b : List UInt8) : szG b.length (b.drop b.length) = 0 := by simp [szG]
/-- Bytes up to k that all go on. -/
def Gon (b : List UInt8) (k : Nat) : Prop := k ≤ b.length ∧ ∀ j, j < k → 128 ≤ (b.getD j 0).toNat
theorem Gon.step {b : List UInt8} {k : Nat} (h : Gon b k) (hk : k < b.length) (hc : 128 ≤ (b.getD k 0).toNat) : Gon b (k + 1) :=
  ⟨hk, fun j hj => by rcases Nat.lt_succ_iff_lt_or_eq.1 hj with h1 | rfl; exact h.2 j h1; exact hc⟩
theorem Gon.sz {b : List UInt8} {k : Nat} (h : Gon b k) (hk : k ≤ 9) : szF b = szG k (b.drop k) := by
  induction k with
  | zero => rfl
  | succ k ih =>
    rw [ih ⟨by have := h.1; omega, fun j hj => h.2 j (by omega)⟩ (by omega), szG_step b k (by have := h.1; omega), if_neg]
    have := h.2 k (by omega)
    omega
/-- What is known of the bytes that are read as one number. -/
theorem szG_spec (b : List UInt8) : ∀ i, i ≤ 9 → szG i b ≠ 0 → ∃ m, szG i b = i + m + 1 ∧ m < b.length ∧ i + m ≤ 9 ∧ (∀ j, j < m → 128 ≤ (b.getD j 0).toNat) ∧ ((b.getD m 0).toNat < 128 ∨ i + m = 9) := by
  induction b with
  | nil => intro i hi h; simp [szG] at h
  | cons c r ih =>
    intro i hi h
    by_cases hc : c.toNat < 128 ∨ i = 9
    · refine ⟨0, by simp [szG, hc], by simp, by omega, fun j hj => by omega, by simpa using hc⟩
    · have e : szG i (c :: r) = szG (i + 1) r := by simp [szG, hc]
      rw [e] at h ⊢
      obtain ⟨m, h1, h2, h3, h4, h5⟩ := ih (i + 1) (by omega) h
      refine ⟨m + 1, by omega, by simpa using h2, by omega, fun j hj => ?_, (by rcases h5 with h5 | h5; exact .inl (by simpa using h5); exact .inr (by omega))⟩
      cases j with
      | zero => simp; omega
      | succ j => simpa using h4 j (by omega)
theorem szF_spec {b : List UInt8} (h : szF b ≠ 0) : ∃ m, szF b = m + 1 ∧ m < b.length ∧ m ≤ 9 ∧ Gon b m ∧ ((b.getD m 0).toNat < 128 ∨ m = 9) := by
  obtain ⟨m, h1, h2, h3, h4, h5⟩ := szG_spec b 0 (by omega) h
  exact ⟨m, by unfold szF; omega, h2, by omega, ⟨by omega, h4⟩, by simpa using h5⟩
theorem take_last (b : List UInt8) (m : Nat) (h : m < b.length) : b.take (m + 1) = b.take m ++ [b.getD m 0] := by
  rw [List.take_succ_eq_append_getElem h]
  simp [h]
/-- When bytes that all go on, and one more, are a number's form. -/
theorem form_iff (t : List UInt8) (c : UInt8) (ht : ∀ x ∈ t, 128 ≤ x.toNat) : uf (nf (t ++ [c])) = t ++ [c] ↔ c.toNat < 128 ∧ (t = [] ∨ 0 < c.toNat) := by
  induction t with
  | nil =>
    simp only [List.nil_append, nf]
    rw [uf_small (by omega)]
    constructor
    · intro h
      simp only [List.cons.injEq, and_true] at h
      have := congrArg UInt8.toNat h
      rw [ofNat_toNat (by omega)] at this
      exact ⟨by omega, .inl trivial⟩
    · rintro ⟨h, _⟩
      simp only [List.cons.injEq, and_true]
      rw [show c.toNat % 128 + 128 * 0 = c.toNat by omega]
      simp
  | cons a t ih =>
    have ha := ht a (by simp)
    have ih := ih (fun x hx => ht x (by simp [hx]))
    have hn : nf (a :: t ++ [c]) = a.toNat % 128 + 128 * nf (t ++ [c]) := rfl
    by_cases h0 : nf (t ++ [c]) = 0
    · constructor
      · intro h
        rw [hn, h0, uf_small (by omega)] at h
        have := congrArg List.length h
        simp at this
      · rintro ⟨h1, h2⟩
        rw [nf_append] at h0
        simp only [nf] at h0
        have h3 : 0 < c.toNat := by simpa using h2
        have h4 : 128 ^ t.length * (c.toNat % 128 + 128 * 0) = 0 := by omega
        rcases Nat.mul_eq_zero.1 h4 with h5 | h5
        · exact absurd h5 (Nat.pos_iff_ne_zero.1 (Nat.pow_pos (by decide)))
        · omega
    · have e : uf (nf (a :: t ++ [c])) = a :: uf (nf (t ++ [c])) := by
        rw [hn, uf_big (by omega), show (a.toNat % 128 + 128 * nf (t ++ [c])) % 128 + 128 = a.toNat by have := a.toNat_lt; omega, show (a.toNat % 128 + 128 * nf (t ++ [c])) / 128 = nf (t ++ [c]) by omega]
        simp
      rw [e, List.cons_append, List.cons.injEq, eq_self, true_and, ih]
      constructor
      · rintro ⟨h1, h2⟩
        refine ⟨h1, .inr ?_⟩
        rcases h2 with rfl | h2
        · simp only [List.nil_append, nf] at h0; omega
        · exact h2
      · rintro ⟨h1, h2⟩
        exact ⟨h1, .inr (by simpa using h2)⟩
theorem Gon.take {b : List UInt8} {m : Nat} (h : Gon b m) : ∀ x ∈ b.take m, 128 ≤ x.toNat := by
  intro x hx
  obtain ⟨j, hj, rfl⟩ := List.mem_take_iff_getElem.1 hx
  have := h.2 j (by omega)
  simpa [show j < b.length by omega] using this
theorem nf_take {b : List UInt8} {m : Nat} (h : m < b.length) : nf (b.take (m + 1)) = nf (b.take m) + 128 ^ m * ((b.getD m 0).toNat % 128) := by
  rw [take_last b m h, nf_append, List.length_take, Nat.min_eq_left (by omega)]
  simp [nf]
theorem nf_take_lt {b : List UInt8} {m : Nat} (h : m ≤ b.length) : nf (b.take m) < 128 ^ m := by
  have := nf_lt (b.take m)
  rwa [List.length_take, Nat.min_eq_left h] at this
/-- The program's question. -/
def isF (n : Nat) (c : UInt8) : Bool := !(decide (n = 10) && decide (1 < c.toNat)) && (decide (n = 1) || decide (0 < c.toNat))
theorem isF_iff {b : List UInt8} {m : Nat} (hm : m < b.length) (h9 : m ≤ 9) (hg : Gon b m) (hl : (b.getD m 0).toNat < 128 ∨ m = 9) :
    (isF (m + 1) (b.getD m 0) = true) ↔ (uf (nf (b.take (m + 1))) = b.take (m + 1) ∧ nf (b.take (m + 1)) < 18446744073709551616) := by
  have hf := form_iff (b.take m) (b.getD m 0) hg.take
  rw [← take_last b m hm] at hf
  have ht : b.take m = [] ↔ m = 0 := by
    rw [List.take_eq_nil_iff]
    constructor
    · rintro (h | h)
      · exact h
      · rw [h] at hm; simp at hm
    · exact .inl
  rw [hf, nf_take hm, ht]
  have hlt := nf_take_lt (show m ≤ b.length by omega)
  generalize (b.getD m 0) = c at *
  have hc := c.toNat_lt
  unfold isF
  simp only [Bool.and_eq_true, Bool.not_eq_true', Bool.and_eq_false_iff, decide_eq_false_iff_not, Bool.or_eq_true, decide_eq_true_eq]
  by_cases h : m = 9
  · subst h
    generalize nf (b.take 9) = x at *
    omega
  · have hp : (128 : Nat) ^ m ≤ 128 ^ 8 := Nat.pow_le_pow_right (by decide) (by omega)
    have h1 : c.toNat < 128 := by omega
    have h3 : 128 ^ m * (c.toNat % 128) ≤ 128 ^ 8 * 127 := Nat.mul_le_mul hp (by omega)
    generalize nf (b.take m) = x at *
    generalize 128 ^ m * (c.toNat % 128) = y at *
    generalize (128 : Nat) ^ m = z at *
    omega
theorem rdU_at {b : List UInt8} {m : Nat} (hm : m < b.length) (h9 : m ≤ 9) (hg : Gon b m) (hl : (b.getD m 0).toNat < 128 ∨ m = 9) :
    rdU b = if isF (m + 1) (b.getD m 0) = true then (nf (b.take (m + 1)), m + 1, 0) else (0, 0, 8) := by
  have hs : szF b = m + 1 := by rw [hg.sz h9, szG_step b m hm, if_pos hl]
  unfold rdU
  rw [hs, if_neg (by omega)]
  have := isF_iff hm h9 hg hl
  by_cases h : isF (m + 1) (b.getD m 0) = true
  · rw [if_pos h, if_pos (this.1 h)]
  · rw [if_neg h, if_neg (fun h' => h (this.2 h'))]
theorem rdU_none {b : List UInt8} (h : szF b = 0) : rdU b = (0, 0, 7) := by unfold rdU; rw [if_pos h]
theorem rdU_short {b : List UInt8} (h : Gon b b.length) (h9 : b.length ≤ 9) : rdU b = (0, 0, 7) := rdU_none (by rw [h.sz h9, szG_end])
theorem rdU_long {b : List UInt8} (h : Gon b 10) : rdU b = (0, 0, 8) := by
  have h1 := h.1
  rw [rdU_at (m := 9) (by omega) (by omega) ⟨by omega, fun j hj => h.2 j (by omega)⟩ (.inr rfl), if_neg]
  have := h.2 9 (by omega)
  unfold isF
  have e : decide (1 < (b.getD 9 0).toNat) = true := decide_eq_true (by omega)
  rw [e]
  simp

/-- What is read is written as the bytes that were read. -/
theorem rdU_form {b : List UInt8} {n s : Nat} (h : rdU b = (n, s, 0)) : uf n = b.take s ∧ s ≤ b.length ∧ n < 18446744073709551616 ∧ 0 < s := by
  unfold rdU at h
  split at h
  · simp at h
  · rename_i h0
    split at h
    · rename_i h1
      simp only [Prod.mk.injEq, and_true] at h
      obtain ⟨rfl, rfl⟩ := h
      obtain ⟨m, e, hm, _⟩ := szF_spec h0
      exact ⟨h1.1, by omega, h1.2, by omega⟩
    · simp at h
theorem rdU_err {b : List UInt8} : (rdU b).2.2 = 0 ∨ (rdU b = (0, 0, 7)) ∨ rdU b = (0, 0, 8) := by
  unfold rdU
  split
  · exact .inr (.inl rfl)
  · split
    · exact .inl rfl
    · exact .inr (.inr rfl)
theorem rdU_le (b : List UInt8) : (rdU b).2.1 ≤ b.length ∧ (rdU b).1 < 18446744073709551616 := by
  rcases rdU_err (b := b) with h | h | h
  · exact ⟨(rdU_form (n := (rdU b).1) (s := (rdU b).2.1) (by rw [← h])).2.1, (rdU_form (n := (rdU b).1) (s := (rdU b).2.1) (by rw [← h])).2.2.1⟩
  · rw [h]; simp
  · rw [h]; simp
theorem uf_split (n : Nat) : ∃ t c, uf n = t ++ [c] ∧ (∀ x ∈ t, 128 ≤ x.toNat) ∧ c.toNat < 128 := by
  induction n using Nat.strongRecOn with
  | _ n ih =>
    by_cases h : n < 128
    · exact ⟨[], UInt8.ofNat n, by rw [uf_small h]; rfl, by simp, by rw [ofNat_toNat (by omega)]; exact h⟩
    · obtain ⟨t, c, h1, h2, h3⟩ := ih (n / 128) (by omega)
      refine ⟨UInt8.ofNat (n % 128 + 128) :: t, c, by rw [uf_big h, h1]; rfl, ?_, h3⟩
      intro x hx
      rcases List.mem_cons.1 hx with rfl | hx
      · rw [ofNat_toNat (by omega)]; omega
      · exact h2 x hx
/-- What is written is read. -/
theorem rdU_back {n : Nat} (h : n < 18446744073709551616) (r : List UInt8) : rdU (uf n ++ r) = (n, (uf n).length, 0) := by
  have hl := uf_len64 h
  obtain ⟨t, c, e, h2, h3⟩ := uf_split n
  have hlen : (uf n).length = t.length + 1 := by rw [e]; simp
  have hm : t.length < (uf n ++ r).length := by rw [List.length_append]; omega
  have hc : (uf n ++ r).getD t.length 0 = c := by rw [e]; simp
  have ht : (uf n ++ r).take (t.length + 1) = uf n := by rw [← hlen]; simp
  have hg : Gon (uf n ++ r) t.length := by
    refine ⟨by omega, fun j hj => ?_⟩
    have : (uf n ++ r).getD j 0 = t[j] := by
      rw [e, List.append_assoc]
      simp [List.getElem?_append_left hj, hj]
    rw [this]
    exact h2 _ (List.getElem_mem hj)
  rw [rdU_at hm (by omega) hg (.inl (by rw [hc]; exact h3)), if_pos, ht, nf_uf, hlen]
  rw [isF_iff hm (by omega) hg (.inl (by rw [hc]; exact h3)), ht, nf_uf]
  exact ⟨rfl, h⟩
end Go.Proofs.Ytikkekdmahdgaaa
