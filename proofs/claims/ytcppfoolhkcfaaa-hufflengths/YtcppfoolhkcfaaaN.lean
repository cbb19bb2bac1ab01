/- The plain mathematics of lengths and their weight: no Go, no program. -/
namespace Go.Proofs.Ytcppfoolhkcfaaa.Gf

/-- What a code of such a length takes of the whole. -/
def shr (x : Int) : Nat := if x = 0 then 0 else 2 ^ (15 - x.toNat)
def wgt : List Int → Nat
  | [] => 0
  | x :: r => shr x + wgt r
def lenB (x : Int) : Bool := decide (0 ≤ x ∧ x ≤ 15)
def cntB (x : Int) : Bool := decide (0 ≤ x ∧ x ≤ 1048576)
def chkE (l : List Int) : Int := if l.all lenB = false ∨ 32768 < wgt l then 2 else if 512 < l.length then 4 else 0
def wgtE (l : List Int) : Int := if l.all lenB = false then 2 else if 512 < l.length then 4 else 0
def wgtN (l : List Int) : Nat := if wgtE l = 0 then wgt l else 0
def badE (c : List Int) : Int := if c.all cntB = false then 2 else if 512 < c.length then 4 else 0
def cst : List Int → List Int → Int
  | x :: r, y :: q => x * y + cst r q
  | _, _ => 0
def cstE (c l : List Int) : Int := if c.length ≠ l.length ∨ c.all cntB = false then 2 else chkE l
def cstN (c l : List Int) : Int := if cstE c l = 0 then cst c l else 0

theorem shr_le (x : Int) : shr x ≤ 32768 := by
  unfold shr; split
  · omega
  · exact Nat.le_trans (Nat.pow_le_pow_right (by decide) (Nat.sub_le _ _)) (by decide)
theorem wgt_app (a b : List Int) : wgt (a ++ b) = wgt a + wgt b := by
  induction a with
  | nil => simp [wgt]
  | cons x r ih => simp only [List.cons_append, wgt, ih]; omega
theorem wgt_take (l : List Int) (k : Nat) (h : k < l.length) : wgt (l.take (k + 1)) = wgt (l.take k) + shr (l.getD k 0) := by
  rw [List.take_succ_eq_append_getElem h, wgt_app]
  have e : l.getD k 0 = l[k] := by simp [h]
  rw [e]; rfl
theorem wgt_take_le (l : List Int) (k : Nat) : wgt (l.take k) ≤ wgt l := by
  have := wgt_app (l.take k) (l.drop k)
  rw [List.take_append_drop] at this
  omega
theorem wgt_len (l : List Int) : wgt l ≤ 32768 * l.length := by
  induction l with
  | nil => simp [wgt]
  | cons x r ih => have := shr_le x; simp only [wgt, List.length_cons]; omega
theorem all_take (p : Int → Bool) (l : List Int) (k : Nat) (h : k < l.length) (ht : (l.take k).all p = true) (hm : p (l.getD k 0) = true) : (l.take (k + 1)).all p = true := by
  have e : l.getD k 0 = l[k] := by simp [h]
  rw [e] at hm
  rw [List.take_succ_eq_append_getElem h, List.all_append, ht]; simp [hm]
theorem all_not (p : Int → Bool) (l : List Int) (k : Nat) (h : k < l.length) (hm : p (l.getD k 0) = false) : l.all p = false := by
  have e : l.getD k 0 = l[k] := by simp [h]
  rw [e] at hm
  rw [List.all_eq_false]
  exact ⟨_, List.getElem_mem h, by simp [hm]⟩
theorem all_get (p : Int → Bool) (l : List Int) (ha : l.all p = true) (k : Nat) (h : k < l.length) : p (l.getD k 0) = true := by
  have e : l.getD k 0 = l[k] := by simp [h]
  rw [e]; exact List.all_eq_true.1 ha _ (List.getElem_mem h)
theorem cst_take (c l : List Int) (k : Nat) (h : k < c.length) (hl : k < l.length) : cst (c.take (k + 1)) (l.take (k + 1)) = cst (c.take k) (l.take k) + c.getD k 0 * l.getD k 0 := by
  induction c generalizing l k with
  | nil => simp at h
  | cons x r ih =>
    cases l with
    | nil => simp at hl
    | cons y q =>
      cases k with
      | zero => simp [cst]
      | succ k =>
        have := ih q k (by simpa using h) (by simpa using hl)
        simp only [List.take_succ_cons, cst] at this ⊢
        simp only [List.getD_cons_succ]
        omega
theorem cst_bound (c l : List Int) (hc : c.all cntB = true) (hl : l.all lenB = true) : 0 ≤ cst c l ∧ cst c l ≤ 15728640 * c.length := by
  induction c generalizing l with
  | nil => simp [cst]
  | cons x r ih =>
    cases l with
    | nil => simp [cst]; omega
    | cons y q =>
      simp only [List.all_cons, Bool.and_eq_true, cntB, lenB, decide_eq_true_eq] at hc hl
      have := ih q hc.2 hl.2
      have h1 : 0 ≤ x * y := Int.mul_nonneg hc.1.1 hl.1.1
      have h2 : x * y ≤ 1048576 * 15 := Int.mul_le_mul hc.1.2 hl.1.2 hl.1.1 (by decide)
      simp only [cst, List.length_cons]
      omega
theorem all_take_of (p : Int → Bool) (l : List Int) (k : Nat) (h : l.all p = true) : (l.take k).all p = true := by
  rw [List.all_eq_true] at *
  exact fun x hx => h x (List.mem_of_mem_take hx)
theorem chkE_cases (l : List Int) : (chkE l = 0 ∧ l.all lenB = true ∧ wgt l ≤ 32768 ∧ l.length ≤ 512) ∨ (chkE l = 4 ∧ l.all lenB = true ∧ wgt l ≤ 32768 ∧ 512 < l.length) ∨ (chkE l = 2 ∧ (l.all lenB = false ∨ 32768 < wgt l)) := by
  unfold chkE
  by_cases h : l.all lenB = false ∨ 32768 < wgt l
  · rw [if_pos h]; exact .inr (.inr ⟨rfl, h⟩)
  · rw [if_neg h]
    have h1 : l.all lenB = true := by cases he : l.all lenB <;> simp_all
    have h2 : wgt l ≤ 32768 := by
      apply Nat.le_of_not_lt; intro h3; exact h (.inr h3)
    by_cases h3 : 512 < l.length
    · rw [if_pos h3]; exact .inr (.inl ⟨rfl, h1, h2, h3⟩)
    · rw [if_neg h3]; exact .inl ⟨rfl, h1, h2, by omega⟩
end Go.Proofs.Ytcppfoolhkcfaaa.Gf
