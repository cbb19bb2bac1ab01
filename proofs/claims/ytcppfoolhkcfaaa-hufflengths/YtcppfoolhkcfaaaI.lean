/- The plain mathematics of reading a symbol. -/
import Derived.Test.YtcppfoolhkcfaaaU
namespace Go.Proofs.Ytcppfoolhkcfaaa.Gf

def hitB (l : List Int) (n c i : Nat) : Bool := decide (ln l i = n ∧ n ≠ 0 ∧ cod l i = c)
def hit (l : List Int) (n c : Nat) : Option Nat := (List.range l.length).find? (hitB l n c)
def liveB (l : List Int) (n c i : Nat) : Bool := decide (n < ln l i ∧ cod l i / 2 ^ (ln l i - n) = c)
def live (l : List Int) (n c k : Nat) : Bool := (List.range k).any (liveB l n c)
def symF (l : List Int) (bit : Nat → Option Nat) : Nat → Nat → Nat → Nat × Nat × Int
  | 0, _, _ => (0, 0, 8)
  | f + 1, n, c => match hit l n c with
    | some i => (i, n, 0)
    | none => if live l n c l.length = true then (match bit n with | none => (0, 0, 7) | some v => symF l bit f (n + 1) (2 * c + v)) else (0, 0, 8)

theorem hit_none {l : List Int} {n c : Nat} (h : ∀ i, i < l.length → hitB l n c i = false) : hit l n c = none := by
  unfold hit
  rw [List.find?_eq_none]
  intro i hi
  rw [h i (List.mem_range.1 hi)]; simp
theorem hit_none_iff {l : List Int} {n c : Nat} (h : hit l n c = none) (i : Nat) (hi : i < l.length) : hitB l n c i = false := by
  unfold hit at h
  rw [List.find?_eq_none] at h
  have := h i (List.mem_range.2 hi)
  simpa using this
theorem hit_some {l : List Int} (hA : l.all lenB = true) {n c i : Nat} (hi : i < l.length) (h : hitB l n c i = true) : hit l n c = some i := by
  cases hh : hit l n c with
  | none => rw [hit_none_iff hh i hi] at h; cases h
  | some j =>
    unfold hit at hh
    have h1 := List.find?_some hh
    have h2 := List.mem_range.1 (List.mem_of_find?_eq_some hh)
    have a := of_decide_eq_true h
    have b := of_decide_eq_true h1
    rw [cod_inj l hA i j hi h2 (by omega) (by omega) (by omega)]
theorem some_hit {l : List Int} {n c i : Nat} (h : hit l n c = some i) : i < l.length ∧ ln l i = n ∧ n ≠ 0 ∧ cod l i = c := by
  unfold hit at h
  have h1 : hitB l n c i = true := List.find?_some h
  exact ⟨List.mem_range.1 (List.mem_of_find?_eq_some h), of_decide_eq_true h1⟩
theorem live_zero (l : List Int) (n c : Nat) : live l n c 0 = false := rfl
theorem live_succ (l : List Int) (n c k : Nat) : live l n c (k + 1) = (live l n c k || liveB l n c k) := by
  unfold live
  rw [List.range_succ, List.any_append]; simp

theorem symF_hit {l : List Int} {bit : Nat → Option Nat} {f n c i : Nat} (h : hit l n c = some i) : symF l bit (f + 1) n c = (i, n, 0) := by
  simp only [symF, h]
theorem symF_dead {l : List Int} {bit : Nat → Option Nat} {f n c : Nat} (h : hit l n c = none) (hl : live l n c l.length = false) : symF l bit (f + 1) n c = (0, 0, 8) := by
  simp only [symF, h, hl]; simp
theorem symF_short {l : List Int} {bit : Nat → Option Nat} {f n c : Nat} (h : hit l n c = none) (hl : live l n c l.length = true) (hb : bit n = none) : symF l bit (f + 1) n c = (0, 0, 7) := by
  simp only [symF, h, hl, hb, if_true]
theorem symF_on {l : List Int} {bit : Nat → Option Nat} {f n c v : Nat} (h : hit l n c = none) (hl : live l n c l.length = true) (hb : bit n = some v) : symF l bit (f + 1) n c = symF l bit f (n + 1) (2 * c + v) := by
  simp only [symF, h, hl, hb, if_true]

/-- No code begins these bits. -/
def NP (l : List Int) (n c : Nat) : Prop := ∀ i, i < l.length → ln l i ≠ 0 → ln l i ≤ n → c / 2 ^ (n - ln l i) ≠ cod l i
theorem np_zero (l : List Int) : NP l 0 0 := fun _ _ h1 h2 => absurd (Nat.le_zero.1 h2) h1
theorem hit_zero (l : List Int) (c : Nat) : hit l 0 c = none := hit_none fun i _ => by unfold hitB; simp
theorem np_step {l : List Int} {n c v : Nat} (h : NP l n c) (hv : v < 2) (hh : hit l (n + 1) (2 * c + v) = none) : NP l (n + 1) (2 * c + v) := by
  intro i hi h0 hle
  by_cases h1 : ln l i ≤ n
  · have e : n + 1 - ln l i = (n - ln l i) + 1 := by omega
    rw [e, Nat.pow_succ, Nat.mul_comm (2 ^ (n - ln l i)) 2, ← Nat.div_div_eq_div_mul]
    rw [show (2 * c + v) / 2 = c by omega]
    exact h i hi h0 h1
  · have h2 : ln l i = n + 1 := by omega
    rw [h2, Nat.sub_self, Nat.pow_zero, Nat.div_one]
    intro he
    have := hit_none_iff hh i hi
    unfold hitB at this
    exact of_decide_eq_false this ⟨h2, by omega, he.symm⟩
theorem may_live {l : List Int} (hA : l.all lenB = true) {n c : Nat} (h : NP l n c) (hn : n ≤ 15) : (c * 2 ^ (15 - n) < wgt l) ↔ live l n c l.length = true := by
  constructor
  · intro hlt
    obtain ⟨i, hi, h0, h1, h2⟩ := cover l hA _ hlt
    have h15 := (ln_le l hA i).1
    by_cases h3 : ln l i ≤ n
    · exact absurd ((begins l hA i n c hn h3).2 ⟨h1, h2⟩) (h i hi h0 h3)
    · unfold live
      rw [List.any_eq_true]
      refine ⟨i, List.mem_range.2 hi, decide_eq_true ⟨by omega, ?_⟩⟩
      rw [← cod_mul l hA i] at h1 h2
      have e : 2 ^ (15 - n) = 2 ^ (ln l i - n) * 2 ^ (15 - ln l i) := by rw [← Nat.pow_add]; congr 1; omega
      have p1 := Nat.two_pow_pos (15 - ln l i)
      have p2 := Nat.two_pow_pos (ln l i - n)
      rw [e, ← Nat.mul_assoc] at h1 h2
      have h1 := Nat.le_of_mul_le_mul_right h1 p1
      have h2' : c * 2 ^ (ln l i - n) * 2 ^ (15 - ln l i) < (cod l i + 1) * 2 ^ (15 - ln l i) := by rw [Nat.add_mul, Nat.one_mul]; exact h2
      have h2 := Nat.lt_of_mul_lt_mul_right h2'
      have : cod l i = c * 2 ^ (ln l i - n) := by omega
      rw [this, Nat.mul_div_cancel _ p2]
  · intro hl
    unfold live at hl
    rw [List.any_eq_true] at hl
    obtain ⟨i, hi, hb⟩ := hl
    have hi := List.mem_range.1 hi
    have hb := of_decide_eq_true hb
    have h15 := (ln_le l hA i).1
    have he := end_le l hA i hi (by omega)
    rw [← cod_mul l hA i] at he
    have p1 := Nat.two_pow_pos (15 - ln l i)
    have e : 2 ^ (15 - n) = 2 ^ (ln l i - n) * 2 ^ (15 - ln l i) := by rw [← Nat.pow_add]; congr 1; omega
    have h1 : c * 2 ^ (ln l i - n) ≤ cod l i := by rw [← hb.2]; exact Nat.div_mul_le_self _ _
    rw [e, ← Nat.mul_assoc]
    have h2 := Nat.mul_le_mul_right (2 ^ (15 - ln l i)) h1
    omega
theorem live_lt {l : List Int} (hA : l.all lenB = true) {n c k : Nat} (h : live l n c k = true) : n < 15 := by
  unfold live at h
  rw [List.any_eq_true] at h
  obtain ⟨i, _, hb⟩ := h
  have hb := of_decide_eq_true hb
  have h15 := (ln_le l hA i).1
  omega
/-- Whole lengths read every stream that is long enough. -/
theorem whole {l : List Int} (hA : l.all lenB = true) (hW : wgt l = 32768) (bit : Nat → Option Nat) (hb : ∀ n, n < 16 → ∃ v, v < 2 ∧ bit n = some v) :
    ∀ f n c, f + n = 17 → n ≤ 15 → c < 2 ^ n → hit l n c = none → NP l n c → ∃ i, i < l.length ∧ symF l bit f n c = (i, ln l i, 0)
  | 0, n, c, h1, h2, _, _, _ => by omega
  | f + 1, n, c, h1, h2, h3, h4, h5 => by
    have hl : live l n c l.length = true := by
      rw [← may_live hA h5 h2, hW]
      calc c * 2 ^ (15 - n) < 2 ^ n * 2 ^ (15 - n) := Nat.mul_lt_mul_of_pos_right h3 (Nat.two_pow_pos _)
        _ = 32768 := by rw [← Nat.pow_add, show n + (15 - n) = 15 by omega]
    have hn := live_lt hA hl
    obtain ⟨v, hv, hbv⟩ := hb n (by omega)
    rw [symF_on h4 hl hbv]
    cases hh : hit l (n + 1) (2 * c + v) with
    | some i =>
      have := some_hit hh
      cases f with
      | zero => omega
      | succ f => exact ⟨i, this.1, by rw [symF_hit hh, this.2.1]⟩
    | none => exact whole hA hW bit hb f (n + 1) (2 * c + v) (by omega) (by omega) (by rw [Nat.pow_succ]; omega) hh (np_step h5 hv hh)

/-- The bit at the place p behind at. -/
def bitAt (b : List UInt8) (p n : Nat) : Option Nat := if p + n + 1 ≤ 8 * b.length then some (num b / 2 ^ (p + n) % 2) else none
def symR (l : List Int) (b : List UInt8) (at' : Int) : Nat × Nat × Int :=
  if at' < 0 then (0, 0, 2) else if chkE l = 0 then symF l (bitAt b at'.toNat) 17 0 0 else (0, 0, chkE l)
end Go.Proofs.Ytcppfoolhkcfaaa.Gf
