/- Styles: their cells, the flags gathered in one number, what parameters make of a style. -/
import Derived.Test.YtnbonlkmadmpcaaN
namespace Go.Proofs.Ytnbonlkmadmpcaa
set_option linter.unusedVariables false
set_option linter.unusedSimpArgs false

structure St where
  fg : Int
  bg : Int
  b1 : Bool
  b2 : Bool
  b3 : Bool
  b4 : Bool
  b5 : Bool
  b7 : Bool
  b8 : Bool
  b9 : Bool
/-- Are two styles the same? -/
def stB (s t : St) : Bool := decide (s.fg = t.fg) && decide (s.bg = t.bg) && (s.b1 == t.b1) && (s.b2 == t.b2) && (s.b3 == t.b3) && (s.b4 == t.b4) && (s.b5 == t.b5) && (s.b7 == t.b7) && (s.b8 == t.b8) && (s.b9 == t.b9)
theorem stB_iff (s t : St) : stB s t = true ↔ s = t := by
  cases s; cases t
  simp [stB, and_assoc]
theorem stB_yes {s t : St} (h : s = t) : stB s t = true := (stB_iff s t).2 h
theorem stB_no {s t : St} (h : ¬ s = t) : stB s t = false := by
  cases e : stB s t with
  | false => rfl
  | true => exact absurd ((stB_iff s t).1 e) h
/-- The cells of a style. -/
def sA (s : St) : Array Value := #[.int .i64 s.fg, .int .i64 s.bg, .bool s.b1, .bool s.b2, .bool s.b3, .bool s.b4, .bool s.b5, .bool s.b7, .bool s.b8, .bool s.b9]
/-- Flags gathered in one number. -/
def fl (a b c d e f g h : Bool) : Nat := a.toNat * 2 + b.toNat * 4 + c.toNat * 8 + d.toNat * 16 + e.toNat * 32 + f.toNat * 128 + g.toNat * 256 + h.toNat * 512
def flg (s : St) : Nat := fl s.b1 s.b2 s.b3 s.b4 s.b5 s.b7 s.b8 s.b9
/-- The cells of a look. -/
def lA (s : St) : Array Value := #[.int .i64 s.fg, .int .i64 s.bg, .int .u16 (flg s : Int)]
def pl : St := ⟨-1, -1, false, false, false, false, false, false, false, false⟩
/-- The flag of a number. -/
def hs (s : St) (k : Nat) : Bool := if k = 1 then s.b1 else if k = 2 then s.b2 else if k = 3 then s.b3 else if k = 4 then s.b4 else if k = 5 then s.b5 else if k = 7 then s.b7 else if k = 8 then s.b8 else if k = 9 then s.b9 else false
def sf (s : St) (p : Int) (v : Bool) : St :=
  if p = 1 then { s with b1 := v } else if p = 2 then { s with b2 := v } else if p = 3 then { s with b3 := v } else if p = 4 then { s with b4 := v } else if p = 5 then { s with b5 := v }
  else if p = 7 then { s with b7 := v } else if p = 8 then { s with b8 := v } else if p = 9 then { s with b9 := v } else s
theorem fl_lt (a b c d e f g h : Bool) : fl a b c d e f g h < 1024 := by revert a b c d e f g h; decide
theorem flg_lt (s : St) : flg s < 1024 := fl_lt _ _ _ _ _ _ _ _
/-- What a parameter that tells a colour in the long way makes of it, and how many are passed over. -/
def lng (c : Int) (l : List Int) : Int × Nat :=
  if 2 < l.length ∧ l.getD 1 0 = 5 then (if 0 ≤ l.getD 2 0 ∧ l.getD 2 0 ≤ 255 then l.getD 2 0 else c, 3)
  else if 1 < l.length ∧ l.getD 1 0 = 2 then (c, min l.length 5) else (c, 1)
/-- What a short colour makes. -/
def sht (s : St) (p : Int) : St :=
  if 30 ≤ p ∧ p ≤ 37 then { s with fg := p - 30 } else if 40 ≤ p ∧ p ≤ 47 then { s with bg := p - 40 }
  else if 90 ≤ p ∧ p ≤ 97 then { s with fg := p - 82 } else if 100 ≤ p ∧ p ≤ 107 then { s with bg := p - 92 } else s
/-- What the first parameter makes of a style, and how many are passed over. -/
def stp (s : St) (l : List Int) : St × Nat :=
  let p := l.getD 0 0
  if p = 0 then (pl, 1)
  else if 1 ≤ p ∧ p ≤ 9 then (sf s p true, 1)
  else if p = 22 then ({ s with b1 := false, b2 := false }, 1)
  else if 23 ≤ p ∧ p ≤ 29 then (sf s (p - 20) false, 1)
  else if p = 38 then ({ s with fg := (lng s.fg l).1 }, (lng s.fg l).2)
  else if p = 48 then ({ s with bg := (lng s.bg l).1 }, (lng s.bg l).2)
  else if p = 39 then ({ s with fg := -1 }, 1)
  else if p = 49 then ({ s with bg := -1 }, 1)
  else (sht s p, 1)
theorem lng_pos (c : Int) (l : List Int) : 1 ≤ (lng c l).2 ∧ ((lng c l).2 ≤ l.length ∨ (lng c l).2 = 1) := by
  unfold lng
  split
  · simp; omega
  · split
    · simp; omega
    · simp
theorem stp_pos (s : St) (l : List Int) : 1 ≤ (stp s l).2 ∧ ((stp s l).2 ≤ l.length ∨ (stp s l).2 = 1) := by
  unfold stp
  have h1 := lng_pos s.fg l
  have h2 := lng_pos s.bg l
  simp only
  repeat' split
  all_goals first | exact h1 | exact h2 | simp
/-- What parameters make of a style, one behind the other: so many steps at most. -/
def apN : Nat → St → List Int → St
  | 0, s, _ => s
  | n + 1, s, l => if l = [] then s else apN n (stp s l).1 (l.drop (stp s l).2)
theorem apN_nil (n : Nat) (s : St) : apN n s [] = s := by cases n <;> simp [apN]
theorem apN_more : ∀ (n m : Nat) (s : St) (l : List Int), l.length ≤ n → l.length ≤ m → apN n s l = apN m s l
  | 0, m, s, l, h1, h2 => by
    have : l = [] := List.eq_nil_of_length_eq_zero (by omega)
    subst this
    rw [apN_nil, apN_nil]
  | n + 1, 0, s, l, h1, h2 => by
    have : l = [] := List.eq_nil_of_length_eq_zero (by omega)
    subst this
    rw [apN_nil, apN_nil]
  | n + 1, m + 1, s, l, h1, h2 => by
    simp only [apN]
    by_cases h : l = []
    · rw [if_pos h, if_pos h]
    · rw [if_neg h, if_neg h]
      have hp := (stp_pos s l).1
      exact apN_more n m _ _ (by rw [List.length_drop]; omega) (by rw [List.length_drop]; omega)
def apG (s : St) (l : List Int) : St := apN l.length s l
theorem apG_nil (s : St) : apG s [] = s := rfl
theorem apG_step (s : St) (l : List Int) (h : l ≠ []) : apG s l = apG (stp s l).1 (l.drop (stp s l).2) := by
  have hl : 0 < l.length := List.length_pos_iff.2 h
  have hp := (stp_pos s l).1
  unfold apG
  obtain ⟨n, hn⟩ : ∃ n, l.length = n + 1 := ⟨l.length - 1, by omega⟩
  rw [hn, apN, if_neg h]
  exact apN_more n _ _ _ (by rw [List.length_drop]; omega) (Nat.le_refl _)
def apF (s : St) (l : List Int) : St := if l = [] then pl else apG s l
end Go.Proofs.Ytnbonlkmadmpcaa
