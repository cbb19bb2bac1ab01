/- Styles: their cells, the flags gathered in one number, what parameters make of a style. -/
import Derived.Test.YtnbonlkmadmpcaaN
namespace Go.Proofs.Ytnbonlkmadmpcaa
set_option linter.unusedVariables false
set_option linter.unusedSimpArgs false
structure St where
 fg : Int
 bg : Int
 b1 : Bool
 b2 : Bool
 b3 : Bool
 b4 : Bool
 b5 : Bool
 b7 : Bool
 b8 : Bool
 b9 : Bool
/-- Are two styles the same? -/
def stB (s t : St) : Bool := decide (s.fg = t.fg) && decide (s.bg = t.bg) && (s.b1 == t.b1) && (s.b2 == t.b2) && (s.b3 == t.b3) && (s.b4 == t.b4) && (s.b5 == t.b5) && (s.b7 == t.b7) && (s.b8 == t.b8) && (s.b9 == t.b9)
theorem stB_iff (s t : St) : stB s t = true ↔ s = t := by
 cases s; cases t
 simp [stB, and_assoc]
theorem stB_yes {s t : St} (h : s = t) : stB s t = true := (stB_iff s t).2 h
theorem stB_no {s t : St} (h : ¬ s = t) : stB s t = false := by
 cases e : stB s t with
 | false => rfl
 | true => exact absurd ((stB_iff s t).1 e) h
/-- The cells of a style. -/
def sA (s : St) : Array Value := #[.int .i64 s.fg, .int .i64 s.bg, .bool s.b1, .bool s.b2, .bool s.b3, .bool s.b4, .bool s.b5, .bool s.b7, .bool s.b8, .bool s.b9]
def pl : St := ⟨-1, -1, false, false, false, false, false, false, false, false⟩
/-- The flag of a number. -/
def hs (s : St) (k : Nat) : Bool := if k = 1 then s.b1 else if k = 2 then s.b2 else if k = 3 then s.b3 else if k = 4 then s.b4 else if k = 5 then s.b5 else if k = 7 then s.b7 else if k = 8 then s.b8 else if k = 9 then s.b9 else false
end Go.Proofs.Ytnbonlkmadmpcaa
