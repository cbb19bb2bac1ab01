/- Tokens, and what they tell; the walk of mayBe. -/
import Derived.Test.YtfbgackmjkancaaB
import Derived.Laws.Small
namespace Go.Proofs.Ytfbgackmjkancaa
open Go.RowKit Go.BigFrame

/-- A token: its byte, its length, its distance. -/
abbrev Tok := UInt8 × Int × Int
/-- Whether a token may be behind so many bytes. -/
def mayT (t : Tok) (n : Nat) : Bool :=
  if t.2.1 = 0 then decide (t.2.2 = 0) else decide (3 ≤ t.2.1 ∧ t.2.1 ≤ 258 ∧ 1 ≤ t.2.2 ∧ t.2.2 ≤ 32768 ∧ t.2.2 ≤ (n : Int) ∧ t.1.toNat = 0)
/-- So many bytes, each the one that stands so far ahead. -/
def cpy (d : Nat) : Nat → List UInt8 → List UInt8
  | 0, out => out
  | k + 1, out => cpy d k (out ++ [out.getD (out.length - d) 0])
def oneT (t : Tok) (out : List UInt8) : List UInt8 := if t.2.1 = 0 then out ++ [t.1] else cpy t.2.2.toNat t.2.1.toNat out
/-- What tokens tell behind bytes, and the error. -/
def expF : List Tok → List UInt8 → List UInt8 × Int
  | [], out => (out, 0)
  | t :: r, out => if mayT t out.length = true then (if 65536 < (oneT t out).length then ([], 4) else expF r (oneT t out)) else ([], 2)
theorem cpy_length (d k : Nat) (out : List UInt8) : (cpy d k out).length = out.length + k := by
  induction k generalizing out with
  | zero => rfl
  | succ k ih => rw [cpy, ih, List.length_append]; simp; omega
theorem cpy_step (d k : Nat) (out : List UInt8) : cpy d (k + 1) out = cpy d k (out ++ [out.getD (out.length - d) 0]) := rfl

set_option maxHeartbeats 1000000 in
set_option maxRecDepth 100000 in
theorem mayBe_any (b : UInt8) (x y : Int) (n : Nat) (hn : n ≤ 65536) (w : World) : Calls Try.prog 18 #[.agg #[.int .u8 (b.toNat : Int), .int .i64 x, .int .i64 y], .int .i64 (n : Int)] w fun e w' => e = .returned (.bool (mayT (b, x, y) n)) ∧ Below w.heap.size w w' := by
  have bl : Below w.heap.size w (w.alloc (.cells #[.int .u8 (b.toNat : Int), .int .i64 x, .int .i64 y] 44)) := (Below.refl _ _).alloc (Nat.le_refl _) _
  unfold mayT
  by_cases h0 : x = 0
  · subst h0
    simp only [if_true]
    by_cases hy : y = 0
    · subst hy
      go_enter Try.func18, Try.ntmps18
      go_wp2
      go_ret
      exact ⟨rfl, bl⟩
    · rw [decide_eq_false hy]
      have hy' : (y == 0) = false := by rw [beq_eq_false_iff_ne]; exact hy
      go_enter Try.func18, Try.ntmps18
      go_wp2
      go_ret
      exact ⟨rfl, bl⟩
  · have h0' : (x == 0) = false := by rw [beq_eq_false_iff_ne]; exact h0
    rw [if_neg h0]
    simp only
    by_cases h1 : 3 ≤ x
    case neg =>
      rw [decide_eq_false (fun h => h1 h.1)]
      go_enter Try.func18, Try.ntmps18
      go_wp2
      go_ret
      exact ⟨rfl, bl⟩
    by_cases h2 : x ≤ 258
    case neg =>
      rw [decide_eq_false (fun h => h2 h.2.1)]
      go_enter Try.func18, Try.ntmps18
      go_wp2
      go_ret
      exact ⟨rfl, bl⟩
    by_cases h3 : 1 ≤ y
    case neg =>
      rw [decide_eq_false (fun h => h3 h.2.2.1)]
      go_enter Try.func18, Try.ntmps18
      go_wp2
      go_ret
      exact ⟨rfl, bl⟩
    by_cases h4 : y ≤ 32768 ∧ y ≤ (n : Int)
    case neg =>
      rw [decide_eq_false (fun h => h4 ⟨h.2.2.2.1, h.2.2.2.2.1⟩)]
      by_cases hm : (n : Int) < 32768
      · have h4' : ¬ y ≤ (n : Int) := by omega
        clear h4
        go_enter Try.func18, Try.ntmps18
        go_wp2
        go_ret
        exact ⟨rfl, bl⟩
      · have h4' : ¬ y ≤ 32768 := by omega
        clear h4
        go_enter Try.func18, Try.ntmps18
        go_wp2
        go_ret
        exact ⟨rfl, bl⟩
    obtain ⟨h4, h5⟩ := h4
    by_cases h6 : b.toNat = 0
    · rw [decide_eq_true (p := 3 ≤ x ∧ x ≤ 258 ∧ 1 ≤ y ∧ y ≤ 32768 ∧ y ≤ (n : Int) ∧ b.toNat = 0) ⟨h1, h2, h3, h4, h5, h6⟩]
      rw [h6] at bl ⊢
      clear h6
      by_cases hm : (n : Int) < 32768
      · go_enter Try.func18, Try.ntmps18
        go_wp2
        go_ret
        exact ⟨rfl, bl⟩
      · go_enter Try.func18, Try.ntmps18
        go_wp2
        go_ret
        exact ⟨rfl, bl⟩
    · rw [decide_eq_false (fun h => h6 h.2.2.2.2.2)]
      have h6' : ((b.toNat : Int) == 0) = false := by rw [beq_eq_false_iff_ne]; omega
      clear h6
      by_cases hm : (n : Int) < 32768
      · go_enter Try.func18, Try.ntmps18
        go_wp2
        go_ret
        exact ⟨rfl, bl⟩
      · go_enter Try.func18, Try.ntmps18
        go_wp2
        go_ret
        exact ⟨rfl, bl⟩
end Go.Proofs.Ytfbgackmjkancaa
