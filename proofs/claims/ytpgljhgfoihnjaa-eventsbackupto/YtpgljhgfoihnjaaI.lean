/- Events that may be: the walks of both May's and both Same's. -/
import Derived.Test.YtpgljhgfoihnjaaC
namespace Go.Proofs.Ytpgljhgfoihnjaa
open Go.RowKit Go.BigFrame
set_option linter.unusedSimpArgs false

/-- May it be? Its kind, how many bytes, columns, rows, the arrow. -/
def mayN (k n : Nat) (c r : Int) (a : Nat) : Bool :=
  if k = 1 then decide (1 ≤ n ∧ n ≤ 4096 ∧ c = 0 ∧ r = 0 ∧ a = 0)
  else if k = 2 then decide (n = 0 ∧ a = 0 ∧ 1 ≤ c ∧ c ≤ 512 ∧ 1 ≤ r ∧ r ≤ 512)
  else if k = 3 then decide (n ≤ 4096 ∧ c = 0 ∧ r = 0 ∧ a = 0)
  else if k = 4 then decide (n = 0 ∧ c = 0 ∧ r = 0 ∧ 65 ≤ a ∧ a ≤ 68)
  else false
/-- An event. -/
structure Ev where
  kind : UInt8
  byt : List UInt8
  cols : Int
  rows : Int
  arr : UInt8
def Ev.may (x : Ev) : Bool := mayN x.kind.toNat x.byt.length x.cols x.rows x.arr.toNat
/-- The value of an event whose bytes lie behind vb. -/
def Ev.val (x : Ev) (vb : Value) : Value := .agg #[.int .u8 (x.kind.toNat : Int), vb, .int .i64 x.cols, .int .i64 x.rows, .int .u8 (x.arr.toNat : Int)]

set_option maxRecDepth 100000 in
set_option maxHeartbeats 4000000 in
theorem refMay_nat (k n a : Nat) (c r : Int) (ad : Option Addr) (cp : Nat) (w : World) : Calls Try.prog 32 #[.agg #[.int .u8 (k : Int), .slice ad n cp, .int .i64 c, .int .i64 r, .int .u8 (a : Int)]] w fun e w' => e = .returned (.bool (mayN k n c r a)) ∧ Below w.heap.size w w' := by
  have hb : ∀ o, Below w.heap.size w (w.alloc o) := fun o => (Below.refl _ _).alloc (Nat.le_refl _) _
  have HM := Box'.mk (mayN.eq_1 k n c r a)
  generalize mayN k n c r a = M at *
  have HB := Box'.mk hb
  clear hb
  by_cases h1 : k = 1
  · subst h1
    have e := HM.out
    rw [if_pos rfl] at e
    clear HM
    go_enter Try.func32, Try.ntmps32
    go_wp2_with fail
    all_goals (go_ret; refine ⟨?_, HB.out _⟩; subst e; refine congrArg (fun b => Ending.returned (.bool b)) ?_; (rw [Bool.eq_iff_iff]) <;> (simp only [beq_iff_eq, decide_eq_true_eq, Bool.false_eq_true, Bool.and_eq_true, false_iff]) <;> omega)
  · have g1 : ((k : Int) == 1) = false := by rw [beq_eq_false_iff_ne]; omega
    by_cases h2 : k = 2
    · subst h2
      have e := HM.out
      rw [if_neg (by decide), if_pos rfl] at e
      clear HM h1
      go_enter Try.func32, Try.ntmps32
      go_wp2_with fail
      all_goals (go_ret; refine ⟨?_, HB.out _⟩; subst e; refine congrArg (fun b => Ending.returned (.bool b)) ?_; (rw [Bool.eq_iff_iff]) <;> (simp only [beq_iff_eq, decide_eq_true_eq, Bool.false_eq_true, Bool.and_eq_true, false_iff]) <;> omega)
    · have g2 : ((k : Int) == 2) = false := by rw [beq_eq_false_iff_ne]; omega
      by_cases h3 : k = 3
      · subst h3
        have e := HM.out
        rw [if_neg (by decide), if_neg (by decide), if_pos rfl] at e
        clear HM h1 h2
        go_enter Try.func32, Try.ntmps32
        go_wp2_with fail
        all_goals (go_ret; refine ⟨?_, HB.out _⟩; subst e; refine congrArg (fun b => Ending.returned (.bool b)) ?_; (rw [Bool.eq_iff_iff]) <;> (simp only [beq_iff_eq, decide_eq_true_eq, Bool.false_eq_true, Bool.and_eq_true, false_iff]) <;> omega)
      · have g3 : ((k : Int) == 3) = false := by rw [beq_eq_false_iff_ne]; omega
        by_cases h4 : k = 4
        · subst h4
          have e := HM.out
          rw [if_neg (by decide), if_neg (by decide), if_neg (by decide), if_pos rfl] at e
          clear HM h1 h2 h3
          go_enter Try.func32, Try.ntmps32
          go_wp2_with fail
          all_goals (go_ret; refine ⟨?_, HB.out _⟩; subst e; refine congrArg (fun b => Ending.returned (.bool b)) ?_; (rw [Bool.eq_iff_iff]) <;> (simp only [beq_iff_eq, decide_eq_true_eq, Bool.false_eq_true, Bool.and_eq_true, false_iff]) <;> omega)
        · have g4 : ((k : Int) == 4) = false := by rw [beq_eq_false_iff_ne]; omega
          have e := HM.out
          rw [if_neg h1, if_neg h2, if_neg h3, if_neg h4] at e
          clear HM h1 h2 h3 h4
          go_enter Try.func32, Try.ntmps32
          go_wp2_with fail
          all_goals (go_ret; subst e; exact ⟨rfl, HB.out _⟩)
end Go.Proofs.Ytpgljhgfoihnjaa
