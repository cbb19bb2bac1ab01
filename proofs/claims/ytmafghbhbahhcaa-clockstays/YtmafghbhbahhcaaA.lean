/- The walks of the program's small functions. -/
import Derived.Test.YtmafghbhbahhcaaGx
import Derived.Test.YtmafghbhbahhcaaM
import Derived.Deep.QuietTactic
import Derived.BigQuiet
import Derived.Laws.Small
namespace Go.Proofs.Ytmafghbhbahhcaa
open Go.RowKit Go.BigFrame
set_option linter.unusedVariables false

theorem ret_int {k : IntKind} {a b : Int} (h : a = b) : Ending.returned (.int k a) = .returned (.int k b) := by rw [h]
/-- An estimate, as a value. -/
def rt (a : Bool) (m s : Int) : Value := .agg #[.bool a, .int .i64 m, .int .i64 s]

theorem may_yes (a : Bool) (m s : Int) (h : Gf.mayB a m s = true) (w : World) : Calls Try.prog 13 #[.agg #[.bool a, .int .i64 m, .int .i64 s]] w fun e w' => e = .returned (.bool true) ∧ Below w.heap.size w w' := by
  obtain ⟨h1, h2, h3, h4, h5⟩ := Gf.may_of h
  clear h
  cases a with
  | true =>
    clear h5
    go_enter Try.func13, Try.ntmps13
    go_wp2
    go_ret
    exact ⟨rfl, (Below.refl _ _).alloc (Nat.le_refl _) _⟩
  | false =>
    obtain ⟨rfl, rfl⟩ : m = 0 ∧ s = 0 := by simpa using h5
    clear h5 h1 h2 h3 h4
    go_enter Try.func13, Try.ntmps13
    go_wp2
    go_ret
    exact ⟨rfl, (Below.refl _ _).alloc (Nat.le_refl _) _⟩
theorem may_no (a : Bool) (m s : Int) (h : Gf.mayB a m s = false) (w : World) : Calls Try.prog 13 #[.agg #[.bool a, .int .i64 m, .int .i64 s]] w fun e w' => e = .returned (.bool false) ∧ Below w.heap.size w w' := by
  have h' := of_decide_eq_false h
  clear h
  cases a with
  | true =>
    have h5 : ¬ (0 ≤ m ∧ m ≤ 524280 ∧ 0 ≤ s ∧ s ≤ 262140) := fun h => h' ⟨h.1, h.2.1, h.2.2.1, h.2.2.2, .inl rfl⟩
    clear h'
    by_cases h1 : 0 ≤ m
    · by_cases h2 : m ≤ 524280
      · by_cases h3 : 0 ≤ s
        · have h4 : ¬ s ≤ 262140 := fun h => h5 ⟨h1, h2, h3, h⟩
          clear h5
          go_enter Try.func13, Try.ntmps13
          go_wp2
          go_ret
          exact ⟨rfl, (Below.refl _ _).alloc (Nat.le_refl _) _⟩
        · clear h5
          go_enter Try.func13, Try.ntmps13
          go_wp2
          go_ret
          exact ⟨rfl, (Below.refl _ _).alloc (Nat.le_refl _) _⟩
      · clear h5
        go_enter Try.func13, Try.ntmps13
        go_wp2
        go_ret
        exact ⟨rfl, (Below.refl _ _).alloc (Nat.le_refl _) _⟩
    · clear h5
      go_enter Try.func13, Try.ntmps13
      go_wp2
      go_ret
      exact ⟨rfl, (Below.refl _ _).alloc (Nat.le_refl _) _⟩
  | false =>
    have h5 : ¬ (m = 0 ∧ s = 0) := fun h => h' (by obtain ⟨rfl, rfl⟩ := h; decide)
    clear h'
    by_cases h1 : m = 0
    · have h2 : ¬ s = 0 := fun h => h5 ⟨h1, h⟩
      subst h1
      clear h5
      go_enter Try.func13, Try.ntmps13
      go_wp2
      go_ret
      refine ⟨?_, (Below.refl _ _).alloc (Nat.le_refl _) _⟩
      simp [h2]
    · clear h5
      have i1 : (m == 0) = false := by rw [beq_eq_false_iff_ne]; exact h1
      go_enter Try.func13, Try.ntmps13
      go_wp2
      go_ret
      exact ⟨rfl, (Below.refl _ _).alloc (Nat.le_refl _) _⟩
theorem may_any (a : Bool) (m s : Int) (w : World) : Calls Try.prog 13 #[.agg #[.bool a, .int .i64 m, .int .i64 s]] w fun e w' => e = .returned (.bool (Gf.mayB a m s)) ∧ Below w.heap.size w w' := by
  cases h : Gf.mayB a m s with
  | true => exact may_yes a m s h w
  | false => exact may_no a m s h w

theorem size_any (d : Int) (h1 : -1000000 ≤ d) (h2 : d ≤ 1000000) (w : World) : Calls Try.prog 21 #[.int .i64 d] w fun e w' => e = .returned (.int .i64 (Gf.absI d)) ∧ w' = w := by
  by_cases h : d < 0
  · rw [show Gf.absI d = -d from if_pos h]
    go_enter Try.func21, Try.ntmps21
    go_wp2
    go_ret
    exact ⟨rfl, rfl⟩
  · rw [show Gf.absI d = d from if_neg h]
    go_enter Try.func21, Try.ntmps21
    go_wp2
    go_ret
    exact ⟨rfl, rfl⟩
theorem meanOf_any (a : Bool) (m s : Int) (h1 : 0 ≤ m) (h2 : m ≤ 524280) (w : World) : Calls Try.prog 20 #[.agg #[.bool a, .int .i64 m, .int .i64 s]] w fun e w' => e = .returned (.int .i64 (m / 8)) ∧ Below w.heap.size w w' := by
  go_enter Try.func20, Try.ntmps20
  go_wp2
  go_ret
  exact ⟨rfl, (Below.refl _ _).alloc (Nat.le_refl _) _⟩
theorem start_any (w : World) : Calls Try.prog 18 #[] w fun e w' => e = .returned (rt false 0 0) ∧ Below w.heap.size w w' := by
  go_enter Try.func18, Try.ntmps18
  go_wp2
  exact bodyPost_ret (v := .agg #[.bool false, .int .i64 0, .int .i64 0]) (by simp [results, Try.results18, go_sem]) rfl ⟨rfl, (Below.refl _ _).alloc (Nat.le_refl _) _⟩
theorem first_any (x : Int) (h1 : 0 ≤ x) (h2 : x ≤ 65535) (w : World) : Calls Try.prog 19 #[.int .u16 x] w fun e w' => e = .returned (.agg #[.bool true, .int .i64 (8 * x), .int .i64 (2 * x)]) ∧ Below w.heap.size w w' := by
  go_enter Try.func19, Try.ntmps19
  go_wp2
  refine bodyPost_ret (v := .agg #[.bool true, .int .i64 (8 * x), .int .i64 (2 * x)]) ?_ rfl ⟨rfl, (Below.refl _ _).alloc (Nat.le_refl _) _⟩
  simp [results, Try.results19, go_sem]
  omega
theorem since_any (x y : Int) (h1 : 0 ≤ x) (h2 : x ≤ 65535) (h3 : 0 ≤ y) (h4 : y ≤ 65535) (w : World) : Calls Try.prog 15 #[.int .u16 x, .int .u16 y] w fun e w' => e = .returned (.int .u16 (Gf.sinI x y)) ∧ w' = w := by
  go_enter Try.func15, Try.ntmps15
  go_wp2
  go_ret
  refine ⟨ret_int ?_, rfl⟩
  simp only [IntKind.wrap, IntKind.bits, IntKind.signed, Gf.sinI]
  simp only [Bool.false_and, Bool.false_eq_true, if_false]
  by_cases h : x < y
  · rw [if_pos h]; omega
  · rw [if_neg h]; omega
theorem refSince_any (x y : Int) (h1 : 0 ≤ x) (h2 : x ≤ 65535) (h3 : 0 ≤ y) (h4 : y ≤ 65535) (w : World) : Calls Try.prog 16 #[.int .u16 x, .int .u16 y] w fun e w' => e = .returned (.int .u16 (Gf.sinI x y)) ∧ w' = w := by
  by_cases h : x < y
  · have i : x - y < 0 := by omega
    rw [show Gf.sinI x y = x - y + 65536 from if_pos h]
    go_enter Try.func16, Try.ntmps16
    go_wp2
    go_ret
    exact ⟨rfl, rfl⟩
  · have i : ¬ x - y < 0 := by omega
    rw [show Gf.sinI x y = x - y from if_neg h]
    go_enter Try.func16, Try.ntmps16
    go_wp2
    go_ret
    exact ⟨rfl, rfl⟩
end Go.Proofs.Ytmafghbhbahhcaa
