/- The walks of isSize, lowest, bytesFor, mayBe and the reference's May. -/
import Derived.Test.YtcppfoolhkcfaaaB
import Derived.Deep.QuietTactic
import Derived.BigQuiet
namespace Go.Proofs.Ytcppfoolhkcfaaa
open Go.RowKit Go.BigFrame

theorem ret_int {k : IntKind} {a b : Int} (h : a = b) : Ending.returned (.int k a) = .returned (.int k b) := by rw [h]
theorem wrap_nat (n : Nat) : IntKind.u64.wrap ((n : Nat) : Int) = ((n % 18446744073709551616 : Nat) : Int) := by
  simp [IntKind.wrap, IntKind.bits, IntKind.signed]

def sizeB (s : Int) : Bool := decide (0 ≤ s ∧ s ≤ 64)
theorem isSize_any (s : Int) (w : World) : Calls Try.prog 44 #[.int .i64 s] w fun e w' => e = .returned (.bool (sizeB s)) ∧ w' = w := by
  unfold sizeB
  by_cases h1 : 0 ≤ s
  · by_cases h2 : s ≤ 64
    · rw [decide_eq_true (⟨h1, h2⟩ : 0 ≤ s ∧ s ≤ 64)]
      go_enter Try.func44, Try.ntmps44
      go_wp2
      go_ret
      exact ⟨rfl, rfl⟩
    · rw [decide_eq_false (fun h => h2 h.2 : ¬ (0 ≤ s ∧ s ≤ 64))]
      go_enter Try.func44, Try.ntmps44
      go_wp2
      go_ret
      exact ⟨rfl, rfl⟩
  · rw [decide_eq_false (fun h => h1 h.1 : ¬ (0 ≤ s ∧ s ≤ 64))]
    go_enter Try.func44, Try.ntmps44
    go_wp2
    go_ret
    exact ⟨rfl, rfl⟩

theorem low_int' : ∀ s : Nat, s < 65 → IntKind.u64.wrap (IntKind.u64.wrap (2 ^ s) - 1) = ((2 ^ s - 1 : Nat) : Int) := by decide +kernel
def lowN (s : Nat) : Nat := 2 ^ s - 1
theorem low_int (s : Nat) (h : s ≤ 64) : IntKind.u64.wrap (IntKind.u64.wrap (2 ^ s) - 1) = ((lowN s : Nat) : Int) := low_int' s (by omega)
set_option maxHeartbeats 400000 in
theorem lowest_any (s : Nat) (hs : s ≤ 64) (w : World) : Calls Try.prog 47 #[.int .i64 (s : Int)] w fun e w' => e = .returned (.int .u64 ((lowN s : Nat) : Int)) ∧ w' = w := by
  go_enter Try.func47, Try.ntmps47
  go_wp2
  go_ret
  exact ⟨ret_int (low_int s hs), rfl⟩
theorem bytesFor_any (s : Nat) (hs : s ≤ 9007199254740992) (w : World) : Calls Try.prog 45 #[.int .i64 (s : Int)] w fun e w' => e = .returned (.int .i64 (((s + 7) / 8 : Nat) : Int)) ∧ w' = w := by
  go_enter Try.func45, Try.ntmps45
  go_wp2
  go_ret
  exact ⟨ret_int (by omega), rfl⟩

set_option maxHeartbeats 1000000 in
theorem mayBe_any (v : Nat) (s : Int) (w : World) : Calls Try.prog 42 #[.agg #[.int .u64 (v : Int), .int .i64 s]] w fun e w' => e = .returned (.bool (Gf.may (v, s))) ∧ Below w.heap.size w w' := by
  by_cases hs : 0 ≤ s ∧ s ≤ 64
  · obtain ⟨n, rfl⟩ : ∃ n : Nat, s = (n : Int) := ⟨s.toNat, by omega⟩
    have hn : n ≤ 64 := by omega
    have hB : sizeB (n : Int) = true := decide_eq_true hs
    have hM : Gf.may (v, (n : Int)) = decide (v ≤ lowN n) := by
      unfold Gf.may lowN
      have := Nat.two_pow_pos n
      rw [decide_eq_decide]
      simp only [Int.toNat_natCast]
      omega
    have h1 := fun w => isSize_any (n : Int) w
    rw [hB] at h1
    have h2 := fun w => lowest_any n hn w
    rw [hM]
    generalize lowN n = L at *
    clear hs hB hM
    go_enter Try.func42, Try.ntmps42
    go_wp2
    go_quiet ((first | (go_at_call 44; exact Calls.quiet_of_same (h1 _)) | (go_at_call 47; exact Calls.quiet_of_same (h2 _))))
    go_wp2
    go_ret
    exact ⟨rfl, Below.drewN ((Below.refl _ _).alloc (Nat.le_refl _) _) nq⟩
  · have hM : Gf.may (v, s) = false := decide_eq_false fun h => hs ⟨h.1, h.2.1⟩
    have h1 := fun w => isSize_any s w
    rw [show sizeB s = false from decide_eq_false hs] at h1
    rw [hM]
    clear hs hM
    go_enter Try.func42, Try.ntmps42
    go_wp2
    go_quiet ((go_at_call 44; exact Calls.quiet_of_same (h1 _)))
    go_wp2
    go_ret
    exact ⟨rfl, Below.drewN ((Below.refl _ _).alloc (Nat.le_refl _) _) nq⟩

theorem may_shr (v n : Nat) : Gf.may (v, (n : Int)) = (decide (n ≤ 64) && decide (v / 2 ^ n = 0)) := by
  unfold Gf.may
  rw [Bool.eq_iff_iff]
  simp only [Int.toNat_natCast, decide_eq_true_eq, Bool.and_eq_true]
  rw [Nat.div_eq_zero_iff_lt (Nat.two_pow_pos n)]
  omega
theorem shr_zero (v n : Nat) : ((v : Int) / 2 ^ n == 0) = decide (v / 2 ^ n = 0) := by
  have e : (v : Int) / 2 ^ n = ((v / 2 ^ n : Nat) : Int) := by simp
  rw [e, Bool.eq_iff_iff, beq_iff_eq, decide_eq_true_eq]
  omega
set_option maxHeartbeats 1000000 in
theorem refMay_any (v : Nat) (hv : v < 18446744073709551616) (s : Int) (w : World) : Calls Try.prog 43 #[.agg #[.int .u64 (v : Int), .int .i64 s]] w fun e w' => e = .returned (.bool (Gf.may (v, s))) ∧ Below w.heap.size w w' := by
  by_cases h0 : 0 ≤ s
  · obtain ⟨n, rfl⟩ : ∃ n : Nat, s = (n : Int) := ⟨s.toNat, by omega⟩
    by_cases h1 : n ≤ 64
    · by_cases h2 : n = 64
      · subst h2
        rw [show Gf.may (v, ((64 : Nat) : Int)) = true from decide_eq_true ⟨show (0 : Int) ≤ 64 by decide, show (64 : Int) ≤ 64 by decide, hv⟩]
        go_enter Try.func43, Try.ntmps43
        go_wp2
        go_ret
        exact ⟨rfl, (Below.refl _ _).alloc (Nat.le_refl _) _⟩
      · rw [may_shr, decide_eq_true h1, Bool.true_and]
        have i2 : ((n : Int) == 64) = false := by rw [beq_eq_false_iff_ne]; omega
        clear hv
        go_enter Try.func43, Try.ntmps43
        go_wp2
        go_ret
        refine ⟨?_, (Below.refl _ _).alloc (Nat.le_refl _) _⟩
        have e : ((v : Int) / 2 ^ n == 0) = decide (v / 2 ^ n = 0) := shr_zero v n
        rw [← e]; rfl
    · rw [may_shr, decide_eq_false h1, Bool.false_and]
      have i1 : ¬ (n : Int) ≤ 64 := by omega
      clear hv
      go_enter Try.func43, Try.ntmps43
      go_wp2
      go_ret
      exact ⟨rfl, (Below.refl _ _).alloc (Nat.le_refl _) _⟩
  · rw [show Gf.may (v, s) = false from decide_eq_false fun h => h0 h.1]
    clear hv
    go_enter Try.func43, Try.ntmps43
    go_wp2
    go_ret
    exact ⟨rfl, (Below.refl _ _).alloc (Nat.le_refl _) _⟩
end Go.Proofs.Ytcppfoolhkcfaaa
