/- Events that are alike: the walks of Equal, isSide, both Same's and of May. -/
import Derived.Test.YtpgljhgfoihnjaaI
namespace Go.Proofs.Ytpgljhgfoihnjaa
open Go.RowKit Go.BigFrame
set_option linter.unusedSimpArgs false

set_option maxRecDepth 100000 in
set_option maxHeartbeats 1000000 in
theorem equal_any (S1 S2 : Nat → Prop) (va vb : Value) (la lb : List UInt8) (w : World) (ha : Bts S1 w va la) (hb : Bts S2 w vb lb) :
    Calls Try.prog 48 #[va, vb] w fun e w' => e = .returned (.bool (decide (la = lb))) ∧ w' = w := by
  have h1 := conv_bts ha
  have h2 := conv_bts hb
  have h3 := bytes_eq la lb
  generalize decide (la = lb) = r at *
  obtain ⟨s1, hs1⟩ : ∃ s1, (⟨la.toArray⟩ : ByteArray) = s1 := ⟨_, rfl⟩
  obtain ⟨s2, hs2⟩ : ∃ s2, (⟨lb.toArray⟩ : ByteArray) = s2 := ⟨_, rfl⟩
  rw [hs1] at h1 h3
  rw [hs2] at h2 h3
  clear hs1 hs2 ha hb
  go_enter Try.func48, Try.ntmps48
  go_wp2_with (first
    | (refine wpList_val rfl _ (convert_op 23 9 (.tmp 5) rfl _ _ h1) ?_)
    | (refine wpList_val rfl _ (convert_op 23 9 (.tmp 7) rfl _ _ h2) ?_)
    | fail)
  go_ret
  exact ⟨by rw [← h3]; rfl, rfl⟩
def sameN (k1 k2 : Nat) (c1 c2 r1 r2 : Int) (a1 a2 : Nat) (l1 l2 : List UInt8) : Bool := decide (k1 = k2 ∧ c1 = c2 ∧ r1 = r2 ∧ a1 = a2 ∧ l1 = l2)
set_option maxRecDepth 100000 in
set_option maxHeartbeats 4000000 in
theorem same_any (S1 S2 : Nat → Prop) (k1 k2 : Nat) (c1 c2 r1 r2 : Int) (a1 a2 : Nat) (v1 v2 : Value) (l1 l2 : List UInt8) (w : World) (hS1 : ∀ b, S1 b → b < w.heap.size) (hS2 : ∀ b, S2 b → b < w.heap.size) (h1 : Bts S1 w v1 l1) (h2 : Bts S2 w v2 l2) :
    Calls Try.prog 34 #[.agg #[.int .u8 (k1 : Int), v1, .int .i64 c1, .int .i64 r1, .int .u8 (a1 : Int)], .agg #[.int .u8 (k2 : Int), v2, .int .i64 c2, .int .i64 r2, .int .u8 (a2 : Int)]] w fun e w' => e = .returned (.bool (sameN k1 k2 c1 c2 r1 r2 a1 a2 l1 l2)) ∧ Below w.heap.size w w' := by
  have hb : ∀ o o', Below w.heap.size w ((w.alloc o).alloc o') := fun o o' => ((Below.refl _ _).alloc (Nat.le_refl _) _).alloc (by simp) _
  have sm : ∀ o o', Calls Try.prog 48 #[v1, v2] ((w.alloc o).alloc o') fun e w' => e = .returned (.bool (decide (l1 = l2))) ∧ w' = (w.alloc o).alloc o' := fun o o' => equal_any S1 S2 _ _ _ _ _ (h1.below (hb o o') hS1) (h2.below (hb o o') hS2)
  have HB := Box'.mk hb
  have SM := Box'.mk sm
  obtain ⟨ad1, cp1, rfl, _⟩ := h1
  obtain ⟨ad2, cp2, rfl, _⟩ := h2
  have HM := Box'.mk (sameN.eq_1 k1 k2 c1 c2 r1 r2 a1 a2 l1 l2)
  generalize sameN k1 k2 c1 c2 r1 r2 a1 a2 l1 l2 = M at *
  clear hb sm hS1 hS2
  generalize l1.length = n1 at *
  generalize l2.length = n2 at *
  by_cases hk : k1 = k2
  · subst hk
    by_cases hc : c1 = c2
    · subst hc
      by_cases hr : r1 = r2
      · subst hr
        by_cases ha : a1 = a2
        · subst ha
          have e : M = decide (l1 = l2) := by rw [HM.out]; simp
          rw [← e] at SM
          clear HM e
          go_enter Try.func34, Try.ntmps34
          go_wp2_with fail
          refine (SM.out _ _).mono ?_
          rintro e w1 ⟨rfl, rfl⟩
          go_wp2_with fail
          go_ret
          exact ⟨rfl, HB.out _ _⟩
        · have e := HM.out
          rw [decide_eq_false (by rintro ⟨q1, q2, q3, q4, q5⟩; exact ha (by first | exact q1 | exact q2 | exact q3 | exact q4))] at e
          subst e
          have gg : ((a1 : Int) == (a2 : Int)) = false := by rw [beq_eq_false_iff_ne]; omega
          clear HM
          clear SM
          go_enter Try.func34, Try.ntmps34
          go_wp2_with fail
          go_ret
          exact ⟨rfl, HB.out _ _⟩
      · have e := HM.out
        rw [decide_eq_false (by rintro ⟨q1, q2, q3, q4, q5⟩; exact hr (by first | exact q1 | exact q2 | exact q3 | exact q4))] at e
        subst e
        have gg : (r1 == r2) = false := by rw [beq_eq_false_iff_ne]; omega
        clear HM
        clear SM
        go_enter Try.func34, Try.ntmps34
        go_wp2_with fail
        go_ret
        exact ⟨rfl, HB.out _ _⟩
    · have e := HM.out
      rw [decide_eq_false (by rintro ⟨q1, q2, q3, q4, q5⟩; exact hc (by first | exact q1 | exact q2 | exact q3 | exact q4))] at e
      subst e
      have gg : (c1 == c2) = false := by rw [beq_eq_false_iff_ne]; omega
      clear HM
      clear SM
      go_enter Try.func34, Try.ntmps34
      go_wp2_with fail
      go_ret
      exact ⟨rfl, HB.out _ _⟩
  · have e := HM.out
    rw [decide_eq_false (by rintro ⟨q1, q2, q3, q4, q5⟩; exact hk (by first | exact q1 | exact q2 | exact q3 | exact q4))] at e
    subst e
    have gg : ((k1 : Int) == (k2 : Int)) = false := by rw [beq_eq_false_iff_ne]; omega
    clear HM
    clear SM
    go_enter Try.func34, Try.ntmps34
    go_wp2_with fail
    go_ret
    exact ⟨rfl, HB.out _ _⟩
set_option maxRecDepth 100000 in
set_option maxHeartbeats 4000000 in
theorem refSameE_any (S1 S2 : Nat → Prop) (k1 k2 : Nat) (c1 c2 r1 r2 : Int) (a1 a2 : Nat) (v1 v2 : Value) (l1 l2 : List UInt8) (w : World) (hS1 : ∀ b, S1 b → b < w.heap.size) (hS2 : ∀ b, S2 b → b < w.heap.size) (h1 : Bts S1 w v1 l1) (h2 : Bts S2 w v2 l2) :
    Calls Try.prog 28 #[.agg #[.int .u8 (k1 : Int), v1, .int .i64 c1, .int .i64 r1, .int .u8 (a1 : Int)], .agg #[.int .u8 (k2 : Int), v2, .int .i64 c2, .int .i64 r2, .int .u8 (a2 : Int)]] w fun e w' => e = .returned (.bool (sameN k1 k2 c1 c2 r1 r2 a1 a2 l1 l2)) ∧ Below w.heap.size w w' := by
  have hb : ∀ o o', Below w.heap.size w ((w.alloc o).alloc o') := fun o o' => ((Below.refl _ _).alloc (Nat.le_refl _) _).alloc (by simp) _
  have sm : ∀ o o', Calls Try.prog 12 #[v1, v2] ((w.alloc o).alloc o') fun e w' => e = .returned (.bool (decide (l1 = l2))) ∧ w' = (w.alloc o).alloc o' := fun o o' => refSame_any S1 S2 _ _ _ _ _ (h1.below (hb o o') hS1) (h2.below (hb o o') hS2)
  have HB := Box'.mk hb
  have SM := Box'.mk sm
  obtain ⟨ad1, cp1, rfl, _⟩ := h1
  obtain ⟨ad2, cp2, rfl, _⟩ := h2
  have HM := Box'.mk (sameN.eq_1 k1 k2 c1 c2 r1 r2 a1 a2 l1 l2)
  generalize sameN k1 k2 c1 c2 r1 r2 a1 a2 l1 l2 = M at *
  clear hb sm hS1 hS2
  generalize l1.length = n1 at *
  generalize l2.length = n2 at *
  by_cases hk : k1 = k2
  · subst hk
    by_cases hl : l1 = l2
    · have hl' : decide (l1 = l2) = true := decide_eq_true hl
      rw [hl'] at SM
      have e : M = decide (c1 = c2 ∧ r1 = r2 ∧ a1 = a2) := by rw [HM.out]; simp [hl]
      clear HM hl' hl
      go_enter Try.func28, Try.ntmps28
      go_wp2_with fail
      refine (SM.out _ _).mono ?_
      rintro e2 w1 ⟨rfl, rfl⟩
      clear SM
      go_wp2_with fail
      all_goals (go_ret; refine ⟨?_, HB.out _ _⟩; subst e; refine congrArg (fun b => Ending.returned (.bool b)) ?_; (rw [Bool.eq_iff_iff]) <;> (simp only [beq_iff_eq, decide_eq_true_eq, Bool.false_eq_true, Bool.and_eq_true, false_iff]) <;> omega)
    · have hl' : decide (l1 = l2) = false := decide_eq_false hl
      rw [hl'] at SM
      have e : M = false := by rw [HM.out]; simp [hl]
      subst e
      clear HM hl' hl
      go_enter Try.func28, Try.ntmps28
      go_wp2_with fail
      refine (SM.out _ _).mono ?_
      rintro e2 w1 ⟨rfl, rfl⟩
      clear SM
      go_wp2_with fail
      go_ret
      exact ⟨rfl, HB.out _ _⟩
  · have e := HM.out
    rw [decide_eq_false (by rintro ⟨q1, q2, q3, q4, q5⟩; exact hk (by first | exact q1 | exact q2 | exact q3 | exact q4))] at e
    subst e
    have gg : ((k1 : Int) == (k2 : Int)) = false := by rw [beq_eq_false_iff_ne]; omega
    clear HM
    clear SM
    go_enter Try.func28, Try.ntmps28
    go_wp2_with fail
    go_ret
    exact ⟨rfl, HB.out _ _⟩

set_option maxRecDepth 100000 in
set_option maxHeartbeats 1000000 in
theorem isSide_any (x : Int) (w : World) : Calls Try.prog 47 #[.int .i64 x] w fun e w' => e = .returned (.bool (decide (1 ≤ x ∧ x ≤ 512))) ∧ w' = w := by
  obtain ⟨M, hM⟩ : ∃ M, M = decide (1 ≤ x ∧ x ≤ 512) := ⟨_, rfl⟩
  rw [← hM]
  have HM := Box'.mk hM
  clear hM
  go_enter Try.func47, Try.ntmps47
  go_wp2_with fail
  all_goals (go_ret; refine ⟨?_, rfl⟩; rw [HM.out]; refine congrArg (fun b => Ending.returned (.bool b)) ?_; (rw [Bool.eq_iff_iff]) <;> (simp only [beq_iff_eq, decide_eq_true_eq, Bool.false_eq_true, Bool.and_eq_true, false_iff]) <;> omega)
end Go.Proofs.Ytpgljhgfoihnjaa
