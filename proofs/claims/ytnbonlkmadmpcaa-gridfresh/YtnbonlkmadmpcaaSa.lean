/- Marks: mayMarks, withMark. -/
import Derived.Test.YtnbonlkmadmpcaaA
namespace Go.Proofs.Ytnbonlkmadmpcaa
open Go.RowKit Go.BigFrame
set_option linter.unusedVariables false
set_option linter.unusedSimpArgs false

theorem of_zero : ofF 0 = -1 := by decide +kernel
theorem of_ne {m : Int} (h : ofF m = 0) : ¬ m = 0 := by
  intro e; subst e; rw [of_zero] at h; cases h
/-- The first so many places have marks, the others none. -/
def Mj (j : Nat) (m0 m1 m2 : Int) : Prop :=
  (j = 0 ∧ m0 = 0 ∧ m1 = 0 ∧ m2 = 0) ∨ (j = 1 ∧ ofF m0 = 0 ∧ m1 = 0 ∧ m2 = 0) ∨ (j = 2 ∧ ofF m0 = 0 ∧ ofF m1 = 0 ∧ m2 = 0) ∨ (j = 3 ∧ ofF m0 = 0 ∧ ofF m1 = 0 ∧ ofF m2 = 0)
set_option maxRecDepth 100000 in
theorem s21 : (Try.prog.info? 21).map (·.size) = some 1 := by kernel_rfl
theorem wpList_idx {ops : Array Oper} {rest : List Oper} {op : Oper} {a : Act} {w : World} {Q : Exit → Act → World → Prop} (hgd : op.guard = none) (x i : Operand) (ho : op.op = .index 47 x i) (c : Array Value) (k : Nat) (v : Value) (hx : a.eval x = .agg c) (hi : a.eval i = .int .i64 (k : Int)) (hk : k < 3) (hc : c[k]? = some v)
    (h : wpList Try.prog ops Q rest (a.put op.dst v) w) : wpList Try.prog ops Q (op :: rest) a w := by
  refine wpList_plain hgd fun K hK => ?_
  unfold Oper.wp execOp
  simp only [ho, hx, hi, Sem.run_bind, run_index_arr w 47 21 3 c k v .i64 .i32 Try.underlying47 Try.underlying21 s21 hk hc, Result.andThen_ok, Sem.run_pure]
  exact hK _ _ h
def mA (m0 m1 m2 : Int) : Array Value := #[.int .i32 m0, .int .i32 m1, .int .i32 m2]
set_option maxHeartbeats 4000000 in
theorem mayMarks_0  (w : World) : Calls Try.prog 58 #[.agg #[.int .i32 0, .int .i32 0, .int .i32 0]] w fun e w' => e = .returned (.bool true) ∧ Below w.heap.size w w' := by
  have B1 := Box'.mk ((Below.refl w.heap.size w).alloc (Nat.le_refl _) (.cells #[.int .i32 0, .int .i32 0, .int .i32 0] 47))
  go_enter Try.func58, Try.ntmps58
  go_wp2_with fail
  generalize w.alloc (.cells #[.int .i32 0, .int .i32 0, .int .i32 0] 47) = w1 at *
  go_loopw [3, 7] (fun d i wr => ∃ k : Nat, k ≤ 3 ∧ i = .int .i64 (k : Int) ∧ d = .bool (decide (0 < k)) ∧ Box' (Below w.heap.size w wr)) (fun _ i _ => 3 - (intOf i).toNat)
  case atStart => exact ⟨0, by omega, rfl, rfl, B1⟩
  case round =>
    obtain ⟨k, hk, rfl, rfl, BB⟩ := hrel
    clear B1
    obtain rfl | rfl | rfl | rfl : k = 0 ∨ k = 1 ∨ k = 2 ∨ k = 3 := by omega
    · go_wp2_with (first | (refine wpList_idx rfl (.tmp 6) (.tmp 7) rfl #[.int .i32 0, .int .i32 0, .int .i32 0] 0 (.int .i32 0) rfl rfl (by decide) rfl ?_))
      exact ⟨⟨1, by omega, rfl, rfl, BB⟩, by simp [intOf]⟩
    · go_wp2_with (first | (refine wpList_idx rfl (.tmp 6) (.tmp 7) rfl #[.int .i32 0, .int .i32 0, .int .i32 0] 1 (.int .i32 0) rfl rfl (by decide) rfl ?_))
      exact ⟨⟨2, by omega, rfl, rfl, BB⟩, by simp [intOf]⟩
    · go_wp2_with (first | (refine wpList_idx rfl (.tmp 6) (.tmp 7) rfl #[.int .i32 0, .int .i32 0, .int .i32 0] 2 (.int .i32 0) rfl rfl (by decide) rfl ?_))
      exact ⟨⟨3, by omega, rfl, rfl, BB⟩, by simp [intOf]⟩
    · go_wp2_with fail
      go_ret
      exact ⟨rfl, BB.out⟩
set_option maxHeartbeats 4000000 in
theorem mayMarks_1 (m0 : Int) (h0 : ofF m0 = 0) (w : World) : Calls Try.prog 58 #[.agg #[.int .i32 m0, .int .i32 0, .int .i32 0]] w fun e w' => e = .returned (.bool true) ∧ Below w.heap.size w w' := by
  have z0 := of_ne h0
  have OF0 := Box'.mk (of_any m0)
  rw [h0] at OF0
  clear h0
  have B1 := Box'.mk ((Below.refl w.heap.size w).alloc (Nat.le_refl _) (.cells #[.int .i32 m0, .int .i32 0, .int .i32 0] 47))
  go_enter Try.func58, Try.ntmps58
  go_wp2_with fail
  generalize w.alloc (.cells #[.int .i32 m0, .int .i32 0, .int .i32 0] 47) = w1 at *
  go_loopw [3, 7] (fun d i wr => ∃ k : Nat, k ≤ 3 ∧ i = .int .i64 (k : Int) ∧ d = .bool (decide (1 < k)) ∧ Box' (Below w.heap.size w wr)) (fun _ i _ => 3 - (intOf i).toNat)
  case atStart => exact ⟨0, by omega, rfl, rfl, B1⟩
  case round =>
    obtain ⟨k, hk, rfl, rfl, BB⟩ := hrel
    clear B1
    obtain rfl | rfl | rfl | rfl : k = 0 ∨ k = 1 ∨ k = 2 ∨ k = 3 := by omega
    · go_wp2_with (first | (refine wpList_idx rfl (.tmp 6) (.tmp 7) rfl #[.int .i32 m0, .int .i32 0, .int .i32 0] 0 (.int .i32 m0) rfl rfl (by decide) rfl ?_))
      refine (OF0.out _).mono ?_
      rintro e w2 ⟨rfl, hb2⟩
      have B2 := Box'.mk (BB.out.trans (hb2.mono BB.out.size))
      clear hb2 BB
      go_wp2_with fail
      exact ⟨⟨1, by omega, rfl, rfl, B2⟩, by simp [intOf]⟩
    · go_wp2_with (first | (refine wpList_idx rfl (.tmp 6) (.tmp 7) rfl #[.int .i32 m0, .int .i32 0, .int .i32 0] 1 (.int .i32 0) rfl rfl (by decide) rfl ?_))
      exact ⟨⟨2, by omega, rfl, rfl, BB⟩, by simp [intOf]⟩
    · go_wp2_with (first | (refine wpList_idx rfl (.tmp 6) (.tmp 7) rfl #[.int .i32 m0, .int .i32 0, .int .i32 0] 2 (.int .i32 0) rfl rfl (by decide) rfl ?_))
      exact ⟨⟨3, by omega, rfl, rfl, BB⟩, by simp [intOf]⟩
    · go_wp2_with fail
      go_ret
      exact ⟨rfl, BB.out⟩
set_option maxHeartbeats 4000000 in
theorem mayMarks_2 (m0 m1 : Int) (h0 : ofF m0 = 0) (h1 : ofF m1 = 0) (w : World) : Calls Try.prog 58 #[.agg #[.int .i32 m0, .int .i32 m1, .int .i32 0]] w fun e w' => e = .returned (.bool true) ∧ Below w.heap.size w w' := by
  have z0 := of_ne h0
  have OF0 := Box'.mk (of_any m0)
  rw [h0] at OF0
  have z1 := of_ne h1
  have OF1 := Box'.mk (of_any m1)
  rw [h1] at OF1
  clear h0 h1
  have B1 := Box'.mk ((Below.refl w.heap.size w).alloc (Nat.le_refl _) (.cells #[.int .i32 m0, .int .i32 m1, .int .i32 0] 47))
  go_enter Try.func58, Try.ntmps58
  go_wp2_with fail
  generalize w.alloc (.cells #[.int .i32 m0, .int .i32 m1, .int .i32 0] 47) = w1 at *
  go_loopw [3, 7] (fun d i wr => ∃ k : Nat, k ≤ 3 ∧ i = .int .i64 (k : Int) ∧ d = .bool (decide (2 < k)) ∧ Box' (Below w.heap.size w wr)) (fun _ i _ => 3 - (intOf i).toNat)
  case atStart => exact ⟨0, by omega, rfl, rfl, B1⟩
  case round =>
    obtain ⟨k, hk, rfl, rfl, BB⟩ := hrel
    clear B1
    obtain rfl | rfl | rfl | rfl : k = 0 ∨ k = 1 ∨ k = 2 ∨ k = 3 := by omega
    · go_wp2_with (first | (refine wpList_idx rfl (.tmp 6) (.tmp 7) rfl #[.int .i32 m0, .int .i32 m1, .int .i32 0] 0 (.int .i32 m0) rfl rfl (by decide) rfl ?_))
      refine (OF0.out _).mono ?_
      rintro e w2 ⟨rfl, hb2⟩
      have B2 := Box'.mk (BB.out.trans (hb2.mono BB.out.size))
      clear hb2 BB
      go_wp2_with fail
      exact ⟨⟨1, by omega, rfl, rfl, B2⟩, by simp [intOf]⟩
    · go_wp2_with (first | (refine wpList_idx rfl (.tmp 6) (.tmp 7) rfl #[.int .i32 m0, .int .i32 m1, .int .i32 0] 1 (.int .i32 m1) rfl rfl (by decide) rfl ?_))
      refine (OF1.out _).mono ?_
      rintro e w2 ⟨rfl, hb2⟩
      have B2 := Box'.mk (BB.out.trans (hb2.mono BB.out.size))
      clear hb2 BB
      go_wp2_with fail
      exact ⟨⟨2, by omega, rfl, rfl, B2⟩, by simp [intOf]⟩
    · go_wp2_with (first | (refine wpList_idx rfl (.tmp 6) (.tmp 7) rfl #[.int .i32 m0, .int .i32 m1, .int .i32 0] 2 (.int .i32 0) rfl rfl (by decide) rfl ?_))
      exact ⟨⟨3, by omega, rfl, rfl, BB⟩, by simp [intOf]⟩
    · go_wp2_with fail
      go_ret
      exact ⟨rfl, BB.out⟩
set_option maxHeartbeats 4000000 in
theorem mayMarks_3 (m0 m1 m2 : Int) (h0 : ofF m0 = 0) (h1 : ofF m1 = 0) (h2 : ofF m2 = 0) (w : World) : Calls Try.prog 58 #[.agg #[.int .i32 m0, .int .i32 m1, .int .i32 m2]] w fun e w' => e = .returned (.bool true) ∧ Below w.heap.size w w' := by
  have z0 := of_ne h0
  have OF0 := Box'.mk (of_any m0)
  rw [h0] at OF0
  have z1 := of_ne h1
  have OF1 := Box'.mk (of_any m1)
  rw [h1] at OF1
  have z2 := of_ne h2
  have OF2 := Box'.mk (of_any m2)
  rw [h2] at OF2
  clear h0 h1 h2
  have B1 := Box'.mk ((Below.refl w.heap.size w).alloc (Nat.le_refl _) (.cells #[.int .i32 m0, .int .i32 m1, .int .i32 m2] 47))
  go_enter Try.func58, Try.ntmps58
  go_wp2_with fail
  generalize w.alloc (.cells #[.int .i32 m0, .int .i32 m1, .int .i32 m2] 47) = w1 at *
  go_loopw [3, 7] (fun d i wr => ∃ k : Nat, k ≤ 3 ∧ i = .int .i64 (k : Int) ∧ d = .bool (decide (3 < k)) ∧ Box' (Below w.heap.size w wr)) (fun _ i _ => 3 - (intOf i).toNat)
  case atStart => exact ⟨0, by omega, rfl, rfl, B1⟩
  case round =>
    obtain ⟨k, hk, rfl, rfl, BB⟩ := hrel
    clear B1
    obtain rfl | rfl | rfl | rfl : k = 0 ∨ k = 1 ∨ k = 2 ∨ k = 3 := by omega
    · go_wp2_with (first | (refine wpList_idx rfl (.tmp 6) (.tmp 7) rfl #[.int .i32 m0, .int .i32 m1, .int .i32 m2] 0 (.int .i32 m0) rfl rfl (by decide) rfl ?_))
      refine (OF0.out _).mono ?_
      rintro e w2 ⟨rfl, hb2⟩
      have B2 := Box'.mk (BB.out.trans (hb2.mono BB.out.size))
      clear hb2 BB
      go_wp2_with fail
      exact ⟨⟨1, by omega, rfl, rfl, B2⟩, by simp [intOf]⟩
    · go_wp2_with (first | (refine wpList_idx rfl (.tmp 6) (.tmp 7) rfl #[.int .i32 m0, .int .i32 m1, .int .i32 m2] 1 (.int .i32 m1) rfl rfl (by decide) rfl ?_))
      refine (OF1.out _).mono ?_
      rintro e w2 ⟨rfl, hb2⟩
      have B2 := Box'.mk (BB.out.trans (hb2.mono BB.out.size))
      clear hb2 BB
      go_wp2_with fail
      exact ⟨⟨2, by omega, rfl, rfl, B2⟩, by simp [intOf]⟩
    · go_wp2_with (first | (refine wpList_idx rfl (.tmp 6) (.tmp 7) rfl #[.int .i32 m0, .int .i32 m1, .int .i32 m2] 2 (.int .i32 m2) rfl rfl (by decide) rfl ?_))
      refine (OF2.out _).mono ?_
      rintro e w2 ⟨rfl, hb2⟩
      have B2 := Box'.mk (BB.out.trans (hb2.mono BB.out.size))
      clear hb2 BB
      go_wp2_with fail
      exact ⟨⟨3, by omega, rfl, rfl, B2⟩, by simp [intOf]⟩
    · go_wp2_with fail
      go_ret
      exact ⟨rfl, BB.out⟩
theorem mayMarks_any (j : Nat) (m0 m1 m2 : Int) (h : Mj j m0 m1 m2) (w : World) : Calls Try.prog 58 #[.agg (mA m0 m1 m2)] w fun e w' => e = .returned (.bool true) ∧ Below w.heap.size w w' := by
  rcases h with ⟨_, rfl, rfl, rfl⟩ | ⟨_, h0, rfl, rfl⟩ | ⟨_, h0, h1, rfl⟩ | ⟨_, h0, h1, h2⟩
  · exact mayMarks_0 w
  · exact mayMarks_1 m0 h0 w
  · exact mayMarks_2 m0 m1 h0 h1 w
  · exact mayMarks_3 m0 m1 m2 h0 h1 h2 w
end Go.Proofs.Ytnbonlkmadmpcaa
