/- Marks: mayMarks, withMark. -/
import Derived.Test.YtnlladjkajmpoaaA
namespace Go.Proofs.Ytnlladjkajmpoaa
open Go.RowKit Go.BigFrame
set_option linter.unusedVariables false
set_option linter.unusedSimpArgs false

theorem of_zero : ofF 0 = -1 := by decide +kernel
theorem of_ne {m : Int} (h : ofF m = 0) : ¬ m = 0 := by
  intro e; subst e; rw [of_zero] at h; cases h
/-- The first so many places have marks, the others none. -/
def Mj (j : Nat) (m0 m1 m2 : Int) : Prop :=
  (j = 0 ∧ m0 = 0 ∧ m1 = 0 ∧ m2 = 0) ∨ (j = 1 ∧ ofF m0 = 0 ∧ m1 = 0 ∧ m2 = 0) ∨ (j = 2 ∧ ofF m0 = 0 ∧ ofF m1 = 0 ∧ m2 = 0) ∨ (j = 3 ∧ ofF m0 = 0 ∧ ofF m1 = 0 ∧ ofF m2 = 0)
set_option maxRecDepth 100000 in
theorem s21 : (Try.prog.info? 21).map (·.size) = some 1 := by kernel_rfl
theorem wpList_idx {ops : Array Oper} {rest : List Oper} {op : Oper} {a : Act} {w : World} {Q : Exit → Act → World → Prop} (hgd : op.guard = none) (x i : Operand) (ho : op.op = .index 22 x i) (c : Array Value) (k : Nat) (v : Value) (hx : a.eval x = .agg c) (hi : a.eval i = .int .i64 (k : Int)) (hk : k < 3) (hc : c[k]? = some v)
    (h : wpList Try.prog ops Q rest (a.put op.dst v) w) : wpList Try.prog ops Q (op :: rest) a w := by
  refine wpList_plain hgd fun K hK => ?_
  unfold Oper.wp execOp
  simp only [ho, hx, hi, Sem.run_bind, run_index_arr w 22 21 3 c k v .i64 .i32 Try.underlying22 Try.underlying21 s21 hk hc, Result.andThen_ok, Sem.run_pure]
  exact hK _ _ h
def mA (m0 m1 m2 : Int) : Array Value := #[.int .i32 m0, .int .i32 m1, .int .i32 m2]
theorem results27 (tmps : Array Value) (b : Nat) (hx : tmps.getD 4 undef = .pointer (some ⟨b, 0, none⟩)) (w : World) (c : Array Value) (hr : Row w b 22 c) (hn : c.size = 3) : (results Try.f27 tmps).run Try.prog w = .ok (.agg c) w :=
  results_row (p := 4) (ty := 22) rfl tmps b hx 22 c hr _ Try.underlying22 rfl 3 (by kernel_rfl) hn
set_option maxHeartbeats 4000000 in
theorem mayMarks_0  (w : World) : Calls Try.prog 26 #[.agg #[.int .i32 0, .int .i32 0, .int .i32 0]] w fun e w' => e = .returned (.bool true) ∧ Below w.heap.size w w' := by
  have B1 := Box'.mk ((Below.refl w.heap.size w).alloc (Nat.le_refl _) (.cells #[.int .i32 0, .int .i32 0, .int .i32 0] 22))
  go_enter Try.func26, Try.ntmps26
  go_wp2_with fail
  generalize w.alloc (.cells #[.int .i32 0, .int .i32 0, .int .i32 0] 22) = w1 at *
  go_loopw [3, 7] (fun d i wr => ∃ k : Nat, k ≤ 3 ∧ i = .int .i64 (k : Int) ∧ d = .bool (decide (0 < k)) ∧ Box' (Below w.heap.size w wr)) (fun _ i _ => 3 - (intOf i).toNat)
  case atStart => exact ⟨0, by omega, rfl, rfl, B1⟩
  case round =>
    obtain ⟨k, hk, rfl, rfl, BB⟩ := hrel
    clear B1
    obtain rfl | rfl | rfl | rfl : k = 0 ∨ k = 1 ∨ k = 2 ∨ k = 3 := by omega
    · go_wp2_with (first | (refine wpList_idx rfl (.tmp 6) (.tmp 7) rfl #[.int .i32 0, .int .i32 0, .int .i32 0] 0 (.int .i32 0) rfl rfl (by decide) rfl ?_))
      exact ⟨⟨1, by omega, rfl, rfl, BB⟩, by simp [intOf]⟩
    · go_wp2_with (first | (refine wpList_idx rfl (.tmp 6) (.tmp 7) rfl #[.int .i32 0, .int .i32 0, .int .i32 0] 1 (.int .i32 0) rfl rfl (by decide) rfl ?_))
      exact ⟨⟨2, by omega, rfl, rfl, BB⟩, by simp [intOf]⟩
    · go_wp2_with (first | (refine wpList_idx rfl (.tmp 6) (.tmp 7) rfl #[.int .i32 0, .int .i32 0, .int .i32 0] 2 (.int .i32 0) rfl rfl (by decide) rfl ?_))
      exact ⟨⟨3, by omega, rfl, rfl, BB⟩, by simp [intOf]⟩
    · go_wp2_with fail
      go_ret
      exact ⟨rfl, BB.out⟩
set_option maxHeartbeats 4000000 in
theorem mayMarks_1 (m0 : Int) (h0 : ofF m0 = 0) (w : World) : Calls Try.prog 26 #[.agg #[.int .i32 m0, .int .i32 0, .int .i32 0]] w fun e w' => e = .returned (.bool true) ∧ Below w.heap.size w w' := by
  have z0 := of_ne h0
  have OF0 := Box'.mk (of_any m0)
  rw [h0] at OF0
  clear h0
  have B1 := Box'.mk ((Below.refl w.heap.size w).alloc (Nat.le_refl _) (.cells #[.int .i32 m0, .int .i32 0, .int .i32 0] 22))
  go_enter Try.func26, Try.ntmps26
  go_wp2_with fail
  generalize w.alloc (.cells #[.int .i32 m0, .int .i32 0, .int .i32 0] 22) = w1 at *
  go_loopw [3, 7] (fun d i wr => ∃ k : Nat, k ≤ 3 ∧ i = .int .i64 (k : Int) ∧ d = .bool (decide (1 < k)) ∧ Box' (Below w.heap.size w wr)) (fun _ i _ => 3 - (intOf i).toNat)
  case atStart => exact ⟨0, by omega, rfl, rfl, B1⟩
  case round =>
    obtain ⟨k, hk, rfl, rfl, BB⟩ := hrel
    clear B1
    obtain rfl | rfl | rfl | rfl : k = 0 ∨ k = 1 ∨ k = 2 ∨ k = 3 := by omega
    · go_wp2_with (first | (refine wpList_idx rfl (.tmp 6) (.tmp 7) rfl #[.int .i32 m0, .int .i32 0, .int .i32 0] 0 (.int .i32 m0) rfl rfl (by decide) rfl ?_))
      refine (OF0.out _).mono ?_
      rintro e w2 ⟨rfl, hb2⟩
      have B2 := Box'.mk (BB.out.trans (hb2.mono BB.out.size))
      clear hb2 BB
      go_wp2_with fail
      exact ⟨⟨1, by omega, rfl, rfl, B2⟩, by simp [intOf]⟩
    · go_wp2_with (first | (refine wpList_idx rfl (.tmp 6) (.tmp 7) rfl #[.int .i32 m0, .int .i32 0, .int .i32 0] 1 (.int .i32 0) rfl rfl (by decide) rfl ?_))
      exact ⟨⟨2, by omega, rfl, rfl, BB⟩, by simp [intOf]⟩
    · go_wp2_with (first | (refine wpList_idx rfl (.tmp 6) (.tmp 7) rfl #[.int .i32 m0, .int .i32 0, .int .i32 0] 2 (.int .i32 0) rfl rfl (by decide) rfl ?_))
      exact ⟨⟨3, by omega, rfl, rfl, BB⟩, by simp [intOf]⟩
    · go_wp2_with fail
      go_ret
      exact ⟨rfl, BB.out⟩
set_option maxHeartbeats 4000000 in
theorem mayMarks_2 (m0 m1 : Int) (h0 : ofF m0 = 0) (h1 : ofF m1 = 0) (w : World) : Calls Try.prog 26 #[.agg #[.int .i32 m0, .int .i32 m1, .int .i32 0]] w fun e w' => e = .returned (.bool true) ∧ Below w.heap.size w w' := by
  have z0 := of_ne h0
  have OF0 := Box'.mk (of_any m0)
  rw [h0] at OF0
  have z1 := of_ne h1
  have OF1 := Box'.mk (of_any m1)
  rw [h1] at OF1
  clear h0 h1
  have B1 := Box'.mk ((Below.refl w.heap.size w).alloc (Nat.le_refl _) (.cells #[.int .i32 m0, .int .i32 m1, .int .i32 0] 22))
  go_enter Try.func26, Try.ntmps26
  go_wp2_with fail
  generalize w.alloc (.cells #[.int .i32 m0, .int .i32 m1, .int .i32 0] 22) = w1 at *
  go_loopw [3, 7] (fun d i wr => ∃ k : Nat, k ≤ 3 ∧ i = .int .i64 (k : Int) ∧ d = .bool (decide (2 < k)) ∧ Box' (Below w.heap.size w wr)) (fun _ i _ => 3 - (intOf i).toNat)
  case atStart => exact ⟨0, by omega, rfl, rfl, B1⟩
  case round =>
    obtain ⟨k, hk, rfl, rfl, BB⟩ := hrel
    clear B1
    obtain rfl | rfl | rfl | rfl : k = 0 ∨ k = 1 ∨ k = 2 ∨ k = 3 := by omega
    · go_wp2_with (first | (refine wpList_idx rfl (.tmp 6) (.tmp 7) rfl #[.int .i32 m0, .int .i32 m1, .int .i32 0] 0 (.int .i32 m0) rfl rfl (by decide) rfl ?_))
      refine (OF0.out _).mono ?_
      rintro e w2 ⟨rfl, hb2⟩
      have B2 := Box'.mk (BB.out.trans (hb2.mono BB.out.size))
      clear hb2 BB
      go_wp2_with fail
      exact ⟨⟨1, by omega, rfl, rfl, B2⟩, by simp [intOf]⟩
    · go_wp2_with (first | (refine wpList_idx rfl (.tmp 6) (.tmp 7) rfl #[.int .i32 m0, .int .i32 m1, .int .i32 0] 1 (.int .i32 m1) rfl rfl (by decide) rfl ?_))
      refine (OF1.out _).mono ?_
      rintro e w2 ⟨rfl, hb2⟩
      have B2 := Box'.mk (BB.out.trans (hb2.mono BB.out.size))
      clear hb2 BB
      go_wp2_with fail
      exact ⟨⟨2, by omega, rfl, rfl, B2⟩, by simp [intOf]⟩
    · go_wp2_with (first | (refine wpList_idx rfl (.tmp 6) (.tmp 7) rfl #[.int .i32 m0, .int .i32 m1, .int .i32 0] 2 (.int .i32 0) rfl rfl (by decide) rfl ?_))
      exact ⟨⟨3, by omega, rfl, rfl, BB⟩, by simp [intOf]⟩
    · go_wp2_with fail
      go_ret
      exact ⟨rfl, BB.out⟩
set_option maxHeartbeats 4000000 in
theorem mayMarks_3 (m0 m1 m2 : Int) (h0 : ofF m0 = 0) (h1 : ofF m1 = 0) (h2 : ofF m2 = 0) (w : World) : Calls Try.prog 26 #[.agg #[.int .i32 m0, .int .i32 m1, .int .i32 m2]] w fun e w' => e = .returned (.bool true) ∧ Below w.heap.size w w' := by
  have z0 := of_ne h0
  have OF0 := Box'.mk (of_any m0)
  rw [h0] at OF0
  have z1 := of_ne h1
  have OF1 := Box'.mk (of_any m1)
  rw [h1] at OF1
  have z2 := of_ne h2
  have OF2 := Box'.mk (of_any m2)
  rw [h2] at OF2
  clear h0 h1 h2
  have B1 := Box'.mk ((Below.refl w.heap.size w).alloc (Nat.le_refl _) (.cells #[.int .i32 m0, .int .i32 m1, .int .i32 m2] 22))
  go_enter Try.func26, Try.ntmps26
  go_wp2_with fail
  generalize w.alloc (.cells #[.int .i32 m0, .int .i32 m1, .int .i32 m2] 22) = w1 at *
  go_loopw [3, 7] (fun d i wr => ∃ k : Nat, k ≤ 3 ∧ i = .int .i64 (k : Int) ∧ d = .bool (decide (3 < k)) ∧ Box' (Below w.heap.size w wr)) (fun _ i _ => 3 - (intOf i).toNat)
  case atStart => exact ⟨0, by omega, rfl, rfl, B1⟩
  case round =>
    obtain ⟨k, hk, rfl, rfl, BB⟩ := hrel
    clear B1
    obtain rfl | rfl | rfl | rfl : k = 0 ∨ k = 1 ∨ k = 2 ∨ k = 3 := by omega
    · go_wp2_with (first | (refine wpList_idx rfl (.tmp 6) (.tmp 7) rfl #[.int .i32 m0, .int .i32 m1, .int .i32 m2] 0 (.int .i32 m0) rfl rfl (by decide) rfl ?_))
      refine (OF0.out _).mono ?_
      rintro e w2 ⟨rfl, hb2⟩
      have B2 := Box'.mk (BB.out.trans (hb2.mono BB.out.size))
      clear hb2 BB
      go_wp2_with fail
      exact ⟨⟨1, by omega, rfl, rfl, B2⟩, by simp [intOf]⟩
    · go_wp2_with (first | (refine wpList_idx rfl (.tmp 6) (.tmp 7) rfl #[.int .i32 m0, .int .i32 m1, .int .i32 m2] 1 (.int .i32 m1) rfl rfl (by decide) rfl ?_))
      refine (OF1.out _).mono ?_
      rintro e w2 ⟨rfl, hb2⟩
      have B2 := Box'.mk (BB.out.trans (hb2.mono BB.out.size))
      clear hb2 BB
      go_wp2_with fail
      exact ⟨⟨2, by omega, rfl, rfl, B2⟩, by simp [intOf]⟩
    · go_wp2_with (first | (refine wpList_idx rfl (.tmp 6) (.tmp 7) rfl #[.int .i32 m0, .int .i32 m1, .int .i32 m2] 2 (.int .i32 m2) rfl rfl (by decide) rfl ?_))
      refine (OF2.out _).mono ?_
      rintro e w2 ⟨rfl, hb2⟩
      have B2 := Box'.mk (BB.out.trans (hb2.mono BB.out.size))
      clear hb2 BB
      go_wp2_with fail
      exact ⟨⟨3, by omega, rfl, rfl, B2⟩, by simp [intOf]⟩
    · go_wp2_with fail
      go_ret
      exact ⟨rfl, BB.out⟩
theorem mayMarks_any (j : Nat) (m0 m1 m2 : Int) (h : Mj j m0 m1 m2) (w : World) : Calls Try.prog 26 #[.agg (mA m0 m1 m2)] w fun e w' => e = .returned (.bool true) ∧ Below w.heap.size w w' := by
  rcases h with ⟨_, rfl, rfl, rfl⟩ | ⟨_, h0, rfl, rfl⟩ | ⟨_, h0, h1, rfl⟩ | ⟨_, h0, h1, h2⟩
  · exact mayMarks_0 w
  · exact mayMarks_1 m0 h0 w
  · exact mayMarks_2 m0 m1 h0 h1 w
  · exact mayMarks_3 m0 m1 m2 h0 h1 h2 w
set_option maxHeartbeats 4000000 in
theorem withMark_0  (c : Int) (w : World) : Calls Try.prog 27 #[.agg #[.int .i32 0, .int .i32 0, .int .i32 0], .int .i32 c] w fun e w' => e = .returned (.agg #[.int .i32 c, .int .i32 0, .int .i32 0]) ∧ Below w.heap.size w w' := by
  have R5 : Box' (Row (((w.alloc (.cells #[.int .i32 0, .int .i32 0, .int .i32 0] 22)).alloc (.cells #[.int .i32 0, .int .i32 0, .int .i32 0] 22)).alloc (.cells #[.int .i32 0, .int .i32 0, .int .i32 0] 22)) (w.heap.size + 1 + 1) 22 #[.int .i32 0, .int .i32 0, .int .i32 0]) := ⟨Row.made _ _ _ _ _ rfl (by simp)⟩
  have R4 : Box' (Room (((w.alloc (.cells #[.int .i32 0, .int .i32 0, .int .i32 0] 22)).alloc (.cells #[.int .i32 0, .int .i32 0, .int .i32 0] 22)).alloc (.cells #[.int .i32 0, .int .i32 0, .int .i32 0] 22)) (w.heap.size + 1) 22 3) := ⟨(Room.made _ _ _ _ _ rfl (by simp)).alloc _⟩
  have B1 : Box' (Below w.heap.size w (((w.alloc (.cells #[.int .i32 0, .int .i32 0, .int .i32 0] 22)).alloc (.cells #[.int .i32 0, .int .i32 0, .int .i32 0] 22)).alloc (.cells #[.int .i32 0, .int .i32 0, .int .i32 0] 22))) := ⟨(((Below.refl w.heap.size w).alloc (Nat.le_refl _) _).alloc (by simp) _).alloc (by simp; omega) _⟩
  go_enter Try.func27, Try.ntmps27
  go_wp2_with fail
  generalize (((w.alloc (.cells #[.int .i32 0, .int .i32 0, .int .i32 0] 22)).alloc (.cells #[.int .i32 0, .int .i32 0, .int .i32 0] 22)).alloc (.cells #[.int .i32 0, .int .i32 0, .int .i32 0] 22)) = w1 at *
  go_loopw [6, 10] (fun d i wr => ∃ (k : Nat) (x0 x1 x2 : Int), k ≤ 3 ∧ i = .int .i64 (k : Int) ∧ d = .int .i64 ((min k 0 : Nat) : Int) ∧ Box' (x0 = (if 0 < k then 0 else 0) ∧ x1 = (if 1 < k then 0 else 0) ∧ x2 = (if 2 < k then 0 else 0)) ∧ Box' (Row wr (w.heap.size + 1 + 1) 22 #[.int .i32 x0, .int .i32 x1, .int .i32 x2]) ∧ Box' (Room wr (w.heap.size + 1) 22 3) ∧ Box' (Below w.heap.size w wr)) (fun _ i _ => 3 - (intOf i).toNat)
  case atStart => exact ⟨0, 0, 0, 0, by omega, rfl, rfl, ⟨by simp⟩, R5, R4, B1⟩
  case round =>
    obtain ⟨k, x0, x1, x2, hk, rfl, rfl, XX, RR, RM, BB⟩ := hrel
    clear B1 R4 R5
    have c0 : wr.cell? ⟨w.heap.size + 1 + 1, 0, none⟩ = some (.int .i32 x0) := RR.out.cell 0
    have c1 : wr.cell? ⟨w.heap.size + 1 + 1, 1, none⟩ = some (.int .i32 x1) := RR.out.cell 1
    have c2 : wr.cell? ⟨w.heap.size + 1 + 1, 2, none⟩ = some (.int .i32 x2) := RR.out.cell 2
    have f0 := RR.out.frozen 0
    have f1 := RR.out.frozen 1
    have f2 := RR.out.frozen 2
    obtain rfl | rfl | rfl | rfl : k = 0 ∨ k = 1 ∨ k = 2 ∨ k = 3 := by omega
    · go_wp2_with (first | (refine wpList_idx rfl (.tmp 9) (.tmp 10) rfl #[.int .i32 0, .int .i32 0, .int .i32 0] 0 (.int .i32 0) rfl rfl (by decide) rfl ?_))
      exact ⟨⟨1, x0, x1, x2, by omega, rfl, rfl, ⟨by obtain ⟨e0, e1, e2⟩ := XX.out; simp at e0 e1 e2; refine ⟨?_, ?_, ?_⟩ <;> simp <;> assumption⟩, RR, RM, BB⟩, by simp [intOf]⟩
    · go_wp2_with (first | (refine wpList_idx rfl (.tmp 9) (.tmp 10) rfl #[.int .i32 0, .int .i32 0, .int .i32 0] 1 (.int .i32 0) rfl rfl (by decide) rfl ?_))
      exact ⟨⟨2, x0, x1, x2, by omega, rfl, rfl, ⟨by obtain ⟨e0, e1, e2⟩ := XX.out; simp at e0 e1 e2; refine ⟨?_, ?_, ?_⟩ <;> simp <;> assumption⟩, RR, RM, BB⟩, by simp [intOf]⟩
    · go_wp2_with (first | (refine wpList_idx rfl (.tmp 9) (.tmp 10) rfl #[.int .i32 0, .int .i32 0, .int .i32 0] 2 (.int .i32 0) rfl rfl (by decide) rfl ?_))
      exact ⟨⟨3, x0, x1, x2, by omega, rfl, rfl, ⟨by obtain ⟨e0, e1, e2⟩ := XX.out; simp at e0 e1 e2; refine ⟨?_, ?_, ?_⟩ <;> simp <;> assumption⟩, RR, RM, BB⟩, by simp [intOf]⟩
    · obtain ⟨e0, e1, e2⟩ := XX.out
      simp at e0 e1 e2
      rw [e0] at RR c0
      rw [e1] at RR c1
      rw [e2] at RR c2
      clear XX e0 e1 e2
      have S22 : Box' ((Try.prog.info? 22).map (·.size) = some 3) := ⟨by kernel_rfl⟩
      have ON : Box' ((#[.int .i32 c, .int .i32 0, .int .i32 0] : Array Value).all (·.oneCell') = true) := ⟨by simp [Value.oneCell']⟩
      have RX : Box' (Room (wr.setCell ⟨w.heap.size + 1 + 1, 0, none⟩ (.int .i32 c)) (w.heap.size + 1) 22 3) := ⟨RM.out.setOther _ _ (by show w.heap.size + 1 ≠ w.heap.size + 1 + 1; omega)⟩
      have BX : Box' (Below w.heap.size w (wr.setCell ⟨w.heap.size + 1 + 1, 0, none⟩ (.int .i32 c))) := ⟨BB.out.setCell (by show w.heap.size ≤ w.heap.size + 1 + 1; omega) _⟩
      go_wp2_with (first
        | (refine wpList_store_row rfl 22 (.tmp 4) (.tmp 26) rfl (w.heap.size + 1) rfl #[.int .i32 c, .int .i32 0, .int .i32 0] rfl 22 3 RX.out S22.out rfl ON.out ?_))
      exact bodyPost_ret (results27 _ (w.heap.size + 1) rfl _ _ (RX.out.setRow _) rfl) rfl ⟨rfl, below_setRow BX.out (by omega) _⟩
set_option maxHeartbeats 4000000 in
theorem withMark_1 (m0 : Int) (z0 : ¬ m0 = 0) (c : Int) (w : World) : Calls Try.prog 27 #[.agg #[.int .i32 m0, .int .i32 0, .int .i32 0], .int .i32 c] w fun e w' => e = .returned (.agg #[.int .i32 m0, .int .i32 c, .int .i32 0]) ∧ Below w.heap.size w w' := by
  have R5 : Box' (Row (((w.alloc (.cells #[.int .i32 m0, .int .i32 0, .int .i32 0] 22)).alloc (.cells #[.int .i32 0, .int .i32 0, .int .i32 0] 22)).alloc (.cells #[.int .i32 0, .int .i32 0, .int .i32 0] 22)) (w.heap.size + 1 + 1) 22 #[.int .i32 0, .int .i32 0, .int .i32 0]) := ⟨Row.made _ _ _ _ _ rfl (by simp)⟩
  have R4 : Box' (Room (((w.alloc (.cells #[.int .i32 m0, .int .i32 0, .int .i32 0] 22)).alloc (.cells #[.int .i32 0, .int .i32 0, .int .i32 0] 22)).alloc (.cells #[.int .i32 0, .int .i32 0, .int .i32 0] 22)) (w.heap.size + 1) 22 3) := ⟨(Room.made _ _ _ _ _ rfl (by simp)).alloc _⟩
  have B1 : Box' (Below w.heap.size w (((w.alloc (.cells #[.int .i32 m0, .int .i32 0, .int .i32 0] 22)).alloc (.cells #[.int .i32 0, .int .i32 0, .int .i32 0] 22)).alloc (.cells #[.int .i32 0, .int .i32 0, .int .i32 0] 22))) := ⟨(((Below.refl w.heap.size w).alloc (Nat.le_refl _) _).alloc (by simp) _).alloc (by simp; omega) _⟩
  go_enter Try.func27, Try.ntmps27
  go_wp2_with fail
  generalize (((w.alloc (.cells #[.int .i32 m0, .int .i32 0, .int .i32 0] 22)).alloc (.cells #[.int .i32 0, .int .i32 0, .int .i32 0] 22)).alloc (.cells #[.int .i32 0, .int .i32 0, .int .i32 0] 22)) = w1 at *
  go_loopw [6, 10] (fun d i wr => ∃ (k : Nat) (x0 x1 x2 : Int), k ≤ 3 ∧ i = .int .i64 (k : Int) ∧ d = .int .i64 ((min k 1 : Nat) : Int) ∧ Box' (x0 = (if 0 < k then m0 else 0) ∧ x1 = (if 1 < k then 0 else 0) ∧ x2 = (if 2 < k then 0 else 0)) ∧ Box' (Row wr (w.heap.size + 1 + 1) 22 #[.int .i32 x0, .int .i32 x1, .int .i32 x2]) ∧ Box' (Room wr (w.heap.size + 1) 22 3) ∧ Box' (Below w.heap.size w wr)) (fun _ i _ => 3 - (intOf i).toNat)
  case atStart => exact ⟨0, 0, 0, 0, by omega, rfl, rfl, ⟨by simp⟩, R5, R4, B1⟩
  case round =>
    obtain ⟨k, x0, x1, x2, hk, rfl, rfl, XX, RR, RM, BB⟩ := hrel
    clear B1 R4 R5
    have c0 : wr.cell? ⟨w.heap.size + 1 + 1, 0, none⟩ = some (.int .i32 x0) := RR.out.cell 0
    have c1 : wr.cell? ⟨w.heap.size + 1 + 1, 1, none⟩ = some (.int .i32 x1) := RR.out.cell 1
    have c2 : wr.cell? ⟨w.heap.size + 1 + 1, 2, none⟩ = some (.int .i32 x2) := RR.out.cell 2
    have f0 := RR.out.frozen 0
    have f1 := RR.out.frozen 1
    have f2 := RR.out.frozen 2
    obtain rfl | rfl | rfl | rfl : k = 0 ∨ k = 1 ∨ k = 2 ∨ k = 3 := by omega
    · go_wp2_with (first | (refine wpList_idx rfl (.tmp 9) (.tmp 10) rfl #[.int .i32 m0, .int .i32 0, .int .i32 0] 0 (.int .i32 m0) rfl rfl (by decide) rfl ?_))
      exact ⟨⟨1, m0, x1, x2, by omega, rfl, rfl, ⟨by obtain ⟨e0, e1, e2⟩ := XX.out; simp at e0 e1 e2; refine ⟨?_, ?_, ?_⟩ <;> simp <;> assumption⟩, ⟨RR.out.setCell 0 _⟩, ⟨RM.out.setOther _ _ (by show w.heap.size + 1 ≠ w.heap.size + 1 + 1; omega)⟩, ⟨BB.out.setCell (by show w.heap.size ≤ w.heap.size + 1 + 1; omega) _⟩⟩, by simp [intOf]⟩
    · go_wp2_with (first | (refine wpList_idx rfl (.tmp 9) (.tmp 10) rfl #[.int .i32 m0, .int .i32 0, .int .i32 0] 1 (.int .i32 0) rfl rfl (by decide) rfl ?_))
      exact ⟨⟨2, x0, x1, x2, by omega, rfl, rfl, ⟨by obtain ⟨e0, e1, e2⟩ := XX.out; simp at e0 e1 e2; refine ⟨?_, ?_, ?_⟩ <;> simp <;> assumption⟩, RR, RM, BB⟩, by simp [intOf]⟩
    · go_wp2_with (first | (refine wpList_idx rfl (.tmp 9) (.tmp 10) rfl #[.int .i32 m0, .int .i32 0, .int .i32 0] 2 (.int .i32 0) rfl rfl (by decide) rfl ?_))
      exact ⟨⟨3, x0, x1, x2, by omega, rfl, rfl, ⟨by obtain ⟨e0, e1, e2⟩ := XX.out; simp at e0 e1 e2; refine ⟨?_, ?_, ?_⟩ <;> simp <;> assumption⟩, RR, RM, BB⟩, by simp [intOf]⟩
    · obtain ⟨e0, e1, e2⟩ := XX.out
      simp at e0 e1 e2
      rw [e0] at RR c0
      rw [e1] at RR c1
      rw [e2] at RR c2
      clear XX e0 e1 e2
      have S22 : Box' ((Try.prog.info? 22).map (·.size) = some 3) := ⟨by kernel_rfl⟩
      have ON : Box' ((#[.int .i32 m0, .int .i32 c, .int .i32 0] : Array Value).all (·.oneCell') = true) := ⟨by simp [Value.oneCell']⟩
      have RX : Box' (Room (wr.setCell ⟨w.heap.size + 1 + 1, 1, none⟩ (.int .i32 c)) (w.heap.size + 1) 22 3) := ⟨RM.out.setOther _ _ (by show w.heap.size + 1 ≠ w.heap.size + 1 + 1; omega)⟩
      have BX : Box' (Below w.heap.size w (wr.setCell ⟨w.heap.size + 1 + 1, 1, none⟩ (.int .i32 c))) := ⟨BB.out.setCell (by show w.heap.size ≤ w.heap.size + 1 + 1; omega) _⟩
      go_wp2_with (first
        | (refine wpList_store_row rfl 22 (.tmp 4) (.tmp 26) rfl (w.heap.size + 1) rfl #[.int .i32 m0, .int .i32 c, .int .i32 0] rfl 22 3 RX.out S22.out rfl ON.out ?_))
      exact bodyPost_ret (results27 _ (w.heap.size + 1) rfl _ _ (RX.out.setRow _) rfl) rfl ⟨rfl, below_setRow BX.out (by omega) _⟩
set_option maxHeartbeats 4000000 in
theorem withMark_2 (m0 m1 : Int) (z0 : ¬ m0 = 0) (z1 : ¬ m1 = 0) (c : Int) (w : World) : Calls Try.prog 27 #[.agg #[.int .i32 m0, .int .i32 m1, .int .i32 0], .int .i32 c] w fun e w' => e = .returned (.agg #[.int .i32 m0, .int .i32 m1, .int .i32 c]) ∧ Below w.heap.size w w' := by
  have R5 : Box' (Row (((w.alloc (.cells #[.int .i32 m0, .int .i32 m1, .int .i32 0] 22)).alloc (.cells #[.int .i32 0, .int .i32 0, .int .i32 0] 22)).alloc (.cells #[.int .i32 0, .int .i32 0, .int .i32 0] 22)) (w.heap.size + 1 + 1) 22 #[.int .i32 0, .int .i32 0, .int .i32 0]) := ⟨Row.made _ _ _ _ _ rfl (by simp)⟩
  have R4 : Box' (Room (((w.alloc (.cells #[.int .i32 m0, .int .i32 m1, .int .i32 0] 22)).alloc (.cells #[.int .i32 0, .int .i32 0, .int .i32 0] 22)).alloc (.cells #[.int .i32 0, .int .i32 0, .int .i32 0] 22)) (w.heap.size + 1) 22 3) := ⟨(Room.made _ _ _ _ _ rfl (by simp)).alloc _⟩
  have B1 : Box' (Below w.heap.size w (((w.alloc (.cells #[.int .i32 m0, .int .i32 m1, .int .i32 0] 22)).alloc (.cells #[.int .i32 0, .int .i32 0, .int .i32 0] 22)).alloc (.cells #[.int .i32 0, .int .i32 0, .int .i32 0] 22))) := ⟨(((Below.refl w.heap.size w).alloc (Nat.le_refl _) _).alloc (by simp) _).alloc (by simp; omega) _⟩
  go_enter Try.func27, Try.ntmps27
  go_wp2_with fail
  generalize (((w.alloc (.cells #[.int .i32 m0, .int .i32 m1, .int .i32 0] 22)).alloc (.cells #[.int .i32 0, .int .i32 0, .int .i32 0] 22)).alloc (.cells #[.int .i32 0, .int .i32 0, .int .i32 0] 22)) = w1 at *
  go_loopw [6, 10] (fun d i wr => ∃ (k : Nat) (x0 x1 x2 : Int), k ≤ 3 ∧ i = .int .i64 (k : Int) ∧ d = .int .i64 ((min k 2 : Nat) : Int) ∧ Box' (x0 = (if 0 < k then m0 else 0) ∧ x1 = (if 1 < k then m1 else 0) ∧ x2 = (if 2 < k then 0 else 0)) ∧ Box' (Row wr (w.heap.size + 1 + 1) 22 #[.int .i32 x0, .int .i32 x1, .int .i32 x2]) ∧ Box' (Room wr (w.heap.size + 1) 22 3) ∧ Box' (Below w.heap.size w wr)) (fun _ i _ => 3 - (intOf i).toNat)
  case atStart => exact ⟨0, 0, 0, 0, by omega, rfl, rfl, ⟨by simp⟩, R5, R4, B1⟩
  case round =>
    obtain ⟨k, x0, x1, x2, hk, rfl, rfl, XX, RR, RM, BB⟩ := hrel
    clear B1 R4 R5
    have c0 : wr.cell? ⟨w.heap.size + 1 + 1, 0, none⟩ = some (.int .i32 x0) := RR.out.cell 0
    have c1 : wr.cell? ⟨w.heap.size + 1 + 1, 1, none⟩ = some (.int .i32 x1) := RR.out.cell 1
    have c2 : wr.cell? ⟨w.heap.size + 1 + 1, 2, none⟩ = some (.int .i32 x2) := RR.out.cell 2
    have f0 := RR.out.frozen 0
    have f1 := RR.out.frozen 1
    have f2 := RR.out.frozen 2
    obtain rfl | rfl | rfl | rfl : k = 0 ∨ k = 1 ∨ k = 2 ∨ k = 3 := by omega
    · go_wp2_with (first | (refine wpList_idx rfl (.tmp 9) (.tmp 10) rfl #[.int .i32 m0, .int .i32 m1, .int .i32 0] 0 (.int .i32 m0) rfl rfl (by decide) rfl ?_))
      exact ⟨⟨1, m0, x1, x2, by omega, rfl, rfl, ⟨by obtain ⟨e0, e1, e2⟩ := XX.out; simp at e0 e1 e2; refine ⟨?_, ?_, ?_⟩ <;> simp <;> assumption⟩, ⟨RR.out.setCell 0 _⟩, ⟨RM.out.setOther _ _ (by show w.heap.size + 1 ≠ w.heap.size + 1 + 1; omega)⟩, ⟨BB.out.setCell (by show w.heap.size ≤ w.heap.size + 1 + 1; omega) _⟩⟩, by simp [intOf]⟩
    · go_wp2_with (first | (refine wpList_idx rfl (.tmp 9) (.tmp 10) rfl #[.int .i32 m0, .int .i32 m1, .int .i32 0] 1 (.int .i32 m1) rfl rfl (by decide) rfl ?_))
      exact ⟨⟨2, x0, m1, x2, by omega, rfl, rfl, ⟨by obtain ⟨e0, e1, e2⟩ := XX.out; simp at e0 e1 e2; refine ⟨?_, ?_, ?_⟩ <;> simp <;> assumption⟩, ⟨RR.out.setCell 1 _⟩, ⟨RM.out.setOther _ _ (by show w.heap.size + 1 ≠ w.heap.size + 1 + 1; omega)⟩, ⟨BB.out.setCell (by show w.heap.size ≤ w.heap.size + 1 + 1; omega) _⟩⟩, by simp [intOf]⟩
    · go_wp2_with (first | (refine wpList_idx rfl (.tmp 9) (.tmp 10) rfl #[.int .i32 m0, .int .i32 m1, .int .i32 0] 2 (.int .i32 0) rfl rfl (by decide) rfl ?_))
      exact ⟨⟨3, x0, x1, x2, by omega, rfl, rfl, ⟨by obtain ⟨e0, e1, e2⟩ := XX.out; simp at e0 e1 e2; refine ⟨?_, ?_, ?_⟩ <;> simp <;> assumption⟩, RR, RM, BB⟩, by simp [intOf]⟩
    · obtain ⟨e0, e1, e2⟩ := XX.out
      simp at e0 e1 e2
      rw [e0] at RR c0
      rw [e1] at RR c1
      rw [e2] at RR c2
      clear XX e0 e1 e2
      have S22 : Box' ((Try.prog.info? 22).map (·.size) = some 3) := ⟨by kernel_rfl⟩
      have ON : Box' ((#[.int .i32 m0, .int .i32 m1, .int .i32 c] : Array Value).all (·.oneCell') = true) := ⟨by simp [Value.oneCell']⟩
      have RX : Box' (Room (wr.setCell ⟨w.heap.size + 1 + 1, 2, none⟩ (.int .i32 c)) (w.heap.size + 1) 22 3) := ⟨RM.out.setOther _ _ (by show w.heap.size + 1 ≠ w.heap.size + 1 + 1; omega)⟩
      have BX : Box' (Below w.heap.size w (wr.setCell ⟨w.heap.size + 1 + 1, 2, none⟩ (.int .i32 c))) := ⟨BB.out.setCell (by show w.heap.size ≤ w.heap.size + 1 + 1; omega) _⟩
      go_wp2_with (first
        | (refine wpList_store_row rfl 22 (.tmp 4) (.tmp 26) rfl (w.heap.size + 1) rfl #[.int .i32 m0, .int .i32 m1, .int .i32 c] rfl 22 3 RX.out S22.out rfl ON.out ?_))
      exact bodyPost_ret (results27 _ (w.heap.size + 1) rfl _ _ (RX.out.setRow _) rfl) rfl ⟨rfl, below_setRow BX.out (by omega) _⟩
set_option maxHeartbeats 4000000 in
theorem withMark_3 (m0 m1 m2 : Int) (z0 : ¬ m0 = 0) (z1 : ¬ m1 = 0) (z2 : ¬ m2 = 0) (c : Int) (w : World) : Calls Try.prog 27 #[.agg #[.int .i32 m0, .int .i32 m1, .int .i32 m2], .int .i32 c] w fun e w' => e = .returned (.agg #[.int .i32 m0, .int .i32 m1, .int .i32 m2]) ∧ Below w.heap.size w w' := by
  have R5 : Box' (Row (((w.alloc (.cells #[.int .i32 m0, .int .i32 m1, .int .i32 m2] 22)).alloc (.cells #[.int .i32 0, .int .i32 0, .int .i32 0] 22)).alloc (.cells #[.int .i32 0, .int .i32 0, .int .i32 0] 22)) (w.heap.size + 1 + 1) 22 #[.int .i32 0, .int .i32 0, .int .i32 0]) := ⟨Row.made _ _ _ _ _ rfl (by simp)⟩
  have R4 : Box' (Room (((w.alloc (.cells #[.int .i32 m0, .int .i32 m1, .int .i32 m2] 22)).alloc (.cells #[.int .i32 0, .int .i32 0, .int .i32 0] 22)).alloc (.cells #[.int .i32 0, .int .i32 0, .int .i32 0] 22)) (w.heap.size + 1) 22 3) := ⟨(Room.made _ _ _ _ _ rfl (by simp)).alloc _⟩
  have B1 : Box' (Below w.heap.size w (((w.alloc (.cells #[.int .i32 m0, .int .i32 m1, .int .i32 m2] 22)).alloc (.cells #[.int .i32 0, .int .i32 0, .int .i32 0] 22)).alloc (.cells #[.int .i32 0, .int .i32 0, .int .i32 0] 22))) := ⟨(((Below.refl w.heap.size w).alloc (Nat.le_refl _) _).alloc (by simp) _).alloc (by simp; omega) _⟩
  go_enter Try.func27, Try.ntmps27
  go_wp2_with fail
  generalize (((w.alloc (.cells #[.int .i32 m0, .int .i32 m1, .int .i32 m2] 22)).alloc (.cells #[.int .i32 0, .int .i32 0, .int .i32 0] 22)).alloc (.cells #[.int .i32 0, .int .i32 0, .int .i32 0] 22)) = w1 at *
  go_loopw [6, 10] (fun d i wr => ∃ (k : Nat) (x0 x1 x2 : Int), k ≤ 3 ∧ i = .int .i64 (k : Int) ∧ d = .int .i64 ((min k 3 : Nat) : Int) ∧ Box' (x0 = (if 0 < k then m0 else 0) ∧ x1 = (if 1 < k then m1 else 0) ∧ x2 = (if 2 < k then m2 else 0)) ∧ Box' (Row wr (w.heap.size + 1 + 1) 22 #[.int .i32 x0, .int .i32 x1, .int .i32 x2]) ∧ Box' (Room wr (w.heap.size + 1) 22 3) ∧ Box' (Below w.heap.size w wr)) (fun _ i _ => 3 - (intOf i).toNat)
  case atStart => exact ⟨0, 0, 0, 0, by omega, rfl, rfl, ⟨by simp⟩, R5, R4, B1⟩
  case round =>
    obtain ⟨k, x0, x1, x2, hk, rfl, rfl, XX, RR, RM, BB⟩ := hrel
    clear B1 R4 R5
    have c0 : wr.cell? ⟨w.heap.size + 1 + 1, 0, none⟩ = some (.int .i32 x0) := RR.out.cell 0
    have c1 : wr.cell? ⟨w.heap.size + 1 + 1, 1, none⟩ = some (.int .i32 x1) := RR.out.cell 1
    have c2 : wr.cell? ⟨w.heap.size + 1 + 1, 2, none⟩ = some (.int .i32 x2) := RR.out.cell 2
    have f0 := RR.out.frozen 0
    have f1 := RR.out.frozen 1
    have f2 := RR.out.frozen 2
    obtain rfl | rfl | rfl | rfl : k = 0 ∨ k = 1 ∨ k = 2 ∨ k = 3 := by omega
    · go_wp2_with (first | (refine wpList_idx rfl (.tmp 9) (.tmp 10) rfl #[.int .i32 m0, .int .i32 m1, .int .i32 m2] 0 (.int .i32 m0) rfl rfl (by decide) rfl ?_))
      exact ⟨⟨1, m0, x1, x2, by omega, rfl, rfl, ⟨by obtain ⟨e0, e1, e2⟩ := XX.out; simp at e0 e1 e2; refine ⟨?_, ?_, ?_⟩ <;> simp <;> assumption⟩, ⟨RR.out.setCell 0 _⟩, ⟨RM.out.setOther _ _ (by show w.heap.size + 1 ≠ w.heap.size + 1 + 1; omega)⟩, ⟨BB.out.setCell (by show w.heap.size ≤ w.heap.size + 1 + 1; omega) _⟩⟩, by simp [intOf]⟩
    · go_wp2_with (first | (refine wpList_idx rfl (.tmp 9) (.tmp 10) rfl #[.int .i32 m0, .int .i32 m1, .int .i32 m2] 1 (.int .i32 m1) rfl rfl (by decide) rfl ?_))
      exact ⟨⟨2, x0, m1, x2, by omega, rfl, rfl, ⟨by obtain ⟨e0, e1, e2⟩ := XX.out; simp at e0 e1 e2; refine ⟨?_, ?_, ?_⟩ <;> simp <;> assumption⟩, ⟨RR.out.setCell 1 _⟩, ⟨RM.out.setOther _ _ (by show w.heap.size + 1 ≠ w.heap.size + 1 + 1; omega)⟩, ⟨BB.out.setCell (by show w.heap.size ≤ w.heap.size + 1 + 1; omega) _⟩⟩, by simp [intOf]⟩
    · go_wp2_with (first | (refine wpList_idx rfl (.tmp 9) (.tmp 10) rfl #[.int .i32 m0, .int .i32 m1, .int .i32 m2] 2 (.int .i32 m2) rfl rfl (by decide) rfl ?_))
      exact ⟨⟨3, x0, x1, m2, by omega, rfl, rfl, ⟨by obtain ⟨e0, e1, e2⟩ := XX.out; simp at e0 e1 e2; refine ⟨?_, ?_, ?_⟩ <;> simp <;> assumption⟩, ⟨RR.out.setCell 2 _⟩, ⟨RM.out.setOther _ _ (by show w.heap.size + 1 ≠ w.heap.size + 1 + 1; omega)⟩, ⟨BB.out.setCell (by show w.heap.size ≤ w.heap.size + 1 + 1; omega) _⟩⟩, by simp [intOf]⟩
    · obtain ⟨e0, e1, e2⟩ := XX.out
      simp at e0 e1 e2
      rw [e0] at RR c0
      rw [e1] at RR c1
      rw [e2] at RR c2
      clear XX e0 e1 e2
      have S22 : Box' ((Try.prog.info? 22).map (·.size) = some 3) := ⟨by kernel_rfl⟩
      have ON : Box' ((#[.int .i32 m0, .int .i32 m1, .int .i32 m2] : Array Value).all (·.oneCell') = true) := ⟨by simp [Value.oneCell']⟩
      have RX : Box' (Room (wr) (w.heap.size + 1) 22 3) := ⟨RM.out⟩
      have BX : Box' (Below w.heap.size w (wr)) := ⟨BB.out⟩
      go_wp2_with (first
        | (refine wpList_store_row rfl 22 (.tmp 4) (.tmp 26) rfl (w.heap.size + 1) rfl #[.int .i32 m0, .int .i32 m1, .int .i32 m2] rfl 22 3 RX.out S22.out rfl ON.out ?_))
      exact bodyPost_ret (results27 _ (w.heap.size + 1) rfl _ _ (RX.out.setRow _) rfl) rfl ⟨rfl, below_setRow BX.out (by omega) _⟩
theorem withMark_any (j : Nat) (m0 m1 m2 : Int) (h : Mj j m0 m1 m2) (c : Int) (hc : ofF c = 0) (w : World) : Calls Try.prog 27 #[.agg (mA m0 m1 m2), .int .i32 c] w fun e w' => ∃ k n0 n1 n2, Mj k n0 n1 n2 ∧ e = .returned (.agg (mA n0 n1 n2)) ∧ Below w.heap.size w w' := by
  rcases h with ⟨_, rfl, rfl, rfl⟩ | ⟨_, h0, rfl, rfl⟩ | ⟨_, h0, h1, rfl⟩ | ⟨_, h0, h1, h2⟩
  · exact (withMark_0 c w).mono fun e w' h => ⟨1, c, 0, 0, .inr (.inl ⟨rfl, hc, rfl, rfl⟩), h.1, h.2⟩
  · exact (withMark_1 m0 (of_ne h0) c w).mono fun e w' h => ⟨2, m0, c, 0, .inr (.inr (.inl ⟨rfl, h0, hc, rfl⟩)), h.1, h.2⟩
  · exact (withMark_2 m0 m1 (of_ne h0) (of_ne h1) c w).mono fun e w' h => ⟨3, m0, m1, c, .inr (.inr (.inr ⟨rfl, h0, h1, hc⟩)), h.1, h.2⟩
  · exact (withMark_3 m0 m1 m2 (of_ne h0) (of_ne h1) (of_ne h2) c w).mono fun e w' h => ⟨3, m0, m1, m2, .inr (.inr (.inr ⟨rfl, h0, h1, h2⟩)), h.1, h.2⟩
end Go.Proofs.Ytnlladjkajmpoaa
