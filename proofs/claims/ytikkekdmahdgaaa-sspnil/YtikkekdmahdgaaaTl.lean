/- The program's Tick, as it lies. -/
import Derived.Test.YtikkekdmahdgaaaTk
namespace Go.Proofs.Ytikkekdmahdgaaa
open Go.RowKit Go.BigFrame
set_option linter.unusedSimpArgs false
set_option linter.unusedVariables false
set_option maxRecDepth 100000
set_option maxHeartbeats 4000000

def alc5 (w : World) (p now : Nat) (pace timeout : Int) : World := ((((w.alloc (.cells #[.pointer (some ⟨p, 0, none⟩)] 23)).alloc (.cells #[.int .u64 (now : Int)] 29)).alloc (.cells #[.int .i64 pace] 3)).alloc (.cells #[.int .i64 timeout] 3)).alloc (.cells z41 41)
structure Bx (w w1 : World) (p now : Nat) (pace timeout : Int) : Prop where
  b : Below w.heap.size w w1
  z : w1.heap.size = w.heap.size + 5
  r4 : Row w1 w.heap.size 23 #[.pointer (some ⟨p, 0, none⟩)]
  r5 : Row w1 (w.heap.size + 1) 29 #[.int .u64 (now : Int)]
  r6 : Row w1 (w.heap.size + 2) 3 #[.int .i64 pace]
  r7 : Row w1 (w.heap.size + 3) 3 #[.int .i64 timeout]
  r8 : Row w1 (w.heap.size + 4) 41 z41
theorem alc5_bx (w : World) (p now : Nat) (pace timeout : Int) : Bx w (alc5 w p now pace timeout) p now pace timeout := by
  unfold alc5
  refine ⟨((((Below.refl _ _).alloc (Nat.le_refl _) _).alloc (by simp) _).alloc (by simp; omega) _).alloc (by simp; omega) _ |>.alloc (by simp; omega) _, by simp, ?_, ?_, ?_, ?_, ?_⟩
  · exact ((((Row.new _ _ _).alloc _).alloc _).alloc _).alloc _
  · exact (((Row.made _ _ _ _ _ rfl (by simp)).alloc _).alloc _).alloc _
  · exact ((Row.made _ _ _ _ _ rfl (by simp)).alloc _).alloc _
  · exact (Row.made _ _ _ _ _ rfl (by simp)).alloc _
  · exact Row.made _ _ _ _ _ rfl (by simp)
theorem tickBad (p g n c f0 tm now seen : Nat) (any : Bool) (ts : List (List UInt8)) (x : List UInt8) (pace timeout : Int) (w : World) (hr : Row w p 78 #[sT x, .slice (some ⟨g, 0, none⟩) n c, .int .u64 (f0 : Int), .bool any, .int .u64 (tm : Int), .int .u64 (seen : Int)]) (h0 : 0 < n) (hb : pace < 0 ∨ timeout < 0 ∨ now < seen) : Calls Try.prog 13 #[.pointer (some ⟨p, 0, none⟩), .int .u64 (now : Int), .int .i64 pace, .int .i64 timeout] w fun e w' => e = .returned (.tuple #[.agg z41, .bool false, .int .i64 2]) ∧ Below w.heap.size w w' := by
  obtain ⟨w1, hw1⟩ : ∃ w1, w1 = alc5 w p now pace timeout := ⟨_, rfl⟩
  have X := alc5_bx w p now pace timeout
  rw [← hw1] at X
  have hr1 := hr.below X.b hr.lt
  have th := there_any p n c _ w1 (hr1.cell 1) h0
  have C4 : Box' (∀ wa : World, wa = w1.drew → wa.cell? ⟨w.heap.size, 0, none⟩ = some (.pointer (some ⟨p, 0, none⟩))) := ⟨fun wa e => by subst e; exact X.r4.cell 0⟩
  have C5 : Box' (∀ wa : World, wa = w1.drew → wa.cell? ⟨w.heap.size + 1, 0, none⟩ = some (.int .u64 (now : Int))) := ⟨fun wa e => by subst e; exact X.r5.cell 0⟩
  have C6 : Box' (∀ wa : World, wa = w1.drew → wa.cell? ⟨w.heap.size + 2, 0, none⟩ = some (.int .i64 pace)) := ⟨fun wa e => by subst e; exact X.r6.cell 0⟩
  have C7 : Box' (∀ wa : World, wa = w1.drew → wa.cell? ⟨w.heap.size + 3, 0, none⟩ = some (.int .i64 timeout)) := ⟨fun wa e => by subst e; exact X.r7.cell 0⟩
  have CP : Box' (∀ wa : World, wa = w1.drew → wa.cell? ⟨p, 5, none⟩ = some (.int .u64 (seen : Int))) := ⟨fun wa e => by subst e; exact hr1.cell 5⟩
  obtain ⟨w9, hw9⟩ : ∃ w9, w9 = w1.drew.setRow (w.heap.size + 4) z41 := ⟨_, rfl⟩
  have rm : Room w1.drew (w.heap.size + 4) 41 5 := Room.drew (X.r8.room rfl)
  have R9 : Box' (Row w9 (w.heap.size + 4) 41 z41) := ⟨by rw [hw9]; exact rm.setRow _⟩
  have B9 : Box' (Below w.heap.size w w9) := ⟨by rw [hw9]; exact below_setRow X.b.drew _ _ (Nat.le_add_right _ _)⟩
  have c4 := X.r4.cell 0
  unfold alc5 at hw1
  unfold z41 at *
  clear X hr hr1
  go_enter Try.func13, Try.ntmps13
  go_upto_region 1 with (fail)
  rw [← hw1]
  clear hw1
  go_wp2_with fail
  refine th.mono ?_
  rintro e w2 ⟨rfl, ew⟩
  obtain rfl : w1 = w2 := ew.symm
  clear th ew c4
  go_upto_region 3 with (fail)
  by_cases h1 : pace < 0
  · refine wp_region_lex (fun wa => wa = w1.drew) (by kernel_rfl) (by kernel_rfl) rfl ?_
    go_big_quiet_want
    refine qC_load3 (.tmp 6) rfl (w.heap.size + 2) 0 _ rfl C6.out ?_
    simp only [Act.put, List.setIfInBounds_toArray, List.set_cons_succ, List.set_cons_zero]
    go_big_quiet_on
    go_big_quiet_want
    refine qC_of (.bool true) (fun wq hC => by unfold execOp; simp [go_sem] <;> omega) ?_
    simp only [Act.put, List.setIfInBounds_toArray, List.set_cons_succ, List.set_cons_zero]
    go_big_quiet_on
    go_big_quiet_want
    go_big_quiet_op
    first | go_big_quiet_on | (refine ⟨_, fun _ _ => rfl, ?_⟩; go_big_quiet_on) | (refine ⟨_, fun _ _ _ => rfl, ?_⟩; go_big_quiet_on)
    go_big_quiet_skip
    go_big_quiet_skip
    go_big_quiet_want
    go_big_quiet_op
    first | go_big_quiet_on | (refine ⟨_, fun _ _ => rfl, ?_⟩; go_big_quiet_on) | (refine ⟨_, fun _ _ _ => rfl, ?_⟩; go_big_quiet_on)
    go_big_quiet_want
    go_big_quiet_op
    first | go_big_quiet_on | (refine ⟨_, fun _ _ => rfl, ?_⟩; go_big_quiet_on) | (refine ⟨_, fun _ _ _ => rfl, ?_⟩; go_big_quiet_on)
    go_big_quiet_skip
    go_big_quiet_skip
    go_big_quiet_skip
    go_big_quiet_skip
    go_big_quiet_skip
    go_big_quiet_skip
    go_big_quiet_want
    go_big_quiet_op
    first | go_big_quiet_on | (refine ⟨_, fun _ _ => rfl, ?_⟩; go_big_quiet_on) | (refine ⟨_, fun _ _ _ => rfl, ?_⟩; go_big_quiet_on)
    refine wpQuiet_nil ?_
    rintro wz rfl
    clear C4 C5 C6 C7 CP
    go_wp2_with (refine wpList_store_row rfl 41 (.tmp 8) (.tmp 30) rfl (w.heap.size + 4) rfl _ rfl 41 5 rm (by kernel_rfl) rfl (by simp [Value.oneCell']) ?_; rw [← hw9]; clear rm hw9)
    refine bodyPost_ret (results_row2 rfl _ (w.heap.size + 4) rfl (.bool false) (.int .i64 2) rfl rfl 41 _ R9.out _ Try.underlying41 rfl 5 (by kernel_rfl) rfl) rfl ?_
    exact ⟨rfl, B9.out⟩
  by_cases h2 : timeout < 0
  · refine wp_region_lex (fun wa => wa = w1.drew) (by kernel_rfl) (by kernel_rfl) rfl ?_
    go_big_quiet_want
    refine qC_load3 (.tmp 6) rfl (w.heap.size + 2) 0 _ rfl C6.out ?_
    simp only [Act.put, List.setIfInBounds_toArray, List.set_cons_succ, List.set_cons_zero]
    go_big_quiet_on
    go_big_quiet_want
    refine qC_of (.bool false) (fun wq hC => by unfold execOp; simp [go_sem] <;> omega) ?_
    simp only [Act.put, List.setIfInBounds_toArray, List.set_cons_succ, List.set_cons_zero]
    go_big_quiet_on
    go_big_quiet_want
    go_big_quiet_op
    first | go_big_quiet_on | (refine ⟨_, fun _ _ => rfl, ?_⟩; go_big_quiet_on) | (refine ⟨_, fun _ _ _ => rfl, ?_⟩; go_big_quiet_on)
    go_big_quiet_want
    refine qC_load3 (.tmp 7) rfl (w.heap.size + 3) 0 _ rfl C7.out ?_
    simp only [Act.put, List.setIfInBounds_toArray, List.set_cons_succ, List.set_cons_zero]
    go_big_quiet_on
    go_big_quiet_want
    refine qC_of (.bool true) (fun wq hC => by unfold execOp; simp [go_sem] <;> omega) ?_
    simp only [Act.put, List.setIfInBounds_toArray, List.set_cons_succ, List.set_cons_zero]
    go_big_quiet_on
    go_big_quiet_want
    go_big_quiet_op
    first | go_big_quiet_on | (refine ⟨_, fun _ _ => rfl, ?_⟩; go_big_quiet_on) | (refine ⟨_, fun _ _ _ => rfl, ?_⟩; go_big_quiet_on)
    go_big_quiet_want
    go_big_quiet_op
    first | go_big_quiet_on | (refine ⟨_, fun _ _ => rfl, ?_⟩; go_big_quiet_on) | (refine ⟨_, fun _ _ _ => rfl, ?_⟩; go_big_quiet_on)
    go_big_quiet_skip
    go_big_quiet_skip
    go_big_quiet_skip
    go_big_quiet_skip
    go_big_quiet_skip
    go_big_quiet_skip
    go_big_quiet_want
    go_big_quiet_op
    first | go_big_quiet_on | (refine ⟨_, fun _ _ => rfl, ?_⟩; go_big_quiet_on) | (refine ⟨_, fun _ _ _ => rfl, ?_⟩; go_big_quiet_on)
    refine wpQuiet_nil ?_
    rintro wz rfl
    clear C4 C5 C6 C7 CP
    go_wp2_with (refine wpList_store_row rfl 41 (.tmp 8) (.tmp 30) rfl (w.heap.size + 4) rfl _ rfl 41 5 rm (by kernel_rfl) rfl (by simp [Value.oneCell']) ?_; rw [← hw9]; clear rm hw9)
    refine bodyPost_ret (results_row2 rfl _ (w.heap.size + 4) rfl (.bool false) (.int .i64 2) rfl rfl 41 _ R9.out _ Try.underlying41 rfl 5 (by kernel_rfl) rfl) rfl ?_
    exact ⟨rfl, B9.out⟩
  refine wp_region_lex (fun wa => wa = w1.drew) (by kernel_rfl) (by kernel_rfl) rfl ?_
  go_big_quiet_want
  refine qC_load3 (.tmp 6) rfl (w.heap.size + 2) 0 _ rfl C6.out ?_
  simp only [Act.put, List.setIfInBounds_toArray, List.set_cons_succ, List.set_cons_zero]
  go_big_quiet_on
  go_big_quiet_want
  refine qC_of (.bool false) (fun wq hC => by unfold execOp; simp [go_sem] <;> omega) ?_
  simp only [Act.put, List.setIfInBounds_toArray, List.set_cons_succ, List.set_cons_zero]
  go_big_quiet_on
  go_big_quiet_want
  go_big_quiet_op
  first | go_big_quiet_on | (refine ⟨_, fun _ _ => rfl, ?_⟩; go_big_quiet_on) | (refine ⟨_, fun _ _ _ => rfl, ?_⟩; go_big_quiet_on)
  go_big_quiet_want
  refine qC_load3 (.tmp 7) rfl (w.heap.size + 3) 0 _ rfl C7.out ?_
  simp only [Act.put, List.setIfInBounds_toArray, List.set_cons_succ, List.set_cons_zero]
  go_big_quiet_on
  go_big_quiet_want
  refine qC_of (.bool false) (fun wq hC => by unfold execOp; simp [go_sem] <;> omega) ?_
  simp only [Act.put, List.setIfInBounds_toArray, List.set_cons_succ, List.set_cons_zero]
  go_big_quiet_on
  go_big_quiet_want
  go_big_quiet_op
  first | go_big_quiet_on | (refine ⟨_, fun _ _ => rfl, ?_⟩; go_big_quiet_on) | (refine ⟨_, fun _ _ _ => rfl, ?_⟩; go_big_quiet_on)
  go_big_quiet_want
  go_big_quiet_op
  first | go_big_quiet_on | (refine ⟨_, fun _ _ => rfl, ?_⟩; go_big_quiet_on) | (refine ⟨_, fun _ _ _ => rfl, ?_⟩; go_big_quiet_on)
  go_big_quiet_want
  refine qC_load29 (.tmp 5) rfl (w.heap.size + 1) 0 _ rfl C5.out ?_
  simp only [Act.put, List.setIfInBounds_toArray, List.set_cons_succ, List.set_cons_zero]
  go_big_quiet_on
  go_big_quiet_want
  refine qC_load23 (.tmp 4) rfl w.heap.size 0 _ rfl C4.out ?_
  simp only [Act.put, List.setIfInBounds_toArray, List.set_cons_succ, List.set_cons_zero]
  go_big_quiet_on
  go_big_quiet_want
  go_big_quiet_op
  first | go_big_quiet_on | (refine ⟨_, fun _ _ => rfl, ?_⟩; go_big_quiet_on) | (refine ⟨_, fun _ _ _ => rfl, ?_⟩; go_big_quiet_on)
  go_big_quiet_want
  go_big_quiet_op
  first | go_big_quiet_on | (refine ⟨_, fun _ _ => rfl, ?_⟩; go_big_quiet_on) | (refine ⟨_, fun _ _ _ => rfl, ?_⟩; go_big_quiet_on)
  go_big_quiet_want
  refine qC_load29 (.tmp 26) rfl p 5 _ rfl CP.out ?_
  simp only [Act.put, List.setIfInBounds_toArray, List.set_cons_succ, List.set_cons_zero]
  go_big_quiet_on
  go_big_quiet_want
  refine qC_of (.bool true) (fun wq hC => by unfold execOp; simp [go_sem] <;> omega) ?_
  simp only [Act.put, List.setIfInBounds_toArray, List.set_cons_succ, List.set_cons_zero]
  go_big_quiet_on
  go_big_quiet_want
  go_big_quiet_op
  first | go_big_quiet_on | (refine ⟨_, fun _ _ => rfl, ?_⟩; go_big_quiet_on) | (refine ⟨_, fun _ _ _ => rfl, ?_⟩; go_big_quiet_on)
  refine wpQuiet_nil ?_
  rintro wz rfl
  clear C4 C5 C6 C7 CP
  go_wp2_with (refine wpList_store_row rfl 41 (.tmp 8) (.tmp 30) rfl (w.heap.size + 4) rfl _ rfl 41 5 rm (by kernel_rfl) rfl (by simp [Value.oneCell']) ?_; rw [← hw9]; clear rm hw9)
  refine bodyPost_ret (results_row2 rfl _ (w.heap.size + 4) rfl (.bool false) (.int .i64 2) rfl rfl 41 _ R9.out _ Try.underlying41 rfl 5 (by kernel_rfl) rfl) rfl ?_
  exact ⟨rfl, B9.out⟩
end Go.Proofs.Ytikkekdmahdgaaa
