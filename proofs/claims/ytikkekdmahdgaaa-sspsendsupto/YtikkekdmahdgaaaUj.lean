/- A sender and a receiver that are not there; the anchor. -/
import Derived.Test.YtikkekdmahdgaaaUi
import Derived.Test.YtikkekdmahdgaaaTn
import Derived.Test.YtikkekdmahdgaaaRn
namespace Go.Proofs.Ytikkekdmahdgaaa
open Go.RowKit Go.BigFrame
set_option linter.unusedSimpArgs false
set_option linter.unusedVariables false
set_option maxRecDepth 100000
set_option maxHeartbeats 4000000

theorem tickNil (n : UInt64) (w : World) : Calls Try.prog 13 #[.pointer none, uV n, .int .i64 1, .int .i64 1] w fun e w' => ∃ (x : Ins) (a : Option Addr) (k c : Nat) (b : Bool), e = .returned (.tuple #[.agg (insA x (.slice a k c)), .bool b, .int .i64 1]) ∧ RowKit.Below w.heap.size w w' := by
  obtain ⟨w1, hw1⟩ : ∃ w1, w1 = ((((w.alloc (.cells #[.pointer none] 23)).alloc (.cells #[.int .u64 (n.toNat : Int)] 29)).alloc (.cells #[.int .i64 1] 3)).alloc (.cells #[.int .i64 1] 3)).alloc (.cells z41 41) := ⟨_, rfl⟩
  have b1 : Below w.heap.size w w1 := by rw [hw1]; exact ((((Below.refl _ _).alloc (Nat.le_refl _) _).alloc (by simp) _).alloc (by simp; omega) _).alloc (by simp; omega) _ |>.alloc (by simp; omega) _
  have r4 : Row w1 w.heap.size 23 #[.pointer none] := by rw [hw1]; exact ((((Row.new _ _ _).alloc _).alloc _).alloc _).alloc _
  have r8 : Row w1 (w.heap.size + 4) 41 z41 := by rw [hw1]; exact Row.made _ _ _ _ _ rfl (by simp)
  have th := there_nil w1
  obtain ⟨w9, hw9⟩ : ∃ w9, w9 = w1.setRow (w.heap.size + 4) z41 := ⟨_, rfl⟩
  have rm : Room w1 (w.heap.size + 4) 41 5 := r8.room rfl
  have R9 : Box' (Row w9 (w.heap.size + 4) 41 z41) := ⟨by rw [hw9]; exact rm.setRow _⟩
  have B9 : Box' (Below w.heap.size w w9) := ⟨by rw [hw9]; exact below_setRow b1 _ _ (Nat.le_add_right _ _)⟩
  have c4 := r4.cell 0
  clear b1 r4 r8
  unfold z41 at *
  unfold uV
  go_enter Try.func13, Try.ntmps13
  go_upto_region 1 with (fail)
  rw [← hw1]
  clear hw1
  go_wp2_with fail
  refine th.mono ?_
  rintro e w2 ⟨rfl, ew⟩
  obtain rfl : w1 = w2 := ew.symm
  clear th ew c4
  go_wp2_with (refine wpList_store_row rfl 41 (.tmp 8) (.tmp 15) rfl (w.heap.size + 4) rfl _ rfl 41 5 rm (by kernel_rfl) rfl (by simp [Value.oneCell']) ?_; rw [← hw9]; clear rm hw9)
  refine bodyPost_ret (results_row2 rfl _ (w.heap.size + 4) rfl (.bool false) (.int .i64 1) rfl rfl 41 _ R9.out _ Try.underlying41 rfl 5 (by kernel_rfl) rfl) rfl ?_
  exact ⟨Ins.none, none, 0, 0, false, rfl, B9.out⟩
theorem toldNil (w : World) : Calls Try.prog 16 #[.pointer none] w fun e w' => e = .returned (.tuple #[.int .u64 0, .int .u64 0, .int .i64 0]) ∧ RowKit.Below w.heap.size w w' := by
  have th := there_nil w
  go_enter Try.func16, Try.ntmps16
  go_wp2_with fail
  refine th.mono ?_
  rintro e w2 ⟨rfl, ew⟩
  obtain rfl : w = w2 := ew.symm
  clear th ew
  go_wp2_with fail
  refine bodyPost_ret (results_tmp3 rfl _ _ _) rfl ?_
  exact ⟨rfl, Below.refl _ _⟩
theorem takeNil (n : UInt64) (w : World) : Calls Try.prog 20 #[.pointer none, .agg #[.int .u64 0, uV n, .int .u64 0, .int .u64 0, .slice none 0 0]] w fun e w' => ∃ b : Bool, e = .returned (.tuple #[.bool b, .int .i64 1]) ∧ RowKit.Below w.heap.size w w' := by
  have th := rthere_nil (w.alloc (.cells #[.int .u64 0, .int .u64 (n.toNat : Int), .int .u64 0, .int .u64 0, .slice none 0 0] 41))
  have HB : Box' (Below w.heap.size w (w.alloc (.cells #[.int .u64 0, .int .u64 (n.toNat : Int), .int .u64 0, .int .u64 0, .slice none 0 0] 41))) := ⟨(Below.refl _ _).alloc (Nat.le_refl _) _⟩
  unfold uV
  go_enter Try.func20, Try.ntmps20
  go_wp2_with fail
  refine th.mono ?_
  rintro e w2 ⟨rfl, rfl⟩
  clear th
  go_wp2_with fail
  refine bodyPost_ret (results_tmp2 rfl _ _ _) rfl ?_
  exact ⟨false, rfl, HB.out⟩
theorem setNil (w : World) : Calls Try.prog 10 #[.pointer none, .agg #[.string ⟨#[97]⟩]] w fun e w' => e = .returned (.int .i64 1) ∧ RowKit.Below w.heap.size w w' := by
  have th := there_nil (w.alloc (.cells #[.string ⟨#[97]⟩] 26))
  have HB : Box' (Below w.heap.size w (w.alloc (.cells #[.string ⟨#[97]⟩] 26))) := ⟨(Below.refl _ _).alloc (Nat.le_refl _) _⟩
  go_enter Try.func10, Try.ntmps10
  go_wp2_with fail
  refine th.mono ?_
  rintro e w2 ⟨rfl, rfl⟩
  clear th
  go_wp2_with fail
  go_ret
  exact ⟨rfl, HB.out⟩
theorem ackNil (n : UInt64) (w : World) : Calls Try.prog 11 #[.pointer none, uV n] w fun e w' => e = .returned (.int .i64 1) ∧ RowKit.Below w.heap.size w w' := by
  have th := there_nil w
  unfold uV
  go_enter Try.func11, Try.ntmps11
  go_wp2_with fail
  refine th.mono ?_
  rintro e w2 ⟨rfl, ew⟩
  obtain rfl : w = w2 := ew.symm
  clear th ew
  go_wp2_with fail
  go_ret
  exact ⟨rfl, Below.refl _ _⟩
theorem holdNil (w : World) : Calls Try.prog 23 #[.pointer none] w fun e w' => ∃ a c, e = .returned (.slice a 0 c) ∧ RowKit.Below w.heap.size w w' := by
  have th := rthere_nil w
  go_enter Try.func23, Try.ntmps23
  go_wp2_with fail
  refine th.mono ?_
  rintro e w2 ⟨rfl, ew⟩
  obtain rfl : w = w2 := ew.symm
  clear th ew
  go_wp2_with fail
  go_ret
  exact ⟨_, _, rfl, Below.refl _ _⟩
theorem lateNil (w : World) : Calls Try.prog 22 #[.pointer none] w fun e w' => e = .returned (.tuple #[.int .u64 0, .agg #[.string ⟨#[]⟩]]) ∧ RowKit.Below w.heap.size w w' := by
  obtain ⟨w1, hw1⟩ : ∃ w1, w1 = w.alloc (.cells #[.string ⟨#[]⟩] 26) := ⟨_, rfl⟩
  have b1 : Below w.heap.size w w1 := by rw [hw1]; exact (Below.refl _ _).alloc (Nat.le_refl _) _
  have r1 : Row w1 w.heap.size 26 #[.string ⟨#[]⟩] := by rw [hw1]; exact Row.new _ _ _
  have th := rthere_nil w1
  have B1 := Box'.mk b1
  have R1 := Box'.mk r1
  have CL := Box'.mk fun (wa : World) (hb : Below w1.heap.size w1 wa) => (r1.below hb r1.lt).cell 0
  clear b1 r1
  go_enter Try.func22, Try.ntmps22
  go_upto_region 1 with (fail)
  rw [← hw1]
  clear hw1
  go_wp2_with fail
  refine th.mono ?_
  rintro e w2 ⟨rfl, ew⟩
  obtain rfl : w1 = w2 := ew.symm
  clear th ew
  go_upto_region 2 with (fail)
  refine wp_region_grow 2 (by kernel_rfl) (by kernel_rfl) (fun wa wb => Below wa.heap.size wa wb) (fun wa => Below w1.heap.size w1 wa) (fun kc wa v => match kc with
    | 0 => v = .agg #[.string ⟨#[]⟩]
    | 1 => v = .int .u64 0
    | _ => True) ?_ ?_ ?_ ?_ ?_
  · intro wa wb hb q; exact q.trans (hb.mono q.size)
  · intro kc v wa wb hC1 hb h
    match kc, h with
    | 0, h => exact h
    | 1, h => exact h
    | kc + 2, h => trivial
  · exact (Below.refl _ _).drew
  · refine ⟨?_, ?_, trivial⟩
    · intro f wq hC hd KK hK
      have cx := CL.out wq hC
      simp only [List.take_succ_cons, List.take_zero, setAll, List.setIfInBounds_toArray, List.set_cons_succ, List.set_cons_zero, Nat.zero_add, Nat.reduceAdd] at hK ⊢
      refine wp_of_quiet rfl ?_
      go_big_quiet_step (fail)
      exact wpQuiet_nil (hK _ _ rfl (Below.refl _ _))
    · intro f wq hC hd KK hK
      simp only [List.take_succ_cons, List.take_zero, setAll, List.setIfInBounds_toArray, List.set_cons_succ, List.set_cons_zero, Nat.zero_add, Nat.reduceAdd] at hK ⊢
      refine wp_of_quiet rfl ?_
      go_big_quiet_step (fail)
      exact wpQuiet_nil (hK _ _ rfl (Below.refl _ _))
  intro f wq hC hv
  have g0 : f 0 = .agg #[.string ⟨#[]⟩] := hv 0 (by decide)
  have g1 : f 1 = .int .u64 0 := hv 1 (by decide)
  simp only [List.take_succ_cons, List.take_zero, List.drop_succ_cons, List.drop_zero, setAll, List.setIfInBounds_toArray, List.set_cons_succ, List.set_cons_zero, Nat.zero_add, Nat.reduceAdd, g0, g1]
  clear g0 g1 hv
  have r9 := R1.out.below hC R1.out.lt
  have c9 := r9.cell 0
  have f9 := r9.frozen 0
  have B9 : Box' (Below w.heap.size w (wq.setCell ⟨w.heap.size, 0, none⟩ (.string ⟨#[]⟩))) := ⟨(B1.out.trans (hC.mono B1.out.size)).setCell (p := ⟨w.heap.size, 0, none⟩) (Nat.le_refl _) _⟩
  have C9 := Box'.mk ((r9.setCell 0 (.string ⟨#[]⟩)).cell 0)
  clear hC r9 R1 B1 CL
  go_wp2_with fail
  refine bodyPost_ret (results_tmpcell rfl _ w.heap.size rfl (.int .u64 0) rfl _ (ld26 C9.out)) rfl ?_
  exact ⟨rfl, B9.out⟩
theorem anch_C (w : World) : Calls Try.prog 17 #[] w fun e w' => e = .returned (.bool true) ∧ RowKit.Below w.heap.size w w' := anch23 SndR sndR_keep newSend_C set_C ack_C tick_C w
end Go.Proofs.Ytikkekdmahdgaaa
