/- The plain style; the style of a look. -/
import Derived.Test.YtnlladjkajmpoaaT
import Derived.Test.YtnlladjkajmpoaaGx
namespace Go.Proofs.Ytnlladjkajmpoaa
open Go.RowKit Go.BigFrame
set_option linter.unusedVariables false
set_option linter.unusedSimpArgs false

set_option maxHeartbeats 1000000 in
theorem plain_any (w : World) : Calls Try.prog 15 #[] w fun e w' => e = .returned (.agg (sA pl)) ∧ Below w.heap.size w w' := by
  have RM : Box' (Room (w.alloc (.cells (sA ⟨0, 0, false, false, false, false, false, false, false, false⟩) 24)) w.heap.size 24 10) := ⟨Room.new _ _ _ _ rfl⟩
  have BB := Box'.mk ((Below.refl w.heap.size w).alloc (Nat.le_refl _) (.cells (sA ⟨0, 0, false, false, false, false, false, false, false, false⟩) 24))
  have S24 := Box'.mk s24
  have O := Box'.mk (one10 pl)
  go_enter Try.func15, Try.ntmps15
  go_wp2_with (first
    | (refine wpList_store_row rfl 24 (.tmp 0) (.tmp 1) rfl w.heap.size rfl (sA pl) rfl 24 10 RM.out S24.out rfl O.out ?_))
  exact bodyPost_ret (results_row (p := 0) (ty := 24) (fn := Try.f15) rfl _ w.heap.size rfl 24 (sA pl) (RM.out.setRow _) _ Try.underlying24 rfl 10 s24 rfl) rfl ⟨rfl, below_setRow BB.out (Nat.le_refl _) _⟩
set_option maxHeartbeats 1000000 in
theorem refPlain_any (w : World) : Calls Try.prog 16 #[] w fun e w' => e = .returned (.agg (sA pl)) ∧ Below w.heap.size w w' := by
  have RM : Box' (Room (w.alloc (.cells (sA ⟨0, 0, false, false, false, false, false, false, false, false⟩) 24)) w.heap.size 24 10) := ⟨Room.new _ _ _ _ rfl⟩
  have BB := Box'.mk ((Below.refl w.heap.size w).alloc (Nat.le_refl _) (.cells (sA ⟨0, 0, false, false, false, false, false, false, false, false⟩) 24))
  have S24 := Box'.mk s24
  have O := Box'.mk (one10 pl)
  go_enter Try.func16, Try.ntmps16
  go_wp2_with (first
    | (refine wpList_store_row rfl 24 (.tmp 0) (.tmp 1) rfl w.heap.size rfl (sA pl) rfl 24 10 RM.out S24.out rfl O.out ?_))
  exact bodyPost_ret (results_row (p := 0) (ty := 24) (fn := Try.f16) rfl _ w.heap.size rfl 24 (sA pl) (RM.out.setRow _) _ Try.underlying24 rfl 10 s24 rfl) rfl ⟨rfl, below_setRow BB.out (Nat.le_refl _) _⟩
theorem results30 (tmps : Array Value) (b : Nat) (hx : tmps.getD 2 undef = .pointer (some ⟨b, 0, none⟩)) (w : World) (c : Array Value) (hr : Row w b 24 c) (hn : c.size = 10) : (results Try.f30 tmps).run Try.prog w = .ok (.agg c) w :=
  results_row (p := 2) (ty := 24) rfl tmps b hx 24 c hr _ Try.underlying24 rfl 10 s24 hn

set_option maxRecDepth 100000 in
set_option maxHeartbeats 4000000 in
theorem style_any (s : St) (w : World) : Calls Try.prog 30 #[.agg (lA s)] w fun e w' => e = .returned (.agg (sA s)) ∧ Below w.heap.size w w' := by
  obtain ⟨fg, bg, y1, y2, y3, y4, y5, y7, y8, y9⟩ := s
  have O : Box' ((#[.int .i64 fg, .int .i64 bg, .bool y1, .bool y2, .bool y3, .bool y4, .bool y5, .bool y7, .bool y8, .bool y9] : Array Value).all (·.oneCell') = true) := ⟨one10 ⟨fg, bg, y1, y2, y3, y4, y5, y7, y8, y9⟩⟩
  have H1 : Box' (∀ w, Calls Try.prog 45 #[.agg #[.int .i64 fg, .int .i64 bg, .int .u16 ((fl y1 y2 y3 y4 y5 y7 y8 y9 : Nat) : Int)], .int .i64 1] w fun e w' => e = .returned (.bool y1) ∧ Below w.heap.size w w') := ⟨has_1 ⟨fg, bg, y1, y2, y3, y4, y5, y7, y8, y9⟩⟩
  have H2 : Box' (∀ w, Calls Try.prog 45 #[.agg #[.int .i64 fg, .int .i64 bg, .int .u16 ((fl y1 y2 y3 y4 y5 y7 y8 y9 : Nat) : Int)], .int .i64 2] w fun e w' => e = .returned (.bool y2) ∧ Below w.heap.size w w') := ⟨has_2 ⟨fg, bg, y1, y2, y3, y4, y5, y7, y8, y9⟩⟩
  have H3 : Box' (∀ w, Calls Try.prog 45 #[.agg #[.int .i64 fg, .int .i64 bg, .int .u16 ((fl y1 y2 y3 y4 y5 y7 y8 y9 : Nat) : Int)], .int .i64 3] w fun e w' => e = .returned (.bool y3) ∧ Below w.heap.size w w') := ⟨has_3 ⟨fg, bg, y1, y2, y3, y4, y5, y7, y8, y9⟩⟩
  have H4 : Box' (∀ w, Calls Try.prog 45 #[.agg #[.int .i64 fg, .int .i64 bg, .int .u16 ((fl y1 y2 y3 y4 y5 y7 y8 y9 : Nat) : Int)], .int .i64 4] w fun e w' => e = .returned (.bool y4) ∧ Below w.heap.size w w') := ⟨has_4 ⟨fg, bg, y1, y2, y3, y4, y5, y7, y8, y9⟩⟩
  have H5 : Box' (∀ w, Calls Try.prog 45 #[.agg #[.int .i64 fg, .int .i64 bg, .int .u16 ((fl y1 y2 y3 y4 y5 y7 y8 y9 : Nat) : Int)], .int .i64 5] w fun e w' => e = .returned (.bool y5) ∧ Below w.heap.size w w') := ⟨has_5 ⟨fg, bg, y1, y2, y3, y4, y5, y7, y8, y9⟩⟩
  have H7 : Box' (∀ w, Calls Try.prog 45 #[.agg #[.int .i64 fg, .int .i64 bg, .int .u16 ((fl y1 y2 y3 y4 y5 y7 y8 y9 : Nat) : Int)], .int .i64 7] w fun e w' => e = .returned (.bool y7) ∧ Below w.heap.size w w') := ⟨has_7 ⟨fg, bg, y1, y2, y3, y4, y5, y7, y8, y9⟩⟩
  have H8 : Box' (∀ w, Calls Try.prog 45 #[.agg #[.int .i64 fg, .int .i64 bg, .int .u16 ((fl y1 y2 y3 y4 y5 y7 y8 y9 : Nat) : Int)], .int .i64 8] w fun e w' => e = .returned (.bool y8) ∧ Below w.heap.size w w') := ⟨has_8 ⟨fg, bg, y1, y2, y3, y4, y5, y7, y8, y9⟩⟩
  have H9 : Box' (∀ w, Calls Try.prog 45 #[.agg #[.int .i64 fg, .int .i64 bg, .int .u16 ((fl y1 y2 y3 y4 y5 y7 y8 y9 : Nat) : Int)], .int .i64 9] w fun e w' => e = .returned (.bool y9) ∧ Below w.heap.size w w') := ⟨has_9 ⟨fg, bg, y1, y2, y3, y4, y5, y7, y8, y9⟩⟩
  unfold lA flg sA
  simp only
  generalize hn : fl y1 y2 y3 y4 y5 y7 y8 y9 = n at *
  clear hn
  have RM : Box' (Room ((w.alloc (.cells #[.int .i64 fg, .int .i64 bg, .int .u16 (n : Int)] 49)).alloc (.cells #[.int .i64 0, .int .i64 0, .bool false, .bool false, .bool false, .bool false, .bool false, .bool false, .bool false, .bool false] 24)) (w.heap.size + 1) 24 10) := ⟨Room.made _ _ _ _ _ rfl (by simp)⟩
  have RL : Box' (Row ((w.alloc (.cells #[.int .i64 fg, .int .i64 bg, .int .u16 (n : Int)] 49)).alloc (.cells #[.int .i64 0, .int .i64 0, .bool false, .bool false, .bool false, .bool false, .bool false, .bool false, .bool false, .bool false] 24)) w.heap.size 49 #[.int .i64 fg, .int .i64 bg, .int .u16 (n : Int)]) := ⟨(Row.new _ _ _).alloc _⟩
  have BB : Box' (Below w.heap.size w ((w.alloc (.cells #[.int .i64 fg, .int .i64 bg, .int .u16 (n : Int)] 49)).alloc (.cells #[.int .i64 0, .int .i64 0, .bool false, .bool false, .bool false, .bool false, .bool false, .bool false, .bool false, .bool false] 24))) := ⟨((Below.refl w.heap.size w).alloc (Nat.le_refl _) _).alloc (by simp) _⟩
  have SZ : Box' (w.heap.size + 2 ≤ ((w.alloc (.cells #[.int .i64 fg, .int .i64 bg, .int .u16 (n : Int)] 49)).alloc (.cells #[.int .i64 0, .int .i64 0, .bool false, .bool false, .bool false, .bool false, .bool false, .bool false, .bool false, .bool false] 24)).heap.size) := ⟨by simp⟩
  have S24 := Box'.mk s24
  go_enter Try.func30, Try.ntmps30
  go_wp2_with fail
  generalize ((w.alloc (.cells #[.int .i64 fg, .int .i64 bg, .int .u16 (n : Int)] 49)).alloc (.cells #[.int .i64 0, .int .i64 0, .bool false, .bool false, .bool false, .bool false, .bool false, .bool false, .bool false, .bool false] 24)) = w2 at *
  refine wp_region_growg 20 (by kernel_rfl) 24 rfl (by kernel_rfl) (fun wa wb => Below wa.heap.size wa wb) (fun wa => Row wa w.heap.size 49 #[.int .i64 fg, .int .i64 bg, .int .u16 (n : Int)] ∧ Room wa (w.heap.size + 1) 24 10 ∧ Below w.heap.size w wa ∧ w.heap.size + 2 ≤ wa.heap.size) (fun kc wa v => match kc with
    | 0 => v = .pointer (some ⟨w.heap.size, 0, none⟩)
    | 1 => v = .int .i64 fg
    | 2 => v = .pointer (some ⟨w.heap.size, 1, none⟩)
    | 3 => v = .int .i64 bg
    | 4 => v = .agg #[.int .i64 fg, .int .i64 bg, .int .u16 (n : Int)]
    | 5 => v = .bool y1
    | 6 => v = .agg #[.int .i64 fg, .int .i64 bg, .int .u16 (n : Int)]
    | 7 => v = .bool y2
    | 8 => v = .agg #[.int .i64 fg, .int .i64 bg, .int .u16 (n : Int)]
    | 9 => v = .bool y3
    | 10 => v = .agg #[.int .i64 fg, .int .i64 bg, .int .u16 (n : Int)]
    | 11 => v = .bool y4
    | 12 => v = .agg #[.int .i64 fg, .int .i64 bg, .int .u16 (n : Int)]
    | 13 => v = .bool y5
    | 14 => v = .agg #[.int .i64 fg, .int .i64 bg, .int .u16 (n : Int)]
    | 15 => v = .bool y7
    | 16 => v = .agg #[.int .i64 fg, .int .i64 bg, .int .u16 (n : Int)]
    | 17 => v = .bool y8
    | 18 => v = .agg #[.int .i64 fg, .int .i64 bg, .int .u16 (n : Int)]
    | 19 => v = .bool y9
    | _ => True) ?_ ?_ ?_ ?_ ?_ ?_
  · intro i o' j b' hi hg wa v hC hV
    have hlt : i < 20 := by rcases Nat.lt_or_ge i 20 with q | q; exact q; rw [List.getElem?_eq_none (by simpa using q)] at hi; cases hi
    revert hi hg hV
    rcases (show i = 0 ∨ i = 1 ∨ i = 2 ∨ i = 3 ∨ i = 4 ∨ i = 5 ∨ i = 6 ∨ i = 7 ∨ i = 8 ∨ i = 9 ∨ i = 10 ∨ i = 11 ∨ i = 12 ∨ i = 13 ∨ i = 14 ∨ i = 15 ∨ i = 16 ∨ i = 17 ∨ i = 18 ∨ i = 19 by omega) with rfl | rfl | rfl | rfl | rfl | rfl | rfl | rfl | rfl | rfl | rfl | rfl | rfl | rfl | rfl | rfl | rfl | rfl | rfl | rfl <;>
      (intro hi hg hV; simp only [List.take_succ_cons, List.getElem?_cons_zero, List.getElem?_cons_succ, Option.some.injEq] at hi; subst hi; first | (cases hg; exact hV) | (cases hg))
  · rintro wa wb hb ⟨q1, q2, q3, q4⟩; exact ⟨q1.below hb (by omega), q2.below hb (by omega), q3.trans (hb.mono q3.size), Nat.le_trans q4 hb.size⟩
  · intro kc v wa wb hC1 hb h
    match kc, h with
    | 0, h => exact h
    | 1, h => exact h
    | 2, h => exact h
    | 3, h => exact h
    | 4, h => exact h
    | 5, h => exact h
    | 6, h => exact h
    | 7, h => exact h
    | 8, h => exact h
    | 9, h => exact h
    | 10, h => exact h
    | 11, h => exact h
    | 12, h => exact h
    | 13, h => exact h
    | 14, h => exact h
    | 15, h => exact h
    | 16, h => exact h
    | 17, h => exact h
    | 18, h => exact h
    | 19, h => exact h
    | kc + 20, h => trivial
  · exact ⟨RL.out.drew, RM.out.drew, BB.out.drew, SZ.out⟩
  · refine ⟨?_, ?_, ?_, ?_, ?_, ?_, ?_, ?_, ?_, ?_, ?_, ?_, ?_, ?_, ?_, ?_, ?_, ?_, ?_, ?_, trivial⟩
    · intro f wq hC hd KK hK
      clear hd
      simp only [List.take_succ_cons, List.take_zero, setAll, List.setIfInBounds_toArray, List.set_cons_succ, List.set_cons_zero, Nat.zero_add, Nat.reduceAdd] at hK ⊢
      refine wp_of_quiet rfl ?_
      go_big_quiet_step (fail)
      exact wpQuiet_nil (hK _ _ (rfl) (Below.refl _ _))
    · intro f wq hC hd KK hK
      have g0 : f 0 = .pointer (some ⟨w.heap.size, 0, none⟩) := hd 0 (by kernel_rfl)
      clear hd
      have c0 : wq.cell? ⟨w.heap.size, 0, none⟩ = some (.int .i64 fg) := hC.1.cell 0
      have c1 : wq.cell? ⟨w.heap.size, 1, none⟩ = some (.int .i64 bg) := hC.1.cell 1
      have c2 : wq.cell? ⟨w.heap.size, 2, none⟩ = some (.int .u16 (n : Int)) := hC.1.cell 2
      clear hC
      simp only [List.take_succ_cons, List.take_zero, setAll, List.setIfInBounds_toArray, List.set_cons_succ, List.set_cons_zero, Nat.zero_add, Nat.reduceAdd, g0] at hK ⊢
      refine wp_of_quiet rfl ?_
      go_big_quiet_step (fail)
      exact wpQuiet_nil (hK _ _ (rfl) (Below.refl _ _))
    · intro f wq hC hd KK hK
      clear hd
      simp only [List.take_succ_cons, List.take_zero, setAll, List.setIfInBounds_toArray, List.set_cons_succ, List.set_cons_zero, Nat.zero_add, Nat.reduceAdd] at hK ⊢
      refine wp_of_quiet rfl ?_
      go_big_quiet_step (fail)
      exact wpQuiet_nil (hK _ _ (rfl) (Below.refl _ _))
    · intro f wq hC hd KK hK
      have g2 : f 2 = .pointer (some ⟨w.heap.size, 1, none⟩) := hd 2 (by kernel_rfl)
      clear hd
      have c0 : wq.cell? ⟨w.heap.size, 0, none⟩ = some (.int .i64 fg) := hC.1.cell 0
      have c1 : wq.cell? ⟨w.heap.size, 1, none⟩ = some (.int .i64 bg) := hC.1.cell 1
      have c2 : wq.cell? ⟨w.heap.size, 2, none⟩ = some (.int .u16 (n : Int)) := hC.1.cell 2
      clear hC
      simp only [List.take_succ_cons, List.take_zero, setAll, List.setIfInBounds_toArray, List.set_cons_succ, List.set_cons_zero, Nat.zero_add, Nat.reduceAdd, g2] at hK ⊢
      refine wp_of_quiet rfl ?_
      go_big_quiet_step (fail)
      exact wpQuiet_nil (hK _ _ (rfl) (Below.refl _ _))
    · intro f wq hC hd KK hK
      clear hd
      have c0 : wq.cell? ⟨w.heap.size, 0, none⟩ = some (.int .i64 fg) := hC.1.cell 0
      have c1 : wq.cell? ⟨w.heap.size, 1, none⟩ = some (.int .i64 bg) := hC.1.cell 1
      have c2 : wq.cell? ⟨w.heap.size, 2, none⟩ = some (.int .u16 (n : Int)) := hC.1.cell 2
      clear hC
      simp only [List.take_succ_cons, List.take_zero, setAll, List.setIfInBounds_toArray, List.set_cons_succ, List.set_cons_zero, Nat.zero_add, Nat.reduceAdd] at hK ⊢
      refine wp_of_quiet rfl ?_
      go_big_quiet_step (fail)
      exact wpQuiet_nil (hK _ _ (rfl) (Below.refl _ _))
    · intro f wq hC hd KK hK
      have g4 : f 4 = .agg #[.int .i64 fg, .int .i64 bg, .int .u16 (n : Int)] := hd 4 (by kernel_rfl)
      clear hd
      simp only [List.take_succ_cons, List.take_zero, setAll, List.setIfInBounds_toArray, List.set_cons_succ, List.set_cons_zero, Nat.zero_add, Nat.reduceAdd, g4] at hK ⊢
      exact wp_call 45 #[.agg #[.int .i64 fg, .int .i64 bg, .int .u16 (n : Int)], .int .i64 1] (by simp [go_sem]) _ _ (H1.out wq) (fun w' hb => hK _ _ rfl hb)
    · intro f wq hC hd KK hK
      clear hd
      have c0 : wq.cell? ⟨w.heap.size, 0, none⟩ = some (.int .i64 fg) := hC.1.cell 0
      have c1 : wq.cell? ⟨w.heap.size, 1, none⟩ = some (.int .i64 bg) := hC.1.cell 1
      have c2 : wq.cell? ⟨w.heap.size, 2, none⟩ = some (.int .u16 (n : Int)) := hC.1.cell 2
      clear hC
      simp only [List.take_succ_cons, List.take_zero, setAll, List.setIfInBounds_toArray, List.set_cons_succ, List.set_cons_zero, Nat.zero_add, Nat.reduceAdd] at hK ⊢
      refine wp_of_quiet rfl ?_
      go_big_quiet_step (fail)
      exact wpQuiet_nil (hK _ _ (rfl) (Below.refl _ _))
    · intro f wq hC hd KK hK
      have g6 : f 6 = .agg #[.int .i64 fg, .int .i64 bg, .int .u16 (n : Int)] := hd 6 (by kernel_rfl)
      clear hd
      simp only [List.take_succ_cons, List.take_zero, setAll, List.setIfInBounds_toArray, List.set_cons_succ, List.set_cons_zero, Nat.zero_add, Nat.reduceAdd, g6] at hK ⊢
      exact wp_call 45 #[.agg #[.int .i64 fg, .int .i64 bg, .int .u16 (n : Int)], .int .i64 2] (by simp [go_sem]) _ _ (H2.out wq) (fun w' hb => hK _ _ rfl hb)
    · intro f wq hC hd KK hK
      clear hd
      have c0 : wq.cell? ⟨w.heap.size, 0, none⟩ = some (.int .i64 fg) := hC.1.cell 0
      have c1 : wq.cell? ⟨w.heap.size, 1, none⟩ = some (.int .i64 bg) := hC.1.cell 1
      have c2 : wq.cell? ⟨w.heap.size, 2, none⟩ = some (.int .u16 (n : Int)) := hC.1.cell 2
      clear hC
      simp only [List.take_succ_cons, List.take_zero, setAll, List.setIfInBounds_toArray, List.set_cons_succ, List.set_cons_zero, Nat.zero_add, Nat.reduceAdd] at hK ⊢
      refine wp_of_quiet rfl ?_
      go_big_quiet_step (fail)
      exact wpQuiet_nil (hK _ _ (rfl) (Below.refl _ _))
    · intro f wq hC hd KK hK
      have g8 : f 8 = .agg #[.int .i64 fg, .int .i64 bg, .int .u16 (n : Int)] := hd 8 (by kernel_rfl)
      clear hd
      simp only [List.take_succ_cons, List.take_zero, setAll, List.setIfInBounds_toArray, List.set_cons_succ, List.set_cons_zero, Nat.zero_add, Nat.reduceAdd, g8] at hK ⊢
      exact wp_call 45 #[.agg #[.int .i64 fg, .int .i64 bg, .int .u16 (n : Int)], .int .i64 3] (by simp [go_sem]) _ _ (H3.out wq) (fun w' hb => hK _ _ rfl hb)
    · intro f wq hC hd KK hK
      clear hd
      have c0 : wq.cell? ⟨w.heap.size, 0, none⟩ = some (.int .i64 fg) := hC.1.cell 0
      have c1 : wq.cell? ⟨w.heap.size, 1, none⟩ = some (.int .i64 bg) := hC.1.cell 1
      have c2 : wq.cell? ⟨w.heap.size, 2, none⟩ = some (.int .u16 (n : Int)) := hC.1.cell 2
      clear hC
      simp only [List.take_succ_cons, List.take_zero, setAll, List.setIfInBounds_toArray, List.set_cons_succ, List.set_cons_zero, Nat.zero_add, Nat.reduceAdd] at hK ⊢
      refine wp_of_quiet rfl ?_
      go_big_quiet_step (fail)
      exact wpQuiet_nil (hK _ _ (rfl) (Below.refl _ _))
    · intro f wq hC hd KK hK
      have g10 : f 10 = .agg #[.int .i64 fg, .int .i64 bg, .int .u16 (n : Int)] := hd 10 (by kernel_rfl)
      clear hd
      simp only [List.take_succ_cons, List.take_zero, setAll, List.setIfInBounds_toArray, List.set_cons_succ, List.set_cons_zero, Nat.zero_add, Nat.reduceAdd, g10] at hK ⊢
      exact wp_call 45 #[.agg #[.int .i64 fg, .int .i64 bg, .int .u16 (n : Int)], .int .i64 4] (by simp [go_sem]) _ _ (H4.out wq) (fun w' hb => hK _ _ rfl hb)
    · intro f wq hC hd KK hK
      clear hd
      have c0 : wq.cell? ⟨w.heap.size, 0, none⟩ = some (.int .i64 fg) := hC.1.cell 0
      have c1 : wq.cell? ⟨w.heap.size, 1, none⟩ = some (.int .i64 bg) := hC.1.cell 1
      have c2 : wq.cell? ⟨w.heap.size, 2, none⟩ = some (.int .u16 (n : Int)) := hC.1.cell 2
      clear hC
      simp only [List.take_succ_cons, List.take_zero, setAll, List.setIfInBounds_toArray, List.set_cons_succ, List.set_cons_zero, Nat.zero_add, Nat.reduceAdd] at hK ⊢
      refine wp_of_quiet rfl ?_
      go_big_quiet_step (fail)
      exact wpQuiet_nil (hK _ _ (rfl) (Below.refl _ _))
    · intro f wq hC hd KK hK
      have g12 : f 12 = .agg #[.int .i64 fg, .int .i64 bg, .int .u16 (n : Int)] := hd 12 (by kernel_rfl)
      clear hd
      simp only [List.take_succ_cons, List.take_zero, setAll, List.setIfInBounds_toArray, List.set_cons_succ, List.set_cons_zero, Nat.zero_add, Nat.reduceAdd, g12] at hK ⊢
      exact wp_call 45 #[.agg #[.int .i64 fg, .int .i64 bg, .int .u16 (n : Int)], .int .i64 5] (by simp [go_sem]) _ _ (H5.out wq) (fun w' hb => hK _ _ rfl hb)
    · intro f wq hC hd KK hK
      clear hd
      have c0 : wq.cell? ⟨w.heap.size, 0, none⟩ = some (.int .i64 fg) := hC.1.cell 0
      have c1 : wq.cell? ⟨w.heap.size, 1, none⟩ = some (.int .i64 bg) := hC.1.cell 1
      have c2 : wq.cell? ⟨w.heap.size, 2, none⟩ = some (.int .u16 (n : Int)) := hC.1.cell 2
      clear hC
      simp only [List.take_succ_cons, List.take_zero, setAll, List.setIfInBounds_toArray, List.set_cons_succ, List.set_cons_zero, Nat.zero_add, Nat.reduceAdd] at hK ⊢
      refine wp_of_quiet rfl ?_
      go_big_quiet_step (fail)
      exact wpQuiet_nil (hK _ _ (rfl) (Below.refl _ _))
    · intro f wq hC hd KK hK
      have g14 : f 14 = .agg #[.int .i64 fg, .int .i64 bg, .int .u16 (n : Int)] := hd 14 (by kernel_rfl)
      clear hd
      simp only [List.take_succ_cons, List.take_zero, setAll, List.setIfInBounds_toArray, List.set_cons_succ, List.set_cons_zero, Nat.zero_add, Nat.reduceAdd, g14] at hK ⊢
      exact wp_call 45 #[.agg #[.int .i64 fg, .int .i64 bg, .int .u16 (n : Int)], .int .i64 7] (by simp [go_sem]) _ _ (H7.out wq) (fun w' hb => hK _ _ rfl hb)
    · intro f wq hC hd KK hK
      clear hd
      have c0 : wq.cell? ⟨w.heap.size, 0, none⟩ = some (.int .i64 fg) := hC.1.cell 0
      have c1 : wq.cell? ⟨w.heap.size, 1, none⟩ = some (.int .i64 bg) := hC.1.cell 1
      have c2 : wq.cell? ⟨w.heap.size, 2, none⟩ = some (.int .u16 (n : Int)) := hC.1.cell 2
      clear hC
      simp only [List.take_succ_cons, List.take_zero, setAll, List.setIfInBounds_toArray, List.set_cons_succ, List.set_cons_zero, Nat.zero_add, Nat.reduceAdd] at hK ⊢
      refine wp_of_quiet rfl ?_
      go_big_quiet_step (fail)
      exact wpQuiet_nil (hK _ _ (rfl) (Below.refl _ _))
    · intro f wq hC hd KK hK
      have g16 : f 16 = .agg #[.int .i64 fg, .int .i64 bg, .int .u16 (n : Int)] := hd 16 (by kernel_rfl)
      clear hd
      simp only [List.take_succ_cons, List.take_zero, setAll, List.setIfInBounds_toArray, List.set_cons_succ, List.set_cons_zero, Nat.zero_add, Nat.reduceAdd, g16] at hK ⊢
      exact wp_call 45 #[.agg #[.int .i64 fg, .int .i64 bg, .int .u16 (n : Int)], .int .i64 8] (by simp [go_sem]) _ _ (H8.out wq) (fun w' hb => hK _ _ rfl hb)
    · intro f wq hC hd KK hK
      clear hd
      have c0 : wq.cell? ⟨w.heap.size, 0, none⟩ = some (.int .i64 fg) := hC.1.cell 0
      have c1 : wq.cell? ⟨w.heap.size, 1, none⟩ = some (.int .i64 bg) := hC.1.cell 1
      have c2 : wq.cell? ⟨w.heap.size, 2, none⟩ = some (.int .u16 (n : Int)) := hC.1.cell 2
      clear hC
      simp only [List.take_succ_cons, List.take_zero, setAll, List.setIfInBounds_toArray, List.set_cons_succ, List.set_cons_zero, Nat.zero_add, Nat.reduceAdd] at hK ⊢
      refine wp_of_quiet rfl ?_
      go_big_quiet_step (fail)
      exact wpQuiet_nil (hK _ _ (rfl) (Below.refl _ _))
    · intro f wq hC hd KK hK
      have g18 : f 18 = .agg #[.int .i64 fg, .int .i64 bg, .int .u16 (n : Int)] := hd 18 (by kernel_rfl)
      clear hd
      simp only [List.take_succ_cons, List.take_zero, setAll, List.setIfInBounds_toArray, List.set_cons_succ, List.set_cons_zero, Nat.zero_add, Nat.reduceAdd, g18] at hK ⊢
      exact wp_call 45 #[.agg #[.int .i64 fg, .int .i64 bg, .int .u16 (n : Int)], .int .i64 9] (by simp [go_sem]) _ _ (H9.out wq) (fun w' hb => hK _ _ rfl hb)
  · intro f wz hC hv
    have p0 : f 0 = .pointer (some ⟨w.heap.size, 0, none⟩) := hv 0 (by decide)
    have p1 : f 1 = .int .i64 fg := hv 1 (by decide)
    have p2 : f 2 = .pointer (some ⟨w.heap.size, 1, none⟩) := hv 2 (by decide)
    have p3 : f 3 = .int .i64 bg := hv 3 (by decide)
    have p4 : f 4 = .agg #[.int .i64 fg, .int .i64 bg, .int .u16 (n : Int)] := hv 4 (by decide)
    have p5 : f 5 = .bool y1 := hv 5 (by decide)
    have p6 : f 6 = .agg #[.int .i64 fg, .int .i64 bg, .int .u16 (n : Int)] := hv 6 (by decide)
    have p7 : f 7 = .bool y2 := hv 7 (by decide)
    have p8 : f 8 = .agg #[.int .i64 fg, .int .i64 bg, .int .u16 (n : Int)] := hv 8 (by decide)
    have p9 : f 9 = .bool y3 := hv 9 (by decide)
    have p10 : f 10 = .agg #[.int .i64 fg, .int .i64 bg, .int .u16 (n : Int)] := hv 10 (by decide)
    have p11 : f 11 = .bool y4 := hv 11 (by decide)
    have p12 : f 12 = .agg #[.int .i64 fg, .int .i64 bg, .int .u16 (n : Int)] := hv 12 (by decide)
    have p13 : f 13 = .bool y5 := hv 13 (by decide)
    have p14 : f 14 = .agg #[.int .i64 fg, .int .i64 bg, .int .u16 (n : Int)] := hv 14 (by decide)
    have p15 : f 15 = .bool y7 := hv 15 (by decide)
    have p16 : f 16 = .agg #[.int .i64 fg, .int .i64 bg, .int .u16 (n : Int)] := hv 16 (by decide)
    have p17 : f 17 = .bool y8 := hv 17 (by decide)
    have p18 : f 18 = .agg #[.int .i64 fg, .int .i64 bg, .int .u16 (n : Int)] := hv 18 (by decide)
    have p19 : f 19 = .bool y9 := hv 19 (by decide)
    simp only [List.take_succ_cons, List.take_zero, List.drop_succ_cons, List.drop_zero, setAll, List.setIfInBounds_toArray, List.set_cons_succ, List.set_cons_zero, Nat.zero_add, Nat.reduceAdd, p0, p1, p2, p3, p4, p5, p6, p7, p8, p9, p10, p11, p12, p13, p14, p15, p16, p17, p18, p19]
    clear hv p0 p1 p2 p3 p4 p5 p6 p7 p8 p9 p10 p11 p12 p13 p14 p15 p16 p17 p18 p19
    obtain ⟨z1, z2, z3, z4⟩ := hC
    have Z2 := Box'.mk z2
    have Z3 := Box'.mk z3
    clear z1 z2 z3 z4 H1 H2 H3 H4 H5 H7 H8 H9 RM RL BB SZ
    go_wp2_with (first
      | (refine wpList_store_row rfl 24 (.tmp 2) (.tmp 23) rfl (w.heap.size + 1) rfl #[.int .i64 fg, .int .i64 bg, .bool y1, .bool y2, .bool y3, .bool y4, .bool y5, .bool y7, .bool y8, .bool y9] rfl 24 10 Z2.out S24.out rfl O.out ?_))
    exact bodyPost_ret (results30 _ (w.heap.size + 1) rfl _ _ (Z2.out.setRow _) rfl) rfl ⟨rfl, below_setRow Z3.out (by omega) _⟩
end Go.Proofs.Ytnlladjkajmpoaa
