/- The walks of Sample, Timeout, Pace. -/
import Derived.Test.YtmafghbhbahhcaaA
import Derived.Deep.RegionHeld3
namespace Go.Proofs.Ytmafghbhbahhcaa
open Go.RowKit Go.BigFrame
set_option linter.unusedVariables false

theorem bcell {W w1 : World} (hb : Below W.heap.size W w1) : (∀ b o, b < W.heap.size → w1.cell? ⟨b, o, none⟩ = W.cell? ⟨b, o, none⟩) ∧ (∀ b o, b < W.heap.size → w1.frozen? ⟨b, o, none⟩ = W.frozen? ⟨b, o, none⟩) :=
  ⟨fun b o h => hb.cell (p := ⟨b, o, none⟩) h, fun b o h => hb.frozen (p := ⟨b, o, none⟩) h⟩

set_option maxHeartbeats 1000000 in
theorem sample_no (a : Bool) (m s x : Int) (h : Gf.mayB a m s = false) (h1 : 0 ≤ x) (h2 : x ≤ 65535) (w : World) : Calls Try.prog 7 #[.agg #[.bool a, .int .i64 m, .int .i64 s], .int .u16 x] w fun e w' => e = .returned (.tuple #[.agg #[.bool false, .int .i64 0, .int .i64 0], .int .i64 2]) ∧ Below w.heap.size w w' := by
  have hm := fun w => may_no a m s h w
  clear h
  go_enter Try.func7, Try.ntmps7
  go_wp2_with (fail)
  refine (hm _).mono ?_
  rintro e w1 ⟨rfl, hb⟩
  have B1 := Box'.mk (((Below.refl w.heap.size w).alloc (Nat.le_refl _) (.cells #[.bool a, .int .i64 m, .int .i64 s] 23)).alloc (by simp) (.cells #[.bool false, .int .i64 0, .int .i64 0] 23) |>.trans (hb.mono (by simp; omega)))
  obtain ⟨hc, hf⟩ := bcell hb
  have hz : w.heap.size + 1 < w1.heap.size := by have := hb.size; simp at this; omega
  clear hb hm
  go_wp2
  refine bodyPost_ret (v := .tuple #[.agg #[.bool false, .int .i64 0, .int .i64 0], .int .i64 2]) (by simp [results, Try.results7, go_sem, hc]) rfl ⟨rfl, ?_⟩
  exact ((B1.out.setCell (by simp) _).setCell (by simp) _).setCell (by simp) _
set_option maxHeartbeats 1000000 in
theorem sample_first (m s x : Int) (h : Gf.mayB false m s = true) (h1 : 0 ≤ x) (h2 : x ≤ 65535) (w : World) : Calls Try.prog 7 #[.agg #[.bool false, .int .i64 m, .int .i64 s], .int .u16 x] w fun e w' => e = .returned (.tuple #[.agg #[.bool true, .int .i64 (8 * x), .int .i64 (2 * x)], .int .i64 0]) ∧ Below w.heap.size w w' := by
  have hm := fun w => may_yes false m s h w
  have hF := Box'.mk (fun w => first_any x h1 h2 w)
  clear h
  go_enter Try.func7, Try.ntmps7
  go_wp2_with (fail)
  refine (hm _).mono ?_
  rintro e w1 ⟨rfl, hb⟩
  have B1 := Box'.mk (((Below.refl w.heap.size w).alloc (Nat.le_refl _) (.cells #[.bool false, .int .i64 m, .int .i64 s] 23)).alloc (by simp) (.cells #[.bool false, .int .i64 0, .int .i64 0] 23) |>.trans (hb.mono (by simp; omega)))
  have r1 : Row w1 (w.heap.size + 1) 23 #[.bool false, .int .i64 0, .int .i64 0] := by
    refine (Row.made _ 23 _ _ (w.heap.size + 1) rfl (by simp)).below hb (by simp)
  obtain ⟨hc, hf⟩ := bcell hb
  have hz : w.heap.size + 1 < w1.heap.size := by have := hb.size; simp at this; omega
  have R1 := Box'.mk r1
  clear hb hm r1
  go_wp2_with (fail)
  refine (hF.out _).mono ?_
  rintro e w2 ⟨rfl, hb⟩
  have B2 := Box'.mk (B1.out.trans (hb.mono (by omega)))
  have r2 := R1.out.below hb R1.out.lt
  have rc0 := r2.cell 0
  have rc1 := r2.cell 1
  have rc2 := r2.cell 2
  have rf0 := r2.frozen 0
  have rf1 := r2.frozen 1
  have rf2 := r2.frozen 2
  have hz2 : w.heap.size + 1 < w2.heap.size := by have := hb.size; omega
  have R2 := Box'.mk (((r2.setCell 0 (.bool true)).setCell 1 (.int .i64 (8 * x))).setCell 2 (.int .i64 (2 * x)))
  clear hb R1 r2 hc hf hz hF B1
  go_wp2
  refine bodyPost_ret (results_row_slot Try.results7 _ (w.heap.size + 1) rfl _ rfl 23 _ R2.out _ Try.underlying23 rfl 3 Try.info23 rfl) rfl ⟨rfl, ?_⟩
  exact ((B2.out.setCell (by simp) _).setCell (by simp) _).setCell (by simp) _
set_option maxHeartbeats 2000000 in
theorem sample_next (m s x : Int) (h : Gf.mayB true m s = true) (h1 : 0 ≤ x) (h2 : x ≤ 65535) (w : World) : Calls Try.prog 7 #[.agg #[.bool true, .int .i64 m, .int .i64 s], .int .u16 x] w fun e w' => e = .returned (.tuple #[.agg #[.bool true, .int .i64 (m + (x - m / 8)), .int .i64 (s + Gf.absI (x - m / 8) - s / 4)], .int .i64 0]) ∧ Below w.heap.size w w' := by
  have hm := fun w => may_yes true m s h w
  obtain ⟨hm1, hm2, hm3, hm4, _⟩ := Gf.may_of h
  have hM := Box'.mk (fun w => meanOf_any true m s hm1 hm2 w)
  have hab := Gf.abs_bd h1 h2 hm1 hm2
  have hS := fun w => size_any (x - m / 8) (by omega) (by omega) w
  clear h
  go_enter Try.func7, Try.ntmps7
  go_wp2_with (fail)
  refine (hm _).mono ?_
  rintro e w1 ⟨rfl, hb⟩
  have B1 := Box'.mk (((Below.refl w.heap.size w).alloc (Nat.le_refl _) (.cells #[.bool true, .int .i64 m, .int .i64 s] 23)).alloc (by simp) (.cells #[.bool false, .int .i64 0, .int .i64 0] 23) |>.trans (hb.mono (by simp; omega)))
  have r0 : Row w1 (w.heap.size) 23 #[.bool true, .int .i64 m, .int .i64 s] := by
    refine ((Row.made _ 23 _ _ (w.heap.size) rfl rfl).alloc _).below hb (by simp; omega)
  have r1 : Row w1 (w.heap.size + 1) 23 #[.bool false, .int .i64 0, .int .i64 0] := by
    refine (Row.made _ 23 _ _ (w.heap.size + 1) rfl (by simp)).below hb (by simp)
  obtain ⟨hc, hf⟩ := bcell hb
  have hz : w.heap.size + 1 < w1.heap.size := by have := hb.size; simp at this; omega
  have R1 := Box'.mk r1
  have R0 := Box'.mk r0
  clear hb hm r1 r0
  go_wp2_with (fail)
  refine (hM.out _).mono ?_
  rintro e w2 ⟨rfl, hb⟩
  have B2 := Box'.mk (B1.out.trans (hb.mono (by omega)))
  have r2 := R1.out.below hb R1.out.lt
  have q2 := R0.out.below hb R0.out.lt
  have rc0 := r2.cell 0
  have rc1 := r2.cell 1
  have rc2 := r2.cell 2
  have rf0 := r2.frozen 0
  have rf1 := r2.frozen 1
  have rf2 := r2.frozen 2
  have qc0 := q2.cell 0
  have qc1 := q2.cell 1
  have qc2 := q2.cell 2
  have hz2 : w.heap.size + 1 < w2.heap.size := by have := hb.size; omega
  have R2 := Box'.mk (((r2.setCell 0 (.bool true)).setCell 1 (.int .i64 (m + (x - m / 8)))).setCell 2 (.int .i64 (s + Gf.absI (x - m / 8) - s / 4)))
  have i1 : IntKind.i64.wrap (m + (x - m / 8)) = m + (x - m / 8) := wrapI (by omega) (by omega)
  have i2 : IntKind.i64.wrap (s + Gf.absI (x - m / 8)) = s + Gf.absI (x - m / 8) := wrapI (by omega) (by omega)
  have i3 : IntKind.i64.wrap (s + Gf.absI (x - m / 8) - s / 4) = s + Gf.absI (x - m / 8) - s / 4 := wrapI (by omega) (by omega)
  clear hb R1 R0 r2 q2 hc hf hz hM B1
  go_wp2_with (fail)
  go_region_held3 (fun w' => w'.cell? ⟨w.heap.size, 1, none⟩ = some (.int .i64 m) ∧ w'.cell? ⟨w.heap.size, 2, none⟩ = some (.int .i64 s)) (go_keep)
    (first | (go_at_call 21; refine (hS _).mono ?_; rintro e w' ⟨rfl, rfl⟩))
  all_goals go_wp2
  refine bodyPost_ret (results_row_slot Try.results7 _ (w.heap.size + 1) rfl _ rfl 23 _ (R2.out.drewN 1) _ Try.underlying23 rfl 3 Try.info23 rfl) rfl ⟨rfl, ?_⟩
  exact Below.drewN (((B2.out.setCell (by simp) _).setCell (by simp) _).setCell (by simp) _) 1
theorem sample_any (a : Bool) (m s x : Int) (h1 : 0 ≤ x) (h2 : x ≤ 65535) (w : World) : Calls Try.prog 7 #[.agg #[.bool a, .int .i64 m, .int .i64 s], .int .u16 x] w fun e w' => e = .returned (.tuple #[.agg #[.bool (Gf.smA a m s), .int .i64 (Gf.smM a m s x), .int .i64 (Gf.smS a m s x)], .int .i64 (Gf.erE a m s)]) ∧ Below w.heap.size w w' := by
  unfold Gf.smA Gf.smM Gf.smS Gf.erE
  cases h : Gf.mayB a m s with
  | false => exact sample_no a m s x h h1 h2 w
  | true =>
    cases a with
    | false => exact sample_first m s x h h1 h2 w
    | true => exact sample_next m s x h h1 h2 w

theorem timeout_no (a : Bool) (m s : Int) (h : Gf.mayB a m s = false) (w : World) : Calls Try.prog 9 #[.agg #[.bool a, .int .i64 m, .int .i64 s]] w fun e w' => e = .returned (.tuple #[.int .i64 0, .int .i64 2]) ∧ Below w.heap.size w w' := by
  have hm := fun w => may_no a m s h w
  clear h
  go_enter Try.func9, Try.ntmps9
  go_wp2_with (fail)
  refine (hm _).mono ?_
  rintro e w1 ⟨rfl, hb⟩
  have B1 := Box'.mk (((Below.refl w.heap.size w).alloc (Nat.le_refl _) (.cells #[.bool a, .int .i64 m, .int .i64 s] 23)).trans (hb.mono (by simp)))
  clear hb hm
  go_wp2
  go_ret2
  exact ⟨rfl, B1.out⟩
theorem timeout_start (m s : Int) (h : Gf.mayB false m s = true) (w : World) : Calls Try.prog 9 #[.agg #[.bool false, .int .i64 m, .int .i64 s]] w fun e w' => e = .returned (.tuple #[.int .i64 1000, .int .i64 0]) ∧ Below w.heap.size w w' := by
  have hm := fun w => may_yes false m s h w
  clear h
  go_enter Try.func9, Try.ntmps9
  go_wp2_with (fail)
  refine (hm _).mono ?_
  rintro e w1 ⟨rfl, hb⟩
  have B1 := Box'.mk (((Below.refl w.heap.size w).alloc (Nat.le_refl _) (.cells #[.bool false, .int .i64 m, .int .i64 s] 23)).trans (hb.mono (by simp)))
  obtain ⟨hc, hf⟩ := bcell hb
  clear hb hm
  go_wp2
  go_ret2
  exact ⟨rfl, B1.out⟩
set_option maxHeartbeats 2000000 in
theorem timeout_to (m s r : Int) (h : Gf.mayB true m s = true) (hr : (m / 8 + s < 50 ∧ r = 50) ∨ ((50 ≤ m / 8 + s ∧ m / 8 + s ≤ 1000) ∧ r = m / 8 + s) ∨ ((50 ≤ m / 8 + s ∧ 1000 < m / 8 + s) ∧ r = 1000)) (w : World) : Calls Try.prog 9 #[.agg #[.bool true, .int .i64 m, .int .i64 s]] w fun e w' => e = .returned (.tuple #[.int .i64 r, .int .i64 0]) ∧ Below w.heap.size w w' := by
  have hm := fun w => may_yes true m s h w
  obtain ⟨hm1, hm2, hm3, hm4, _⟩ := Gf.may_of h
  have hM := (fun w => meanOf_any true m s hm1 hm2 w)
  have i1 : IntKind.i64.wrap (m / 8 + s) = m / 8 + s := wrapI (by omega) (by omega)
  clear h
  rcases hr with ⟨g1, rfl⟩ | ⟨⟨g1, g2⟩, rfl⟩ | ⟨⟨g1, g2⟩, rfl⟩
  all_goals
    go_enter Try.func9, Try.ntmps9
    go_wp2_with (fail)
    refine (hm _).mono ?_
    rintro e w1 ⟨rfl, hb⟩
    have B1 := Box'.mk (((Below.refl w.heap.size w).alloc (Nat.le_refl _) (.cells #[.bool true, .int .i64 m, .int .i64 s] 23)).trans (hb.mono (by simp)))
    have r0 : Row w1 (w.heap.size) 23 #[.bool true, .int .i64 m, .int .i64 s] := by
      refine (Row.made _ 23 _ _ (w.heap.size) rfl rfl).below hb (by simp)
    have q0 := r0.cell 0
    have q1 := r0.cell 1
    have q2 := r0.cell 2
    have hz := r0.lt
    clear hb hm r0
    go_wp2_with (fail)
    go_region_with (go_at_call 20; refine (hM _).mono ?_; rintro e w' ⟨rfl, hb'⟩; have hc2 : w'.cell? ⟨w.heap.size, 2, none⟩ = some (.int .i64 s) := (hb'.cell (p := ⟨w.heap.size, 2, none⟩) hz).trans q2)
    all_goals go_wp2
    all_goals go_ret2
    all_goals exact ⟨rfl, (Below.drewN B1.out _).trans (hb'.mono (Nat.le_of_lt hz))⟩
theorem wi_t (n : Int) : (n < 50 ∧ Gf.wi n 50 1000 = 50) ∨ ((50 ≤ n ∧ n ≤ 1000) ∧ Gf.wi n 50 1000 = n) ∨ ((50 ≤ n ∧ 1000 < n) ∧ Gf.wi n 50 1000 = 1000) := by
  unfold Gf.wi; omega
theorem timeout_any (a : Bool) (m s : Int) (w : World) : Calls Try.prog 9 #[.agg #[.bool a, .int .i64 m, .int .i64 s]] w fun e w' => e = .returned (.tuple #[.int .i64 (Gf.tmO a m s), .int .i64 (Gf.erE a m s)]) ∧ Below w.heap.size w w' := by
  unfold Gf.tmO Gf.erE
  cases h : Gf.mayB a m s with
  | false => exact timeout_no a m s h w
  | true =>
    cases a with
    | false => exact timeout_start m s h w
    | true => exact timeout_to m s _ h (wi_t _) w
theorem pace_no (a : Bool) (m s : Int) (h : Gf.mayB a m s = false) (w : World) : Calls Try.prog 11 #[.agg #[.bool a, .int .i64 m, .int .i64 s]] w fun e w' => e = .returned (.tuple #[.int .i64 0, .int .i64 2]) ∧ Below w.heap.size w w' := by
  have hm := fun w => may_no a m s h w
  clear h
  go_enter Try.func11, Try.ntmps11
  go_wp2_with (fail)
  refine (hm _).mono ?_
  rintro e w1 ⟨rfl, hb⟩
  have B1 := Box'.mk (((Below.refl w.heap.size w).alloc (Nat.le_refl _) (.cells #[.bool a, .int .i64 m, .int .i64 s] 23)).trans (hb.mono (by simp)))
  clear hb hm
  go_wp2
  go_ret2
  exact ⟨rfl, B1.out⟩
theorem pace_start (m s : Int) (h : Gf.mayB false m s = true) (w : World) : Calls Try.prog 11 #[.agg #[.bool false, .int .i64 m, .int .i64 s]] w fun e w' => e = .returned (.tuple #[.int .i64 250, .int .i64 0]) ∧ Below w.heap.size w w' := by
  have hm := fun w => may_yes false m s h w
  clear h
  go_enter Try.func11, Try.ntmps11
  go_wp2_with (fail)
  refine (hm _).mono ?_
  rintro e w1 ⟨rfl, hb⟩
  have B1 := Box'.mk (((Below.refl w.heap.size w).alloc (Nat.le_refl _) (.cells #[.bool false, .int .i64 m, .int .i64 s] 23)).trans (hb.mono (by simp)))
  obtain ⟨hc, hf⟩ := bcell hb
  clear hb hm
  go_wp2
  go_ret2
  exact ⟨rfl, B1.out⟩
set_option maxHeartbeats 2000000 in
theorem pace_to (m s r : Int) (h : Gf.mayB true m s = true) (hr : (m / 8 / 2 < 20 ∧ r = 20) ∨ ((20 ≤ m / 8 / 2 ∧ m / 8 / 2 ≤ 250) ∧ r = m / 8 / 2) ∨ ((20 ≤ m / 8 / 2 ∧ 250 < m / 8 / 2) ∧ r = 250)) (w : World) : Calls Try.prog 11 #[.agg #[.bool true, .int .i64 m, .int .i64 s]] w fun e w' => e = .returned (.tuple #[.int .i64 r, .int .i64 0]) ∧ Below w.heap.size w w' := by
  have hm := fun w => may_yes true m s h w
  obtain ⟨hm1, hm2, hm3, hm4, _⟩ := Gf.may_of h
  have hM := (fun w => meanOf_any true m s hm1 hm2 w)
  clear h
  rcases hr with ⟨g1, rfl⟩ | ⟨⟨g1, g2⟩, rfl⟩ | ⟨⟨g1, g2⟩, rfl⟩
  all_goals
    go_enter Try.func11, Try.ntmps11
    go_wp2_with (fail)
    refine (hm _).mono ?_
    rintro e w1 ⟨rfl, hb⟩
    have B1 := Box'.mk (((Below.refl w.heap.size w).alloc (Nat.le_refl _) (.cells #[.bool true, .int .i64 m, .int .i64 s] 23)).trans (hb.mono (by simp)))
    have r0 : Row w1 (w.heap.size) 23 #[.bool true, .int .i64 m, .int .i64 s] := by
      refine (Row.made _ 23 _ _ (w.heap.size) rfl rfl).below hb (by simp)
    have q0 := r0.cell 0
    have q1 := r0.cell 1
    have q2 := r0.cell 2
    have hz := r0.lt
    clear hb hm r0
    go_wp2_with (fail)
    refine (hM _).mono ?_
    rintro e w2 ⟨rfl, hb'⟩
    have B2 := Box'.mk (B1.out.trans (hb'.mono (Nat.le_of_lt hz)))
    clear hb'
    go_wp2
    go_ret2
    exact ⟨rfl, B2.out⟩
theorem wi_p (n : Int) : (n < 20 ∧ Gf.wi n 20 250 = 20) ∨ ((20 ≤ n ∧ n ≤ 250) ∧ Gf.wi n 20 250 = n) ∨ ((20 ≤ n ∧ 250 < n) ∧ Gf.wi n 20 250 = 250) := by
  unfold Gf.wi; omega
theorem pace_any (a : Bool) (m s : Int) (w : World) : Calls Try.prog 11 #[.agg #[.bool a, .int .i64 m, .int .i64 s]] w fun e w' => e = .returned (.tuple #[.int .i64 (Gf.paO a m s), .int .i64 (Gf.erE a m s)]) ∧ Below w.heap.size w w' := by
  unfold Gf.paO Gf.erE
  cases h : Gf.mayB a m s with
  | false => exact pace_no a m s h w
  | true =>
    cases a with
    | false => exact pace_start m s h w
    | true => exact pace_to m s _ h (wi_p _) w
end Go.Proofs.Ytmafghbhbahhcaa
