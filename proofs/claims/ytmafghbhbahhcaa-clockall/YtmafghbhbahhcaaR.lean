/- The walks of the reference's functions. -/
import Derived.Test.YtmafghbhbahhcaaA
namespace Go.Proofs.Ytmafghbhbahhcaa
open Go.RowKit Go.BigFrame
set_option linter.unusedVariables false
set_option linter.unusedSimpArgs false

theorem rmay_any (a : Bool) (m s : Int) (w : World) : Calls Try.prog 14 #[.agg #[.bool a, .int .i64 m, .int .i64 s]] w fun e w' => e = .returned (.bool (Gf.mayB a m s)) ∧ Below w.heap.size w w' := by
  by_cases h1 : m < 0
  · rw [show Gf.mayB a m s = false from decide_eq_false fun h => by omega]
    go_enter Try.func14, Try.ntmps14
    go_wp2
    go_ret
    exact ⟨rfl, (Below.refl _ _).alloc (Nat.le_refl _) _⟩
  by_cases h2 : m > 524280
  · rw [show Gf.mayB a m s = false from decide_eq_false fun h => by omega]
    go_enter Try.func14, Try.ntmps14
    go_wp2
    go_ret
    exact ⟨rfl, (Below.refl _ _).alloc (Nat.le_refl _) _⟩
  by_cases h3 : s < 0
  · rw [show Gf.mayB a m s = false from decide_eq_false fun h => by omega]
    go_enter Try.func14, Try.ntmps14
    go_wp2
    go_ret
    exact ⟨rfl, (Below.refl _ _).alloc (Nat.le_refl _) _⟩
  by_cases h4 : s > 262140
  · rw [show Gf.mayB a m s = false from decide_eq_false fun h => by omega]
    go_enter Try.func14, Try.ntmps14
    go_wp2
    go_ret
    exact ⟨rfl, (Below.refl _ _).alloc (Nat.le_refl _) _⟩
  cases a with
  | true =>
    rw [show Gf.mayB true m s = true from Gf.may_mk (by omega)]
    go_enter Try.func14, Try.ntmps14
    go_wp2
    go_ret
    exact ⟨rfl, (Below.refl _ _).alloc (Nat.le_refl _) _⟩
  | false =>
    by_cases h5 : m = 0
    · subst h5
      by_cases h6 : s = 0
      · subst h6
        rw [Gf.may_start]
        clear h1 h2 h3 h4
        go_enter Try.func14, Try.ntmps14
        go_wp2
        go_ret
        exact ⟨rfl, (Below.refl _ _).alloc (Nat.le_refl _) _⟩
      · rw [show Gf.mayB false 0 s = false from decide_eq_false fun h => by rcases h.2.2.2.2 with h | h <;> simp_all]
        have i1 : (s == 0) = false := by rw [beq_eq_false_iff_ne]; exact h6
        clear h1 h2
        go_enter Try.func14, Try.ntmps14
        go_wp2
        go_ret
        refine ⟨?_, (Below.refl _ _).alloc (Nat.le_refl _) _⟩
        simp [i1]
    · rw [show Gf.mayB false m s = false from decide_eq_false fun h => by rcases h.2.2.2.2 with h | h <;> simp_all]
      have i1 : (m == 0) = false := by rw [beq_eq_false_iff_ne]; exact h5
      go_enter Try.func14, Try.ntmps14
      go_wp2
      go_ret
      refine ⟨?_, (Below.refl _ _).alloc (Nat.le_refl _) _⟩
      simp [i1]
theorem within_any (n lo hi : Int) (w : World) : Calls Try.prog 22 #[.int .i64 n, .int .i64 lo, .int .i64 hi] w fun e w' => e = .returned (.int .i64 (Gf.wi n lo hi)) ∧ w' = w := by
  unfold Gf.wi
  by_cases g1 : hi < n
  · by_cases g2 : hi > lo
    · rw [show max lo (min n hi) = hi by omega]
      go_enter Try.func22, Try.ntmps22
      go_wp2
      go_ret
      exact ⟨rfl, rfl⟩
    · rw [show max lo (min n hi) = lo by omega]
      go_enter Try.func22, Try.ntmps22
      go_wp2
      go_ret
      exact ⟨rfl, rfl⟩
  · by_cases g2 : n > lo
    · rw [show max lo (min n hi) = n by omega]
      go_enter Try.func22, Try.ntmps22
      go_wp2
      go_ret
      exact ⟨rfl, rfl⟩
    · rw [show max lo (min n hi) = lo by omega]
      go_enter Try.func22, Try.ntmps22
      go_wp2
      go_ret
      exact ⟨rfl, rfl⟩

theorem bcell' {W w1 : World} (hb : Below W.heap.size W w1) : (∀ b o, b < W.heap.size → w1.cell? ⟨b, o, none⟩ = W.cell? ⟨b, o, none⟩) ∧ (∀ b o, b < W.heap.size → w1.frozen? ⟨b, o, none⟩ = W.frozen? ⟨b, o, none⟩) :=
  ⟨fun b o h => hb.cell (p := ⟨b, o, none⟩) h, fun b o h => hb.frozen (p := ⟨b, o, none⟩) h⟩
set_option maxHeartbeats 1000000 in
theorem rtimeout_any (a : Bool) (m s : Int) (w : World) : Calls Try.prog 10 #[.agg #[.bool a, .int .i64 m, .int .i64 s]] w fun e w' => e = .returned (.tuple #[.int .i64 (Gf.tmO a m s), .int .i64 (Gf.erE a m s)]) ∧ Below w.heap.size w w' := by
  have hm := fun w => rmay_any a m s w
  unfold Gf.tmO Gf.erE
  cases h : Gf.mayB a m s with
  | false =>
    rw [h] at hm
    clear h
    go_enter Try.func10, Try.ntmps10
    go_wp2_with (fail)
    refine (hm _).mono ?_
    rintro e w1 ⟨rfl, hb⟩
    have B1 := Box'.mk (((Below.refl w.heap.size w).alloc (Nat.le_refl _) (.cells #[.bool a, .int .i64 m, .int .i64 s] 23)).trans (hb.mono (by simp)))
    clear hb hm
    go_wp2
    go_ret2
    exact ⟨rfl, B1.out⟩
  | true =>
    rw [h] at hm
    obtain ⟨hm1, hm2, hm3, hm4, _⟩ := Gf.may_of h
    clear h
    cases a with
    | false =>
      go_enter Try.func10, Try.ntmps10
      go_wp2_with (fail)
      refine (hm _).mono ?_
      rintro e w1 ⟨rfl, hb⟩
      have B1 := Box'.mk (((Below.refl w.heap.size w).alloc (Nat.le_refl _) (.cells #[.bool false, .int .i64 m, .int .i64 s] 23)).trans (hb.mono (by simp)))
      obtain ⟨hc, hf⟩ := bcell' hb
      clear hb hm
      go_wp2
      go_ret2
      exact ⟨rfl, B1.out⟩
    | true =>
      have hW := within_any (m / 8 + s) 50 1000
      go_enter Try.func10, Try.ntmps10
      go_wp2_with (fail)
      refine (hm _).mono ?_
      rintro e w1 ⟨rfl, hb⟩
      have B1 := Box'.mk (((Below.refl w.heap.size w).alloc (Nat.le_refl _) (.cells #[.bool true, .int .i64 m, .int .i64 s] 23)).trans (hb.mono (by simp)))
      obtain ⟨hc, hf⟩ := bcell' hb
      clear hb hm
      go_wp2_with (fail)
      refine (hW _).mono ?_
      rintro e w2 ⟨rfl, rfl⟩
      go_wp2
      go_ret2
      exact ⟨rfl, B1.out⟩
set_option maxHeartbeats 1000000 in
theorem rpace_any (a : Bool) (m s : Int) (w : World) : Calls Try.prog 12 #[.agg #[.bool a, .int .i64 m, .int .i64 s]] w fun e w' => e = .returned (.tuple #[.int .i64 (Gf.paO a m s), .int .i64 (Gf.erE a m s)]) ∧ Below w.heap.size w w' := by
  have hm := fun w => rmay_any a m s w
  unfold Gf.paO Gf.erE
  cases h : Gf.mayB a m s with
  | false =>
    rw [h] at hm
    clear h
    go_enter Try.func12, Try.ntmps12
    go_wp2_with (fail)
    refine (hm _).mono ?_
    rintro e w1 ⟨rfl, hb⟩
    have B1 := Box'.mk (((Below.refl w.heap.size w).alloc (Nat.le_refl _) (.cells #[.bool a, .int .i64 m, .int .i64 s] 23)).trans (hb.mono (by simp)))
    clear hb hm
    go_wp2
    go_ret2
    exact ⟨rfl, B1.out⟩
  | true =>
    rw [h] at hm
    obtain ⟨hm1, hm2, hm3, hm4, _⟩ := Gf.may_of h
    clear h
    cases a with
    | false =>
      go_enter Try.func12, Try.ntmps12
      go_wp2_with (fail)
      refine (hm _).mono ?_
      rintro e w1 ⟨rfl, hb⟩
      have B1 := Box'.mk (((Below.refl w.heap.size w).alloc (Nat.le_refl _) (.cells #[.bool false, .int .i64 m, .int .i64 s] 23)).trans (hb.mono (by simp)))
      obtain ⟨hc, hf⟩ := bcell' hb
      clear hb hm
      go_wp2
      go_ret2
      exact ⟨rfl, B1.out⟩
    | true =>
      have hW := within_any (m / 8 / 2) 20 250
      go_enter Try.func12, Try.ntmps12
      go_wp2_with (fail)
      refine (hm _).mono ?_
      rintro e w1 ⟨rfl, hb⟩
      have B1 := Box'.mk (((Below.refl w.heap.size w).alloc (Nat.le_refl _) (.cells #[.bool true, .int .i64 m, .int .i64 s] 23)).trans (hb.mono (by simp)))
      obtain ⟨hc, hf⟩ := bcell' hb
      clear hb hm
      go_wp2_with (fail)
      refine (hW _).mono ?_
      rintro e w2 ⟨rfl, rfl⟩
      go_wp2
      go_ret2
      exact ⟨rfl, B1.out⟩
set_option maxHeartbeats 2000000 in
theorem rsample_any (a : Bool) (m s x : Int) (h1 : 0 ≤ x) (h2 : x ≤ 65535) (w : World) : Calls Try.prog 8 #[.agg #[.bool a, .int .i64 m, .int .i64 s], .int .u16 x] w fun e w' => e = .returned (.tuple #[.agg #[.bool (Gf.smA a m s), .int .i64 (Gf.smM a m s x), .int .i64 (Gf.smS a m s x)], .int .i64 (Gf.erE a m s)]) ∧ Below w.heap.size w w' := by
  have hm := fun w => rmay_any a m s w
  unfold Gf.smA Gf.smM Gf.smS Gf.erE
  cases h : Gf.mayB a m s with
  | false =>
    rw [h] at hm
    clear h
    go_enter Try.func8, Try.ntmps8
    go_wp2_with (fail)
    refine (hm _).mono ?_
    rintro e w1 ⟨rfl, hb⟩
    have B1 := Box'.mk (((Below.refl w.heap.size w).alloc (Nat.le_refl _) (.cells #[.bool a, .int .i64 m, .int .i64 s] 23)).alloc (by simp) (.cells #[.bool false, .int .i64 0, .int .i64 0] 23) |>.trans (hb.mono (by simp; omega)))
    have r1 : Row w1 (w.heap.size + 1) 23 #[.bool false, .int .i64 0, .int .i64 0] := (Row.made _ 23 _ _ (w.heap.size + 1) rfl (by simp)).below hb (by simp)
    obtain ⟨hc, hf⟩ := bcell' hb
    have hz : w.heap.size + 1 < w1.heap.size := by have := hb.size; simp at this; omega
    have R1 := Box'.mk r1
    clear hb hm r1
    go_wp2
    exact bodyPost_ret (results_row_slot Try.results8 _ (w.heap.size + 1) rfl _ rfl 23 _ (((R1.out.setCell 0 _).setCell 1 _).setCell 2 _) _ Try.underlying23 rfl 3 Try.info23 rfl) rfl ⟨rfl, ((B1.out.setCell (by simp) _).setCell (by simp) _).setCell (by simp) _⟩
  | true =>
    rw [h] at hm
    obtain ⟨hm1, hm2, hm3, hm4, _⟩ := Gf.may_of h
    clear h
    cases a with
    | false =>
      go_enter Try.func8, Try.ntmps8
      go_wp2_with (fail)
      refine (hm _).mono ?_
      rintro e w1 ⟨rfl, hb⟩
      have B1 := Box'.mk (((Below.refl w.heap.size w).alloc (Nat.le_refl _) (.cells #[.bool false, .int .i64 m, .int .i64 s] 23)).alloc (by simp) (.cells #[.bool false, .int .i64 0, .int .i64 0] 23) |>.trans (hb.mono (by simp; omega)))
      have r1 : Row w1 (w.heap.size + 1) 23 #[.bool false, .int .i64 0, .int .i64 0] := (Row.made _ 23 _ _ (w.heap.size + 1) rfl (by simp)).below hb (by simp)
      obtain ⟨hc, hf⟩ := bcell' hb
      have hz : w.heap.size + 1 < w1.heap.size := by have := hb.size; simp at this; omega
      have R1 := Box'.mk r1
      clear hb hm r1
      go_wp2
      exact bodyPost_ret (results_row_slot Try.results8 _ (w.heap.size + 1) rfl _ rfl 23 _ (((R1.out.setCell 0 _).setCell 1 _).setCell 2 _) _ Try.underlying23 rfl 3 Try.info23 rfl) rfl ⟨rfl, ((B1.out.setCell (by simp) _).setCell (by simp) _).setCell (by simp) _⟩
    | true =>
      have hab := Gf.abs_bd h1 h2 hm1 hm2
      rw [if_pos rfl, if_pos rfl]
      by_cases hd : x - m / 8 < 0
      · rw [show Gf.absI (x - m / 8) = -(x - m / 8) from if_pos hd] at *
        rw [show s + -(x - m / 8) - s / 4 = s + (-(x - m / 8) - s / 4) by omega]
        go_enter Try.func8, Try.ntmps8
        go_wp2_with (fail)
        refine (hm _).mono ?_
        rintro e w1 ⟨rfl, hb⟩
        have B1 := Box'.mk (((Below.refl w.heap.size w).alloc (Nat.le_refl _) (.cells #[.bool true, .int .i64 m, .int .i64 s] 23)).alloc (by simp) (.cells #[.bool false, .int .i64 0, .int .i64 0] 23) |>.trans (hb.mono (by simp; omega)))
        have r0 : Row w1 w.heap.size 23 #[.bool true, .int .i64 m, .int .i64 s] := ((Row.made _ 23 _ _ w.heap.size rfl rfl).alloc _).below hb (by simp; omega)
        have r1 : Row w1 (w.heap.size + 1) 23 #[.bool false, .int .i64 0, .int .i64 0] := (Row.made _ 23 _ _ (w.heap.size + 1) rfl (by simp)).below hb (by simp)
        obtain ⟨hc, hf⟩ := bcell' hb
        have hz : w.heap.size + 1 < w1.heap.size := by have := hb.size; simp at this; omega
        have R0 := Box'.mk ((r0.setCell 1 (.int .i64 (m + (x - m / 8)))).setCell 2 (.int .i64 (s + (-(x - m / 8) - s / 4))))
        have R1 := Box'.mk ((r1.setOther ⟨w.heap.size, 1, none⟩ (.int .i64 (m + (x - m / 8))) (by simp)).setOther ⟨w.heap.size, 2, none⟩ (.int .i64 (s + (-(x - m / 8) - s / 4))) (by simp))
        clear hb hm r1 r0
        go_wp2_with (first | (refine wpList_load_row rfl 23 (.tmp 2) rfl _ rfl _ _ R0.out _ Try.underlying23 rfl 3 Try.info23 rfl ?_) | fail)
        exact bodyPost_ret (results_row_slot Try.results8 _ (w.heap.size + 1) rfl _ rfl 23 _ (((R1.out.setCell 0 _).setCell 1 _).setCell 2 _) _ Try.underlying23 rfl 3 Try.info23 rfl) rfl ⟨rfl, ((((B1.out.setCell (by simp) _).setCell (by simp) _).setCell (by simp) _).setCell (by simp) _).setCell (by simp) _⟩
      · rw [show Gf.absI (x - m / 8) = x - m / 8 from if_neg hd] at *
        rw [show s + (x - m / 8) - s / 4 = s + (x - m / 8 - s / 4) by omega]
        go_enter Try.func8, Try.ntmps8
        go_wp2_with (fail)
        refine (hm _).mono ?_
        rintro e w1 ⟨rfl, hb⟩
        have B1 := Box'.mk (((Below.refl w.heap.size w).alloc (Nat.le_refl _) (.cells #[.bool true, .int .i64 m, .int .i64 s] 23)).alloc (by simp) (.cells #[.bool false, .int .i64 0, .int .i64 0] 23) |>.trans (hb.mono (by simp; omega)))
        have r0 : Row w1 w.heap.size 23 #[.bool true, .int .i64 m, .int .i64 s] := ((Row.made _ 23 _ _ w.heap.size rfl rfl).alloc _).below hb (by simp; omega)
        have r1 : Row w1 (w.heap.size + 1) 23 #[.bool false, .int .i64 0, .int .i64 0] := (Row.made _ 23 _ _ (w.heap.size + 1) rfl (by simp)).below hb (by simp)
        obtain ⟨hc, hf⟩ := bcell' hb
        have hz : w.heap.size + 1 < w1.heap.size := by have := hb.size; simp at this; omega
        have R0 := Box'.mk ((r0.setCell 1 (.int .i64 (m + (x - m / 8)))).setCell 2 (.int .i64 (s + (x - m / 8 - s / 4))))
        have R1 := Box'.mk ((r1.setOther ⟨w.heap.size, 1, none⟩ (.int .i64 (m + (x - m / 8))) (by simp)).setOther ⟨w.heap.size, 2, none⟩ (.int .i64 (s + (x - m / 8 - s / 4))) (by simp))
        clear hb hm r1 r0
        go_wp2_with (first | (refine wpList_load_row rfl 23 (.tmp 2) rfl _ rfl _ _ R0.out _ Try.underlying23 rfl 3 Try.info23 rfl ?_) | fail)
        exact bodyPost_ret (results_row_slot Try.results8 _ (w.heap.size + 1) rfl _ rfl 23 _ (((R1.out.setCell 0 _).setCell 1 _).setCell 2 _) _ Try.underlying23 rfl 3 Try.info23 rfl) rfl ⟨rfl, ((((B1.out.setCell (by simp) _).setCell (by simp) _).setCell (by simp) _).setCell (by simp) _).setCell (by simp) _⟩
end Go.Proofs.Ytmafghbhbahhcaa
