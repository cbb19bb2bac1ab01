/- What is told of a row of texts. -/
import Derived.Test.YtikkekdmahdgaaaTf
namespace Go.Proofs.Ytikkekdmahdgaaa
open Go.RowKit Go.BigFrame
set_option linter.unusedSimpArgs false
set_option linter.unusedVariables false
set_option maxRecDepth 100000
set_option maxHeartbeats 1000000

theorem told_one (g n c f0 : Nat) (ts : List (List UInt8)) (w : World) (h1 : n = 1) (ht : TxR w g ts) (hn : ts.length = n) (h0 : 0 < n) (hc : n ≤ c) (h32 : n ≤ 1048576) (hl : ∀ k, k < n → (ts.getD k []).length ≤ 140737488351232) (hf : f0 + n ≤ 18446744073709551616) :
    Calls Try.prog 30 #[.slice (some ⟨g, 0, none⟩) n c, .int .u64 (f0 : Int)] w fun e w' => ∃ vb, e = .returned (.tuple #[.agg #[.int .u64 (f0 : Int), .int .u64 ((f0 : Int) + ((n : Int) - 1)), .int .u64 0, .int .u64 (f0 : Int), vb], errS (sufF (ts.getD 0 []) (ts.getD (n - 1) [])).2]) ∧ OwnB w.heap.size w' vb (sufF (ts.getD 0 []) (ts.getD (n - 1) [])).1 ∧ Below w.heap.size w w' := by
  have ra : Row ((w.alloc (.cells #[.int .u64 (f0 : Int), .int .u64 (f0 : Int), .int .u64 0, .int .u64 (f0 : Int), .slice none 0 0] 41)).alloc (.cells #[.int .u64 (f0 : Int), .int .u64 (f0 : Int), .int .u64 0, .int .u64 (f0 : Int), .slice none 0 0] 41)) w.heap.size 41 #[.int .u64 (f0 : Int), .int .u64 (f0 : Int), .int .u64 0, .int .u64 (f0 : Int), .slice none 0 0] := (Row.new _ _ _).alloc _
  have RA := Box'.mk ra
  have BZ : Box' (Below w.heap.size w ((w.alloc (.cells #[.int .u64 (f0 : Int), .int .u64 (f0 : Int), .int .u64 0, .int .u64 (f0 : Int), .slice none 0 0] 41)).alloc (.cells #[.int .u64 (f0 : Int), .int .u64 (f0 : Int), .int .u64 0, .int .u64 (f0 : Int), .slice none 0 0] 41))) := ⟨((Below.refl _ _).alloc (Nat.le_refl _) _).alloc (by simp) _⟩
  have HS : Box' (sufF (ts.getD 0 []) (ts.getD (n - 1) []) = ([], true)) := ⟨by rw [h1]; exact sufF_self _⟩
  rw [HS.out]
  clear ht hn hl HS ra
  subst h1
  go_enter Try.func30, Try.ntmps30
  go_wp2_with (refine wpList_val rfl (.int .u64 (f0 : Int)) (by unfold execOp; simp [go_sem, IntKind.wrap_u64]; omega) ?_)
  refine bodyPost_ret (results_row1 rfl _ w.heap.size rfl (.int .i64 0) rfl 41 _ RA.out _ Try.underlying41 rfl 5 (by kernel_rfl) rfl) rfl ?_
  exact ⟨.slice none 0 0, by simp [errS], OwnB.nil _ _, BZ.out⟩
theorem told_more (g n c f0 : Nat) (ts : List (List UInt8)) (w : World) (h1 : ¬ n = 1) (ht : TxR w g ts) (hn : ts.length = n) (h0 : 0 < n) (hc : n ≤ c) (h32 : n ≤ 1048576) (hl : ∀ k, k < n → (ts.getD k []).length ≤ 140737488351232) (hf : f0 + n ≤ 18446744073709551616) :
    Calls Try.prog 30 #[.slice (some ⟨g, 0, none⟩) n c, .int .u64 (f0 : Int)] w fun e w' => ∃ vb, e = .returned (.tuple #[.agg #[.int .u64 (f0 : Int), .int .u64 ((f0 : Int) + ((n : Int) - 1)), .int .u64 0, .int .u64 (f0 : Int), vb], errS (sufF (ts.getD 0 []) (ts.getD (n - 1) [])).2]) ∧ OwnB w.heap.size w' vb (sufF (ts.getD 0 []) (ts.getD (n - 1) [])).1 ∧ Below w.heap.size w w' := by
  have hmD : ∀ v w, (method 232 26 v "Diff").run Try.prog w = .ok (71, v) w := fun _ _ => by kernel_rfl
  obtain ⟨w2, hw2⟩ : ∃ w2, w2 = (w.alloc (.cells z41 41)).alloc (.cells #[.int .u64 (f0 : Int), .int .u64 ((f0 : Int) + ((n : Int) - 1)), .int .u64 0, .int .u64 (f0 : Int), .slice none 0 0] 41) := ⟨_, rfl⟩
  have b2 : Below w.heap.size w w2 := by rw [hw2]; exact ((Below.refl _ _).alloc (Nat.le_refl _) _).alloc (by simp) _
  have ra : Row w2 w.heap.size 41 z41 := by rw [hw2]; exact (Row.new _ _ _).alloc _
  have rb : Row w2 (w.heap.size + 1) 41 #[.int .u64 (f0 : Int), .int .u64 ((f0 : Int) + ((n : Int) - 1)), .int .u64 0, .int .u64 (f0 : Int), .slice none 0 0] := by rw [hw2]; exact Row.made _ _ _ _ _ rfl (by simp)
  have ht3 := ht.below b2
  have hlt : (ts.getD (n - 1) []).length ≤ 140737488351232 := hl _ (by omega)
  have hlf : (ts.getD 0 []).length ≤ 140737488351232 := hl _ h0
  have CT := Box'.mk fun (wa : World) (hb : Below w2.heap.size w2 wa) => (ht3.below hb).at (n - 1) (by omega)
  have CF := Box'.mk fun (wa : World) (hb : Below w2.heap.size w2 wa) => (ht3.below hb).at 0 (by omega)
  have D := Box'.mk fun (wa : World) => diff_any (ts.getD (n - 1) []) (ts.getD 0 []) (by omega) (by omega) wa
  have HSL : Box' ((sufF (ts.getD 0 []) (ts.getD (n - 1) [])).1.length ≤ 140737488351232) := ⟨by
    unfold sufF
    split
    · simp only [List.length_drop]; omega
    · simp⟩
  have B2 := Box'.mk b2
  have RA := Box'.mk ra
  have RB := Box'.mk rb
  have hfn : f0 + (n - 1) < 18446744073709551616 := by omega
  clear ht hn hl ra rb b2 ht3 hlt hlf hf
  unfold sT at *
  unfold z41 at *
  generalize ts.getD (n - 1) [] = tl at *
  generalize ts.getD 0 [] = tf at *
  generalize (sufF tf tl).1 = sd at *
  generalize (sufF tf tl).2 = sk at *
  go_enter Try.func30, Try.ntmps30
  go_upto_region 6 with (refine wpList_add29 rfl (.tmp 14) (.tmp 18) rfl (f0 : Int) ((n : Int) - 1) rfl rfl (by omega) (by omega) ?_)
  rw [← hw2]
  clear hw2
  refine wp_region_grow 16 (by kernel_rfl) (by kernel_rfl) (fun wa wb => Below wa.heap.size wa wb) (fun wa => Below w2.heap.size w2 wa) (fun kc wa v => match kc with
    | 0 => v = .slice (some ⟨g, 0, none⟩) n c
    | 1 => v = .slice (some ⟨g, 0, none⟩) n c
    | 2 => v = .int .i64 (n : Int)
    | 3 => v = .int .i64 ((n : Int) - 1)
    | 4 => v = .pointer (some ⟨g, n - 1, none⟩)
    | 5 => v = .agg #[.string ⟨tl.toArray⟩]
    | 6 => v = .iface 26 (.agg #[.string ⟨tl.toArray⟩])
    | 7 => v = .slice (some ⟨g, 0, none⟩) n c
    | 8 => v = .pointer (some ⟨g, 0, none⟩)
    | 9 => v = .agg #[.string ⟨tf.toArray⟩]
    | 10 => ∃ vd, v = .tuple #[vd, errS sk] ∧ InG wa vd sd
    | 11 => ∃ vd, v = .tuple #[vd, errS sk] ∧ InG wa vd sd
    | 12 => InG wa v sd
    | 13 => v = errS sk
    | 14 => InG wa v sd
    | 15 => v = errS sk
    | _ => True) ?_ ?_ ?_ ?_ ?_
  · intro wa wb hb q; exact q.trans (hb.mono q.size)
  · intro kc v wa wb hC1 hb h
    match kc, h with
    | 0, h => exact h
    | 1, h => exact h
    | 2, h => exact h
    | 3, h => exact h
    | 4, h => exact h
    | 5, h => exact h
    | 6, h => exact h
    | 7, h => exact h
    | 8, h => exact h
    | 9, h => exact h
    | 10, h => exact let ⟨vd, e1, e2⟩ := h; ⟨vd, e1, e2.below hb⟩
    | 11, h => exact let ⟨vd, e1, e2⟩ := h; ⟨vd, e1, e2.below hb⟩
    | 12, h => exact InG.below h hb
    | 13, h => exact h
    | 14, h => exact InG.below h hb
    | 15, h => exact h
    | kc + 16, h => trivial
  · exact (Below.refl _ _).drew
  · refine ⟨?_, ?_, ?_, ?_, ?_, ?_, ?_, ?_, ?_, ?_, ?_, ?_, ?_, ?_, ?_, ?_, trivial⟩
    · intro f wq hC hd KK hK
      simp only [List.take_succ_cons, List.take_zero, setAll, List.setIfInBounds_toArray, List.set_cons_succ, List.set_cons_zero, Nat.zero_add, Nat.reduceAdd] at hK ⊢
      refine wp_of_quiet rfl ?_
      go_big_quiet_step (fail)
      exact wpQuiet_nil (hK _ _ rfl (Below.refl _ _))
    · intro f wq hC hd KK hK
      simp only [List.take_succ_cons, List.take_zero, setAll, List.setIfInBounds_toArray, List.set_cons_succ, List.set_cons_zero, Nat.zero_add, Nat.reduceAdd] at hK ⊢
      refine wp_of_quiet rfl ?_
      go_big_quiet_step (fail)
      exact wpQuiet_nil (hK _ _ rfl (Below.refl _ _))
    · intro f wq hC hd KK hK
      have g1 : f 1 = .slice (some ⟨g, 0, none⟩) n c := hd 1 (by kernel_rfl)
      simp only [List.take_succ_cons, List.take_zero, setAll, List.setIfInBounds_toArray, List.set_cons_succ, List.set_cons_zero, Nat.zero_add, Nat.reduceAdd, g1] at hK ⊢
      refine wp_of_quiet rfl ?_
      go_big_quiet_step (fail)
      exact wpQuiet_nil (hK _ _ rfl (Below.refl _ _))
    · intro f wq hC hd KK hK
      have g2 : f 2 = .int .i64 (n : Int) := hd 2 (by kernel_rfl)
      simp only [List.take_succ_cons, List.take_zero, setAll, List.setIfInBounds_toArray, List.set_cons_succ, List.set_cons_zero, Nat.zero_add, Nat.reduceAdd, g2] at hK ⊢
      refine wp_of_quiet rfl ?_
      go_big_quiet_step (fail)
      exact wpQuiet_nil (hK _ _ rfl (Below.refl _ _))
    · intro f wq hC hd KK hK
      have g0 : f 0 = .slice (some ⟨g, 0, none⟩) n c := hd 0 (by kernel_rfl)
      have g3 : f 3 = .int .i64 ((n : Int) - 1) := hd 3 (by kernel_rfl)
      simp only [List.take_succ_cons, List.take_zero, setAll, List.setIfInBounds_toArray, List.set_cons_succ, List.set_cons_zero, Nat.zero_add, Nat.reduceAdd, g0, g3] at hK ⊢
      refine wp_of_quiet rfl ?_
      go_big_quiet_step (fail)
      exact wpQuiet_nil (hK _ _ rfl (Below.refl _ _))
    · intro f wq hC hd KK hK
      have g4 : f 4 = .pointer (some ⟨g, n - 1, none⟩) := hd 4 (by kernel_rfl)
      have cx := CT.out wq hC
      simp only [List.take_succ_cons, List.take_zero, setAll, List.setIfInBounds_toArray, List.set_cons_succ, List.set_cons_zero, Nat.zero_add, Nat.reduceAdd, g4] at hK ⊢
      refine wp_of_quiet rfl ?_
      go_big_quiet_step (fail)
      exact wpQuiet_nil (hK _ _ rfl (Below.refl _ _))
    · intro f wq hC hd KK hK
      have g5 : f 5 = .agg #[.string ⟨tl.toArray⟩] := hd 5 (by kernel_rfl)
      simp only [List.take_succ_cons, List.take_zero, setAll, List.setIfInBounds_toArray, List.set_cons_succ, List.set_cons_zero, Nat.zero_add, Nat.reduceAdd, g5] at hK ⊢
      refine wp_of_quiet rfl ?_
      go_big_quiet_step (fail)
      exact wpQuiet_nil (hK _ _ rfl (Below.refl _ _))
    · intro f wq hC hd KK hK
      simp only [List.take_succ_cons, List.take_zero, setAll, List.setIfInBounds_toArray, List.set_cons_succ, List.set_cons_zero, Nat.zero_add, Nat.reduceAdd] at hK ⊢
      refine wp_of_quiet rfl ?_
      go_big_quiet_step (fail)
      exact wpQuiet_nil (hK _ _ rfl (Below.refl _ _))
    · intro f wq hC hd KK hK
      have g7 : f 7 = .slice (some ⟨g, 0, none⟩) n c := hd 7 (by kernel_rfl)
      simp only [List.take_succ_cons, List.take_zero, setAll, List.setIfInBounds_toArray, List.set_cons_succ, List.set_cons_zero, Nat.zero_add, Nat.reduceAdd, g7] at hK ⊢
      refine wp_of_quiet rfl ?_
      go_big_quiet_step (fail)
      exact wpQuiet_nil (hK _ _ rfl (Below.refl _ _))
    · intro f wq hC hd KK hK
      have g8 : f 8 = .pointer (some ⟨g, 0, none⟩) := hd 8 (by kernel_rfl)
      have cx := CF.out wq hC
      simp only [List.take_succ_cons, List.take_zero, setAll, List.setIfInBounds_toArray, List.set_cons_succ, List.set_cons_zero, Nat.zero_add, Nat.reduceAdd, g8] at hK ⊢
      refine wp_of_quiet rfl ?_
      go_big_quiet_step (fail)
      exact wpQuiet_nil (hK _ _ rfl (Below.refl _ _))
    · intro f wq hC hd KK hK
      have g6 : f 6 = .iface 26 (.agg #[.string ⟨tl.toArray⟩]) := hd 6 (by kernel_rfl)
      have g9 : f 9 = .agg #[.string ⟨tf.toArray⟩] := hd 9 (by kernel_rfl)
      simp only [List.take_succ_cons, List.take_zero, setAll, List.setIfInBounds_toArray, List.set_cons_succ, List.set_cons_zero, Nat.zero_add, Nat.reduceAdd, g6, g9] at hK ⊢
      refine wp_callE 71 #[.agg #[.string ⟨tl.toArray⟩], .agg #[.string ⟨tf.toArray⟩]] (by simp [go_sem, hmD]) (fun v wb => ∃ vd, v = .tuple #[vd, errS sk] ∧ InG wb vd sd ∧ Below wq.heap.size wq wb) ((D.out wq).mono ?_) ?_
      · rintro e wb ⟨vd, rfl, q1, q2⟩
        exact ⟨_, rfl, vd, rfl, q1, q2⟩
      · rintro v wb ⟨vd, rfl, q1, q2⟩
        exact hK _ _ ⟨vd, rfl, q1⟩ q2
    · intro f wq hC hd KK hK
      have q10 := hd 10 (by kernel_rfl)
      simp only at q10
      simp only [List.take_succ_cons, List.take_zero, setAll, List.setIfInBounds_toArray, List.set_cons_succ, List.set_cons_zero, Nat.zero_add, Nat.reduceAdd] at hK ⊢
      obtain ⟨vd, e10, k10⟩ := q10
      simp only [e10] at hK ⊢
      refine wp_of_quiet rfl ?_
      go_big_quiet_step (fail)
      exact wpQuiet_nil (hK _ _ ⟨vd, rfl, k10⟩ (Below.refl _ _))
    · intro f wq hC hd KK hK
      have q11 := hd 11 (by kernel_rfl)
      simp only at q11
      simp only [List.take_succ_cons, List.take_zero, setAll, List.setIfInBounds_toArray, List.set_cons_succ, List.set_cons_zero, Nat.zero_add, Nat.reduceAdd] at hK ⊢
      obtain ⟨vd, e11, k11⟩ := q11
      simp only [e11] at hK ⊢
      refine wp_of_quiet rfl ?_
      go_big_quiet_step (fail)
      exact wpQuiet_nil (hK _ _ k11 (Below.refl _ _))
    · intro f wq hC hd KK hK
      have q11 := hd 11 (by kernel_rfl)
      simp only at q11
      simp only [List.take_succ_cons, List.take_zero, setAll, List.setIfInBounds_toArray, List.set_cons_succ, List.set_cons_zero, Nat.zero_add, Nat.reduceAdd] at hK ⊢
      obtain ⟨vd, e11, k11⟩ := q11
      simp only [e11] at hK ⊢
      refine wp_of_quiet rfl ?_
      go_big_quiet_step (fail)
      exact wpQuiet_nil (hK _ _ rfl (Below.refl _ _))
    · intro f wq hC hd KK hK
      have k12 := hd 12 (by kernel_rfl)
      simp only at k12
      simp only [List.take_succ_cons, List.take_zero, setAll, List.setIfInBounds_toArray, List.set_cons_succ, List.set_cons_zero, Nat.zero_add, Nat.reduceAdd] at hK ⊢
      refine wp_of_quiet rfl ?_
      go_big_quiet_step (fail)
      exact wpQuiet_nil (hK _ _ k12 (Below.refl _ _))
    · intro f wq hC hd KK hK
      have g13 : f 13 = errS sk := hd 13 (by kernel_rfl)
      simp only [List.take_succ_cons, List.take_zero, setAll, List.setIfInBounds_toArray, List.set_cons_succ, List.set_cons_zero, Nat.zero_add, Nat.reduceAdd, g13] at hK ⊢
      refine wp_of_quiet rfl ?_
      go_big_quiet_step (fail)
      exact wpQuiet_nil (hK _ _ rfl (Below.refl _ _))
  intro f wq hC hv
  have g0 : f 0 = .slice (some ⟨g, 0, none⟩) n c := hv 0 (by decide)
  have g1 : f 1 = .slice (some ⟨g, 0, none⟩) n c := hv 1 (by decide)
  have g2 : f 2 = .int .i64 (n : Int) := hv 2 (by decide)
  have g3 : f 3 = .int .i64 ((n : Int) - 1) := hv 3 (by decide)
  have g4 : f 4 = .pointer (some ⟨g, n - 1, none⟩) := hv 4 (by decide)
  have g5 : f 5 = .agg #[.string ⟨tl.toArray⟩] := hv 5 (by decide)
  have g6 : f 6 = .iface 26 (.agg #[.string ⟨tl.toArray⟩]) := hv 6 (by decide)
  have g7 : f 7 = .slice (some ⟨g, 0, none⟩) n c := hv 7 (by decide)
  have g8 : f 8 = .pointer (some ⟨g, 0, none⟩) := hv 8 (by decide)
  have g9 : f 9 = .agg #[.string ⟨tf.toArray⟩] := hv 9 (by decide)
  have g13 : f 13 = errS sk := hv 13 (by decide)
  have g15 : f 15 = errS sk := hv 15 (by decide)
  have k14 := hv 14 (by decide)
  simp only at k14
  simp only [List.take_succ_cons, List.take_zero, List.drop_succ_cons, List.drop_zero, setAll, List.setIfInBounds_toArray, List.set_cons_succ, List.set_cons_zero, Nat.zero_add, Nat.reduceAdd, g0, g1, g2, g3, g4, g5, g6, g7, g8, g9, g13, g15]
  generalize f 10 = x10 at *
  generalize f 11 = x11 at *
  generalize f 12 = x12 at *
  generalize f 14 = x14 at *
  clear g0 g1 g2 g3 g4 g5 g6 g7 g8 g9 g13 g15 hv
  have CL := Box'.mk (clone46_any x14 _ wq k14 HSL.out)
  have B6 := Box'.mk (B2.out.trans (hC.mono B2.out.size))
  have ra6 := (RA.out.below hC RA.out.lt)
  have rb6 := (RB.out.below hC RB.out.lt)
  have RA6 := Box'.mk ra6
  have RB6 := Box'.mk rb6
  clear k14 hC RA RB CT CF D HSL B2 hmD ra6 rb6
  go_wp2_with fail
  refine CL.out.mono ?_
  rintro e w7 ⟨vb, rfl, o7, b7⟩
  obtain ⟨ab, cb, eb, _⟩ := o7.inB.slice
  subst eb
  have hz := B6.out.size
  have hzA := RA6.out.lt
  have hzB := RB6.out.lt
  have ra7 := RA6.out.below b7 RA6.out.lt
  have rb7 := RB6.out.below b7 RB6.out.lt
  have c7 := rb7.cell 4
  have f7 := rb7.frozen 4
  obtain ⟨w8, hw8⟩ : ∃ w8, w8 = w7.setCell ⟨w.heap.size + 1, 4, none⟩ (.slice ab sd.length cb) := ⟨_, rfl⟩
  have rb8 : Row w8 (w.heap.size + 1) 41 #[.int .u64 (f0 : Int), .int .u64 ((f0 : Int) + ((n : Int) - 1)), .int .u64 0, .int .u64 (f0 : Int), .slice ab sd.length cb] := by rw [hw8]; exact rb7.setCell 4 _
  have ra8 : Room w8 w.heap.size 41 5 := by rw [hw8]; exact (ra7.setOther _ _ (by simp)).room rfl
  obtain ⟨w9, hw9⟩ : ∃ w9, w9 = w8.setRow w.heap.size #[.int .u64 (f0 : Int), .int .u64 ((f0 : Int) + ((n : Int) - 1)), .int .u64 0, .int .u64 (f0 : Int), .slice ab sd.length cb] := ⟨_, rfl⟩
  have R9 : Box' (Row w9 w.heap.size 41 #[.int .u64 (f0 : Int), .int .u64 ((f0 : Int) + ((n : Int) - 1)), .int .u64 0, .int .u64 (f0 : Int), .slice ab sd.length cb]) := ⟨by rw [hw9]; exact ra8.setRow _⟩
  have O9 : Box' (OwnB w.heap.size w9 (.slice ab sd.length cb) sd) := ⟨by
    rw [hw9, hw8]
    refine (o7.less (by omega)).sameB fun g hg => ?_
    have := (World.ownsRow.lt o7 g hg).1
    rw [setRow_other _ _ _ _ (by omega), Below.heap_setCell _ _ _ _ (by show g ≠ w.heap.size + 1; omega)]⟩
  have B9 : Box' (Below w.heap.size w w9) := ⟨by
    rw [hw9, hw8]
    exact below_setRow ((B6.out.trans (b7.mono hz)).setCell (p := ⟨w.heap.size + 1, 4, none⟩) (Nat.le_succ _) _) _ _ (Nat.le_refl _)⟩
  have RB8 := Box'.mk rb8
  clear ra7 rb7 b7 o7 rb8 RA6 RB6 B6 hz hzA hzB CL
  go_wp2_with (first
    | (rw [← hw8]; clear hw8 c7 f7; refine wpList_load_row rfl 41 (.tmp 6) rfl (w.heap.size + 1) rfl 41 _ RB8.out _ Try.underlying41 rfl 5 (by kernel_rfl) rfl ?_)
    | (refine wpList_store_row rfl 41 (.tmp 4) (.tmp 43) rfl w.heap.size rfl _ rfl 41 5 ra8 (by kernel_rfl) rfl (by simp [Value.oneCell']) ?_; rw [← hw9]; clear hw9 ra8))
  refine bodyPost_ret (results_row1 rfl _ w.heap.size rfl (errS sk) rfl 41 _ R9.out _ Try.underlying41 rfl 5 (by kernel_rfl) rfl) rfl ?_
  exact ⟨_, rfl, O9.out, B9.out⟩
theorem told_any (g n c f0 : Nat) (ts : List (List UInt8)) (w : World) (ht : TxR w g ts) (hn : ts.length = n) (h0 : 0 < n) (hc : n ≤ c) (h32 : n ≤ 1048576) (hl : ∀ k, k < n → (ts.getD k []).length ≤ 140737488351232) (hf : f0 + n ≤ 18446744073709551616) :
    Calls Try.prog 30 #[.slice (some ⟨g, 0, none⟩) n c, .int .u64 (f0 : Int)] w fun e w' => ∃ vb, e = .returned (.tuple #[.agg #[.int .u64 (f0 : Int), .int .u64 ((f0 : Int) + ((n : Int) - 1)), .int .u64 0, .int .u64 (f0 : Int), vb], errS (sufF (ts.getD 0 []) (ts.getD (n - 1) [])).2]) ∧ OwnB w.heap.size w' vb (sufF (ts.getD 0 []) (ts.getD (n - 1) [])).1 ∧ Below w.heap.size w w' := by
  by_cases h1 : n = 1
  · exact told_one g n c f0 ts w h1 ht hn h0 hc h32 hl hf
  · exact told_more g n c f0 ts w h1 ht hn h0 hc h32 hl hf
end Go.Proofs.Ytikkekdmahdgaaa
