/- Cells: Put and Mark. -/
import Derived.Test.YtlekleeckcdcgaaGreatMb
import Derived.Test.YtlekleeckcdcgaaGreatSb
import Derived.Test.YtlekleeckcdcgaaGreatGw
namespace Go.Proofs.YtlekleeckcdcgaaGreat
open Go.RowKit Go.BigFrame
set_option linter.unusedVariables false
set_option linter.unusedSimpArgs false
set_option maxRecDepth 100000
theorem put_1 (c : Int) (s : St) (h : ofF c = 1) (w : World) : Calls Tryz.prog 170 #[.int .i32 c, .agg (sA s)] w fun e w' => ∃ g, e = .returned (.slice (some ⟨g, 0, none⟩) 1 1) ∧ Row w' g 56 (cA ⟨c, 0, 0, 0, 1, s⟩) ∧ Below w.heap.size w w' := by
 have OF := Box'.mk (of_any c (w.alloc (.cells (sA s) 26)))
 rw [h] at OF
 obtain ⟨fg, bg, y1, y2, y3, y4, y5, y7, y8, y9⟩ := s
 unfold sA cA at *
 simp only at *
 go_enter Tryz.func170, Tryz.ntmps170
 go_wp2_with fail
 refine OF.out.mono ?_
 rintro e w1 ⟨rfl, hb1⟩
 have R1 := Box'.mk ((Row.new w 26 #[.int .i64 fg, .int .i64 bg, .bool y1, .bool y2, .bool y3, .bool y4, .bool y5, .bool y7, .bool y8, .bool y9]).below hb1 (by simp))
 have B1 : Box' (Below w.heap.size w w1) := ⟨((Below.refl w.heap.size w).alloc (Nat.le_refl _) _).trans (hb1.mono (by simp))⟩
 have U24 := Box'.mk Tryz.underlying26
 have S24 := Box'.mk s24
 clear hb1 OF h
 go_wp2_with (first
  | (refine wpList_load_row rfl 26 (.tmp 3) rfl w.heap.size rfl 26 #[.int .i64 fg, .int .i64 bg, .bool y1, .bool y2, .bool y3, .bool y4, .bool y5, .bool y7, .bool y8, .bool y9] R1.out _ U24.out rfl 10 S24.out rfl ?_))
 go_ret
 exact ⟨_, rfl, Row.new _ _ _, B1.out.alloc B1.out.size _⟩
theorem put_2 (c : Int) (s : St) (h : ofF c = 2) (w : World) : Calls Tryz.prog 170 #[.int .i32 c, .agg (sA s)] w fun e w' => ∃ g, e = .returned (.slice (some ⟨g, 0, none⟩) 2 2) ∧ Row w' g 56 (cA ⟨c, 0, 0, 0, 2, s⟩ ++ cA (hf s)) ∧ Below w.heap.size w w' := by
 have OF := Box'.mk (of_any c (w.alloc (.cells (sA s) 26)))
 have HF := Box'.mk (half_any s)
 rw [h] at OF
 obtain ⟨fg, bg, y1, y2, y3, y4, y5, y7, y8, y9⟩ := s
 unfold sA cA hf at *
 simp only at *
 go_enter Tryz.func170, Tryz.ntmps170
 go_wp2_with fail
 refine OF.out.mono ?_
 rintro e w1 ⟨rfl, hb1⟩
 have R1 := Box'.mk ((Row.new w 26 #[.int .i64 fg, .int .i64 bg, .bool y1, .bool y2, .bool y3, .bool y4, .bool y5, .bool y7, .bool y8, .bool y9]).below hb1 (by simp))
 have B1 : Box' (Below w.heap.size w w1) := ⟨((Below.refl w.heap.size w).alloc (Nat.le_refl _) _).trans (hb1.mono (by simp))⟩
 clear hb1 OF h
 go_wp2_with fail
 refine wp_region_growg 5 (by kernel_rfl) 21 rfl (by kernel_rfl) (fun wa wb => Below wa.heap.size wa wb) (fun wa => Row wa w.heap.size 26 #[.int .i64 fg, .int .i64 bg, .bool y1, .bool y2, .bool y3, .bool y4, .bool y5, .bool y7, .bool y8, .bool y9] ∧ Below w.heap.size w wa) (fun kc wa v => v = (match kc with
  | 0 => .int .i32 c
  | 1 => .agg #[.int .i64 fg, .int .i64 bg, .bool y1, .bool y2, .bool y3, .bool y4, .bool y5, .bool y7, .bool y8, .bool y9]
  | 2 => .agg #[.int .i32 c, .int .i32 0, .int .i32 0, .int .i32 0, .int .u8 2, .int .i64 fg, .int .i64 bg, .bool y1, .bool y2, .bool y3, .bool y4, .bool y5, .bool y7, .bool y8, .bool y9]
  | 3 => .agg #[.int .i64 fg, .int .i64 bg, .bool y1, .bool y2, .bool y3, .bool y4, .bool y5, .bool y7, .bool y8, .bool y9]
  | 4 => .agg #[.int .i32 0, .int .i32 0, .int .i32 0, .int .i32 0, .int .u8 0, .int .i64 fg, .int .i64 bg, .bool y1, .bool y2, .bool y3, .bool y4, .bool y5, .bool y7, .bool y8, .bool y9]
  | _ => undef)) ?_ ?_ ?_ ?_ ?_ ?_
 ·intro i o' j b' hi hg wa v hC hV
  have hlt : i < 5 := by rcases Nat.lt_or_ge i 5 with q | q; exact q; rw [List.getElem?_eq_none (by simpa using q)] at hi; cases hi
  revert hi hg hV
  rcases (show i = 0 ∨ i = 1 ∨ i = 2 ∨ i = 3 ∨ i = 4 by omega) with rfl | rfl | rfl | rfl | rfl <;>
   (intro hi hg hV; simp only [tkS, List.getElem?_cons_zero, List.getElem?_cons_succ, Option.some.injEq] at hi; subst hi; first | (cases hg; exact hV) | (cases hg))
 ·rintro wa wb hb ⟨q1, q2⟩; exact ⟨q1.below hb q1.lt, q2.trans (hb.mono q2.size)⟩
 ·exact fun kc v wa wb hC1 hb h => h
 ·exact ⟨R1.out.drew, B1.out.drew⟩
 ·refine ⟨?a0, ?a1, ?a2, ?a3, ?a4, trivial⟩
  all_goals intro f wq hC hd KK hK
  all_goals simp (disch := decide +kernel) only [tkS, tkZ, setAll, siB, stS, stZ, Nat.zero_add, Nat.reduceAdd, hd] at hK ⊢
  case a1 =>
   have hR : Row wq w.heap.size 26 #[.int .i64 fg, .int .i64 bg, .bool y1, .bool y2, .bool y3, .bool y4, .bool y5, .bool y7, .bool y8, .bool y9] := hC.1
   have c0 : wq.cell? ⟨w.heap.size, 0, none⟩ = some (.int .i64 fg) := hR.cell 0
   have c1 : wq.cell? ⟨w.heap.size, 1, none⟩ = some (.int .i64 bg) := hR.cell 1
   have c2 : wq.cell? ⟨w.heap.size, 2, none⟩ = some (.bool y1) := hR.cell 2
   have c3 : wq.cell? ⟨w.heap.size, 3, none⟩ = some (.bool y2) := hR.cell 3
   have c4 : wq.cell? ⟨w.heap.size, 4, none⟩ = some (.bool y3) := hR.cell 4
   have c5 : wq.cell? ⟨w.heap.size, 5, none⟩ = some (.bool y4) := hR.cell 5
   have c6 : wq.cell? ⟨w.heap.size, 6, none⟩ = some (.bool y5) := hR.cell 6
   have c7 : wq.cell? ⟨w.heap.size, 7, none⟩ = some (.bool y7) := hR.cell 7
   have c8 : wq.cell? ⟨w.heap.size, 8, none⟩ = some (.bool y8) := hR.cell 8
   have c9 : wq.cell? ⟨w.heap.size, 9, none⟩ = some (.bool y9) := hR.cell 9
   clear hC hR
   refine wp_of_quiet rfl ?_
   go_big_quiet_step (fail)
   exact wpQuiet_nil (hK _ _ (rfl) bR)
  case a3 =>
   have hR : Row wq w.heap.size 26 #[.int .i64 fg, .int .i64 bg, .bool y1, .bool y2, .bool y3, .bool y4, .bool y5, .bool y7, .bool y8, .bool y9] := hC.1
   have c0 : wq.cell? ⟨w.heap.size, 0, none⟩ = some (.int .i64 fg) := hR.cell 0
   have c1 : wq.cell? ⟨w.heap.size, 1, none⟩ = some (.int .i64 bg) := hR.cell 1
   have c2 : wq.cell? ⟨w.heap.size, 2, none⟩ = some (.bool y1) := hR.cell 2
   have c3 : wq.cell? ⟨w.heap.size, 3, none⟩ = some (.bool y2) := hR.cell 3
   have c4 : wq.cell? ⟨w.heap.size, 4, none⟩ = some (.bool y3) := hR.cell 4
   have c5 : wq.cell? ⟨w.heap.size, 5, none⟩ = some (.bool y4) := hR.cell 5
   have c6 : wq.cell? ⟨w.heap.size, 6, none⟩ = some (.bool y5) := hR.cell 6
   have c7 : wq.cell? ⟨w.heap.size, 7, none⟩ = some (.bool y7) := hR.cell 7
   have c8 : wq.cell? ⟨w.heap.size, 8, none⟩ = some (.bool y8) := hR.cell 8
   have c9 : wq.cell? ⟨w.heap.size, 9, none⟩ = some (.bool y9) := hR.cell 9
   clear hC hR
   refine wp_of_quiet rfl ?_
   go_big_quiet_step (fail)
   exact wpQuiet_nil (hK _ _ (rfl) bR)
  case a4 =>
   exact wp_call 153 #[.agg #[.int .i64 fg, .int .i64 bg, .bool y1, .bool y2, .bool y3, .bool y4, .bool y5, .bool y7, .bool y8, .bool y9]] (by simp [go_sem]) _ _ (HF.out wq) (fun w' hb => hK _ _ rfl hb)
  all_goals (skip; refine wp_of_quiet rfl ?_; go_big_quiet_step (fail); exact wpQuiet_nil (hK _ _ (rfl) bR))
 ·intro f wz hC hv
  simp (disch := decide) only [tkS, tkZ, List.drop_succ_cons, List.drop_zero, setAll, siB, stS, stZ, Nat.zero_add, Nat.reduceAdd, hv]
  clear hv
  have B2 := Box'.mk hC.2
  clear hC R1 B1 HF
  go_wp2_with fail
  go_ret
  exact ⟨_, rfl, Row.new _ _ _, B2.out.alloc B2.out.size _⟩
theorem put_0 (c : Int) (s : St) (h1 : ¬ ofF c = 1) (h2 : ¬ ofF c = 2) (w : World) : Calls Tryz.prog 170 #[.int .i32 c, .agg (sA s)] w fun e w' => e = .returned (.slice none 0 0) ∧ Below w.heap.size w w' := by
 have OF := Box'.mk (of_any c (w.alloc (.cells (sA s) 26)))
 generalize ofF c = z at *
 go_enter Tryz.func170, Tryz.ntmps170
 go_wp2_with fail
 refine OF.out.mono ?_
 rintro e w1 ⟨rfl, hb1⟩
 have B1 : Box' (Below w.heap.size w w1) := ⟨((Below.refl w.heap.size w).alloc (Nat.le_refl _) _).trans (hb1.mono (by simp))⟩
 clear hb1 OF
 go_wp2_with fail
 go_ret
 exact ⟨rfl, B1.out⟩
/-- The slice v has the cells l, in a block below N. -/
theorem put_any (c : Int) (s : St) (w : World) : Calls Tryz.prog 170 #[.int .i32 c, .agg (sA s)] w fun e w' => ∃ v, e = .returned v ∧ Cls w'.heap.size w' v (putF c s) ∧ Below w.heap.size w w' := by
 by_cases h1 : ofF c = 1
 ·refine (put_1 c s h1 w).mono ?_
  rintro e w' ⟨g, rfl, hr, hb⟩
  refine ⟨_, rfl, ?_, hb⟩
  rw [putF, if_pos h1]
  refine ⟨_, _, rfl, Nat.le_refl _, .inr ⟨g, 0, rfl, hr.lt, fun k hk j hj => ?_⟩⟩
  obtain rfl : k = 0 := by simp at hk; omega
  rw [show 0 + 0 * 15 + j = j by omega]
  exact hr.cell j
 by_cases h2 : ofF c = 2
 ·refine (put_2 c s h2 w).mono ?_
  rintro e w' ⟨g, rfl, hr, hb⟩
  refine ⟨_, rfl, ?_, hb⟩
  rw [putF, if_neg h1, if_pos h2]
  refine ⟨_, _, rfl, Nat.le_refl _, .inr ⟨g, 0, rfl, hr.lt, fun k hk j hj => ?_⟩⟩
  have := hr.cell (0 + k * 15 + j)
  rw [this]
  have hk2 : k = 0 ∨ k = 1 := by simp at hk; omega
  rcases hk2 with rfl | rfl
  ·rw [Array.getElem?_append_left (by show _ < 15; omega)]
   rw [show 0 + 0 * 15 + j = j by omega]; rfl
  ·rw [Array.getElem?_append_right (by show 15 ≤ _; omega)]
   rw [show 0 + 1 * 15 + j - (cA ⟨c, 0, 0, 0, 2, s⟩).size = j by show 0 + 1 * 15 + j - 15 = j; omega]; rfl
 ·refine (put_0 c s h1 h2 w).mono ?_
  rintro e w' ⟨rfl, hb⟩
  refine ⟨_, rfl, ?_, hb⟩
  rw [putF, if_neg h1, if_neg h2]
  exact ⟨_, _, rfl, Nat.le_refl _, .inl rfl⟩
theorem results27 (tmps : Array Value) (b : Nat) (hx : tmps.getD 4 undef = .pointer (some ⟨b, 0, none⟩)) (w : World) (c : Array Value) (hr : Row w b 54 c) (hn : c.size = 3) : (results Tryz.f184 tmps).run Tryz.prog w = .ok (.agg c) w :=
 results_row (p := 4) (ty := 54) rfl tmps b hx 54 c hr _ Tryz.underlying54 rfl 3 (by kernel_rfl) hn
theorem withMark_0  (c : Int) (w : World) : Calls Tryz.prog 184 #[.agg #[.int .i32 0, .int .i32 0, .int .i32 0], .int .i32 c] w fun e w' => e = .returned (.agg #[.int .i32 c, .int .i32 0, .int .i32 0]) ∧ Below w.heap.size w w' := by
 have R5 : Box' (Row (((w.alloc (.cells #[.int .i32 0, .int .i32 0, .int .i32 0] 54)).alloc (.cells #[.int .i32 0, .int .i32 0, .int .i32 0] 54)).alloc (.cells #[.int .i32 0, .int .i32 0, .int .i32 0] 54)) (w.heap.size + 1 + 1) 54 #[.int .i32 0, .int .i32 0, .int .i32 0]) := ⟨Row.made _ _ _ _ _ rfl (by simp)⟩
 have R4 : Box' (Room (((w.alloc (.cells #[.int .i32 0, .int .i32 0, .int .i32 0] 54)).alloc (.cells #[.int .i32 0, .int .i32 0, .int .i32 0] 54)).alloc (.cells #[.int .i32 0, .int .i32 0, .int .i32 0] 54)) (w.heap.size + 1) 54 3) := ⟨(Room.made _ _ _ _ _ rfl (by simp)).alloc _⟩
 have B1 : Box' (Below w.heap.size w (((w.alloc (.cells #[.int .i32 0, .int .i32 0, .int .i32 0] 54)).alloc (.cells #[.int .i32 0, .int .i32 0, .int .i32 0] 54)).alloc (.cells #[.int .i32 0, .int .i32 0, .int .i32 0] 54))) := ⟨(((Below.refl w.heap.size w).alloc (Nat.le_refl _) _).alloc (by simp) _).alloc (by simp; omega) _⟩
 go_enter Tryz.func184, Tryz.ntmps184
 go_wp2_with fail
 generalize (((w.alloc (.cells #[.int .i32 0, .int .i32 0, .int .i32 0] 54)).alloc (.cells #[.int .i32 0, .int .i32 0, .int .i32 0] 54)).alloc (.cells #[.int .i32 0, .int .i32 0, .int .i32 0] 54)) = w1 at *
 go_loopw [6, 10] (fun d i wr => ∃ (k : Nat) (x0 x1 x2 : Int), k ≤ 3 ∧ i = .int .i64 (k : Int) ∧ d = .int .i64 ((min k 0 : Nat) : Int) ∧ Box' (x0 = (if 0 < k then 0 else 0) ∧ x1 = (if 1 < k then 0 else 0) ∧ x2 = (if 2 < k then 0 else 0)) ∧ Box' (Row wr (w.heap.size + 1 + 1) 54 #[.int .i32 x0, .int .i32 x1, .int .i32 x2]) ∧ Box' (Room wr (w.heap.size + 1) 54 3) ∧ Box' (Below w.heap.size w wr)) (fun _ i _ => 3 - (intOf i).toNat)
 case atStart => exact ⟨0, 0, 0, 0, by omega, rfl, rfl, ⟨by simp⟩, R5, R4, B1⟩
 case round =>
  obtain ⟨k, x0, x1, x2, hk, rfl, rfl, XX, RR, RM, BB⟩ := hrel
  clear B1 R4 R5
  have c0 : wr.cell? ⟨w.heap.size + 1 + 1, 0, none⟩ = some (.int .i32 x0) := RR.out.cell 0
  have c1 : wr.cell? ⟨w.heap.size + 1 + 1, 1, none⟩ = some (.int .i32 x1) := RR.out.cell 1
  have c2 : wr.cell? ⟨w.heap.size + 1 + 1, 2, none⟩ = some (.int .i32 x2) := RR.out.cell 2
  have f0 := RR.out.frozen 0
  have f1 := RR.out.frozen 1
  have f2 := RR.out.frozen 2
  obtain rfl | rfl | rfl | rfl : k = 0 ∨ k = 1 ∨ k = 2 ∨ k = 3 := by omega
  ·go_wp2_with (first | (refine wpList_idx rfl (.tmp 9) (.tmp 10) rfl #[.int .i32 0, .int .i32 0, .int .i32 0] 0 (.int .i32 0) rfl rfl (by decide) rfl ?_))
   exact ⟨⟨1, x0, x1, x2, by omega, rfl, rfl, ⟨by obtain ⟨e0, e1, e2⟩ := XX.out; simp at e0 e1 e2; refine ⟨?_, ?_, ?_⟩ <;> simp <;> assumption⟩, RR, RM, BB⟩, by simp [intOf]⟩
  ·go_wp2_with (first | (refine wpList_idx rfl (.tmp 9) (.tmp 10) rfl #[.int .i32 0, .int .i32 0, .int .i32 0] 1 (.int .i32 0) rfl rfl (by decide) rfl ?_))
   exact ⟨⟨2, x0, x1, x2, by omega, rfl, rfl, ⟨by obtain ⟨e0, e1, e2⟩ := XX.out; simp at e0 e1 e2; refine ⟨?_, ?_, ?_⟩ <;> simp <;> assumption⟩, RR, RM, BB⟩, by simp [intOf]⟩
  ·go_wp2_with (first | (refine wpList_idx rfl (.tmp 9) (.tmp 10) rfl #[.int .i32 0, .int .i32 0, .int .i32 0] 2 (.int .i32 0) rfl rfl (by decide) rfl ?_))
   exact ⟨⟨3, x0, x1, x2, by omega, rfl, rfl, ⟨by obtain ⟨e0, e1, e2⟩ := XX.out; simp at e0 e1 e2; refine ⟨?_, ?_, ?_⟩ <;> simp <;> assumption⟩, RR, RM, BB⟩, by simp [intOf]⟩
  ·obtain ⟨e0, e1, e2⟩ := XX.out
   simp at e0 e1 e2
   rw [e0] at RR c0
   rw [e1] at RR c1
   rw [e2] at RR c2
   clear XX e0 e1 e2
   have S22 : Box' ((Tryz.prog.info? 54).map (·.size) = some 3) := ⟨by kernel_rfl⟩
   have ON : Box' ((#[.int .i32 c, .int .i32 0, .int .i32 0] : Array Value).all (·.oneCell') = true) := ⟨by simp [Value.oneCell']⟩
   have RX : Box' (Room (wr.setCell ⟨w.heap.size + 1 + 1, 0, none⟩ (.int .i32 c)) (w.heap.size + 1) 54 3) := ⟨RM.out.setOther _ _ (by show w.heap.size + 1 ≠ w.heap.size + 1 + 1; omega)⟩
   have BX : Box' (Below w.heap.size w (wr.setCell ⟨w.heap.size + 1 + 1, 0, none⟩ (.int .i32 c))) := ⟨BB.out.setCell (by show w.heap.size ≤ w.heap.size + 1 + 1; omega) _⟩
   go_wp2_with (first
    | (refine wpList_store_row rfl 54 (.tmp 4) (.tmp 26) rfl (w.heap.size + 1) rfl #[.int .i32 c, .int .i32 0, .int .i32 0] rfl 54 3 RX.out S22.out rfl ON.out ?_))
   exact bodyPost_ret (results27 _ (w.heap.size + 1) rfl _ _ (RX.out.setRow _) rfl) rfl ⟨rfl, below_setRow BX.out (by omega) _⟩
theorem withMark_1 (m0 : Int) (z0 : ¬ m0 = 0) (c : Int) (w : World) : Calls Tryz.prog 184 #[.agg #[.int .i32 m0, .int .i32 0, .int .i32 0], .int .i32 c] w fun e w' => e = .returned (.agg #[.int .i32 m0, .int .i32 c, .int .i32 0]) ∧ Below w.heap.size w w' := by
 have R5 : Box' (Row (((w.alloc (.cells #[.int .i32 m0, .int .i32 0, .int .i32 0] 54)).alloc (.cells #[.int .i32 0, .int .i32 0, .int .i32 0] 54)).alloc (.cells #[.int .i32 0, .int .i32 0, .int .i32 0] 54)) (w.heap.size + 1 + 1) 54 #[.int .i32 0, .int .i32 0, .int .i32 0]) := ⟨Row.made _ _ _ _ _ rfl (by simp)⟩
 have R4 : Box' (Room (((w.alloc (.cells #[.int .i32 m0, .int .i32 0, .int .i32 0] 54)).alloc (.cells #[.int .i32 0, .int .i32 0, .int .i32 0] 54)).alloc (.cells #[.int .i32 0, .int .i32 0, .int .i32 0] 54)) (w.heap.size + 1) 54 3) := ⟨(Room.made _ _ _ _ _ rfl (by simp)).alloc _⟩
 have B1 : Box' (Below w.heap.size w (((w.alloc (.cells #[.int .i32 m0, .int .i32 0, .int .i32 0] 54)).alloc (.cells #[.int .i32 0, .int .i32 0, .int .i32 0] 54)).alloc (.cells #[.int .i32 0, .int .i32 0, .int .i32 0] 54))) := ⟨(((Below.refl w.heap.size w).alloc (Nat.le_refl _) _).alloc (by simp) _).alloc (by simp; omega) _⟩
 go_enter Tryz.func184, Tryz.ntmps184
 go_wp2_with fail
 generalize (((w.alloc (.cells #[.int .i32 m0, .int .i32 0, .int .i32 0] 54)).alloc (.cells #[.int .i32 0, .int .i32 0, .int .i32 0] 54)).alloc (.cells #[.int .i32 0, .int .i32 0, .int .i32 0] 54)) = w1 at *
 go_loopw [6, 10] (fun d i wr => ∃ (k : Nat) (x0 x1 x2 : Int), k ≤ 3 ∧ i = .int .i64 (k : Int) ∧ d = .int .i64 ((min k 1 : Nat) : Int) ∧ Box' (x0 = (if 0 < k then m0 else 0) ∧ x1 = (if 1 < k then 0 else 0) ∧ x2 = (if 2 < k then 0 else 0)) ∧ Box' (Row wr (w.heap.size + 1 + 1) 54 #[.int .i32 x0, .int .i32 x1, .int .i32 x2]) ∧ Box' (Room wr (w.heap.size + 1) 54 3) ∧ Box' (Below w.heap.size w wr)) (fun _ i _ => 3 - (intOf i).toNat)
 case atStart => exact ⟨0, 0, 0, 0, by omega, rfl, rfl, ⟨by simp⟩, R5, R4, B1⟩
 case round =>
  obtain ⟨k, x0, x1, x2, hk, rfl, rfl, XX, RR, RM, BB⟩ := hrel
  clear B1 R4 R5
  have c0 : wr.cell? ⟨w.heap.size + 1 + 1, 0, none⟩ = some (.int .i32 x0) := RR.out.cell 0
  have c1 : wr.cell? ⟨w.heap.size + 1 + 1, 1, none⟩ = some (.int .i32 x1) := RR.out.cell 1
  have c2 : wr.cell? ⟨w.heap.size + 1 + 1, 2, none⟩ = some (.int .i32 x2) := RR.out.cell 2
  have f0 := RR.out.frozen 0
  have f1 := RR.out.frozen 1
  have f2 := RR.out.frozen 2
  obtain rfl | rfl | rfl | rfl : k = 0 ∨ k = 1 ∨ k = 2 ∨ k = 3 := by omega
  ·go_wp2_with (first | (refine wpList_idx rfl (.tmp 9) (.tmp 10) rfl #[.int .i32 m0, .int .i32 0, .int .i32 0] 0 (.int .i32 m0) rfl rfl (by decide) rfl ?_))
   exact ⟨⟨1, m0, x1, x2, by omega, rfl, rfl, ⟨by obtain ⟨e0, e1, e2⟩ := XX.out; simp at e0 e1 e2; refine ⟨?_, ?_, ?_⟩ <;> simp <;> assumption⟩, ⟨RR.out.setCell 0 _⟩, ⟨RM.out.setOther _ _ (by show w.heap.size + 1 ≠ w.heap.size + 1 + 1; omega)⟩, ⟨BB.out.setCell (by show w.heap.size ≤ w.heap.size + 1 + 1; omega) _⟩⟩, by simp [intOf]⟩
  ·go_wp2_with (first | (refine wpList_idx rfl (.tmp 9) (.tmp 10) rfl #[.int .i32 m0, .int .i32 0, .int .i32 0] 1 (.int .i32 0) rfl rfl (by decide) rfl ?_))
   exact ⟨⟨2, x0, x1, x2, by omega, rfl, rfl, ⟨by obtain ⟨e0, e1, e2⟩ := XX.out; simp at e0 e1 e2; refine ⟨?_, ?_, ?_⟩ <;> simp <;> assumption⟩, RR, RM, BB⟩, by simp [intOf]⟩
  ·go_wp2_with (first | (refine wpList_idx rfl (.tmp 9) (.tmp 10) rfl #[.int .i32 m0, .int .i32 0, .int .i32 0] 2 (.int .i32 0) rfl rfl (by decide) rfl ?_))
   exact ⟨⟨3, x0, x1, x2, by omega, rfl, rfl, ⟨by obtain ⟨e0, e1, e2⟩ := XX.out; simp at e0 e1 e2; refine ⟨?_, ?_, ?_⟩ <;> simp <;> assumption⟩, RR, RM, BB⟩, by simp [intOf]⟩
  ·obtain ⟨e0, e1, e2⟩ := XX.out
   simp at e0 e1 e2
   rw [e0] at RR c0
   rw [e1] at RR c1
   rw [e2] at RR c2
   clear XX e0 e1 e2
   have S22 : Box' ((Tryz.prog.info? 54).map (·.size) = some 3) := ⟨by kernel_rfl⟩
   have ON : Box' ((#[.int .i32 m0, .int .i32 c, .int .i32 0] : Array Value).all (·.oneCell') = true) := ⟨by simp [Value.oneCell']⟩
   have RX : Box' (Room (wr.setCell ⟨w.heap.size + 1 + 1, 1, none⟩ (.int .i32 c)) (w.heap.size + 1) 54 3) := ⟨RM.out.setOther _ _ (by show w.heap.size + 1 ≠ w.heap.size + 1 + 1; omega)⟩
   have BX : Box' (Below w.heap.size w (wr.setCell ⟨w.heap.size + 1 + 1, 1, none⟩ (.int .i32 c))) := ⟨BB.out.setCell (by show w.heap.size ≤ w.heap.size + 1 + 1; omega) _⟩
   go_wp2_with (first
    | (refine wpList_store_row rfl 54 (.tmp 4) (.tmp 26) rfl (w.heap.size + 1) rfl #[.int .i32 m0, .int .i32 c, .int .i32 0] rfl 54 3 RX.out S22.out rfl ON.out ?_))
   exact bodyPost_ret (results27 _ (w.heap.size + 1) rfl _ _ (RX.out.setRow _) rfl) rfl ⟨rfl, below_setRow BX.out (by omega) _⟩
theorem withMark_2 (m0 m1 : Int) (z0 : ¬ m0 = 0) (z1 : ¬ m1 = 0) (c : Int) (w : World) : Calls Tryz.prog 184 #[.agg #[.int .i32 m0, .int .i32 m1, .int .i32 0], .int .i32 c] w fun e w' => e = .returned (.agg #[.int .i32 m0, .int .i32 m1, .int .i32 c]) ∧ Below w.heap.size w w' := by
 have R5 : Box' (Row (((w.alloc (.cells #[.int .i32 m0, .int .i32 m1, .int .i32 0] 54)).alloc (.cells #[.int .i32 0, .int .i32 0, .int .i32 0] 54)).alloc (.cells #[.int .i32 0, .int .i32 0, .int .i32 0] 54)) (w.heap.size + 1 + 1) 54 #[.int .i32 0, .int .i32 0, .int .i32 0]) := ⟨Row.made _ _ _ _ _ rfl (by simp)⟩
 have R4 : Box' (Room (((w.alloc (.cells #[.int .i32 m0, .int .i32 m1, .int .i32 0] 54)).alloc (.cells #[.int .i32 0, .int .i32 0, .int .i32 0] 54)).alloc (.cells #[.int .i32 0, .int .i32 0, .int .i32 0] 54)) (w.heap.size + 1) 54 3) := ⟨(Room.made _ _ _ _ _ rfl (by simp)).alloc _⟩
 have B1 : Box' (Below w.heap.size w (((w.alloc (.cells #[.int .i32 m0, .int .i32 m1, .int .i32 0] 54)).alloc (.cells #[.int .i32 0, .int .i32 0, .int .i32 0] 54)).alloc (.cells #[.int .i32 0, .int .i32 0, .int .i32 0] 54))) := ⟨(((Below.refl w.heap.size w).alloc (Nat.le_refl _) _).alloc (by simp) _).alloc (by simp; omega) _⟩
 go_enter Tryz.func184, Tryz.ntmps184
 go_wp2_with fail
 generalize (((w.alloc (.cells #[.int .i32 m0, .int .i32 m1, .int .i32 0] 54)).alloc (.cells #[.int .i32 0, .int .i32 0, .int .i32 0] 54)).alloc (.cells #[.int .i32 0, .int .i32 0, .int .i32 0] 54)) = w1 at *
 go_loopw [6, 10] (fun d i wr => ∃ (k : Nat) (x0 x1 x2 : Int), k ≤ 3 ∧ i = .int .i64 (k : Int) ∧ d = .int .i64 ((min k 2 : Nat) : Int) ∧ Box' (x0 = (if 0 < k then m0 else 0) ∧ x1 = (if 1 < k then m1 else 0) ∧ x2 = (if 2 < k then 0 else 0)) ∧ Box' (Row wr (w.heap.size + 1 + 1) 54 #[.int .i32 x0, .int .i32 x1, .int .i32 x2]) ∧ Box' (Room wr (w.heap.size + 1) 54 3) ∧ Box' (Below w.heap.size w wr)) (fun _ i _ => 3 - (intOf i).toNat)
 case atStart => exact ⟨0, 0, 0, 0, by omega, rfl, rfl, ⟨by simp⟩, R5, R4, B1⟩
 case round =>
  obtain ⟨k, x0, x1, x2, hk, rfl, rfl, XX, RR, RM, BB⟩ := hrel
  clear B1 R4 R5
  have c0 : wr.cell? ⟨w.heap.size + 1 + 1, 0, none⟩ = some (.int .i32 x0) := RR.out.cell 0
  have c1 : wr.cell? ⟨w.heap.size + 1 + 1, 1, none⟩ = some (.int .i32 x1) := RR.out.cell 1
  have c2 : wr.cell? ⟨w.heap.size + 1 + 1, 2, none⟩ = some (.int .i32 x2) := RR.out.cell 2
  have f0 := RR.out.frozen 0
  have f1 := RR.out.frozen 1
  have f2 := RR.out.frozen 2
  obtain rfl | rfl | rfl | rfl : k = 0 ∨ k = 1 ∨ k = 2 ∨ k = 3 := by omega
  ·go_wp2_with (first | (refine wpList_idx rfl (.tmp 9) (.tmp 10) rfl #[.int .i32 m0, .int .i32 m1, .int .i32 0] 0 (.int .i32 m0) rfl rfl (by decide) rfl ?_))
   exact ⟨⟨1, m0, x1, x2, by omega, rfl, rfl, ⟨by obtain ⟨e0, e1, e2⟩ := XX.out; simp at e0 e1 e2; refine ⟨?_, ?_, ?_⟩ <;> simp <;> assumption⟩, ⟨RR.out.setCell 0 _⟩, ⟨RM.out.setOther _ _ (by show w.heap.size + 1 ≠ w.heap.size + 1 + 1; omega)⟩, ⟨BB.out.setCell (by show w.heap.size ≤ w.heap.size + 1 + 1; omega) _⟩⟩, by simp [intOf]⟩
  ·go_wp2_with (first | (refine wpList_idx rfl (.tmp 9) (.tmp 10) rfl #[.int .i32 m0, .int .i32 m1, .int .i32 0] 1 (.int .i32 m1) rfl rfl (by decide) rfl ?_))
   exact ⟨⟨2, x0, m1, x2, by omega, rfl, rfl, ⟨by obtain ⟨e0, e1, e2⟩ := XX.out; simp at e0 e1 e2; refine ⟨?_, ?_, ?_⟩ <;> simp <;> assumption⟩, ⟨RR.out.setCell 1 _⟩, ⟨RM.out.setOther _ _ (by show w.heap.size + 1 ≠ w.heap.size + 1 + 1; omega)⟩, ⟨BB.out.setCell (by show w.heap.size ≤ w.heap.size + 1 + 1; omega) _⟩⟩, by simp [intOf]⟩
  ·go_wp2_with (first | (refine wpList_idx rfl (.tmp 9) (.tmp 10) rfl #[.int .i32 m0, .int .i32 m1, .int .i32 0] 2 (.int .i32 0) rfl rfl (by decide) rfl ?_))
   exact ⟨⟨3, x0, x1, x2, by omega, rfl, rfl, ⟨by obtain ⟨e0, e1, e2⟩ := XX.out; simp at e0 e1 e2; refine ⟨?_, ?_, ?_⟩ <;> simp <;> assumption⟩, RR, RM, BB⟩, by simp [intOf]⟩
  ·obtain ⟨e0, e1, e2⟩ := XX.out
   simp at e0 e1 e2
   rw [e0] at RR c0
   rw [e1] at RR c1
   rw [e2] at RR c2
   clear XX e0 e1 e2
   have S22 : Box' ((Tryz.prog.info? 54).map (·.size) = some 3) := ⟨by kernel_rfl⟩
   have ON : Box' ((#[.int .i32 m0, .int .i32 m1, .int .i32 c] : Array Value).all (·.oneCell') = true) := ⟨by simp [Value.oneCell']⟩
   have RX : Box' (Room (wr.setCell ⟨w.heap.size + 1 + 1, 2, none⟩ (.int .i32 c)) (w.heap.size + 1) 54 3) := ⟨RM.out.setOther _ _ (by show w.heap.size + 1 ≠ w.heap.size + 1 + 1; omega)⟩
   have BX : Box' (Below w.heap.size w (wr.setCell ⟨w.heap.size + 1 + 1, 2, none⟩ (.int .i32 c))) := ⟨BB.out.setCell (by show w.heap.size ≤ w.heap.size + 1 + 1; omega) _⟩
   go_wp2_with (first
    | (refine wpList_store_row rfl 54 (.tmp 4) (.tmp 26) rfl (w.heap.size + 1) rfl #[.int .i32 m0, .int .i32 m1, .int .i32 c] rfl 54 3 RX.out S22.out rfl ON.out ?_))
   exact bodyPost_ret (results27 _ (w.heap.size + 1) rfl _ _ (RX.out.setRow _) rfl) rfl ⟨rfl, below_setRow BX.out (by omega) _⟩
theorem withMark_3 (m0 m1 m2 : Int) (z0 : ¬ m0 = 0) (z1 : ¬ m1 = 0) (z2 : ¬ m2 = 0) (c : Int) (w : World) : Calls Tryz.prog 184 #[.agg #[.int .i32 m0, .int .i32 m1, .int .i32 m2], .int .i32 c] w fun e w' => e = .returned (.agg #[.int .i32 m0, .int .i32 m1, .int .i32 m2]) ∧ Below w.heap.size w w' := by
 have R5 : Box' (Row (((w.alloc (.cells #[.int .i32 m0, .int .i32 m1, .int .i32 m2] 54)).alloc (.cells #[.int .i32 0, .int .i32 0, .int .i32 0] 54)).alloc (.cells #[.int .i32 0, .int .i32 0, .int .i32 0] 54)) (w.heap.size + 1 + 1) 54 #[.int .i32 0, .int .i32 0, .int .i32 0]) := ⟨Row.made _ _ _ _ _ rfl (by simp)⟩
 have R4 : Box' (Room (((w.alloc (.cells #[.int .i32 m0, .int .i32 m1, .int .i32 m2] 54)).alloc (.cells #[.int .i32 0, .int .i32 0, .int .i32 0] 54)).alloc (.cells #[.int .i32 0, .int .i32 0, .int .i32 0] 54)) (w.heap.size + 1) 54 3) := ⟨(Room.made _ _ _ _ _ rfl (by simp)).alloc _⟩
 have B1 : Box' (Below w.heap.size w (((w.alloc (.cells #[.int .i32 m0, .int .i32 m1, .int .i32 m2] 54)).alloc (.cells #[.int .i32 0, .int .i32 0, .int .i32 0] 54)).alloc (.cells #[.int .i32 0, .int .i32 0, .int .i32 0] 54))) := ⟨(((Below.refl w.heap.size w).alloc (Nat.le_refl _) _).alloc (by simp) _).alloc (by simp; omega) _⟩
 go_enter Tryz.func184, Tryz.ntmps184
 go_wp2_with fail
 generalize (((w.alloc (.cells #[.int .i32 m0, .int .i32 m1, .int .i32 m2] 54)).alloc (.cells #[.int .i32 0, .int .i32 0, .int .i32 0] 54)).alloc (.cells #[.int .i32 0, .int .i32 0, .int .i32 0] 54)) = w1 at *
 go_loopw [6, 10] (fun d i wr => ∃ (k : Nat) (x0 x1 x2 : Int), k ≤ 3 ∧ i = .int .i64 (k : Int) ∧ d = .int .i64 ((min k 3 : Nat) : Int) ∧ Box' (x0 = (if 0 < k then m0 else 0) ∧ x1 = (if 1 < k then m1 else 0) ∧ x2 = (if 2 < k then m2 else 0)) ∧ Box' (Row wr (w.heap.size + 1 + 1) 54 #[.int .i32 x0, .int .i32 x1, .int .i32 x2]) ∧ Box' (Room wr (w.heap.size + 1) 54 3) ∧ Box' (Below w.heap.size w wr)) (fun _ i _ => 3 - (intOf i).toNat)
 case atStart => exact ⟨0, 0, 0, 0, by omega, rfl, rfl, ⟨by simp⟩, R5, R4, B1⟩
 case round =>
  obtain ⟨k, x0, x1, x2, hk, rfl, rfl, XX, RR, RM, BB⟩ := hrel
  clear B1 R4 R5
  have c0 : wr.cell? ⟨w.heap.size + 1 + 1, 0, none⟩ = some (.int .i32 x0) := RR.out.cell 0
  have c1 : wr.cell? ⟨w.heap.size + 1 + 1, 1, none⟩ = some (.int .i32 x1) := RR.out.cell 1
  have c2 : wr.cell? ⟨w.heap.size + 1 + 1, 2, none⟩ = some (.int .i32 x2) := RR.out.cell 2
  have f0 := RR.out.frozen 0
  have f1 := RR.out.frozen 1
  have f2 := RR.out.frozen 2
  obtain rfl | rfl | rfl | rfl : k = 0 ∨ k = 1 ∨ k = 2 ∨ k = 3 := by omega
  ·go_wp2_with (first | (refine wpList_idx rfl (.tmp 9) (.tmp 10) rfl #[.int .i32 m0, .int .i32 m1, .int .i32 m2] 0 (.int .i32 m0) rfl rfl (by decide) rfl ?_))
   exact ⟨⟨1, m0, x1, x2, by omega, rfl, rfl, ⟨by obtain ⟨e0, e1, e2⟩ := XX.out; simp at e0 e1 e2; refine ⟨?_, ?_, ?_⟩ <;> simp <;> assumption⟩, ⟨RR.out.setCell 0 _⟩, ⟨RM.out.setOther _ _ (by show w.heap.size + 1 ≠ w.heap.size + 1 + 1; omega)⟩, ⟨BB.out.setCell (by show w.heap.size ≤ w.heap.size + 1 + 1; omega) _⟩⟩, by simp [intOf]⟩
  ·go_wp2_with (first | (refine wpList_idx rfl (.tmp 9) (.tmp 10) rfl #[.int .i32 m0, .int .i32 m1, .int .i32 m2] 1 (.int .i32 m1) rfl rfl (by decide) rfl ?_))
   exact ⟨⟨2, x0, m1, x2, by omega, rfl, rfl, ⟨by obtain ⟨e0, e1, e2⟩ := XX.out; simp at e0 e1 e2; refine ⟨?_, ?_, ?_⟩ <;> simp <;> assumption⟩, ⟨RR.out.setCell 1 _⟩, ⟨RM.out.setOther _ _ (by show w.heap.size + 1 ≠ w.heap.size + 1 + 1; omega)⟩, ⟨BB.out.setCell (by show w.heap.size ≤ w.heap.size + 1 + 1; omega) _⟩⟩, by simp [intOf]⟩
  ·go_wp2_with (first | (refine wpList_idx rfl (.tmp 9) (.tmp 10) rfl #[.int .i32 m0, .int .i32 m1, .int .i32 m2] 2 (.int .i32 m2) rfl rfl (by decide) rfl ?_))
   exact ⟨⟨3, x0, x1, m2, by omega, rfl, rfl, ⟨by obtain ⟨e0, e1, e2⟩ := XX.out; simp at e0 e1 e2; refine ⟨?_, ?_, ?_⟩ <;> simp <;> assumption⟩, ⟨RR.out.setCell 2 _⟩, ⟨RM.out.setOther _ _ (by show w.heap.size + 1 ≠ w.heap.size + 1 + 1; omega)⟩, ⟨BB.out.setCell (by show w.heap.size ≤ w.heap.size + 1 + 1; omega) _⟩⟩, by simp [intOf]⟩
  ·obtain ⟨e0, e1, e2⟩ := XX.out
   simp at e0 e1 e2
   rw [e0] at RR c0
   rw [e1] at RR c1
   rw [e2] at RR c2
   clear XX e0 e1 e2
   have S22 : Box' ((Tryz.prog.info? 54).map (·.size) = some 3) := ⟨by kernel_rfl⟩
   have ON : Box' ((#[.int .i32 m0, .int .i32 m1, .int .i32 m2] : Array Value).all (·.oneCell') = true) := ⟨by simp [Value.oneCell']⟩
   have RX : Box' (Room (wr) (w.heap.size + 1) 54 3) := ⟨RM.out⟩
   have BX : Box' (Below w.heap.size w (wr)) := ⟨BB.out⟩
   go_wp2_with (first
    | (refine wpList_store_row rfl 54 (.tmp 4) (.tmp 26) rfl (w.heap.size + 1) rfl #[.int .i32 m0, .int .i32 m1, .int .i32 m2] rfl 54 3 RX.out S22.out rfl ON.out ?_))
   exact bodyPost_ret (results27 _ (w.heap.size + 1) rfl _ _ (RX.out.setRow _) rfl) rfl ⟨rfl, below_setRow BX.out (by omega) _⟩
/-- A mark behind those that there are. -/
def wmF (m0 m1 m2 c : Int) : Int × Int × Int := if m0 = 0 then (c, m1, m2) else if m1 = 0 then (m0, c, m2) else if m2 = 0 then (m0, m1, c) else (m0, m1, m2)
def wmP (m0 m1 m2 c n0 n1 n2 : Int) : Prop := (n0, n1, n2) = wmF m0 m1 m2 c
theorem withMark_is (j : Nat) (m0 m1 m2 : Int) (h : Mj j m0 m1 m2) (c : Int) (hc : ofF c = 0) (w : World) : Calls Tryz.prog 184 #[.agg (mA m0 m1 m2), .int .i32 c] w fun e w' => ∃ (k : Nat) (n0 n1 n2 : Int), wmP m0 m1 m2 c n0 n1 n2 ∧ e = .returned (.agg (mA n0 n1 n2)) ∧ Below w.heap.size w w' := by
 rcases h with ⟨_, rfl, rfl, rfl⟩ | ⟨_, h0, rfl, rfl⟩ | ⟨_, h0, h1, rfl⟩ | ⟨_, h0, h1, h2⟩
 ·exact (withMark_0 c w).mono fun e w' q => ⟨0, c, 0, 0, rfl, q.1, q.2⟩
 ·exact (withMark_1 m0 (of_ne h0) c w).mono fun e w' q => ⟨0, m0, c, 0, (by unfold wmP wmF; rw [if_neg (of_ne h0), if_pos rfl]), q.1, q.2⟩
 ·exact (withMark_2 m0 m1 (of_ne h0) (of_ne h1) c w).mono fun e w' q => ⟨0, m0, m1, c, (by unfold wmP wmF; rw [if_neg (of_ne h0), if_neg (of_ne h1), if_pos rfl]), q.1, q.2⟩
 ·exact (withMark_3 m0 m1 m2 (of_ne h0) (of_ne h1) (of_ne h2) c w).mono fun e w' q => ⟨0, m0, m1, m2, (by unfold wmP wmF; rw [if_neg (of_ne h0), if_neg (of_ne h1), if_neg (of_ne h2)]), q.1, q.2⟩
theorem results11 (tmps : Array Value) (b : Nat) (hx : tmps.getD 4 undef = .pointer (some ⟨b, 0, none⟩)) (w : World) (c : Array Value) (hr : Row w b 56 c) (hn : c.size = 15) : (results Tryz.f168 tmps).run Tryz.prog w = .ok (.agg c) w :=
 results_row (p := 4) (ty := 56) rfl tmps b hx 56 c hr _ Tryz.underlying56 rfl 15 s26 hn
theorem mark_a (x : Cl) (c : Int) (h : ¬ ofF c = 0) (w : World) : Calls Tryz.prog 168 #[.agg (cA x), .int .i32 c] w fun e w' => e = .returned (.agg (cA x)) ∧ Below w.heap.size w w' := by
 have RX : Box' (Row ((w.alloc (.cells (cA x) 56)).alloc (.cells #[.int .i32 0, .int .i32 0, .int .i32 0, .int .i32 0, .int .u8 0, .int .i64 0, .int .i64 0, .bool false, .bool false, .bool false, .bool false, .bool false, .bool false, .bool false, .bool false] 56)) w.heap.size 56 (cA x)) := ⟨(Row.new _ _ _).alloc _⟩
 have RM : Box' (Room ((w.alloc (.cells (cA x) 56)).alloc (.cells #[.int .i32 0, .int .i32 0, .int .i32 0, .int .i32 0, .int .u8 0, .int .i64 0, .int .i64 0, .bool false, .bool false, .bool false, .bool false, .bool false, .bool false, .bool false, .bool false] 56)) (w.heap.size + 1) 56 15) := ⟨Room.made _ _ _ _ _ rfl (by simp)⟩
 have BB : Box' (Below w.heap.size w ((w.alloc (.cells (cA x) 56)).alloc (.cells #[.int .i32 0, .int .i32 0, .int .i32 0, .int .i32 0, .int .u8 0, .int .i64 0, .int .i64 0, .bool false, .bool false, .bool false, .bool false, .bool false, .bool false, .bool false, .bool false] 56))) := ⟨((Below.refl w.heap.size w).alloc (Nat.le_refl _) _).alloc (by simp) _⟩
 have S26 := Box'.mk s26
 have U26 := Box'.mk Tryz.underlying56
 have OF := Box'.mk (of_any c)
 go_enter Tryz.func168, Tryz.ntmps168
 go_upto_region 1 with (fail)
 generalize ((w.alloc (.cells (cA x) 56)).alloc (.cells #[.int .i32 0, .int .i32 0, .int .i32 0, .int .i32 0, .int .u8 0, .int .i64 0, .int .i64 0, .bool false, .bool false, .bool false, .bool false, .bool false, .bool false, .bool false, .bool false] 56)) = w1 at *
 go_wp2_with fail
 refine (OF.out _).mono ?_
 rintro e w2 ⟨rfl, hb2⟩
 have R2 := Box'.mk (RX.out.below hb2 RX.out.lt)
 have M2 := Box'.mk (RM.out.below hb2 (by obtain ⟨c, h, _⟩ := RM.out; exact h.lt))
 have B2 := Box'.mk (BB.out.trans (hb2.mono BB.out.size))
 clear hb2 RX RM BB OF
 have c4 : w2.cell? ⟨w.heap.size, 4, none⟩ = some (.int .u8 (x.wd : Int)) := R2.out.cell 4
 generalize ofF c = z at *
 have O := Box'.mk (one15 x)
 go_wp2_with (first
  | (refine wpList_load_row rfl 56 (.tmp 2) rfl w.heap.size rfl 56 (cA x) R2.out _ U26.out rfl 15 S26.out rfl ?_)
  | (refine wpList_store_row rfl 56 (.tmp 4) (.tmp 23) rfl (w.heap.size + 1) rfl (cA x) rfl 56 15 M2.out S26.out rfl O.out ?_))
 exact bodyPost_ret (results11 _ (w.heap.size + 1) rfl _ _ (M2.out.setRow _) rfl) rfl ⟨rfl, below_setRow B2.out (by omega) _⟩
theorem mark_b (x : Cl) (c : Int) (h : ofF c = 0) (h0 : x.wd = 0) (w : World) : Calls Tryz.prog 168 #[.agg (cA x), .int .i32 c] w fun e w' => e = .returned (.agg (cA x)) ∧ Below w.heap.size w w' := by
 have RX : Box' (Row ((w.alloc (.cells (cA x) 56)).alloc (.cells #[.int .i32 0, .int .i32 0, .int .i32 0, .int .i32 0, .int .u8 0, .int .i64 0, .int .i64 0, .bool false, .bool false, .bool false, .bool false, .bool false, .bool false, .bool false, .bool false] 56)) w.heap.size 56 (cA x)) := ⟨(Row.new _ _ _).alloc _⟩
 have RM : Box' (Room ((w.alloc (.cells (cA x) 56)).alloc (.cells #[.int .i32 0, .int .i32 0, .int .i32 0, .int .i32 0, .int .u8 0, .int .i64 0, .int .i64 0, .bool false, .bool false, .bool false, .bool false, .bool false, .bool false, .bool false, .bool false] 56)) (w.heap.size + 1) 56 15) := ⟨Room.made _ _ _ _ _ rfl (by simp)⟩
 have BB : Box' (Below w.heap.size w ((w.alloc (.cells (cA x) 56)).alloc (.cells #[.int .i32 0, .int .i32 0, .int .i32 0, .int .i32 0, .int .u8 0, .int .i64 0, .int .i64 0, .bool false, .bool false, .bool false, .bool false, .bool false, .bool false, .bool false, .bool false] 56))) := ⟨((Below.refl w.heap.size w).alloc (Nat.le_refl _) _).alloc (by simp) _⟩
 have S26 := Box'.mk s26
 have U26 := Box'.mk Tryz.underlying56
 have OF := Box'.mk (of_any c)
 go_enter Tryz.func168, Tryz.ntmps168
 go_upto_region 1 with (fail)
 generalize ((w.alloc (.cells (cA x) 56)).alloc (.cells #[.int .i32 0, .int .i32 0, .int .i32 0, .int .i32 0, .int .u8 0, .int .i64 0, .int .i64 0, .bool false, .bool false, .bool false, .bool false, .bool false, .bool false, .bool false, .bool false] 56)) = w1 at *
 go_wp2_with fail
 refine (OF.out _).mono ?_
 rintro e w2 ⟨rfl, hb2⟩
 have R2 := Box'.mk (RX.out.below hb2 RX.out.lt)
 have M2 := Box'.mk (RM.out.below hb2 (by obtain ⟨c, h, _⟩ := RM.out; exact h.lt))
 have B2 := Box'.mk (BB.out.trans (hb2.mono BB.out.size))
 clear hb2 RX RM BB OF
 have c4 : w2.cell? ⟨w.heap.size, 4, none⟩ = some (.int .u8 (x.wd : Int)) := R2.out.cell 4
 rw [h]
 rw [h0] at c4
 clear h h0
 have O := Box'.mk (one15 x)
 go_wp2_with (first
  | (refine wpList_load_row rfl 56 (.tmp 2) rfl w.heap.size rfl 56 (cA x) R2.out _ U26.out rfl 15 S26.out rfl ?_)
  | (refine wpList_store_row rfl 56 (.tmp 4) (.tmp 23) rfl (w.heap.size + 1) rfl (cA x) rfl 56 15 M2.out S26.out rfl O.out ?_))
 exact bodyPost_ret (results11 _ (w.heap.size + 1) rfl _ _ (M2.out.setRow _) rfl) rfl ⟨rfl, below_setRow B2.out (by omega) _⟩
theorem mark_w (x : Cl) (c : Int) (h : ofF c = 0) (h0 : x.wd = 1 ∨ x.wd = 2) (j : Nat) (hj : Mj j x.m0 x.m1 x.m2) (w : World) : Calls Tryz.prog 168 #[.agg (cA x), .int .i32 c] w fun e w' => ∃ (k : Nat) (n0 n1 n2 : Int), wmP x.m0 x.m1 x.m2 c n0 n1 n2 ∧ e = .returned (.agg (cA { x with m0 := n0, m1 := n1, m2 := n2 })) ∧ Below w.heap.size w w' := by
 obtain h0 | h0 := h0
 all_goals (
 have WM := Box'.mk (withMark_is j x.m0 x.m1 x.m2 hj c h)
 clear hj
 have RX : Box' (Row ((w.alloc (.cells (cA x) 56)).alloc (.cells #[.int .i32 0, .int .i32 0, .int .i32 0, .int .i32 0, .int .u8 0, .int .i64 0, .int .i64 0, .bool false, .bool false, .bool false, .bool false, .bool false, .bool false, .bool false, .bool false] 56)) w.heap.size 56 (cA x)) := ⟨(Row.new _ _ _).alloc _⟩
 have RM : Box' (Room ((w.alloc (.cells (cA x) 56)).alloc (.cells #[.int .i32 0, .int .i32 0, .int .i32 0, .int .i32 0, .int .u8 0, .int .i64 0, .int .i64 0, .bool false, .bool false, .bool false, .bool false, .bool false, .bool false, .bool false, .bool false] 56)) (w.heap.size + 1) 56 15) := ⟨Room.made _ _ _ _ _ rfl (by simp)⟩
 have BB : Box' (Below w.heap.size w ((w.alloc (.cells (cA x) 56)).alloc (.cells #[.int .i32 0, .int .i32 0, .int .i32 0, .int .i32 0, .int .u8 0, .int .i64 0, .int .i64 0, .bool false, .bool false, .bool false, .bool false, .bool false, .bool false, .bool false, .bool false] 56))) := ⟨((Below.refl w.heap.size w).alloc (Nat.le_refl _) _).alloc (by simp) _⟩
 have S26 := Box'.mk s26
 have U26 := Box'.mk Tryz.underlying56
 have OF := Box'.mk (of_any c)
 go_enter Tryz.func168, Tryz.ntmps168
 go_upto_region 1 with (fail)
 generalize ((w.alloc (.cells (cA x) 56)).alloc (.cells #[.int .i32 0, .int .i32 0, .int .i32 0, .int .i32 0, .int .u8 0, .int .i64 0, .int .i64 0, .bool false, .bool false, .bool false, .bool false, .bool false, .bool false, .bool false, .bool false] 56)) = w1 at *
 go_wp2_with fail
 refine (OF.out _).mono ?_
 rintro e w2 ⟨rfl, hb2⟩
 have R2 := Box'.mk (RX.out.below hb2 RX.out.lt)
 have M2 := Box'.mk (RM.out.below hb2 (by obtain ⟨c, h, _⟩ := RM.out; exact h.lt))
 have B2 := Box'.mk (BB.out.trans (hb2.mono BB.out.size))
 clear hb2 RX RM BB OF
 have c4 : w2.cell? ⟨w.heap.size, 4, none⟩ = some (.int .u8 (x.wd : Int)) := R2.out.cell 4
 rw [h]
 rw [h0] at c4
 clear h h0
 have c1 : w2.cell? ⟨w.heap.size, 1, none⟩ = some (.int .i32 x.m0) := R2.out.cell 1
 have c2 : w2.cell? ⟨w.heap.size, 2, none⟩ = some (.int .i32 x.m1) := R2.out.cell 2
 have c3 : w2.cell? ⟨w.heap.size, 3, none⟩ = some (.int .i32 x.m2) := R2.out.cell 3
 go_wp2_with fail
 refine (WM.out _).mono ?_
 rintro e w3 ⟨k, n0, n1, n2, hk, rfl, hb3⟩
 have HK := Box'.mk hk
 have R3 := Box'.mk (R2.out.below hb3 R2.out.lt)
 have M3 := Box'.mk (M2.out.below hb3 (by obtain ⟨c, h, _⟩ := M2.out; exact h.lt))
 have B3 := Box'.mk (B2.out.trans (hb3.mono B2.out.size))
 clear hb3 R2 M2 B2 c1 c2 c3 c4 WM hk
 have c1 : w3.cell? ⟨w.heap.size, 1, none⟩ = some (.int .i32 x.m0) := R3.out.cell 1
 have c2 : w3.cell? ⟨w.heap.size, 2, none⟩ = some (.int .i32 x.m1) := R3.out.cell 2
 have c3 : w3.cell? ⟨w.heap.size, 3, none⟩ = some (.int .i32 x.m2) := R3.out.cell 3
 have f1 := R3.out.frozen 1
 have f2 := R3.out.frozen 2
 have f3 := R3.out.frozen 3
 have R4 : Box' (Row (((w3.setCell ⟨w.heap.size, 1, none⟩ (.int .i32 n0)).setCell ⟨w.heap.size, 2, none⟩ (.int .i32 n1)).setCell ⟨w.heap.size, 3, none⟩ (.int .i32 n2)) w.heap.size 56 (cA { x with m0 := n0, m1 := n1, m2 := n2 })) := ⟨((R3.out.setCell 1 _).setCell 2 _).setCell 3 _⟩
 have M4 : Box' (Room (((w3.setCell ⟨w.heap.size, 1, none⟩ (.int .i32 n0)).setCell ⟨w.heap.size, 2, none⟩ (.int .i32 n1)).setCell ⟨w.heap.size, 3, none⟩ (.int .i32 n2)) (w.heap.size + 1) 56 15) := ⟨((M3.out.setOther _ _ (by show w.heap.size + 1 ≠ w.heap.size; omega)).setOther _ _ (by show w.heap.size + 1 ≠ w.heap.size; omega)).setOther _ _ (by show w.heap.size + 1 ≠ w.heap.size; omega)⟩
 have B4 : Box' (Below w.heap.size w (((w3.setCell ⟨w.heap.size, 1, none⟩ (.int .i32 n0)).setCell ⟨w.heap.size, 2, none⟩ (.int .i32 n1)).setCell ⟨w.heap.size, 3, none⟩ (.int .i32 n2))) := ⟨((B3.out.setCell (Nat.le_refl _) _).setCell (Nat.le_refl _) _).setCell (Nat.le_refl _) _⟩
 have O := Box'.mk (one15 { x with m0 := n0, m1 := n1, m2 := n2 })
 clear R3 M3 B3
 unfold mA
 go_upto_region 3 with (fail)
 clear c1 c2 c3 f1 f2 f3
 generalize (((w3.setCell ⟨w.heap.size, 1, none⟩ (.int .i32 n0)).setCell ⟨w.heap.size, 2, none⟩ (.int .i32 n1)).setCell ⟨w.heap.size, 3, none⟩ (.int .i32 n2)) = w4 at *
 generalize hy : ({ x with m0 := n0, m1 := n1, m2 := n2 } : Cl) = y at *
 have HY := Box'.mk hy
 clear hy
 go_wp2_with (first
  | (refine wpList_load_row rfl 56 (.tmp 2) rfl w.heap.size rfl 56 (cA y) R4.out _ U26.out rfl 15 S26.out rfl ?_)
  | (refine wpList_store_row rfl 56 (.tmp 4) (.tmp 23) rfl (w.heap.size + 1) rfl (cA y) rfl 56 15 M4.out S26.out rfl O.out ?_))
 exact bodyPost_ret (results11 _ (w.heap.size + 1) rfl _ _ (M4.out.setRow _) rfl) rfl ⟨k, n0, n1, n2, HK.out, by rw [HY.out], below_setRow B4.out (by omega) _⟩)
def mkC (x : Cl) (c : Int) : Cl := if ofF c = 0 ∧ (x.wd = 1 ∨ x.wd = 2) then { x with m0 := (wmF x.m0 x.m1 x.m2 c).1, m1 := (wmF x.m0 x.m1 x.m2 c).2.1, m2 := (wmF x.m0 x.m1 x.m2 c).2.2 } else x
theorem mark_is (x : Cl) (hx : gd x) (c : Int) (w : World) : Calls Tryz.prog 168 #[.agg (cA x), .int .i32 c] w fun e w' => e = .returned (.agg (cA (mkC x c))) ∧ Below w.heap.size w w' := by
 unfold mkC
 by_cases h : ofF c = 0
 ·rcases hx with ⟨hs, ⟨h0, hh⟩ | ⟨hw, ho, j, hj⟩⟩
  ·rw [if_neg (by omega)]
   exact mark_b x c h h0 w
  ·rw [if_pos ⟨h, hw⟩]
   refine (mark_w x c h hw j hj w).mono ?_
   rintro e w' ⟨k, n0, n1, n2, hk, rfl, hb⟩
   unfold wmP at hk
   rw [← hk]
   exact ⟨rfl, hb⟩
 ·rw [if_neg (fun q => h q.1)]
  exact mark_a x c h w
theorem mm_Mj (m0 m1 m2 : Int) : mmL false [m0, m1, m2] = true → ∃ j, Mj j m0 m1 m2 := by
 intro h
 unfold Mj
 by_cases h0 : m0 = 0
 ·by_cases h1 : m1 = 0
  ·by_cases h2 : m2 = 0
   ·exact ⟨0, .inl ⟨rfl, h0, h1, h2⟩⟩
   ·simp [mmL, h0, h1, h2] at h
  ·simp [mmL, h0, h1] at h
 ·have a0 : ofF m0 = 0 := by
   cases hq : decide (ofF m0 = 0) with
   | true => exact of_decide_eq_true hq
   | false => have := of_decide_eq_false hq; simp [mmL, h0, this] at h
  by_cases h1 : m1 = 0
  ·by_cases h2 : m2 = 0
   ·exact ⟨1, .inr (.inl ⟨rfl, a0, h1, h2⟩)⟩
   ·simp [mmL, h0, a0, h1, h2] at h
  ·have a1 : ofF m1 = 0 := by
    cases hq : decide (ofF m1 = 0) with
    | true => exact of_decide_eq_true hq
    | false => have := of_decide_eq_false hq; simp [mmL, h0, a0, h1, this] at h
   by_cases h2 : m2 = 0
   ·exact ⟨2, .inr (.inr (.inl ⟨rfl, a0, a1, h2⟩))⟩
   ·have a2 : ofF m2 = 0 := by
     cases hq : decide (ofF m2 = 0) with
     | true => exact of_decide_eq_true hq
     | false => have := of_decide_eq_false hq; simp [mmL, h0, a0, h1, a1, h2, this] at h
    exact ⟨3, .inr (.inr (.inr ⟨rfl, a0, a1, a2⟩))⟩
theorem Mj_mm (j : Nat) (m0 m1 m2 : Int) (h : Mj j m0 m1 m2) : mmL false [m0, m1, m2] = true := by
 rcases h with ⟨_, rfl, rfl, rfl⟩ | ⟨_, h0, rfl, rfl⟩ | ⟨_, h0, h1, rfl⟩ | ⟨_, h0, h1, h2⟩
 ·simp [mmL]
 ·simp [mmL, h0, of_ne h0]
 ·simp [mmL, h0, of_ne h0, h1, of_ne h1]
 ·simp [mmL, h0, of_ne h0, h1, of_ne h1, h2, of_ne h2]
theorem gd_mayC {x : Cl} (h : gd x) : mayC x = true := by
 obtain ⟨hs, h1⟩ := h
 unfold mayC
 rw [if_neg (by rw [hs]; decide)]
 rcases h1 with ⟨h0, hh⟩ | ⟨hw, ho, j, hj⟩
 ·rw [if_pos h0, hh]
  simp [hf]
 ·rw [if_neg (by omega), if_neg (by omega), if_pos ho]
  exact Mj_mm j _ _ _ hj
theorem mayC_gd {x : Cl} (h : mayC x = true) : gd x := by
 have hs := mayC_st x h
 refine ⟨hs, ?_⟩
 unfold mayC at h
 rw [if_neg (by rw [hs]; decide)] at h
 by_cases h0 : x.wd = 0
 ·rw [if_pos h0] at h
  obtain ⟨a, b, c, d⟩ := of_decide_eq_true h
  obtain ⟨ch, m0, m1, m2, wd, st⟩ := x
  simp only at a b c d h0
  subst a b c d h0
  exact .inl ⟨rfl, rfl⟩
 ·rw [if_neg h0] at h
  by_cases h2 : 2 < x.wd
  ·rw [if_pos h2] at h; cases h
  ·rw [if_neg h2] at h
   by_cases ho : ofF x.ch = (x.wd : Int)
   ·rw [if_pos ho] at h
    exact .inr ⟨by omega, ho, mm_Mj _ _ _ h⟩
   ·rw [if_neg ho] at h; cases h
theorem wm_Mj (j : Nat) (m0 m1 m2 c : Int) (h : Mj j m0 m1 m2) (hc : ofF c = 0) : ∃ k, Mj k (wmF m0 m1 m2 c).1 (wmF m0 m1 m2 c).2.1 (wmF m0 m1 m2 c).2.2 := by
 rcases h with ⟨_, rfl, rfl, rfl⟩ | ⟨_, h0, rfl, rfl⟩ | ⟨_, h0, h1, rfl⟩ | ⟨_, h0, h1, h2⟩
 ·exact ⟨1, .inr (.inl ⟨rfl, hc, rfl, rfl⟩)⟩
 ·unfold wmF; rw [if_neg (of_ne h0), if_pos rfl]
  exact ⟨2, .inr (.inr (.inl ⟨rfl, h0, hc, rfl⟩))⟩
 ·unfold wmF; rw [if_neg (of_ne h0), if_neg (of_ne h1), if_pos rfl]
  exact ⟨3, .inr (.inr (.inr ⟨rfl, h0, h1, hc⟩))⟩
 ·unfold wmF; rw [if_neg (of_ne h0), if_neg (of_ne h1), if_neg (of_ne h2)]
  exact ⟨3, .inr (.inr (.inr ⟨rfl, h0, h1, h2⟩))⟩
theorem mkC_may {x : Cl} (h : mayC x = true) (c : Int) : mayC (mkC x c) = true := by
 unfold mkC
 split
 ·rename_i q
  have g := mayC_gd h
  obtain ⟨hs, ⟨h0, hh⟩ | ⟨hw, ho, j, hj⟩⟩ := g
  ·omega
  ·exact gd_mayC ⟨hs, .inr ⟨hw, ho, wm_Mj j _ _ _ c hj q.1⟩⟩
 ·exact h
end Go.Proofs.YtlekleeckcdcgaaGreat
