/- Cells: Put, half. -/
import Derived.Test.YtnlladjkajmpoaaV
import Derived.Test.YtnlladjkajmpoaaI
namespace Go.Proofs.Ytnlladjkajmpoaa
open Go.RowKit Go.BigFrame
set_option linter.unusedVariables false
set_option linter.unusedSimpArgs false

structure Cl where
  ch : Int
  m0 : Int
  m1 : Int
  m2 : Int
  wd : Nat
  st : St
/-- The cells of a cell. -/
def cA (x : Cl) : Array Value := #[.int .i32 x.ch, .int .i32 x.m0, .int .i32 x.m1, .int .i32 x.m2, .int .u8 (x.wd : Int), .int .i64 x.st.fg, .int .i64 x.st.bg, .bool x.st.b1, .bool x.st.b2, .bool x.st.b3, .bool x.st.b4, .bool x.st.b5, .bool x.st.b7, .bool x.st.b8, .bool x.st.b9]
def hf (s : St) : Cl := ⟨0, 0, 0, 0, 0, s⟩
theorem results23 (tmps : Array Value) (b : Nat) (hx : tmps.getD 2 undef = .pointer (some ⟨b, 0, none⟩)) (w : World) (c : Array Value) (hr : Row w b 26 c) (hn : c.size = 15) : (results Try.f23 tmps).run Try.prog w = .ok (.agg c) w :=
  results_row (p := 2) (ty := 26) rfl tmps b hx 26 c hr _ Try.underlying26 rfl 15 s26 hn
set_option maxHeartbeats 4000000 in
theorem half_any (s : St) (w : World) : Calls Try.prog 23 #[.agg (sA s)] w fun e w' => e = .returned (.agg (cA (hf s))) ∧ Below w.heap.size w w' := by
  obtain ⟨fg, bg, y1, y2, y3, y4, y5, y7, y8, y9⟩ := s
  unfold sA cA hf
  simp only
  go_enter Try.func23, Try.ntmps23
  go_wp2_with fail
  exact bodyPost_ret (results23 _ (w.heap.size + 1) rfl _ _ (Row.made _ _ _ _ _ rfl (by simp)) rfl) rfl ⟨rfl, ((Below.refl w.heap.size w).alloc (Nat.le_refl _) _).alloc (by simp) _⟩
set_option maxHeartbeats 4000000 in
theorem put_1 (c : Int) (s : St) (h : ofF c = 1) (w : World) : Calls Try.prog 7 #[.int .i32 c, .agg (sA s)] w fun e w' => ∃ g, e = .returned (.slice (some ⟨g, 0, none⟩) 1 1) ∧ Row w' g 26 (cA ⟨c, 0, 0, 0, 1, s⟩) ∧ Below w.heap.size w w' := by
  have OF := Box'.mk (of_any c (w.alloc (.cells (sA s) 24)))
  rw [h] at OF
  obtain ⟨fg, bg, y1, y2, y3, y4, y5, y7, y8, y9⟩ := s
  unfold sA cA at *
  simp only at *
  go_enter Try.func7, Try.ntmps7
  go_wp2_with fail
  refine OF.out.mono ?_
  rintro e w1 ⟨rfl, hb1⟩
  have R1 := Box'.mk ((Row.new w 24 #[.int .i64 fg, .int .i64 bg, .bool y1, .bool y2, .bool y3, .bool y4, .bool y5, .bool y7, .bool y8, .bool y9]).below hb1 (by simp))
  have B1 : Box' (Below w.heap.size w w1) := ⟨((Below.refl w.heap.size w).alloc (Nat.le_refl _) _).trans (hb1.mono (by simp))⟩
  have U24 := Box'.mk Try.underlying24
  have S24 := Box'.mk s24
  clear hb1 OF h
  go_wp2_with (first
    | (refine wpList_load_row rfl 24 (.tmp 3) rfl w.heap.size rfl 24 #[.int .i64 fg, .int .i64 bg, .bool y1, .bool y2, .bool y3, .bool y4, .bool y5, .bool y7, .bool y8, .bool y9] R1.out _ U24.out rfl 10 S24.out rfl ?_))
  go_ret
  exact ⟨_, rfl, Row.new _ _ _, B1.out.alloc B1.out.size _⟩
set_option maxRecDepth 100000 in
set_option maxHeartbeats 4000000 in
theorem put_2 (c : Int) (s : St) (h : ofF c = 2) (w : World) : Calls Try.prog 7 #[.int .i32 c, .agg (sA s)] w fun e w' => ∃ g, e = .returned (.slice (some ⟨g, 0, none⟩) 2 2) ∧ Row w' g 26 (cA ⟨c, 0, 0, 0, 2, s⟩ ++ cA (hf s)) ∧ Below w.heap.size w w' := by
  have OF := Box'.mk (of_any c (w.alloc (.cells (sA s) 24)))
  have HF := Box'.mk (half_any s)
  rw [h] at OF
  obtain ⟨fg, bg, y1, y2, y3, y4, y5, y7, y8, y9⟩ := s
  unfold sA cA hf at *
  simp only at *
  go_enter Try.func7, Try.ntmps7
  go_wp2_with fail
  refine OF.out.mono ?_
  rintro e w1 ⟨rfl, hb1⟩
  have R1 := Box'.mk ((Row.new w 24 #[.int .i64 fg, .int .i64 bg, .bool y1, .bool y2, .bool y3, .bool y4, .bool y5, .bool y7, .bool y8, .bool y9]).below hb1 (by simp))
  have B1 : Box' (Below w.heap.size w w1) := ⟨((Below.refl w.heap.size w).alloc (Nat.le_refl _) _).trans (hb1.mono (by simp))⟩
  clear hb1 OF h
  go_wp2_with fail
  refine wp_region_growg 5 (by kernel_rfl) 21 rfl (by kernel_rfl) (fun wa wb => Below wa.heap.size wa wb) (fun wa => Row wa w.heap.size 24 #[.int .i64 fg, .int .i64 bg, .bool y1, .bool y2, .bool y3, .bool y4, .bool y5, .bool y7, .bool y8, .bool y9] ∧ Below w.heap.size w wa) (fun kc wa v => match kc with
    | 0 => v = .int .i32 c
    | 1 => v = .agg #[.int .i64 fg, .int .i64 bg, .bool y1, .bool y2, .bool y3, .bool y4, .bool y5, .bool y7, .bool y8, .bool y9]
    | 2 => v = .agg #[.int .i32 c, .int .i32 0, .int .i32 0, .int .i32 0, .int .u8 2, .int .i64 fg, .int .i64 bg, .bool y1, .bool y2, .bool y3, .bool y4, .bool y5, .bool y7, .bool y8, .bool y9]
    | 3 => v = .agg #[.int .i64 fg, .int .i64 bg, .bool y1, .bool y2, .bool y3, .bool y4, .bool y5, .bool y7, .bool y8, .bool y9]
    | 4 => v = .agg #[.int .i32 0, .int .i32 0, .int .i32 0, .int .i32 0, .int .u8 0, .int .i64 fg, .int .i64 bg, .bool y1, .bool y2, .bool y3, .bool y4, .bool y5, .bool y7, .bool y8, .bool y9]
    | _ => True) ?_ ?_ ?_ ?_ ?_ ?_
  · intro i o' j b' hi hg wa v hC hV
    have hlt : i < 5 := by rcases Nat.lt_or_ge i 5 with q | q; exact q; rw [List.getElem?_eq_none (by simpa using q)] at hi; cases hi
    revert hi hg hV
    rcases (show i = 0 ∨ i = 1 ∨ i = 2 ∨ i = 3 ∨ i = 4 by omega) with rfl | rfl | rfl | rfl | rfl <;>
      (intro hi hg hV; simp only [List.take_succ_cons, List.getElem?_cons_zero, List.getElem?_cons_succ, Option.some.injEq] at hi; subst hi; first | (cases hg; exact hV) | (cases hg))
  · rintro wa wb hb ⟨q1, q2⟩; exact ⟨q1.below hb q1.lt, q2.trans (hb.mono q2.size)⟩
  · intro kc v wa wb hC1 hb h
    match kc, h with
    | 0, h => exact h
    | 1, h => exact h
    | 2, h => exact h
    | 3, h => exact h
    | 4, h => exact h
    | kc + 5, h => trivial
  · exact ⟨R1.out.drew, B1.out.drew⟩
  · refine ⟨?_, ?_, ?_, ?_, ?_, trivial⟩
    · intro f wq hC hd KK hK
      clear hd
      simp only [List.take_succ_cons, List.take_zero, setAll, List.setIfInBounds_toArray, List.set_cons_succ, List.set_cons_zero, Nat.zero_add, Nat.reduceAdd] at hK ⊢
      refine wp_of_quiet rfl ?_
      go_big_quiet_step (fail)
      exact wpQuiet_nil (hK _ _ (rfl) (Below.refl _ _))
    · intro f wq hC hd KK hK
      clear hd
      have hR : Row wq w.heap.size 24 #[.int .i64 fg, .int .i64 bg, .bool y1, .bool y2, .bool y3, .bool y4, .bool y5, .bool y7, .bool y8, .bool y9] := hC.1
      have c0 : wq.cell? ⟨w.heap.size, 0, none⟩ = some (.int .i64 fg) := hR.cell 0
      have c1 : wq.cell? ⟨w.heap.size, 1, none⟩ = some (.int .i64 bg) := hR.cell 1
      have c2 : wq.cell? ⟨w.heap.size, 2, none⟩ = some (.bool y1) := hR.cell 2
      have c3 : wq.cell? ⟨w.heap.size, 3, none⟩ = some (.bool y2) := hR.cell 3
      have c4 : wq.cell? ⟨w.heap.size, 4, none⟩ = some (.bool y3) := hR.cell 4
      have c5 : wq.cell? ⟨w.heap.size, 5, none⟩ = some (.bool y4) := hR.cell 5
      have c6 : wq.cell? ⟨w.heap.size, 6, none⟩ = some (.bool y5) := hR.cell 6
      have c7 : wq.cell? ⟨w.heap.size, 7, none⟩ = some (.bool y7) := hR.cell 7
      have c8 : wq.cell? ⟨w.heap.size, 8, none⟩ = some (.bool y8) := hR.cell 8
      have c9 : wq.cell? ⟨w.heap.size, 9, none⟩ = some (.bool y9) := hR.cell 9
      clear hC hR
      simp only [List.take_succ_cons, List.take_zero, setAll, List.setIfInBounds_toArray, List.set_cons_succ, List.set_cons_zero, Nat.zero_add, Nat.reduceAdd] at hK ⊢
      refine wp_of_quiet rfl ?_
      go_big_quiet_step (fail)
      exact wpQuiet_nil (hK _ _ (rfl) (Below.refl _ _))
    · intro f wq hC hd KK hK
      have g0 : f 0 = .int .i32 c := hd 0 (by kernel_rfl)
      have g1 : f 1 = .agg #[.int .i64 fg, .int .i64 bg, .bool y1, .bool y2, .bool y3, .bool y4, .bool y5, .bool y7, .bool y8, .bool y9] := hd 1 (by kernel_rfl)
      clear hd
      simp only [List.take_succ_cons, List.take_zero, setAll, List.setIfInBounds_toArray, List.set_cons_succ, List.set_cons_zero, Nat.zero_add, Nat.reduceAdd, g0, g1] at hK ⊢
      refine wp_of_quiet rfl ?_
      go_big_quiet_step (fail)
      exact wpQuiet_nil (hK _ _ (rfl) (Below.refl _ _))
    · intro f wq hC hd KK hK
      clear hd
      have hR : Row wq w.heap.size 24 #[.int .i64 fg, .int .i64 bg, .bool y1, .bool y2, .bool y3, .bool y4, .bool y5, .bool y7, .bool y8, .bool y9] := hC.1
      have c0 : wq.cell? ⟨w.heap.size, 0, none⟩ = some (.int .i64 fg) := hR.cell 0
      have c1 : wq.cell? ⟨w.heap.size, 1, none⟩ = some (.int .i64 bg) := hR.cell 1
      have c2 : wq.cell? ⟨w.heap.size, 2, none⟩ = some (.bool y1) := hR.cell 2
      have c3 : wq.cell? ⟨w.heap.size, 3, none⟩ = some (.bool y2) := hR.cell 3
      have c4 : wq.cell? ⟨w.heap.size, 4, none⟩ = some (.bool y3) := hR.cell 4
      have c5 : wq.cell? ⟨w.heap.size, 5, none⟩ = some (.bool y4) := hR.cell 5
      have c6 : wq.cell? ⟨w.heap.size, 6, none⟩ = some (.bool y5) := hR.cell 6
      have c7 : wq.cell? ⟨w.heap.size, 7, none⟩ = some (.bool y7) := hR.cell 7
      have c8 : wq.cell? ⟨w.heap.size, 8, none⟩ = some (.bool y8) := hR.cell 8
      have c9 : wq.cell? ⟨w.heap.size, 9, none⟩ = some (.bool y9) := hR.cell 9
      clear hC hR
      simp only [List.take_succ_cons, List.take_zero, setAll, List.setIfInBounds_toArray, List.set_cons_succ, List.set_cons_zero, Nat.zero_add, Nat.reduceAdd] at hK ⊢
      refine wp_of_quiet rfl ?_
      go_big_quiet_step (fail)
      exact wpQuiet_nil (hK _ _ (rfl) (Below.refl _ _))
    · intro f wq hC hd KK hK
      have g3 : f 3 = .agg #[.int .i64 fg, .int .i64 bg, .bool y1, .bool y2, .bool y3, .bool y4, .bool y5, .bool y7, .bool y8, .bool y9] := hd 3 (by kernel_rfl)
      clear hd
      simp only [List.take_succ_cons, List.take_zero, setAll, List.setIfInBounds_toArray, List.set_cons_succ, List.set_cons_zero, Nat.zero_add, Nat.reduceAdd, g3] at hK ⊢
      exact wp_call 23 #[.agg #[.int .i64 fg, .int .i64 bg, .bool y1, .bool y2, .bool y3, .bool y4, .bool y5, .bool y7, .bool y8, .bool y9]] (by simp [go_sem]) _ _ (HF.out wq) (fun w' hb => hK _ _ rfl hb)
  · intro f wz hC hv
    have p0 : f 0 = .int .i32 c := hv 0 (by decide)
    have p1 : f 1 = .agg #[.int .i64 fg, .int .i64 bg, .bool y1, .bool y2, .bool y3, .bool y4, .bool y5, .bool y7, .bool y8, .bool y9] := hv 1 (by decide)
    have p2 : f 2 = .agg #[.int .i32 c, .int .i32 0, .int .i32 0, .int .i32 0, .int .u8 2, .int .i64 fg, .int .i64 bg, .bool y1, .bool y2, .bool y3, .bool y4, .bool y5, .bool y7, .bool y8, .bool y9] := hv 2 (by decide)
    have p3 : f 3 = .agg #[.int .i64 fg, .int .i64 bg, .bool y1, .bool y2, .bool y3, .bool y4, .bool y5, .bool y7, .bool y8, .bool y9] := hv 3 (by decide)
    have p4 : f 4 = .agg #[.int .i32 0, .int .i32 0, .int .i32 0, .int .i32 0, .int .u8 0, .int .i64 fg, .int .i64 bg, .bool y1, .bool y2, .bool y3, .bool y4, .bool y5, .bool y7, .bool y8, .bool y9] := hv 4 (by decide)
    simp only [List.take_succ_cons, List.take_zero, List.drop_succ_cons, List.drop_zero, setAll, List.setIfInBounds_toArray, List.set_cons_succ, List.set_cons_zero, Nat.zero_add, Nat.reduceAdd, p0, p1, p2, p3, p4]
    clear hv p0 p1 p2 p3 p4
    have B2 := Box'.mk hC.2
    clear hC R1 B1 HF
    go_wp2_with fail
    go_ret
    exact ⟨_, rfl, Row.new _ _ _, B2.out.alloc B2.out.size _⟩
set_option maxHeartbeats 4000000 in
theorem put_0 (c : Int) (s : St) (h1 : ¬ ofF c = 1) (h2 : ¬ ofF c = 2) (w : World) : Calls Try.prog 7 #[.int .i32 c, .agg (sA s)] w fun e w' => e = .returned (.slice none 0 0) ∧ Below w.heap.size w w' := by
  have OF := Box'.mk (of_any c (w.alloc (.cells (sA s) 24)))
  generalize ofF c = z at *
  go_enter Try.func7, Try.ntmps7
  go_wp2_with fail
  refine OF.out.mono ?_
  rintro e w1 ⟨rfl, hb1⟩
  have B1 : Box' (Below w.heap.size w w1) := ⟨((Below.refl w.heap.size w).alloc (Nat.le_refl _) _).trans (hb1.mono (by simp))⟩
  clear hb1 OF
  go_wp2_with fail
  go_ret
  exact ⟨rfl, B1.out⟩
/-- The slice v has the cells l, in a block below N. -/
def Cls (N : Nat) (w : World) (v : Value) (l : List Cl) : Prop :=
  ∃ a c, v = .slice a l.length c ∧ l.length ≤ c ∧ (l = [] ∨ ∃ b o, a = some ⟨b, o, none⟩ ∧ b < N ∧
    ∀ k, k < l.length → ∀ j, j < 15 → w.cell? ⟨b, o + k * 15 + j, none⟩ = (cA (l.getD k (hf pl)))[j]?)
theorem Cls.below {N M : Nat} {w w' : World} {v : Value} {l : List Cl} (h : Cls N w v l) (hb : Below M w w') (hN : N ≤ M) : Cls N w' v l := by
  obtain ⟨a, c, h1, h2, h4⟩ := h
  refine ⟨a, c, h1, h2, ?_⟩
  rcases h4 with h4 | ⟨b, o, h5, h6, h7⟩
  · exact .inl h4
  · refine .inr ⟨b, o, h5, h6, fun k hk j hj => ?_⟩
    rw [hb.cell (p := ⟨b, o + k * 15 + j, none⟩) (by show b < M; omega)]
    exact h7 k hk j hj
theorem Cls.up {N M : Nat} {w : World} {v : Value} {l : List Cl} (h : Cls N w v l) (hN : N ≤ M) : Cls M w v l := by
  obtain ⟨a, c, h1, h2, h4⟩ := h
  refine ⟨a, c, h1, h2, ?_⟩
  rcases h4 with h4 | ⟨b, o, h5, h6, h7⟩
  · exact .inl h4
  · exact .inr ⟨b, o, h5, by omega, h7⟩
def putF (c : Int) (s : St) : List Cl := if ofF c = 1 then [⟨c, 0, 0, 0, 1, s⟩] else if ofF c = 2 then [⟨c, 0, 0, 0, 2, s⟩, hf s] else []
theorem put_any (c : Int) (s : St) (w : World) : Calls Try.prog 7 #[.int .i32 c, .agg (sA s)] w fun e w' => ∃ v, e = .returned v ∧ Cls w'.heap.size w' v (putF c s) ∧ Below w.heap.size w w' := by
  by_cases h1 : ofF c = 1
  · refine (put_1 c s h1 w).mono ?_
    rintro e w' ⟨g, rfl, hr, hb⟩
    refine ⟨_, rfl, ?_, hb⟩
    rw [putF, if_pos h1]
    refine ⟨_, _, rfl, Nat.le_refl _, .inr ⟨g, 0, rfl, hr.lt, fun k hk j hj => ?_⟩⟩
    obtain rfl : k = 0 := by simp at hk; omega
    rw [show 0 + 0 * 15 + j = j by omega]
    exact hr.cell j
  by_cases h2 : ofF c = 2
  · refine (put_2 c s h2 w).mono ?_
    rintro e w' ⟨g, rfl, hr, hb⟩
    refine ⟨_, rfl, ?_, hb⟩
    rw [putF, if_neg h1, if_pos h2]
    refine ⟨_, _, rfl, Nat.le_refl _, .inr ⟨g, 0, rfl, hr.lt, fun k hk j hj => ?_⟩⟩
    have := hr.cell (0 + k * 15 + j)
    rw [this]
    have hk2 : k = 0 ∨ k = 1 := by simp at hk; omega
    rcases hk2 with rfl | rfl
    · rw [Array.getElem?_append_left (by show _ < 15; omega)]
      rw [show 0 + 0 * 15 + j = j by omega]; rfl
    · rw [Array.getElem?_append_right (by show 15 ≤ _; omega)]
      rw [show 0 + 1 * 15 + j - (cA ⟨c, 0, 0, 0, 2, s⟩).size = j by show 0 + 1 * 15 + j - 15 = j; omega]; rfl
  · refine (put_0 c s h1 h2 w).mono ?_
    rintro e w' ⟨rfl, hb⟩
    refine ⟨_, rfl, ?_, hb⟩
    rw [putF, if_neg h1, if_neg h2]
    exact ⟨_, _, rfl, Nat.le_refl _, .inl rfl⟩
end Go.Proofs.Ytnlladjkajmpoaa
