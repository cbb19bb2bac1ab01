/- Blank, Mark, May. -/
import Derived.Test.YtnbonlkmadmpcaaSa
import Derived.Test.YtnbonlkmadmpcaaCa
import Derived.Test.YtnbonlkmadmpcaaEq
namespace Go.Proofs.Ytnbonlkmadmpcaa
open Go.RowKit Go.BigFrame
set_option linter.unusedVariables false
set_option linter.unusedSimpArgs false

theorem size21 (w : World) : (sizeOf 21).run Try.prog w = .ok 1 w := by
  have := s21
  cases hq : Try.prog.info? 21 with
  | none => simp [hq] at this
  | some i => simp [hq] at this; simp [sizeOf, typeInfo, hq, this]
theorem run_part21 (w : World) (c : Array Value) (i : Nat) (v : Value) (hc : c[i]? = some v) : (part 21 c i).run Try.prog w = .ok v w := by
  simp [part, isAgg, underlying, Try.underlying21, hc]
theorem eqM (w : World) (d : Nat) (a b c : Int) : (Op.equalIn (d + 2) 47 (.agg #[.int .i32 a, .int .i32 b, .int .i32 c]) (.agg #[.int .i32 a, .int .i32 b, .int .i32 c])).run Try.prog w = .ok true w := by
  have h0 := run_part21 w #[.int .i32 a, .int .i32 b, .int .i32 c] 0 _ rfl
  have h1 := run_part21 w #[.int .i32 a, .int .i32 b, .int .i32 c] 1 _ rfl
  have h2 := run_part21 w #[.int .i32 a, .int .i32 b, .int .i32 c] 2 _ rfl
  have e : ∀ x : Int, (Op.equalIn (d + 1) 21 (.int .i32 x) (.int .i32 x)).run Try.prog w = .ok true w := fun x => by rw [run_equalIn_int w d 21 .i32 .i32 x x Try.underlying21]; simp
  rw [Op.equalIn]
  simp only [Sem.run_bind, run_underlying Try.underlying47, Result.andThen_ok, size21]
  rw [Std.Legacy.Range.forIn_eq_forIn_range']
  have e1 : [:3].size = 3 := by simp [Std.Legacy.Range.size]
  rw [e1]
  simp [List.range', h0, h1, h2, e]
theorem eqM' (w : World) (a b c : Int) : (Op.equalIn 9999 47 (.agg #[.int .i32 a, .int .i32 b, .int .i32 c]) (.agg #[.int .i32 a, .int .i32 b, .int .i32 c])).run Try.prog w = .ok true w := eqM w 9997 a b c
def bl (s : St) : Cl := ⟨32, 0, 0, 0, 1, { pl with bg := s.bg }⟩
/-- A cell that may be. -/
def gd (x : Cl) : Prop := mayS x.st = true ∧ ((x.wd = 0 ∧ x = hf x.st) ∨ ((x.wd = 1 ∨ x.wd = 2) ∧ ofF x.ch = (x.wd : Int) ∧ ∃ j, Mj j x.m0 x.m1 x.m2))
theorem of_32 : ofF 32 = 1 := by decide +kernel
theorem gd_bl (s : St) (h : mayS s = true) : gd (bl s) := by
  refine ⟨?_, .inr ⟨.inl rfl, of_32, 0, .inl ⟨rfl, rfl, rfl, rfl⟩⟩⟩
  simp only [mayS, Bool.and_eq_true] at h ⊢
  exact ⟨rfl, h.2⟩
theorem gd_put (c : Int) (s : St) (h : mayS s = true) : ∀ x ∈ putF c s, gd x := by
  intro x hx
  unfold putF at hx
  split at hx
  · rename_i h1
    simp only [List.mem_singleton] at hx
    subst hx
    exact ⟨h, .inr ⟨.inl rfl, h1, 0, .inl ⟨rfl, rfl, rfl, rfl⟩⟩⟩
  · split at hx
    · rename_i h1 h2
      simp only [List.mem_cons, List.not_mem_nil, or_false] at hx
      rcases hx with rfl | rfl
      · exact ⟨h, .inr ⟨.inr rfl, h2, 0, .inl ⟨rfl, rfl, rfl, rfl⟩⟩⟩
      · exact ⟨h, .inl ⟨rfl, rfl⟩⟩
    · simp at hx
theorem results13 (tmps : Array Value) (b : Nat) (hx : tmps.getD 2 undef = .pointer (some ⟨b, 0, none⟩)) (w : World) (c : Array Value) (hr : Row w b 49 c) (hn : c.size = 15) : (results Try.f53 tmps).run Try.prog w = .ok (.agg c) w :=
  results_row (p := 2) (ty := 49) rfl tmps b hx 49 c hr _ Try.underlying49 rfl 15 s26 hn
theorem one15 (x : Cl) : (cA x).all (·.oneCell') = true := by simp [cA, Value.oneCell']
set_option maxHeartbeats 4000000 in
theorem blank_any (s : St) (w : World) : Calls Try.prog 53 #[.agg (sA s)] w fun e w' => e = .returned (.agg (cA (bl s))) ∧ Below w.heap.size w w' := by
  have RS : Box' (Row ((w.alloc (.cells (sA s) 26)).alloc (.cells #[.int .i32 0, .int .i32 0, .int .i32 0, .int .i32 0, .int .u8 0, .int .i64 0, .int .i64 0, .bool false, .bool false, .bool false, .bool false, .bool false, .bool false, .bool false, .bool false] 49)) w.heap.size 26 (sA s)) := ⟨(Row.new _ _ _).alloc _⟩
  have RM : Box' (Room ((w.alloc (.cells (sA s) 26)).alloc (.cells #[.int .i32 0, .int .i32 0, .int .i32 0, .int .i32 0, .int .u8 0, .int .i64 0, .int .i64 0, .bool false, .bool false, .bool false, .bool false, .bool false, .bool false, .bool false, .bool false] 49)) (w.heap.size + 1) 49 15) := ⟨Room.made _ _ _ _ _ rfl (by simp)⟩
  have BB : Box' (Below w.heap.size w ((w.alloc (.cells (sA s) 26)).alloc (.cells #[.int .i32 0, .int .i32 0, .int .i32 0, .int .i32 0, .int .u8 0, .int .i64 0, .int .i64 0, .bool false, .bool false, .bool false, .bool false, .bool false, .bool false, .bool false, .bool false] 49))) := ⟨((Below.refl w.heap.size w).alloc (Nat.le_refl _) _).alloc (by simp) _⟩
  have PL := Box'.mk (plain_any ((w.alloc (.cells (sA s) 26)).alloc (.cells #[.int .i32 0, .int .i32 0, .int .i32 0, .int .i32 0, .int .u8 0, .int .i64 0, .int .i64 0, .bool false, .bool false, .bool false, .bool false, .bool false, .bool false, .bool false, .bool false] 49)))
  rw [lit_p] at PL
  have S26 := Box'.mk s26
  have O : Box' ((#[.int .i32 32, .int .i32 0, .int .i32 0, .int .i32 0, .int .u8 1, .int .i64 (-1), .int .i64 s.bg, .bool false, .bool false, .bool false, .bool false, .bool false, .bool false, .bool false, .bool false] : Array Value).all (·.oneCell') = true) := ⟨one15 (bl s)⟩
  go_enter Try.func53, Try.ntmps53
  go_wp2_with fail
  generalize ((w.alloc (.cells (sA s) 26)).alloc (.cells #[.int .i32 0, .int .i32 0, .int .i32 0, .int .i32 0, .int .u8 0, .int .i64 0, .int .i64 0, .bool false, .bool false, .bool false, .bool false, .bool false, .bool false, .bool false, .bool false] 49)) = w1 at *
  refine PL.out.mono ?_
  rintro e w2 ⟨rfl, hb2⟩
  have R2 := Box'.mk (RS.out.below hb2 RS.out.lt)
  have M2 := Box'.mk (RM.out.below hb2 (by obtain ⟨c, h, _⟩ := RM.out; exact h.lt))
  have B2 := Box'.mk (BB.out.trans (hb2.mono BB.out.size))
  have hlt := R2.out.lt
  have R3 := Box'.mk (R2.out.alloc (.cells #[.int .i64 (-1), .int .i64 (-1), .bool false, .bool false, .bool false, .bool false, .bool false, .bool false, .bool false, .bool false] 26))
  have RP := Box'.mk (Row.new w2 26 #[.int .i64 (-1), .int .i64 (-1), .bool false, .bool false, .bool false, .bool false, .bool false, .bool false, .bool false, .bool false])
  have M3 := Box'.mk (M2.out.alloc (.cells #[.int .i64 (-1), .int .i64 (-1), .bool false, .bool false, .bool false, .bool false, .bool false, .bool false, .bool false, .bool false] 26))
  have hl2 : w.heap.size + 1 < w2.heap.size := by obtain ⟨c, h, _⟩ := M2.out; exact h.lt
  have B3 := Box'.mk (B2.out.alloc B2.out.size (.cells #[.int .i64 (-1), .int .i64 (-1), .bool false, .bool false, .bool false, .bool false, .bool false, .bool false, .bool false, .bool false] 26))
  clear hb2 RS RM BB PL M2 B2 R2
  go_upto_region 2 with (fail)
  generalize (w2.alloc (.cells #[.int .i64 (-1), .int .i64 (-1), .bool false, .bool false, .bool false, .bool false, .bool false, .bool false, .bool false, .bool false] 26)) = w3 at *
  generalize w2.heap.size = g at *
  have c1 : w3.cell? ⟨w.heap.size, 1, none⟩ = some (.int .i64 s.bg) := R3.out.cell 1
  have d1 : w3.cell? ⟨g, 1, none⟩ = some (.int .i64 (-1)) := RP.out.cell 1
  have f1 := RP.out.frozen 1
  have RQ : Box' (Row (w3.setCell ⟨g, 1, none⟩ (.int .i64 s.bg)) g 26 #[.int .i64 (-1), .int .i64 s.bg, .bool false, .bool false, .bool false, .bool false, .bool false, .bool false, .bool false, .bool false]) := ⟨RP.out.setCell 1 _⟩
  have M4 : Box' (Room (w3.setCell ⟨g, 1, none⟩ (.int .i64 s.bg)) (w.heap.size + 1) 49 15) := ⟨M3.out.setOther _ _ (by show w.heap.size + 1 ≠ g; omega)⟩
  have B4 : Box' (Below w.heap.size w (w3.setCell ⟨g, 1, none⟩ (.int .i64 s.bg))) := ⟨B3.out.setCell (by show w.heap.size ≤ g; omega) _⟩
  have S24 := Box'.mk s24
  have U24 := Box'.mk Try.underlying26
  clear R3 RP M3 B3 hlt
  go_wp2_with (first
    | (refine wpList_load_row rfl 26 (.tmp 3) rfl g rfl 26 #[.int .i64 (-1), .int .i64 s.bg, .bool false, .bool false, .bool false, .bool false, .bool false, .bool false, .bool false, .bool false] RQ.out _ U24.out rfl 10 S24.out rfl ?_)
    | (refine wpList_store_row rfl 49 (.tmp 2) (.tmp 9) rfl (w.heap.size + 1) rfl #[.int .i32 32, .int .i32 0, .int .i32 0, .int .i32 0, .int .u8 1, .int .i64 (-1), .int .i64 s.bg, .bool false, .bool false, .bool false, .bool false, .bool false, .bool false, .bool false, .bool false] rfl 49 15 M4.out S26.out rfl O.out ?_))
  exact bodyPost_ret (results13 _ (w.heap.size + 1) rfl _ _ (M4.out.setRow _) rfl) rfl ⟨rfl, below_setRow B4.out (by omega) _⟩
set_option maxHeartbeats 4000000 in
theorem may_no (x : Cl) (h : mayS x.st = false) (w : World) : Calls Try.prog 50 #[.agg (cA x)] w fun e w' => e = .returned (.bool false) ∧ Below w.heap.size w w' := by
  have MS := Box'.mk (mayStyle_any x.st)
  rw [h] at MS
  have RX := Box'.mk (Row.new w 49 (cA x))
  have BB := Box'.mk ((Below.refl w.heap.size w).alloc (Nat.le_refl _) (.cells (cA x) 49))
  go_enter Try.func50, Try.ntmps50
  go_upto_region 1 with (fail)
  generalize w.alloc (.cells (cA x) 49) = w1 at *
  have c0 : w1.cell? ⟨w.heap.size, 0, none⟩ = some (.int .i32 x.ch) := RX.out.cell 0
  have c1 : w1.cell? ⟨w.heap.size, 1, none⟩ = some (.int .i32 x.m0) := RX.out.cell 1
  have c2 : w1.cell? ⟨w.heap.size, 2, none⟩ = some (.int .i32 x.m1) := RX.out.cell 2
  have c3 : w1.cell? ⟨w.heap.size, 3, none⟩ = some (.int .i32 x.m2) := RX.out.cell 3
  have c4 : w1.cell? ⟨w.heap.size, 4, none⟩ = some (.int .u8 (x.wd : Int)) := RX.out.cell 4
  have c5 : w1.cell? ⟨w.heap.size, 5, none⟩ = some (.int .i64 x.st.fg) := RX.out.cell 5
  have c6 : w1.cell? ⟨w.heap.size, 6, none⟩ = some (.int .i64 x.st.bg) := RX.out.cell 6
  have c7 : w1.cell? ⟨w.heap.size, 7, none⟩ = some (.bool x.st.b1) := RX.out.cell 7
  have c8 : w1.cell? ⟨w.heap.size, 8, none⟩ = some (.bool x.st.b2) := RX.out.cell 8
  have c9 : w1.cell? ⟨w.heap.size, 9, none⟩ = some (.bool x.st.b3) := RX.out.cell 9
  have c10 : w1.cell? ⟨w.heap.size, 10, none⟩ = some (.bool x.st.b4) := RX.out.cell 10
  have c11 : w1.cell? ⟨w.heap.size, 11, none⟩ = some (.bool x.st.b5) := RX.out.cell 11
  have c12 : w1.cell? ⟨w.heap.size, 12, none⟩ = some (.bool x.st.b7) := RX.out.cell 12
  have c13 : w1.cell? ⟨w.heap.size, 13, none⟩ = some (.bool x.st.b8) := RX.out.cell 13
  have c14 : w1.cell? ⟨w.heap.size, 14, none⟩ = some (.bool x.st.b9) := RX.out.cell 14
  clear RX h
  go_wp2_with fail
  refine (MS.out _).mono ?_
  rintro e w2 ⟨rfl, hb2⟩
  have B2 := Box'.mk (BB.out.trans (hb2.mono BB.out.size))
  clear hb2 BB MS
  go_wp2_with fail
  go_ret
  exact ⟨rfl, B2.out⟩
set_option maxRecDepth 100000 in
set_option maxHeartbeats 4000000 in
theorem may_half (s : St) (hs : mayS s = true) (w : World) : Calls Try.prog 50 #[.agg (cA (hf s))] w fun e w' => e = .returned (.bool true) ∧ Below w.heap.size w w' := by
  have HF : Box' (∀ w, Calls Try.prog 56 #[.agg #[.int .i64 s.fg, .int .i64 s.bg, .bool s.b1, .bool s.b2, .bool s.b3, .bool s.b4, .bool s.b5, .bool s.b7, .bool s.b8, .bool s.b9]] w fun e w' => e = .returned (.agg #[.int .i32 0, .int .i32 0, .int .i32 0, .int .i32 0, .int .u8 0, .int .i64 s.fg, .int .i64 s.bg, .bool s.b1, .bool s.b2, .bool s.b3, .bool s.b4, .bool s.b5, .bool s.b7, .bool s.b8, .bool s.b9]) ∧ Below w.heap.size w w') := ⟨half_any s⟩
  obtain ⟨x, hx⟩ : ∃ x, hf s = x := ⟨_, rfl⟩
  have HX := Box'.mk hx
  have hs : mayS x.st = true := by rw [← hx]; exact hs
  rw [hx]
  clear hx
  have MS := Box'.mk (mayStyle_any x.st)
  rw [hs] at MS
  have RX := Box'.mk (Row.new w 49 (cA x))
  have BB := Box'.mk ((Below.refl w.heap.size w).alloc (Nat.le_refl _) (.cells (cA x) 49))
  go_enter Try.func50, Try.ntmps50
  go_upto_region 1 with (fail)
  generalize w.alloc (.cells (cA x) 49) = w1 at *
  have c0 : w1.cell? ⟨w.heap.size, 0, none⟩ = some (.int .i32 x.ch) := RX.out.cell 0
  have c1 : w1.cell? ⟨w.heap.size, 1, none⟩ = some (.int .i32 x.m0) := RX.out.cell 1
  have c2 : w1.cell? ⟨w.heap.size, 2, none⟩ = some (.int .i32 x.m1) := RX.out.cell 2
  have c3 : w1.cell? ⟨w.heap.size, 3, none⟩ = some (.int .i32 x.m2) := RX.out.cell 3
  have c4 : w1.cell? ⟨w.heap.size, 4, none⟩ = some (.int .u8 (x.wd : Int)) := RX.out.cell 4
  have c5 : w1.cell? ⟨w.heap.size, 5, none⟩ = some (.int .i64 x.st.fg) := RX.out.cell 5
  have c6 : w1.cell? ⟨w.heap.size, 6, none⟩ = some (.int .i64 x.st.bg) := RX.out.cell 6
  have c7 : w1.cell? ⟨w.heap.size, 7, none⟩ = some (.bool x.st.b1) := RX.out.cell 7
  have c8 : w1.cell? ⟨w.heap.size, 8, none⟩ = some (.bool x.st.b2) := RX.out.cell 8
  have c9 : w1.cell? ⟨w.heap.size, 9, none⟩ = some (.bool x.st.b3) := RX.out.cell 9
  have c10 : w1.cell? ⟨w.heap.size, 10, none⟩ = some (.bool x.st.b4) := RX.out.cell 10
  have c11 : w1.cell? ⟨w.heap.size, 11, none⟩ = some (.bool x.st.b5) := RX.out.cell 11
  have c12 : w1.cell? ⟨w.heap.size, 12, none⟩ = some (.bool x.st.b7) := RX.out.cell 12
  have c13 : w1.cell? ⟨w.heap.size, 13, none⟩ = some (.bool x.st.b8) := RX.out.cell 13
  have c14 : w1.cell? ⟨w.heap.size, 14, none⟩ = some (.bool x.st.b9) := RX.out.cell 14
  clear hs
  go_wp2_with fail
  refine (MS.out _).mono ?_
  rintro e w2 ⟨rfl, hb2⟩
  have R2 := Box'.mk (RX.out.below hb2 RX.out.lt)
  have B2 := Box'.mk (BB.out.trans (hb2.mono BB.out.size))
  clear hb2 BB MS RX c0 c1 c2 c3 c4 c5 c6 c7 c8 c9 c10 c11 c12 c13 c14
  have c4 : w2.cell? ⟨w.heap.size, 4, none⟩ = some (.int .u8 (x.wd : Int)) := R2.out.cell 4
  have R3 : Box' (Row w2 w.heap.size 49 #[.int .i32 0, .int .i32 0, .int .i32 0, .int .i32 0, .int .u8 0, .int .i64 s.fg, .int .i64 s.bg, .bool s.b1, .bool s.b2, .bool s.b3, .bool s.b4, .bool s.b5, .bool s.b7, .bool s.b8, .bool s.b9]) := ⟨by have := R2.out; rw [← HX.out] at this; exact this⟩
  have c4' : w2.cell? ⟨w.heap.size, 4, none⟩ = some (.int .u8 0) := R3.out.cell 4
  clear c4 R2 HX
  go_wp2_with fail
  refine wp_region_growg 5 (by kernel_rfl) 31 rfl (by kernel_rfl) (fun wa wb => Below wa.heap.size wa wb) (fun wa => Row wa w.heap.size 49 #[.int .i32 0, .int .i32 0, .int .i32 0, .int .i32 0, .int .u8 0, .int .i64 s.fg, .int .i64 s.bg, .bool s.b1, .bool s.b2, .bool s.b3, .bool s.b4, .bool s.b5, .bool s.b7, .bool s.b8, .bool s.b9] ∧ Below w.heap.size w wa) (fun kc wa v => match kc with
    | 0 => v = .agg #[.int .i32 0, .int .i32 0, .int .i32 0, .int .i32 0, .int .u8 0, .int .i64 s.fg, .int .i64 s.bg, .bool s.b1, .bool s.b2, .bool s.b3, .bool s.b4, .bool s.b5, .bool s.b7, .bool s.b8, .bool s.b9]
    | 1 => v = .pointer (some ⟨w.heap.size, 5, none⟩)
    | 2 => v = .agg #[.int .i64 s.fg, .int .i64 s.bg, .bool s.b1, .bool s.b2, .bool s.b3, .bool s.b4, .bool s.b5, .bool s.b7, .bool s.b8, .bool s.b9]
    | 3 => v = .agg #[.int .i32 0, .int .i32 0, .int .i32 0, .int .i32 0, .int .u8 0, .int .i64 s.fg, .int .i64 s.bg, .bool s.b1, .bool s.b2, .bool s.b3, .bool s.b4, .bool s.b5, .bool s.b7, .bool s.b8, .bool s.b9]
    | 4 => v = .bool true
    | _ => True) ?_ ?_ ?_ ?_ ?_ ?_
  · intro i o' j b' hi hg wa v hC hV
    have hlt : i < 5 := by rcases Nat.lt_or_ge i 5 with q | q; exact q; rw [List.getElem?_eq_none (by simpa using q)] at hi; cases hi
    revert hi hg hV
    rcases (show i = 0 ∨ i = 1 ∨ i = 2 ∨ i = 3 ∨ i = 4 by omega) with rfl | rfl | rfl | rfl | rfl <;>
      (intro hi hg hV; simp only [List.take_succ_cons, List.getElem?_cons_zero, List.getElem?_cons_succ, Option.some.injEq] at hi; subst hi; first | (cases hg; exact hV) | (cases hg))
  · rintro wa wb hb ⟨q1, q2⟩; exact ⟨q1.below hb q1.lt, q2.trans (hb.mono q2.size)⟩
  · intro kc v wa wb hC1 hb h
    match kc, h with
    | 0, h => exact h
    | 1, h => exact h
    | 2, h => exact h
    | 3, h => exact h
    | 4, h => exact h
    | kc + 5, h => trivial
  · exact ⟨R3.out.drew, B2.out.drew⟩
  · refine ⟨?_, ?_, ?_, ?_, ?_, trivial⟩
    · intro f wq hC hd KK hK
      clear hd
      have hR : Row wq w.heap.size 49 #[.int .i32 0, .int .i32 0, .int .i32 0, .int .i32 0, .int .u8 0, .int .i64 s.fg, .int .i64 s.bg, .bool s.b1, .bool s.b2, .bool s.b3, .bool s.b4, .bool s.b5, .bool s.b7, .bool s.b8, .bool s.b9] := hC.1
      have c0 : wq.cell? ⟨w.heap.size, 0, none⟩ = some (.int .i32 0) := hR.cell 0
      have c1 : wq.cell? ⟨w.heap.size, 1, none⟩ = some (.int .i32 0) := hR.cell 1
      have c2 : wq.cell? ⟨w.heap.size, 2, none⟩ = some (.int .i32 0) := hR.cell 2
      have c3 : wq.cell? ⟨w.heap.size, 3, none⟩ = some (.int .i32 0) := hR.cell 3
      have c4 : wq.cell? ⟨w.heap.size, 4, none⟩ = some (.int .u8 0) := hR.cell 4
      have c5 : wq.cell? ⟨w.heap.size, 5, none⟩ = some (.int .i64 s.fg) := hR.cell 5
      have c6 : wq.cell? ⟨w.heap.size, 6, none⟩ = some (.int .i64 s.bg) := hR.cell 6
      have c7 : wq.cell? ⟨w.heap.size, 7, none⟩ = some (.bool s.b1) := hR.cell 7
      have c8 : wq.cell? ⟨w.heap.size, 8, none⟩ = some (.bool s.b2) := hR.cell 8
      have c9 : wq.cell? ⟨w.heap.size, 9, none⟩ = some (.bool s.b3) := hR.cell 9
      have c10 : wq.cell? ⟨w.heap.size, 10, none⟩ = some (.bool s.b4) := hR.cell 10
      have c11 : wq.cell? ⟨w.heap.size, 11, none⟩ = some (.bool s.b5) := hR.cell 11
      have c12 : wq.cell? ⟨w.heap.size, 12, none⟩ = some (.bool s.b7) := hR.cell 12
      have c13 : wq.cell? ⟨w.heap.size, 13, none⟩ = some (.bool s.b8) := hR.cell 13
      have c14 : wq.cell? ⟨w.heap.size, 14, none⟩ = some (.bool s.b9) := hR.cell 14
      clear hC hR
      simp only [List.take_succ_cons, List.take_zero, setAll, List.setIfInBounds_toArray, List.set_cons_succ, List.set_cons_zero, Nat.zero_add, Nat.reduceAdd] at hK ⊢
      refine wp_of_quiet rfl ?_
      go_big_quiet_step (fail)
      exact wpQuiet_nil (hK _ _ (rfl) (Below.refl _ _))
    · intro f wq hC hd KK hK
      clear hd
      simp only [List.take_succ_cons, List.take_zero, setAll, List.setIfInBounds_toArray, List.set_cons_succ, List.set_cons_zero, Nat.zero_add, Nat.reduceAdd] at hK ⊢
      refine wp_of_quiet rfl ?_
      go_big_quiet_step (fail)
      exact wpQuiet_nil (hK _ _ (rfl) (Below.refl _ _))
    · intro f wq hC hd KK hK
      have g1 : f 1 = .pointer (some ⟨w.heap.size, 5, none⟩) := hd 1 (by kernel_rfl)
      clear hd
      have hR : Row wq w.heap.size 49 #[.int .i32 0, .int .i32 0, .int .i32 0, .int .i32 0, .int .u8 0, .int .i64 s.fg, .int .i64 s.bg, .bool s.b1, .bool s.b2, .bool s.b3, .bool s.b4, .bool s.b5, .bool s.b7, .bool s.b8, .bool s.b9] := hC.1
      have c0 : wq.cell? ⟨w.heap.size, 0, none⟩ = some (.int .i32 0) := hR.cell 0
      have c1 : wq.cell? ⟨w.heap.size, 1, none⟩ = some (.int .i32 0) := hR.cell 1
      have c2 : wq.cell? ⟨w.heap.size, 2, none⟩ = some (.int .i32 0) := hR.cell 2
      have c3 : wq.cell? ⟨w.heap.size, 3, none⟩ = some (.int .i32 0) := hR.cell 3
      have c4 : wq.cell? ⟨w.heap.size, 4, none⟩ = some (.int .u8 0) := hR.cell 4
      have c5 : wq.cell? ⟨w.heap.size, 5, none⟩ = some (.int .i64 s.fg) := hR.cell 5
      have c6 : wq.cell? ⟨w.heap.size, 6, none⟩ = some (.int .i64 s.bg) := hR.cell 6
      have c7 : wq.cell? ⟨w.heap.size, 7, none⟩ = some (.bool s.b1) := hR.cell 7
      have c8 : wq.cell? ⟨w.heap.size, 8, none⟩ = some (.bool s.b2) := hR.cell 8
      have c9 : wq.cell? ⟨w.heap.size, 9, none⟩ = some (.bool s.b3) := hR.cell 9
      have c10 : wq.cell? ⟨w.heap.size, 10, none⟩ = some (.bool s.b4) := hR.cell 10
      have c11 : wq.cell? ⟨w.heap.size, 11, none⟩ = some (.bool s.b5) := hR.cell 11
      have c12 : wq.cell? ⟨w.heap.size, 12, none⟩ = some (.bool s.b7) := hR.cell 12
      have c13 : wq.cell? ⟨w.heap.size, 13, none⟩ = some (.bool s.b8) := hR.cell 13
      have c14 : wq.cell? ⟨w.heap.size, 14, none⟩ = some (.bool s.b9) := hR.cell 14
      clear hC hR
      simp only [List.take_succ_cons, List.take_zero, setAll, List.setIfInBounds_toArray, List.set_cons_succ, List.set_cons_zero, Nat.zero_add, Nat.reduceAdd, g1] at hK ⊢
      refine wp_of_quiet rfl ?_
      go_big_quiet_step (fail)
      exact wpQuiet_nil (hK _ _ (rfl) (Below.refl _ _))
    · intro f wq hC hd KK hK
      have g2 : f 2 = .agg #[.int .i64 s.fg, .int .i64 s.bg, .bool s.b1, .bool s.b2, .bool s.b3, .bool s.b4, .bool s.b5, .bool s.b7, .bool s.b8, .bool s.b9] := hd 2 (by kernel_rfl)
      clear hd
      simp only [List.take_succ_cons, List.take_zero, setAll, List.setIfInBounds_toArray, List.set_cons_succ, List.set_cons_zero, Nat.zero_add, Nat.reduceAdd, g2] at hK ⊢
      exact wp_call 56 #[.agg #[.int .i64 s.fg, .int .i64 s.bg, .bool s.b1, .bool s.b2, .bool s.b3, .bool s.b4, .bool s.b5, .bool s.b7, .bool s.b8, .bool s.b9]] (by simp [go_sem]) _ _ (HF.out wq) (fun w' hb => hK _ _ rfl hb)
    · intro f wq hC hd KK hK
      have g0 : f 0 = .agg #[.int .i32 0, .int .i32 0, .int .i32 0, .int .i32 0, .int .u8 0, .int .i64 s.fg, .int .i64 s.bg, .bool s.b1, .bool s.b2, .bool s.b3, .bool s.b4, .bool s.b5, .bool s.b7, .bool s.b8, .bool s.b9] := hd 0 (by kernel_rfl)
      have g3 : f 3 = .agg #[.int .i32 0, .int .i32 0, .int .i32 0, .int .i32 0, .int .u8 0, .int .i64 s.fg, .int .i64 s.bg, .bool s.b1, .bool s.b2, .bool s.b3, .bool s.b4, .bool s.b5, .bool s.b7, .bool s.b8, .bool s.b9] := hd 3 (by kernel_rfl)
      clear hd
      simp only [List.take_succ_cons, List.take_zero, setAll, List.setIfInBounds_toArray, List.set_cons_succ, List.set_cons_zero, Nat.zero_add, Nat.reduceAdd, g0, g3] at hK ⊢
      refine wp_val (.bool true) (by unfold execOp; simp [go_sem, eqM']) ?_
      exact hK _ _ rfl (Below.refl _ _)
  · intro f wz hC hv
    have p0 : f 0 = .agg #[.int .i32 0, .int .i32 0, .int .i32 0, .int .i32 0, .int .u8 0, .int .i64 s.fg, .int .i64 s.bg, .bool s.b1, .bool s.b2, .bool s.b3, .bool s.b4, .bool s.b5, .bool s.b7, .bool s.b8, .bool s.b9] := hv 0 (by decide)
    have p1 : f 1 = .pointer (some ⟨w.heap.size, 5, none⟩) := hv 1 (by decide)
    have p2 : f 2 = .agg #[.int .i64 s.fg, .int .i64 s.bg, .bool s.b1, .bool s.b2, .bool s.b3, .bool s.b4, .bool s.b5, .bool s.b7, .bool s.b8, .bool s.b9] := hv 2 (by decide)
    have p3 : f 3 = .agg #[.int .i32 0, .int .i32 0, .int .i32 0, .int .i32 0, .int .u8 0, .int .i64 s.fg, .int .i64 s.bg, .bool s.b1, .bool s.b2, .bool s.b3, .bool s.b4, .bool s.b5, .bool s.b7, .bool s.b8, .bool s.b9] := hv 3 (by decide)
    have p4 : f 4 = .bool true := hv 4 (by decide)
    simp only [List.take_succ_cons, List.take_zero, List.drop_succ_cons, List.drop_zero, setAll, List.setIfInBounds_toArray, List.set_cons_succ, List.set_cons_zero, Nat.zero_add, Nat.reduceAdd, p0, p1, p2, p3, p4]
    clear hv p0 p1 p2 p3 p4
    have B9 := Box'.mk hC.2
    clear hC HF
    go_wp2_with fail
    go_ret
    exact ⟨rfl, B9.out⟩
set_option maxRecDepth 100000 in
set_option maxHeartbeats 4000000 in
theorem may_1 (x : Cl) (hs : mayS x.st = true) (h0 : (x.wd : Int) = 1) (ho : ofF x.ch = 1) (j : Nat) (hj : Mj j x.m0 x.m1 x.m2) (w : World) : Calls Try.prog 50 #[.agg (cA x)] w fun e w' => e = .returned (.bool true) ∧ Below w.heap.size w w' := by
  have MM : Box' (∀ w, Calls Try.prog 58 #[.agg #[.int .i32 x.m0, .int .i32 x.m1, .int .i32 x.m2]] w fun e w' => e = .returned (.bool true) ∧ Below w.heap.size w w') := ⟨mayMarks_any j _ _ _ hj⟩
  have OF := Box'.mk (of_any x.ch)
  rw [ho] at OF
  clear hj ho
  have H0 := Box'.mk h0
  clear h0
  have MS := Box'.mk (mayStyle_any x.st)
  rw [hs] at MS
  have RX := Box'.mk (Row.new w 49 (cA x))
  have BB := Box'.mk ((Below.refl w.heap.size w).alloc (Nat.le_refl _) (.cells (cA x) 49))
  go_enter Try.func50, Try.ntmps50
  go_upto_region 1 with (fail)
  generalize w.alloc (.cells (cA x) 49) = w1 at *
  have c0 : w1.cell? ⟨w.heap.size, 0, none⟩ = some (.int .i32 x.ch) := RX.out.cell 0
  have c1 : w1.cell? ⟨w.heap.size, 1, none⟩ = some (.int .i32 x.m0) := RX.out.cell 1
  have c2 : w1.cell? ⟨w.heap.size, 2, none⟩ = some (.int .i32 x.m1) := RX.out.cell 2
  have c3 : w1.cell? ⟨w.heap.size, 3, none⟩ = some (.int .i32 x.m2) := RX.out.cell 3
  have c4 : w1.cell? ⟨w.heap.size, 4, none⟩ = some (.int .u8 (x.wd : Int)) := RX.out.cell 4
  have c5 : w1.cell? ⟨w.heap.size, 5, none⟩ = some (.int .i64 x.st.fg) := RX.out.cell 5
  have c6 : w1.cell? ⟨w.heap.size, 6, none⟩ = some (.int .i64 x.st.bg) := RX.out.cell 6
  have c7 : w1.cell? ⟨w.heap.size, 7, none⟩ = some (.bool x.st.b1) := RX.out.cell 7
  have c8 : w1.cell? ⟨w.heap.size, 8, none⟩ = some (.bool x.st.b2) := RX.out.cell 8
  have c9 : w1.cell? ⟨w.heap.size, 9, none⟩ = some (.bool x.st.b3) := RX.out.cell 9
  have c10 : w1.cell? ⟨w.heap.size, 10, none⟩ = some (.bool x.st.b4) := RX.out.cell 10
  have c11 : w1.cell? ⟨w.heap.size, 11, none⟩ = some (.bool x.st.b5) := RX.out.cell 11
  have c12 : w1.cell? ⟨w.heap.size, 12, none⟩ = some (.bool x.st.b7) := RX.out.cell 12
  have c13 : w1.cell? ⟨w.heap.size, 13, none⟩ = some (.bool x.st.b8) := RX.out.cell 13
  have c14 : w1.cell? ⟨w.heap.size, 14, none⟩ = some (.bool x.st.b9) := RX.out.cell 14
  clear hs
  go_wp2_with fail
  refine (MS.out _).mono ?_
  rintro e w2 ⟨rfl, hb2⟩
  have R2 := Box'.mk (RX.out.below hb2 RX.out.lt)
  have B2 := Box'.mk (BB.out.trans (hb2.mono BB.out.size))
  clear hb2 BB MS RX c0 c1 c2 c3 c4 c5 c6 c7 c8 c9 c10 c11 c12 c13 c14
  have c4 : w2.cell? ⟨w.heap.size, 4, none⟩ = some (.int .u8 (x.wd : Int)) := R2.out.cell 4
  rw [H0.out] at c4
  go_wp2_with fail
  have h0 := H0.out
  refine wp_region_growg 12 (by kernel_rfl) 31 rfl (by kernel_rfl) (fun wa wb => Below wa.heap.size wa wb) (fun wa => Row wa w.heap.size 49 (cA x) ∧ Below w.heap.size w wa) (fun kc wa v => match kc with
    | 0 => v = .pointer (some ⟨w.heap.size, 0, none⟩)
    | 1 => v = .int .i32 x.ch
    | 2 => v = .int .i64 1
    | 3 => v = .pointer (some ⟨w.heap.size, 4, none⟩)
    | 4 => v = .int .u8 1
    | 5 => v = .int .i64 1
    | 6 => v = .bool true
    | 7 => v = .bool true
    | 8 => v = .pointer (some ⟨w.heap.size, 1, none⟩)
    | 9 => v = .agg #[.int .i32 x.m0, .int .i32 x.m1, .int .i32 x.m2]
    | 10 => v = .bool true
    | 11 => v = .bool true
    | _ => True) ?_ ?_ ?_ ?_ ?_ ?_
  · intro i o' j b' hi hg wa v hC hV
    have hlt : i < 12 := by rcases Nat.lt_or_ge i 12 with q | q; exact q; rw [List.getElem?_eq_none (by simpa using q)] at hi; cases hi
    revert hi hg hV
    rcases (show i = 0 ∨ i = 1 ∨ i = 2 ∨ i = 3 ∨ i = 4 ∨ i = 5 ∨ i = 6 ∨ i = 7 ∨ i = 8 ∨ i = 9 ∨ i = 10 ∨ i = 11 by omega) with rfl | rfl | rfl | rfl | rfl | rfl | rfl | rfl | rfl | rfl | rfl | rfl <;>
      (intro hi hg hV; simp only [List.take_succ_cons, List.getElem?_cons_zero, List.getElem?_cons_succ, Option.some.injEq] at hi; subst hi; first | (cases hg; exact hV) | (cases hg))
  · rintro wa wb hb ⟨q1, q2⟩; exact ⟨q1.below hb q1.lt, q2.trans (hb.mono q2.size)⟩
  · intro kc v wa wb hC1 hb h
    match kc, h with
    | 0, h => exact h
    | 1, h => exact h
    | 2, h => exact h
    | 3, h => exact h
    | 4, h => exact h
    | 5, h => exact h
    | 6, h => exact h
    | 7, h => exact h
    | 8, h => exact h
    | 9, h => exact h
    | 10, h => exact h
    | 11, h => exact h
    | kc + 12, h => trivial
  · exact ⟨R2.out.drew, B2.out.drew⟩
  · refine ⟨?_, ?_, ?_, ?_, ?_, ?_, ?_, ?_, ?_, ?_, ?_, ?_, trivial⟩
    · intro f wq hC hd KK hK
      clear hd
      simp only [List.take_succ_cons, List.take_zero, setAll, List.setIfInBounds_toArray, List.set_cons_succ, List.set_cons_zero, Nat.zero_add, Nat.reduceAdd] at hK ⊢
      refine wp_of_quiet rfl ?_
      go_big_quiet_step (fail)
      exact wpQuiet_nil (hK _ _ (rfl) (Below.refl _ _))
    · intro f wq hC hd KK hK
      have g0 : f 0 = .pointer (some ⟨w.heap.size, 0, none⟩) := hd 0 (by kernel_rfl)
      clear hd
      have hR : Row wq w.heap.size 49 (cA x) := hC.1
      have c0 : wq.cell? ⟨w.heap.size, 0, none⟩ = some (.int .i32 x.ch) := hR.cell 0
      have c1 : wq.cell? ⟨w.heap.size, 1, none⟩ = some (.int .i32 x.m0) := hR.cell 1
      have c2 : wq.cell? ⟨w.heap.size, 2, none⟩ = some (.int .i32 x.m1) := hR.cell 2
      have c3 : wq.cell? ⟨w.heap.size, 3, none⟩ = some (.int .i32 x.m2) := hR.cell 3
      have c4 : wq.cell? ⟨w.heap.size, 4, none⟩ = some (.int .u8 1) := h0 ▸ hR.cell 4
      have c5 : wq.cell? ⟨w.heap.size, 5, none⟩ = some (.int .i64 x.st.fg) := hR.cell 5
      have c6 : wq.cell? ⟨w.heap.size, 6, none⟩ = some (.int .i64 x.st.bg) := hR.cell 6
      have c7 : wq.cell? ⟨w.heap.size, 7, none⟩ = some (.bool x.st.b1) := hR.cell 7
      have c8 : wq.cell? ⟨w.heap.size, 8, none⟩ = some (.bool x.st.b2) := hR.cell 8
      have c9 : wq.cell? ⟨w.heap.size, 9, none⟩ = some (.bool x.st.b3) := hR.cell 9
      have c10 : wq.cell? ⟨w.heap.size, 10, none⟩ = some (.bool x.st.b4) := hR.cell 10
      have c11 : wq.cell? ⟨w.heap.size, 11, none⟩ = some (.bool x.st.b5) := hR.cell 11
      have c12 : wq.cell? ⟨w.heap.size, 12, none⟩ = some (.bool x.st.b7) := hR.cell 12
      have c13 : wq.cell? ⟨w.heap.size, 13, none⟩ = some (.bool x.st.b8) := hR.cell 13
      have c14 : wq.cell? ⟨w.heap.size, 14, none⟩ = some (.bool x.st.b9) := hR.cell 14
      clear hC hR
      simp only [List.take_succ_cons, List.take_zero, setAll, List.setIfInBounds_toArray, List.set_cons_succ, List.set_cons_zero, Nat.zero_add, Nat.reduceAdd, g0] at hK ⊢
      refine wp_of_quiet rfl ?_
      go_big_quiet_step (fail)
      exact wpQuiet_nil (hK _ _ (rfl) (Below.refl _ _))
    · intro f wq hC hd KK hK
      have g1 : f 1 = .int .i32 x.ch := hd 1 (by kernel_rfl)
      clear hd
      simp only [List.take_succ_cons, List.take_zero, setAll, List.setIfInBounds_toArray, List.set_cons_succ, List.set_cons_zero, Nat.zero_add, Nat.reduceAdd, g1] at hK ⊢
      exact wp_call 57 #[.int .i32 x.ch] (by simp [go_sem]) _ _ (OF.out wq) (fun w' hb => hK _ _ rfl hb)
    · intro f wq hC hd KK hK
      clear hd
      simp only [List.take_succ_cons, List.take_zero, setAll, List.setIfInBounds_toArray, List.set_cons_succ, List.set_cons_zero, Nat.zero_add, Nat.reduceAdd] at hK ⊢
      refine wp_of_quiet rfl ?_
      go_big_quiet_step (fail)
      exact wpQuiet_nil (hK _ _ (rfl) (Below.refl _ _))
    · intro f wq hC hd KK hK
      have g3 : f 3 = .pointer (some ⟨w.heap.size, 4, none⟩) := hd 3 (by kernel_rfl)
      clear hd
      have hR : Row wq w.heap.size 49 (cA x) := hC.1
      have c0 : wq.cell? ⟨w.heap.size, 0, none⟩ = some (.int .i32 x.ch) := hR.cell 0
      have c1 : wq.cell? ⟨w.heap.size, 1, none⟩ = some (.int .i32 x.m0) := hR.cell 1
      have c2 : wq.cell? ⟨w.heap.size, 2, none⟩ = some (.int .i32 x.m1) := hR.cell 2
      have c3 : wq.cell? ⟨w.heap.size, 3, none⟩ = some (.int .i32 x.m2) := hR.cell 3
      have c4 : wq.cell? ⟨w.heap.size, 4, none⟩ = some (.int .u8 1) := h0 ▸ hR.cell 4
      have c5 : wq.cell? ⟨w.heap.size, 5, none⟩ = some (.int .i64 x.st.fg) := hR.cell 5
      have c6 : wq.cell? ⟨w.heap.size, 6, none⟩ = some (.int .i64 x.st.bg) := hR.cell 6
      have c7 : wq.cell? ⟨w.heap.size, 7, none⟩ = some (.bool x.st.b1) := hR.cell 7
      have c8 : wq.cell? ⟨w.heap.size, 8, none⟩ = some (.bool x.st.b2) := hR.cell 8
      have c9 : wq.cell? ⟨w.heap.size, 9, none⟩ = some (.bool x.st.b3) := hR.cell 9
      have c10 : wq.cell? ⟨w.heap.size, 10, none⟩ = some (.bool x.st.b4) := hR.cell 10
      have c11 : wq.cell? ⟨w.heap.size, 11, none⟩ = some (.bool x.st.b5) := hR.cell 11
      have c12 : wq.cell? ⟨w.heap.size, 12, none⟩ = some (.bool x.st.b7) := hR.cell 12
      have c13 : wq.cell? ⟨w.heap.size, 13, none⟩ = some (.bool x.st.b8) := hR.cell 13
      have c14 : wq.cell? ⟨w.heap.size, 14, none⟩ = some (.bool x.st.b9) := hR.cell 14
      clear hC hR
      simp only [List.take_succ_cons, List.take_zero, setAll, List.setIfInBounds_toArray, List.set_cons_succ, List.set_cons_zero, Nat.zero_add, Nat.reduceAdd, g3] at hK ⊢
      refine wp_of_quiet rfl ?_
      go_big_quiet_step (fail)
      exact wpQuiet_nil (hK _ _ (rfl) (Below.refl _ _))
    · intro f wq hC hd KK hK
      have g4 : f 4 = .int .u8 1 := hd 4 (by kernel_rfl)
      clear hd
      simp only [List.take_succ_cons, List.take_zero, setAll, List.setIfInBounds_toArray, List.set_cons_succ, List.set_cons_zero, Nat.zero_add, Nat.reduceAdd, g4] at hK ⊢
      refine wp_of_quiet rfl ?_
      go_big_quiet_step (fail)
      exact wpQuiet_nil (hK _ _ (rfl) (Below.refl _ _))
    · intro f wq hC hd KK hK
      have g2 : f 2 = .int .i64 1 := hd 2 (by kernel_rfl)
      have g5 : f 5 = .int .i64 1 := hd 5 (by kernel_rfl)
      clear hd
      simp only [List.take_succ_cons, List.take_zero, setAll, List.setIfInBounds_toArray, List.set_cons_succ, List.set_cons_zero, Nat.zero_add, Nat.reduceAdd, g2, g5] at hK ⊢
      refine wp_of_quiet rfl ?_
      go_big_quiet_step (fail)
      exact wpQuiet_nil (hK _ _ (by first | rfl | simp) (Below.refl _ _))
    · intro f wq hC hd KK hK
      have g6 : f 6 = .bool true := hd 6 (by kernel_rfl)
      clear hd
      simp only [List.take_succ_cons, List.take_zero, setAll, List.setIfInBounds_toArray, List.set_cons_succ, List.set_cons_zero, Nat.zero_add, Nat.reduceAdd, g6] at hK ⊢
      refine wp_of_quiet rfl ?_
      go_big_quiet_step (fail)
      exact wpQuiet_nil (hK _ _ (rfl) (Below.refl _ _))
    · intro f wq hC hd KK hK
      clear hd
      simp only [List.take_succ_cons, List.take_zero, setAll, List.setIfInBounds_toArray, List.set_cons_succ, List.set_cons_zero, Nat.zero_add, Nat.reduceAdd] at hK ⊢
      refine wp_unguard ?_
      refine wp_of_quiet rfl ?_
      go_big_quiet_step (fail)
      exact wpQuiet_nil (hK _ _ (rfl) (Below.refl _ _))
    · intro f wq hC hd KK hK
      have g8 : f 8 = .pointer (some ⟨w.heap.size, 1, none⟩) := hd 8 (by kernel_rfl)
      clear hd
      have hR : Row wq w.heap.size 49 (cA x) := hC.1
      have c0 : wq.cell? ⟨w.heap.size, 0, none⟩ = some (.int .i32 x.ch) := hR.cell 0
      have c1 : wq.cell? ⟨w.heap.size, 1, none⟩ = some (.int .i32 x.m0) := hR.cell 1
      have c2 : wq.cell? ⟨w.heap.size, 2, none⟩ = some (.int .i32 x.m1) := hR.cell 2
      have c3 : wq.cell? ⟨w.heap.size, 3, none⟩ = some (.int .i32 x.m2) := hR.cell 3
      have c4 : wq.cell? ⟨w.heap.size, 4, none⟩ = some (.int .u8 1) := h0 ▸ hR.cell 4
      have c5 : wq.cell? ⟨w.heap.size, 5, none⟩ = some (.int .i64 x.st.fg) := hR.cell 5
      have c6 : wq.cell? ⟨w.heap.size, 6, none⟩ = some (.int .i64 x.st.bg) := hR.cell 6
      have c7 : wq.cell? ⟨w.heap.size, 7, none⟩ = some (.bool x.st.b1) := hR.cell 7
      have c8 : wq.cell? ⟨w.heap.size, 8, none⟩ = some (.bool x.st.b2) := hR.cell 8
      have c9 : wq.cell? ⟨w.heap.size, 9, none⟩ = some (.bool x.st.b3) := hR.cell 9
      have c10 : wq.cell? ⟨w.heap.size, 10, none⟩ = some (.bool x.st.b4) := hR.cell 10
      have c11 : wq.cell? ⟨w.heap.size, 11, none⟩ = some (.bool x.st.b5) := hR.cell 11
      have c12 : wq.cell? ⟨w.heap.size, 12, none⟩ = some (.bool x.st.b7) := hR.cell 12
      have c13 : wq.cell? ⟨w.heap.size, 13, none⟩ = some (.bool x.st.b8) := hR.cell 13
      have c14 : wq.cell? ⟨w.heap.size, 14, none⟩ = some (.bool x.st.b9) := hR.cell 14
      clear hC hR
      simp only [List.take_succ_cons, List.take_zero, setAll, List.setIfInBounds_toArray, List.set_cons_succ, List.set_cons_zero, Nat.zero_add, Nat.reduceAdd, g8] at hK ⊢
      refine wp_unguard ?_
      refine wp_of_quiet rfl ?_
      go_big_quiet_step (fail)
      exact wpQuiet_nil (hK _ _ (rfl) (Below.refl _ _))
    · intro f wq hC hd KK hK
      have g9 : f 9 = .agg #[.int .i32 x.m0, .int .i32 x.m1, .int .i32 x.m2] := hd 9 (by kernel_rfl)
      clear hd
      simp only [List.take_succ_cons, List.take_zero, setAll, List.setIfInBounds_toArray, List.set_cons_succ, List.set_cons_zero, Nat.zero_add, Nat.reduceAdd, g9] at hK ⊢
      refine wp_unguard ?_
      exact wp_call 58 #[.agg #[.int .i32 x.m0, .int .i32 x.m1, .int .i32 x.m2]] (by simp [go_sem]) _ _ (MM.out wq) (fun w' hb => hK _ _ rfl hb)
    · intro f wq hC hd KK hK
      have g7 : f 7 = .bool true := hd 7 (by kernel_rfl)
      have g10 : f 10 = .bool true := hd 10 (by kernel_rfl)
      clear hd
      simp only [List.take_succ_cons, List.take_zero, setAll, List.setIfInBounds_toArray, List.set_cons_succ, List.set_cons_zero, Nat.zero_add, Nat.reduceAdd, g7, g10] at hK ⊢
      refine wp_of_quiet rfl ?_
      go_big_quiet_step (fail)
      exact wpQuiet_nil (hK _ _ (rfl) (Below.refl _ _))
  · intro f wz hC hv
    have p0 : f 0 = .pointer (some ⟨w.heap.size, 0, none⟩) := hv 0 (by decide)
    have p1 : f 1 = .int .i32 x.ch := hv 1 (by decide)
    have p2 : f 2 = .int .i64 1 := hv 2 (by decide)
    have p3 : f 3 = .pointer (some ⟨w.heap.size, 4, none⟩) := hv 3 (by decide)
    have p4 : f 4 = .int .u8 1 := hv 4 (by decide)
    have p5 : f 5 = .int .i64 1 := hv 5 (by decide)
    have p6 : f 6 = .bool true := hv 6 (by decide)
    have p7 : f 7 = .bool true := hv 7 (by decide)
    have p8 : f 8 = .pointer (some ⟨w.heap.size, 1, none⟩) := hv 8 (by decide)
    have p9 : f 9 = .agg #[.int .i32 x.m0, .int .i32 x.m1, .int .i32 x.m2] := hv 9 (by decide)
    have p10 : f 10 = .bool true := hv 10 (by decide)
    have p11 : f 11 = .bool true := hv 11 (by decide)
    simp only [List.take_succ_cons, List.take_zero, List.drop_succ_cons, List.drop_zero, setAll, List.setIfInBounds_toArray, List.set_cons_succ, List.set_cons_zero, Nat.zero_add, Nat.reduceAdd, p0, p1, p2, p3, p4, p5, p6, p7, p8, p9, p10, p11]
    clear hv p0 p1 p2 p3 p4 p5 p6 p7 p8 p9 p10 p11
    have B9 := Box'.mk hC.2
    clear hC OF MM
    go_wp2_with fail
    go_ret
    exact ⟨rfl, B9.out⟩
set_option maxRecDepth 100000 in
set_option maxHeartbeats 4000000 in
theorem may_2 (x : Cl) (hs : mayS x.st = true) (h0 : (x.wd : Int) = 2) (ho : ofF x.ch = 2) (j : Nat) (hj : Mj j x.m0 x.m1 x.m2) (w : World) : Calls Try.prog 50 #[.agg (cA x)] w fun e w' => e = .returned (.bool true) ∧ Below w.heap.size w w' := by
  have MM : Box' (∀ w, Calls Try.prog 58 #[.agg #[.int .i32 x.m0, .int .i32 x.m1, .int .i32 x.m2]] w fun e w' => e = .returned (.bool true) ∧ Below w.heap.size w w') := ⟨mayMarks_any j _ _ _ hj⟩
  have OF := Box'.mk (of_any x.ch)
  rw [ho] at OF
  clear hj ho
  have H0 := Box'.mk h0
  clear h0
  have MS := Box'.mk (mayStyle_any x.st)
  rw [hs] at MS
  have RX := Box'.mk (Row.new w 49 (cA x))
  have BB := Box'.mk ((Below.refl w.heap.size w).alloc (Nat.le_refl _) (.cells (cA x) 49))
  go_enter Try.func50, Try.ntmps50
  go_upto_region 1 with (fail)
  generalize w.alloc (.cells (cA x) 49) = w1 at *
  have c0 : w1.cell? ⟨w.heap.size, 0, none⟩ = some (.int .i32 x.ch) := RX.out.cell 0
  have c1 : w1.cell? ⟨w.heap.size, 1, none⟩ = some (.int .i32 x.m0) := RX.out.cell 1
  have c2 : w1.cell? ⟨w.heap.size, 2, none⟩ = some (.int .i32 x.m1) := RX.out.cell 2
  have c3 : w1.cell? ⟨w.heap.size, 3, none⟩ = some (.int .i32 x.m2) := RX.out.cell 3
  have c4 : w1.cell? ⟨w.heap.size, 4, none⟩ = some (.int .u8 (x.wd : Int)) := RX.out.cell 4
  have c5 : w1.cell? ⟨w.heap.size, 5, none⟩ = some (.int .i64 x.st.fg) := RX.out.cell 5
  have c6 : w1.cell? ⟨w.heap.size, 6, none⟩ = some (.int .i64 x.st.bg) := RX.out.cell 6
  have c7 : w1.cell? ⟨w.heap.size, 7, none⟩ = some (.bool x.st.b1) := RX.out.cell 7
  have c8 : w1.cell? ⟨w.heap.size, 8, none⟩ = some (.bool x.st.b2) := RX.out.cell 8
  have c9 : w1.cell? ⟨w.heap.size, 9, none⟩ = some (.bool x.st.b3) := RX.out.cell 9
  have c10 : w1.cell? ⟨w.heap.size, 10, none⟩ = some (.bool x.st.b4) := RX.out.cell 10
  have c11 : w1.cell? ⟨w.heap.size, 11, none⟩ = some (.bool x.st.b5) := RX.out.cell 11
  have c12 : w1.cell? ⟨w.heap.size, 12, none⟩ = some (.bool x.st.b7) := RX.out.cell 12
  have c13 : w1.cell? ⟨w.heap.size, 13, none⟩ = some (.bool x.st.b8) := RX.out.cell 13
  have c14 : w1.cell? ⟨w.heap.size, 14, none⟩ = some (.bool x.st.b9) := RX.out.cell 14
  clear hs
  go_wp2_with fail
  refine (MS.out _).mono ?_
  rintro e w2 ⟨rfl, hb2⟩
  have R2 := Box'.mk (RX.out.below hb2 RX.out.lt)
  have B2 := Box'.mk (BB.out.trans (hb2.mono BB.out.size))
  clear hb2 BB MS RX c0 c1 c2 c3 c4 c5 c6 c7 c8 c9 c10 c11 c12 c13 c14
  have c4 : w2.cell? ⟨w.heap.size, 4, none⟩ = some (.int .u8 (x.wd : Int)) := R2.out.cell 4
  rw [H0.out] at c4
  go_wp2_with fail
  have h0 := H0.out
  refine wp_region_growg 12 (by kernel_rfl) 31 rfl (by kernel_rfl) (fun wa wb => Below wa.heap.size wa wb) (fun wa => Row wa w.heap.size 49 (cA x) ∧ Below w.heap.size w wa) (fun kc wa v => match kc with
    | 0 => v = .pointer (some ⟨w.heap.size, 0, none⟩)
    | 1 => v = .int .i32 x.ch
    | 2 => v = .int .i64 2
    | 3 => v = .pointer (some ⟨w.heap.size, 4, none⟩)
    | 4 => v = .int .u8 2
    | 5 => v = .int .i64 2
    | 6 => v = .bool true
    | 7 => v = .bool true
    | 8 => v = .pointer (some ⟨w.heap.size, 1, none⟩)
    | 9 => v = .agg #[.int .i32 x.m0, .int .i32 x.m1, .int .i32 x.m2]
    | 10 => v = .bool true
    | 11 => v = .bool true
    | _ => True) ?_ ?_ ?_ ?_ ?_ ?_
  · intro i o' j b' hi hg wa v hC hV
    have hlt : i < 12 := by rcases Nat.lt_or_ge i 12 with q | q; exact q; rw [List.getElem?_eq_none (by simpa using q)] at hi; cases hi
    revert hi hg hV
    rcases (show i = 0 ∨ i = 1 ∨ i = 2 ∨ i = 3 ∨ i = 4 ∨ i = 5 ∨ i = 6 ∨ i = 7 ∨ i = 8 ∨ i = 9 ∨ i = 10 ∨ i = 11 by omega) with rfl | rfl | rfl | rfl | rfl | rfl | rfl | rfl | rfl | rfl | rfl | rfl <;>
      (intro hi hg hV; simp only [List.take_succ_cons, List.getElem?_cons_zero, List.getElem?_cons_succ, Option.some.injEq] at hi; subst hi; first | (cases hg; exact hV) | (cases hg))
  · rintro wa wb hb ⟨q1, q2⟩; exact ⟨q1.below hb q1.lt, q2.trans (hb.mono q2.size)⟩
  · intro kc v wa wb hC1 hb h
    match kc, h with
    | 0, h => exact h
    | 1, h => exact h
    | 2, h => exact h
    | 3, h => exact h
    | 4, h => exact h
    | 5, h => exact h
    | 6, h => exact h
    | 7, h => exact h
    | 8, h => exact h
    | 9, h => exact h
    | 10, h => exact h
    | 11, h => exact h
    | kc + 12, h => trivial
  · exact ⟨R2.out.drew, B2.out.drew⟩
  · refine ⟨?_, ?_, ?_, ?_, ?_, ?_, ?_, ?_, ?_, ?_, ?_, ?_, trivial⟩
    · intro f wq hC hd KK hK
      clear hd
      simp only [List.take_succ_cons, List.take_zero, setAll, List.setIfInBounds_toArray, List.set_cons_succ, List.set_cons_zero, Nat.zero_add, Nat.reduceAdd] at hK ⊢
      refine wp_of_quiet rfl ?_
      go_big_quiet_step (fail)
      exact wpQuiet_nil (hK _ _ (rfl) (Below.refl _ _))
    · intro f wq hC hd KK hK
      have g0 : f 0 = .pointer (some ⟨w.heap.size, 0, none⟩) := hd 0 (by kernel_rfl)
      clear hd
      have hR : Row wq w.heap.size 49 (cA x) := hC.1
      have c0 : wq.cell? ⟨w.heap.size, 0, none⟩ = some (.int .i32 x.ch) := hR.cell 0
      have c1 : wq.cell? ⟨w.heap.size, 1, none⟩ = some (.int .i32 x.m0) := hR.cell 1
      have c2 : wq.cell? ⟨w.heap.size, 2, none⟩ = some (.int .i32 x.m1) := hR.cell 2
      have c3 : wq.cell? ⟨w.heap.size, 3, none⟩ = some (.int .i32 x.m2) := hR.cell 3
      have c4 : wq.cell? ⟨w.heap.size, 4, none⟩ = some (.int .u8 2) := h0 ▸ hR.cell 4
      have c5 : wq.cell? ⟨w.heap.size, 5, none⟩ = some (.int .i64 x.st.fg) := hR.cell 5
      have c6 : wq.cell? ⟨w.heap.size, 6, none⟩ = some (.int .i64 x.st.bg) := hR.cell 6
      have c7 : wq.cell? ⟨w.heap.size, 7, none⟩ = some (.bool x.st.b1) := hR.cell 7
      have c8 : wq.cell? ⟨w.heap.size, 8, none⟩ = some (.bool x.st.b2) := hR.cell 8
      have c9 : wq.cell? ⟨w.heap.size, 9, none⟩ = some (.bool x.st.b3) := hR.cell 9
      have c10 : wq.cell? ⟨w.heap.size, 10, none⟩ = some (.bool x.st.b4) := hR.cell 10
      have c11 : wq.cell? ⟨w.heap.size, 11, none⟩ = some (.bool x.st.b5) := hR.cell 11
      have c12 : wq.cell? ⟨w.heap.size, 12, none⟩ = some (.bool x.st.b7) := hR.cell 12
      have c13 : wq.cell? ⟨w.heap.size, 13, none⟩ = some (.bool x.st.b8) := hR.cell 13
      have c14 : wq.cell? ⟨w.heap.size, 14, none⟩ = some (.bool x.st.b9) := hR.cell 14
      clear hC hR
      simp only [List.take_succ_cons, List.take_zero, setAll, List.setIfInBounds_toArray, List.set_cons_succ, List.set_cons_zero, Nat.zero_add, Nat.reduceAdd, g0] at hK ⊢
      refine wp_of_quiet rfl ?_
      go_big_quiet_step (fail)
      exact wpQuiet_nil (hK _ _ (rfl) (Below.refl _ _))
    · intro f wq hC hd KK hK
      have g1 : f 1 = .int .i32 x.ch := hd 1 (by kernel_rfl)
      clear hd
      simp only [List.take_succ_cons, List.take_zero, setAll, List.setIfInBounds_toArray, List.set_cons_succ, List.set_cons_zero, Nat.zero_add, Nat.reduceAdd, g1] at hK ⊢
      exact wp_call 57 #[.int .i32 x.ch] (by simp [go_sem]) _ _ (OF.out wq) (fun w' hb => hK _ _ rfl hb)
    · intro f wq hC hd KK hK
      clear hd
      simp only [List.take_succ_cons, List.take_zero, setAll, List.setIfInBounds_toArray, List.set_cons_succ, List.set_cons_zero, Nat.zero_add, Nat.reduceAdd] at hK ⊢
      refine wp_of_quiet rfl ?_
      go_big_quiet_step (fail)
      exact wpQuiet_nil (hK _ _ (rfl) (Below.refl _ _))
    · intro f wq hC hd KK hK
      have g3 : f 3 = .pointer (some ⟨w.heap.size, 4, none⟩) := hd 3 (by kernel_rfl)
      clear hd
      have hR : Row wq w.heap.size 49 (cA x) := hC.1
      have c0 : wq.cell? ⟨w.heap.size, 0, none⟩ = some (.int .i32 x.ch) := hR.cell 0
      have c1 : wq.cell? ⟨w.heap.size, 1, none⟩ = some (.int .i32 x.m0) := hR.cell 1
      have c2 : wq.cell? ⟨w.heap.size, 2, none⟩ = some (.int .i32 x.m1) := hR.cell 2
      have c3 : wq.cell? ⟨w.heap.size, 3, none⟩ = some (.int .i32 x.m2) := hR.cell 3
      have c4 : wq.cell? ⟨w.heap.size, 4, none⟩ = some (.int .u8 2) := h0 ▸ hR.cell 4
      have c5 : wq.cell? ⟨w.heap.size, 5, none⟩ = some (.int .i64 x.st.fg) := hR.cell 5
      have c6 : wq.cell? ⟨w.heap.size, 6, none⟩ = some (.int .i64 x.st.bg) := hR.cell 6
      have c7 : wq.cell? ⟨w.heap.size, 7, none⟩ = some (.bool x.st.b1) := hR.cell 7
      have c8 : wq.cell? ⟨w.heap.size, 8, none⟩ = some (.bool x.st.b2) := hR.cell 8
      have c9 : wq.cell? ⟨w.heap.size, 9, none⟩ = some (.bool x.st.b3) := hR.cell 9
      have c10 : wq.cell? ⟨w.heap.size, 10, none⟩ = some (.bool x.st.b4) := hR.cell 10
      have c11 : wq.cell? ⟨w.heap.size, 11, none⟩ = some (.bool x.st.b5) := hR.cell 11
      have c12 : wq.cell? ⟨w.heap.size, 12, none⟩ = some (.bool x.st.b7) := hR.cell 12
      have c13 : wq.cell? ⟨w.heap.size, 13, none⟩ = some (.bool x.st.b8) := hR.cell 13
      have c14 : wq.cell? ⟨w.heap.size, 14, none⟩ = some (.bool x.st.b9) := hR.cell 14
      clear hC hR
      simp only [List.take_succ_cons, List.take_zero, setAll, List.setIfInBounds_toArray, List.set_cons_succ, List.set_cons_zero, Nat.zero_add, Nat.reduceAdd, g3] at hK ⊢
      refine wp_of_quiet rfl ?_
      go_big_quiet_step (fail)
      exact wpQuiet_nil (hK _ _ (rfl) (Below.refl _ _))
    · intro f wq hC hd KK hK
      have g4 : f 4 = .int .u8 2 := hd 4 (by kernel_rfl)
      clear hd
      simp only [List.take_succ_cons, List.take_zero, setAll, List.setIfInBounds_toArray, List.set_cons_succ, List.set_cons_zero, Nat.zero_add, Nat.reduceAdd, g4] at hK ⊢
      refine wp_of_quiet rfl ?_
      go_big_quiet_step (fail)
      exact wpQuiet_nil (hK _ _ (rfl) (Below.refl _ _))
    · intro f wq hC hd KK hK
      have g2 : f 2 = .int .i64 2 := hd 2 (by kernel_rfl)
      have g5 : f 5 = .int .i64 2 := hd 5 (by kernel_rfl)
      clear hd
      simp only [List.take_succ_cons, List.take_zero, setAll, List.setIfInBounds_toArray, List.set_cons_succ, List.set_cons_zero, Nat.zero_add, Nat.reduceAdd, g2, g5] at hK ⊢
      refine wp_of_quiet rfl ?_
      go_big_quiet_step (fail)
      exact wpQuiet_nil (hK _ _ (by first | rfl | simp) (Below.refl _ _))
    · intro f wq hC hd KK hK
      have g6 : f 6 = .bool true := hd 6 (by kernel_rfl)
      clear hd
      simp only [List.take_succ_cons, List.take_zero, setAll, List.setIfInBounds_toArray, List.set_cons_succ, List.set_cons_zero, Nat.zero_add, Nat.reduceAdd, g6] at hK ⊢
      refine wp_of_quiet rfl ?_
      go_big_quiet_step (fail)
      exact wpQuiet_nil (hK _ _ (rfl) (Below.refl _ _))
    · intro f wq hC hd KK hK
      clear hd
      simp only [List.take_succ_cons, List.take_zero, setAll, List.setIfInBounds_toArray, List.set_cons_succ, List.set_cons_zero, Nat.zero_add, Nat.reduceAdd] at hK ⊢
      refine wp_unguard ?_
      refine wp_of_quiet rfl ?_
      go_big_quiet_step (fail)
      exact wpQuiet_nil (hK _ _ (rfl) (Below.refl _ _))
    · intro f wq hC hd KK hK
      have g8 : f 8 = .pointer (some ⟨w.heap.size, 1, none⟩) := hd 8 (by kernel_rfl)
      clear hd
      have hR : Row wq w.heap.size 49 (cA x) := hC.1
      have c0 : wq.cell? ⟨w.heap.size, 0, none⟩ = some (.int .i32 x.ch) := hR.cell 0
      have c1 : wq.cell? ⟨w.heap.size, 1, none⟩ = some (.int .i32 x.m0) := hR.cell 1
      have c2 : wq.cell? ⟨w.heap.size, 2, none⟩ = some (.int .i32 x.m1) := hR.cell 2
      have c3 : wq.cell? ⟨w.heap.size, 3, none⟩ = some (.int .i32 x.m2) := hR.cell 3
      have c4 : wq.cell? ⟨w.heap.size, 4, none⟩ = some (.int .u8 2) := h0 ▸ hR.cell 4
      have c5 : wq.cell? ⟨w.heap.size, 5, none⟩ = some (.int .i64 x.st.fg) := hR.cell 5
      have c6 : wq.cell? ⟨w.heap.size, 6, none⟩ = some (.int .i64 x.st.bg) := hR.cell 6
      have c7 : wq.cell? ⟨w.heap.size, 7, none⟩ = some (.bool x.st.b1) := hR.cell 7
      have c8 : wq.cell? ⟨w.heap.size, 8, none⟩ = some (.bool x.st.b2) := hR.cell 8
      have c9 : wq.cell? ⟨w.heap.size, 9, none⟩ = some (.bool x.st.b3) := hR.cell 9
      have c10 : wq.cell? ⟨w.heap.size, 10, none⟩ = some (.bool x.st.b4) := hR.cell 10
      have c11 : wq.cell? ⟨w.heap.size, 11, none⟩ = some (.bool x.st.b5) := hR.cell 11
      have c12 : wq.cell? ⟨w.heap.size, 12, none⟩ = some (.bool x.st.b7) := hR.cell 12
      have c13 : wq.cell? ⟨w.heap.size, 13, none⟩ = some (.bool x.st.b8) := hR.cell 13
      have c14 : wq.cell? ⟨w.heap.size, 14, none⟩ = some (.bool x.st.b9) := hR.cell 14
      clear hC hR
      simp only [List.take_succ_cons, List.take_zero, setAll, List.setIfInBounds_toArray, List.set_cons_succ, List.set_cons_zero, Nat.zero_add, Nat.reduceAdd, g8] at hK ⊢
      refine wp_unguard ?_
      refine wp_of_quiet rfl ?_
      go_big_quiet_step (fail)
      exact wpQuiet_nil (hK _ _ (rfl) (Below.refl _ _))
    · intro f wq hC hd KK hK
      have g9 : f 9 = .agg #[.int .i32 x.m0, .int .i32 x.m1, .int .i32 x.m2] := hd 9 (by kernel_rfl)
      clear hd
      simp only [List.take_succ_cons, List.take_zero, setAll, List.setIfInBounds_toArray, List.set_cons_succ, List.set_cons_zero, Nat.zero_add, Nat.reduceAdd, g9] at hK ⊢
      refine wp_unguard ?_
      exact wp_call 58 #[.agg #[.int .i32 x.m0, .int .i32 x.m1, .int .i32 x.m2]] (by simp [go_sem]) _ _ (MM.out wq) (fun w' hb => hK _ _ rfl hb)
    · intro f wq hC hd KK hK
      have g7 : f 7 = .bool true := hd 7 (by kernel_rfl)
      have g10 : f 10 = .bool true := hd 10 (by kernel_rfl)
      clear hd
      simp only [List.take_succ_cons, List.take_zero, setAll, List.setIfInBounds_toArray, List.set_cons_succ, List.set_cons_zero, Nat.zero_add, Nat.reduceAdd, g7, g10] at hK ⊢
      refine wp_of_quiet rfl ?_
      go_big_quiet_step (fail)
      exact wpQuiet_nil (hK _ _ (rfl) (Below.refl _ _))
  · intro f wz hC hv
    have p0 : f 0 = .pointer (some ⟨w.heap.size, 0, none⟩) := hv 0 (by decide)
    have p1 : f 1 = .int .i32 x.ch := hv 1 (by decide)
    have p2 : f 2 = .int .i64 2 := hv 2 (by decide)
    have p3 : f 3 = .pointer (some ⟨w.heap.size, 4, none⟩) := hv 3 (by decide)
    have p4 : f 4 = .int .u8 2 := hv 4 (by decide)
    have p5 : f 5 = .int .i64 2 := hv 5 (by decide)
    have p6 : f 6 = .bool true := hv 6 (by decide)
    have p7 : f 7 = .bool true := hv 7 (by decide)
    have p8 : f 8 = .pointer (some ⟨w.heap.size, 1, none⟩) := hv 8 (by decide)
    have p9 : f 9 = .agg #[.int .i32 x.m0, .int .i32 x.m1, .int .i32 x.m2] := hv 9 (by decide)
    have p10 : f 10 = .bool true := hv 10 (by decide)
    have p11 : f 11 = .bool true := hv 11 (by decide)
    simp only [List.take_succ_cons, List.take_zero, List.drop_succ_cons, List.drop_zero, setAll, List.setIfInBounds_toArray, List.set_cons_succ, List.set_cons_zero, Nat.zero_add, Nat.reduceAdd, p0, p1, p2, p3, p4, p5, p6, p7, p8, p9, p10, p11]
    clear hv p0 p1 p2 p3 p4 p5 p6 p7 p8 p9 p10 p11
    have B9 := Box'.mk hC.2
    clear hC OF MM
    go_wp2_with fail
    go_ret
    exact ⟨rfl, B9.out⟩
theorem may_any (x : Cl) (hx : gd x) (w : World) : Calls Try.prog 50 #[.agg (cA x)] w fun e w' => e = .returned (.bool true) ∧ Below w.heap.size w w' := by
  rcases hx with ⟨hs, ⟨h0, hh⟩ | ⟨hw, ho, j, hj⟩⟩
  · rw [hh]; exact may_half x.st hs w
  · rcases hw with h1 | h1
    · exact may_1 x hs (by rw [h1]; rfl) (by rw [ho, h1]; rfl) j hj w
    · exact may_2 x hs (by rw [h1]; rfl) (by rw [ho, h1]; rfl) j hj w
end Go.Proofs.Ytnbonlkmadmpcaa
