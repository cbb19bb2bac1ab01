/- Flags as bits: bit, has, lookOf. -/
import Derived.Test.YtnlladjkajmpoaaS
import Derived.Test.YtnlladjkajmpoaaG
import Derived.BigRegion
import Derived.BigQuiet
import Derived.Deep.QuietTactic
namespace Go.Proofs.Ytnlladjkajmpoaa
open Go.RowKit Go.BigFrame
set_option linter.unusedVariables false
set_option linter.unusedSimpArgs false

set_option maxHeartbeats 1000000 in
theorem bit_any (b : Bool) (w : World) : Calls Try.prog 42 #[.bool b] w fun e w' => e = .returned (.int .u16 (b.toNat : Int)) ∧ w' = w := by
  cases b
  all_goals go_enter Try.func42, Try.ntmps42
  all_goals go_wp2_with fail
  all_goals go_ret
  all_goals exact ⟨rfl, rfl⟩
theorem hb1 : ∀ a b c d e f g h : Bool, (bits .and .u16 (((fl a b c d e f g h : Nat) : Int) / 2) 1 == 1) = a := by decide +kernel
theorem hb2 : ∀ a b c d e f g h : Bool, (bits .and .u16 (((fl a b c d e f g h : Nat) : Int) / 4) 1 == 1) = b := by decide +kernel
theorem hb3 : ∀ a b c d e f g h : Bool, (bits .and .u16 (((fl a b c d e f g h : Nat) : Int) / 8) 1 == 1) = c := by decide +kernel
theorem hb4 : ∀ a b c d e f g h : Bool, (bits .and .u16 (((fl a b c d e f g h : Nat) : Int) / 16) 1 == 1) = d := by decide +kernel
theorem hb5 : ∀ a b c d e f g h : Bool, (bits .and .u16 (((fl a b c d e f g h : Nat) : Int) / 32) 1 == 1) = e := by decide +kernel
theorem hb6 : ∀ a b c d e f g h : Bool, (bits .and .u16 (((fl a b c d e f g h : Nat) : Int) / 64) 1 == 1) = false := by decide +kernel
theorem hb7 : ∀ a b c d e f g h : Bool, (bits .and .u16 (((fl a b c d e f g h : Nat) : Int) / 128) 1 == 1) = f := by decide +kernel
theorem hb8 : ∀ a b c d e f g h : Bool, (bits .and .u16 (((fl a b c d e f g h : Nat) : Int) / 256) 1 == 1) = g := by decide +kernel
theorem hb9 : ∀ a b c d e f g h : Bool, (bits .and .u16 (((fl a b c d e f g h : Nat) : Int) / 512) 1 == 1) = h := by decide +kernel
set_option maxHeartbeats 1000000 in
theorem has_1 (s : St) (w : World) : Calls Try.prog 45 #[.agg (lA s), .int .i64 1] w fun e w' => e = .returned (.bool (hs s 1)) ∧ Below w.heap.size w w' := by
  obtain ⟨fg, bg, a, b, c, d, e, f, g, h⟩ := s
  have E := Box'.mk (hb1 a b c d e f g h)
  have hl := fl_lt a b c d e f g h
  unfold lA flg
  simp only
  generalize fl a b c d e f g h = n at *
  have B := Box'.mk ((Below.refl w.heap.size w).alloc (Nat.le_refl _) (.cells #[.int .i64 fg, .int .i64 bg, .int .u16 (n : Int)] 49))
  go_enter Try.func45, Try.ntmps45
  go_wp2_with fail
  go_ret
  exact ⟨congrArg (fun x => Ending.returned (Value.bool x)) E.out, B.out⟩
set_option maxHeartbeats 1000000 in
theorem has_2 (s : St) (w : World) : Calls Try.prog 45 #[.agg (lA s), .int .i64 2] w fun e w' => e = .returned (.bool (hs s 2)) ∧ Below w.heap.size w w' := by
  obtain ⟨fg, bg, a, b, c, d, e, f, g, h⟩ := s
  have E := Box'.mk (hb2 a b c d e f g h)
  have hl := fl_lt a b c d e f g h
  unfold lA flg
  simp only
  generalize fl a b c d e f g h = n at *
  have B := Box'.mk ((Below.refl w.heap.size w).alloc (Nat.le_refl _) (.cells #[.int .i64 fg, .int .i64 bg, .int .u16 (n : Int)] 49))
  go_enter Try.func45, Try.ntmps45
  go_wp2_with fail
  go_ret
  exact ⟨congrArg (fun x => Ending.returned (Value.bool x)) E.out, B.out⟩
set_option maxHeartbeats 1000000 in
theorem has_3 (s : St) (w : World) : Calls Try.prog 45 #[.agg (lA s), .int .i64 3] w fun e w' => e = .returned (.bool (hs s 3)) ∧ Below w.heap.size w w' := by
  obtain ⟨fg, bg, a, b, c, d, e, f, g, h⟩ := s
  have E := Box'.mk (hb3 a b c d e f g h)
  have hl := fl_lt a b c d e f g h
  unfold lA flg
  simp only
  generalize fl a b c d e f g h = n at *
  have B := Box'.mk ((Below.refl w.heap.size w).alloc (Nat.le_refl _) (.cells #[.int .i64 fg, .int .i64 bg, .int .u16 (n : Int)] 49))
  go_enter Try.func45, Try.ntmps45
  go_wp2_with fail
  go_ret
  exact ⟨congrArg (fun x => Ending.returned (Value.bool x)) E.out, B.out⟩
set_option maxHeartbeats 1000000 in
theorem has_4 (s : St) (w : World) : Calls Try.prog 45 #[.agg (lA s), .int .i64 4] w fun e w' => e = .returned (.bool (hs s 4)) ∧ Below w.heap.size w w' := by
  obtain ⟨fg, bg, a, b, c, d, e, f, g, h⟩ := s
  have E := Box'.mk (hb4 a b c d e f g h)
  have hl := fl_lt a b c d e f g h
  unfold lA flg
  simp only
  generalize fl a b c d e f g h = n at *
  have B := Box'.mk ((Below.refl w.heap.size w).alloc (Nat.le_refl _) (.cells #[.int .i64 fg, .int .i64 bg, .int .u16 (n : Int)] 49))
  go_enter Try.func45, Try.ntmps45
  go_wp2_with fail
  go_ret
  exact ⟨congrArg (fun x => Ending.returned (Value.bool x)) E.out, B.out⟩
set_option maxHeartbeats 1000000 in
theorem has_5 (s : St) (w : World) : Calls Try.prog 45 #[.agg (lA s), .int .i64 5] w fun e w' => e = .returned (.bool (hs s 5)) ∧ Below w.heap.size w w' := by
  obtain ⟨fg, bg, a, b, c, d, e, f, g, h⟩ := s
  have E := Box'.mk (hb5 a b c d e f g h)
  have hl := fl_lt a b c d e f g h
  unfold lA flg
  simp only
  generalize fl a b c d e f g h = n at *
  have B := Box'.mk ((Below.refl w.heap.size w).alloc (Nat.le_refl _) (.cells #[.int .i64 fg, .int .i64 bg, .int .u16 (n : Int)] 49))
  go_enter Try.func45, Try.ntmps45
  go_wp2_with fail
  go_ret
  exact ⟨congrArg (fun x => Ending.returned (Value.bool x)) E.out, B.out⟩
set_option maxHeartbeats 1000000 in
theorem has_6 (s : St) (w : World) : Calls Try.prog 45 #[.agg (lA s), .int .i64 6] w fun e w' => e = .returned (.bool (hs s 6)) ∧ Below w.heap.size w w' := by
  obtain ⟨fg, bg, a, b, c, d, e, f, g, h⟩ := s
  have E := Box'.mk (hb6 a b c d e f g h)
  have hl := fl_lt a b c d e f g h
  unfold lA flg
  simp only
  generalize fl a b c d e f g h = n at *
  have B := Box'.mk ((Below.refl w.heap.size w).alloc (Nat.le_refl _) (.cells #[.int .i64 fg, .int .i64 bg, .int .u16 (n : Int)] 49))
  go_enter Try.func45, Try.ntmps45
  go_wp2_with fail
  go_ret
  exact ⟨congrArg (fun x => Ending.returned (Value.bool x)) E.out, B.out⟩
set_option maxHeartbeats 1000000 in
theorem has_7 (s : St) (w : World) : Calls Try.prog 45 #[.agg (lA s), .int .i64 7] w fun e w' => e = .returned (.bool (hs s 7)) ∧ Below w.heap.size w w' := by
  obtain ⟨fg, bg, a, b, c, d, e, f, g, h⟩ := s
  have E := Box'.mk (hb7 a b c d e f g h)
  have hl := fl_lt a b c d e f g h
  unfold lA flg
  simp only
  generalize fl a b c d e f g h = n at *
  have B := Box'.mk ((Below.refl w.heap.size w).alloc (Nat.le_refl _) (.cells #[.int .i64 fg, .int .i64 bg, .int .u16 (n : Int)] 49))
  go_enter Try.func45, Try.ntmps45
  go_wp2_with fail
  go_ret
  exact ⟨congrArg (fun x => Ending.returned (Value.bool x)) E.out, B.out⟩
set_option maxHeartbeats 1000000 in
theorem has_8 (s : St) (w : World) : Calls Try.prog 45 #[.agg (lA s), .int .i64 8] w fun e w' => e = .returned (.bool (hs s 8)) ∧ Below w.heap.size w w' := by
  obtain ⟨fg, bg, a, b, c, d, e, f, g, h⟩ := s
  have E := Box'.mk (hb8 a b c d e f g h)
  have hl := fl_lt a b c d e f g h
  unfold lA flg
  simp only
  generalize fl a b c d e f g h = n at *
  have B := Box'.mk ((Below.refl w.heap.size w).alloc (Nat.le_refl _) (.cells #[.int .i64 fg, .int .i64 bg, .int .u16 (n : Int)] 49))
  go_enter Try.func45, Try.ntmps45
  go_wp2_with fail
  go_ret
  exact ⟨congrArg (fun x => Ending.returned (Value.bool x)) E.out, B.out⟩
set_option maxHeartbeats 1000000 in
theorem has_9 (s : St) (w : World) : Calls Try.prog 45 #[.agg (lA s), .int .i64 9] w fun e w' => e = .returned (.bool (hs s 9)) ∧ Below w.heap.size w w' := by
  obtain ⟨fg, bg, a, b, c, d, e, f, g, h⟩ := s
  have E := Box'.mk (hb9 a b c d e f g h)
  have hl := fl_lt a b c d e f g h
  unfold lA flg
  simp only
  generalize fl a b c d e f g h = n at *
  have B := Box'.mk ((Below.refl w.heap.size w).alloc (Nat.le_refl _) (.cells #[.int .i64 fg, .int .i64 bg, .int .u16 (n : Int)] 49))
  go_enter Try.func45, Try.ntmps45
  go_wp2_with fail
  go_ret
  exact ⟨congrArg (fun x => Ending.returned (Value.bool x)) E.out, B.out⟩
theorem has_any (s : St) (k : Nat) (h1 : 1 ≤ k) (h2 : k ≤ 9) (w : World) : Calls Try.prog 45 #[.agg (lA s), .int .i64 (k : Int)] w fun e w' => e = .returned (.bool (hs s k)) ∧ Below w.heap.size w w' := by
  obtain rfl | rfl | rfl | rfl | rfl | rfl | rfl | rfl | rfl : k = 1 ∨ k = 2 ∨ k = 3 ∨ k = 4 ∨ k = 5 ∨ k = 6 ∨ k = 7 ∨ k = 8 ∨ k = 9 := by omega
  · exact has_1 s w
  · exact has_2 s w
  · exact has_3 s w
  · exact has_4 s w
  · exact has_5 s w
  · exact has_6 s w
  · exact has_7 s w
  · exact has_8 s w
  · exact has_9 s w
set_option maxRecDepth 100000 in
theorem s24 : (Try.prog.info? 24).map (·.size) = some 10 := by kernel_rfl
set_option maxRecDepth 100000 in
theorem s26 : (Try.prog.info? 26).map (·.size) = some 15 := by kernel_rfl
set_option maxRecDepth 100000 in
theorem s49 : (Try.prog.info? 49).map (·.size) = some 3 := by kernel_rfl
theorem one3 (x y z : Int) : (#[.int .i64 x, .int .i64 y, .int .u16 z] : Array Value).all (·.oneCell') = true := by simp [Value.oneCell']
theorem one10 (s : St) : (sA s).all (·.oneCell') = true := by simp [sA, Value.oneCell']
theorem results28 (tmps : Array Value) (b : Nat) (hx : tmps.getD 2 undef = .pointer (some ⟨b, 0, none⟩)) (w : World) (c : Array Value) (hr : Row w b 49 c) (hn : c.size = 3) : (results Try.f28 tmps).run Try.prog w = .ok (.agg c) w :=
  results_row (p := 2) (ty := 49) rfl tmps b hx 49 c hr _ Try.underlying49 rfl 3 s49 hn
theorem orAll : ∀ a b c d e f g h : Bool, (bits .or .u16 (bits .or .u16 (bits .or .u16 (bits .or .u16 (bits .or .u16 (bits .or .u16 (bits .or .u16 ((a.toNat : Int) * 2) ((b.toNat : Int) * 4)) ((c.toNat : Int) * 8)) ((d.toNat : Int) * 16)) ((e.toNat : Int) * 32)) ((f.toNat : Int) * 128)) ((g.toNat : Int) * 256)) ((h.toNat : Int) * 512)) = ((fl a b c d e f g h : Nat) : Int) := by decide +kernel
set_option maxHeartbeats 4000000 in
theorem lookOf_any (s : St) (w : World) : Calls Try.prog 28 #[.agg (sA s)] w fun e w' => e = .returned (.agg (lA s)) ∧ Below w.heap.size w w' := by
  obtain ⟨fg, bg, a, b, c, d, e, f, g, h⟩ := s
  unfold sA
  simp only
  have B1 := Box'.mk (bit_any)
  have ha := Bool.toNat_le a
  have hb := Bool.toNat_le b
  have hc := Bool.toNat_le c
  have hd := Bool.toNat_le d
  have he := Bool.toNat_le e
  have hf := Bool.toNat_le f
  have hg := Bool.toNat_le g
  have hh := Bool.toNat_le h
  go_enter Try.func28, Try.ntmps28
  go_wp2_with fail
  go_quiet ((go_at_call 42; exact Calls.quiet_of_same (B1.out _ _)))
  rw [orAll a b c d e f g h]
  generalize hn : fl a b c d e f g h = n
  have hn' := Box'.mk hn
  clear hn
  have RM : Box' (Room (((w.alloc (.cells #[.int .i64 fg, .int .i64 bg, .bool a, .bool b, .bool c, .bool d, .bool e, .bool f, .bool g, .bool h] 24)).alloc (.cells #[.int .i64 0, .int .i64 0, .int .u16 0] 49)).drewN nq) (w.heap.size + 1) 49 3) := ⟨(Room.made _ _ _ _ _ rfl (by simp)).drewN _⟩
  have BB : Box' (Below w.heap.size w (((w.alloc (.cells #[.int .i64 fg, .int .i64 bg, .bool a, .bool b, .bool c, .bool d, .bool e, .bool f, .bool g, .bool h] 24)).alloc (.cells #[.int .i64 0, .int .i64 0, .int .u16 0] 49)).drewN nq)) := ⟨Below.drewN (((Below.refl w.heap.size w).alloc (Nat.le_refl _) _).alloc (by simp) _) _⟩
  have S49 := Box'.mk s49
  have O3 := Box'.mk (one3 fg bg (n : Int))
  clear B1 ha hb hc hd he hf hg hh
  go_wp2_with (first
    | (refine wpList_store_row rfl 49 (.tmp 2) (.tmp 48) rfl (w.heap.size + 1) rfl #[.int .i64 fg, .int .i64 bg, .int .u16 (n : Int)] rfl 49 3 RM.out S49.out rfl O3.out ?_))
  have E : Box' (lA { fg := fg, bg := bg, b1 := a, b2 := b, b3 := c, b4 := d, b5 := e, b7 := f, b8 := g, b9 := h } = #[.int .i64 fg, .int .i64 bg, .int .u16 (n : Int)]) := ⟨by unfold lA flg; rw [hn'.out]⟩
  rw [E.out]
  exact bodyPost_ret (results28 _ (w.heap.size + 1) rfl _ _ (RM.out.setRow _) rfl) rfl ⟨rfl, below_setRow BB.out (by omega) _⟩
end Go.Proofs.Ytnlladjkajmpoaa
