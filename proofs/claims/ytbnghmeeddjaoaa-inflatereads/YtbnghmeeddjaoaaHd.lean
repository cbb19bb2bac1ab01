/- The walk of what the document fixes. -/
import Derived.Test.YtbnghmeeddjaoaaHc
namespace Go.Proofs.Ytbnghmeeddjaoaa
open Go.RowKit Go.BigFrame Gt

set_option maxRecDepth 100000 in
set_option maxHeartbeats 2000000 in
theorem anchored_any (w : World) : Calls Try.prog 9 #[] w fun e w' => e = .returned (.bool true) ∧ Below w.heap.size w w' := by
  obtain ⟨wa, hwa⟩ : ∃ wa, wa = w.alloc (.cells #[.int .u8 75, .int .u8 4, .int .u8 0] 5) := ⟨_, rfl⟩
  have ba : Bts (· < wa.heap.size) wa (.slice (some ⟨w.heap.size, 0, none⟩) 3 3) [75, 4, 0] := by rw [hwa]; exact (Row.new w 5 (ag [75, 4, 0])).bts (n := 3) rfl
  have ha := inflate_any _ _ 9 (by decide) wa ba
  rw [inf_A] at ha
  have B0 : Box' (Below w.heap.size w wa) := ⟨by rw [hwa]; exact (Below.refl _ _).alloc (Nat.le_refl _) _⟩
  rw [hwa] at ha
  clear ba
  go_enter Try.func9, Try.ntmps9
  go_wp2_with fail
  refine ha.mono ?_
  rw [← hwa]
  rintro e w1 ⟨u1, rfl, o1, b1⟩
  have B1 := Box'.mk (B0.out.trans (b1.mono B0.out.size))
  have O1 := Box'.mk o1
  clear ha o1 b1 B0 hwa
  obtain ⟨wb, hwb⟩ : ∃ wb, wb = w1.alloc (.cells #[.int .u8 1, .int .u8 2, .int .u8 0, .int .u8 253, .int .u8 255, .int .u8 97, .int .u8 98, .int .u8 99] 5) := ⟨_, rfl⟩
  have bb : Bts (· < wb.heap.size) wb (.slice (some ⟨w1.heap.size, 0, none⟩) 8 8) [1, 2, 0, 253, 255, 97, 98, 99] := by rw [hwb]; exact (Row.new w1 5 (ag [1, 2, 0, 253, 255, 97, 98, 99])).bts (n := 8) rfl
  have hb := inflate_any _ _ 9 (by decide) wb bb
  rw [inf_B] at hb
  have BB1 : Box' (Below w1.heap.size w1 wb) := ⟨by rw [hwb]; exact (Below.refl _ _).alloc (Nat.le_refl _) _⟩
  rw [hwb] at hb
  clear bb
  go_wp2_with fail
  refine hb.mono ?_
  rw [← hwb]
  rintro e w2 ⟨u2, rfl, o2, b2⟩
  have BB2 : Box' (Below w1.heap.size w1 w2) := ⟨BB1.out.trans (b2.mono BB1.out.size)⟩
  have B2 : Box' (Below w.heap.size w w2) := ⟨B1.out.trans (BB2.out.mono B1.out.size)⟩
  have O12 := Box'.mk (O1.out.below BB2.out)
  have O2 := Box'.mk o2
  clear hb o2 b2 BB1 BB2 O1 B1 hwb
  obtain ⟨wc, hwc⟩ : ∃ wc, wc = w2.alloc (.cells #[.int .u8 7] 5) := ⟨_, rfl⟩
  have bc : Bts (· < wc.heap.size) wc (.slice (some ⟨w2.heap.size, 0, none⟩) 1 1) [7] := by rw [hwc]; exact (Row.new w2 5 (ag [7])).bts (n := 1) rfl
  have hc := inflate_any _ _ 9 (by decide) wc bc
  rw [inf_C] at hc
  have BB1 : Box' (Below w2.heap.size w2 wc) := ⟨by rw [hwc]; exact (Below.refl _ _).alloc (Nat.le_refl _) _⟩
  rw [hwc] at hc
  clear bc
  go_wp2_with fail
  refine hc.mono ?_
  rw [← hwc]
  rintro e w3 ⟨u3, rfl, o3, b3⟩
  have BB2 : Box' (Below w2.heap.size w2 w3) := ⟨BB1.out.trans (b3.mono BB1.out.size)⟩
  have B3 : Box' (Below w.heap.size w w3) := ⟨B2.out.trans (BB2.out.mono B2.out.size)⟩
  have O13 := Box'.mk (O12.out.below BB2.out)
  have O23 := Box'.mk (O2.out.below BB2.out)
  clear hc o3 b3 BB1 BB2 O12 O2 B2 hwc
  obtain ⟨w4, hw4⟩ : ∃ w4, w4 = w3.alloc (.cells #[.int .u8 97] 5) := ⟨_, rfl⟩
  have al4 : Below w3.heap.size w3 w4 := by rw [hw4]; exact (Below.refl _ _).alloc (Nat.le_refl _) _
  have b4 : Bts (· < w4.heap.size) w4 (.slice (some ⟨w3.heap.size, 0, none⟩) 1 1) [97] := by rw [hw4]; exact (Row.new w3 5 (ag [97])).bts (n := 1) rfl
  have s1 := refSame_any _ _ _ _ _ _ _ (O13.out.below al4).bts b4
  have al5 : Below w4.heap.size w4 (w4.alloc (.cells #[.int .u8 97, .int .u8 98] 5)) := (Below.refl _ _).alloc (Nat.le_refl _) _
  have b5 : Bts (· < (w4.alloc (.cells #[.int .u8 97, .int .u8 98] 5)).heap.size) (w4.alloc (.cells #[.int .u8 97, .int .u8 98] 5)) (.slice (some ⟨w4.heap.size, 0, none⟩) 2 2) [97, 98] := (Row.new w4 5 (ag [97, 98])).bts (n := 2) rfl
  have s2 := refSame_any _ _ _ _ _ _ _ ((O23.out.below al4).below al5).bts b5
  rw [decide_eq_true rfl] at s1 s2
  have B5 := Box'.mk ((B3.out.trans (al4.mono B3.out.size)).trans (al5.mono (Nat.le_trans B3.out.size al4.size)))
  rw [hw4] at s1
  clear al4 al5 O13 O23 B3 b4 b5
  have S2 := Box'.mk s2
  clear s2
  go_wp2_with fail
  refine s1.mono ?_
  rintro e w5 ⟨rfl, rfl⟩
  rw [← hw4]
  clear s1 hw4
  have s2 := S2.out
  clear S2
  go_wp2_with fail
  refine s2.mono ?_
  rintro e w5 ⟨rfl, rfl⟩
  clear s2
  go_wp2_with fail
  go_ret
  exact ⟨rfl, B5.out⟩
end Go.Proofs.Ytbnghmeeddjaoaa
