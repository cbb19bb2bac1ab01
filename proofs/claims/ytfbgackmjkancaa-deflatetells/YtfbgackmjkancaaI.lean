/- The walks of what the document fixes, and of DeflateTells. -/
import Derived.Test.YtfbgackmjkancaaE
import Derived.Test.YtfbgackmjkancaaH
import Derived.Lib.SlBytesConst
namespace Go.Proofs.Ytfbgackmjkancaa
open Go.RowKit Go.BigFrame

theorem OwnB.bts {N : Nat} {w : World} {v : Value} {d : List UInt8} (h : OwnB N w v d) : Bts (· < w.heap.size) w v d := by
  by_cases hd : 0 < d.length
  · obtain ⟨g, c, rfl, hc, hcl⟩ := h.seg hd
    refine ⟨_, c, rfl, hc, .inr ⟨g, 0, rfl, World.block_lt_of_cell? w _ (hcl 0 hd), fun j u hu => ?_⟩⟩
    have hj : j < d.length := by
      have := (List.getElem?_eq_some_iff.1 hu).1
      rwa [List.length_map] at this
    rw [Nat.zero_add, hcl j hj]
    simpa [hj] using hu
  · obtain rfl : d = [] := List.eq_nil_of_length_eq_zero (by omega)
    rcases h.2 with ⟨rfl, _⟩ | ⟨g, cap, cur, rfl, _⟩
    · exact ⟨_, _, rfl, Nat.le_refl _, .inl rfl⟩
    · exact ⟨_, _, rfl, Nat.zero_le _, .inl rfl⟩
/-- A new row of bytes that bears the mark of a text. -/
theorem marked_bts (w : World) (l : List UInt8) (n : Nat) (m : Nat × Nat) (hn : l.length = n) : Bts (· < (w.alloc (.cells (ag l) 5 m)).heap.size) (w.alloc (.cells (ag l) 5 m)) (.slice (some ⟨w.heap.size, 0, none⟩) n n) l :=
  ⟨_, _, by rw [hn], by omega, .inr ⟨w.heap.size, 0, rfl, by simp, fun j u hu => by rw [Nat.zero_add, cell_of_row _ _ j _ _ m (heap_alloc_last w _)]; simpa [ag] using hu⟩⟩
theorem exp_A : expF [(97, 0, 0), (0, 4, 1)] [] = ([97, 97, 97, 97, 97], 0) := by decide +kernel
theorem exp_B : expF [(0, 3, 1)] [] = ([], 2) := by decide +kernel
theorem sto_A : stoF [7] = [1, 1, 0, 254, 255, 7] := by decide +kernel
theorem stoE_A : stoE [7] = 0 := by decide +kernel

set_option maxRecDepth 100000 in
set_option maxHeartbeats 2000000 in
theorem anchored_any (w : World) : Calls Try.prog 12 #[] w fun e w' => e = .returned (.bool true) ∧ Below w.heap.size w w' := by
  obtain ⟨wa, hwa⟩ : ∃ wa, wa = w.alloc (.cells #[.int .u8 97, .int .i64 0, .int .i64 0, .int .u8 0, .int .i64 4, .int .i64 1] 44) := ⟨_, rfl⟩
  have ta : Toks wa.heap.size wa (.slice (some ⟨w.heap.size, 0, none⟩) 2 2) [(97, 0, 0), (0, 4, 1)] := by
    have r : Row wa w.heap.size 44 #[.int .u8 97, .int .i64 0, .int .i64 0, .int .u8 0, .int .i64 4, .int .i64 1] := by rw [hwa]; exact Row.new _ _ _
    refine ⟨_, _, rfl, Nat.le_refl _, .inr ⟨w.heap.size, 0, rfl, r.lt, fun k hk => ?_⟩⟩
    rw [r.cell, r.cell, r.cell]
    have : k = 0 ∨ k = 1 := by have : k < 2 := hk; omega
    rcases this with rfl | rfl <;> exact ⟨rfl, rfl, rfl⟩
  have ha := expand_any _ _ (by show 2 ≤ _; omega) wa ta
  rw [exp_A] at ha
  have B0 : Box' (Below w.heap.size w wa) := ⟨by rw [hwa]; exact (Below.refl _ _).alloc (Nat.le_refl _) _⟩
  have HS : Box' (w.heap.size ≤ wa.heap.size) := ⟨B0.out.size⟩
  rw [hwa] at ha
  clear ta
  go_enter Try.func12, Try.ntmps12
  go_wp2_with fail
  refine ha.mono ?_
  rintro e w1 ⟨u1, rfl, o1, b1⟩
  rw [← hwa] at o1 b1
  have B1 := Box'.mk (B0.out.trans (b1.mono HS.out))
  have O1 := Box'.mk o1
  clear ha o1 b1 B0 HS hwa
  obtain ⟨wb, hwb⟩ : ∃ wb, wb = w1.alloc (.cells #[.int .u8 7] 5) := ⟨_, rfl⟩
  have ib : InB wb.heap.size wb (.slice (some ⟨w1.heap.size, 0, none⟩) 1 1) [7] := by rw [hwb]; exact (Row.new w1 5 (ag [7])).inB rfl
  have hb := stored_any _ _ (by show 1 ≤ _; omega) wb ib
  rw [sto_A, stoE_A] at hb
  have BB1 : Box' (Below w1.heap.size w1 wb) := ⟨by rw [hwb]; exact (Below.refl _ _).alloc (Nat.le_refl _) _⟩
  rw [hwb] at hb
  clear ib
  go_wp2_with fail
  refine hb.mono ?_
  rintro e w2 ⟨u2, rfl, o2, b2⟩
  rw [← hwb] at o2 b2
  have BB2 : Box' (Below w1.heap.size w1 w2) := ⟨BB1.out.trans (b2.mono BB1.out.size)⟩
  have B2 : Box' (Below w.heap.size w w2) := ⟨B1.out.trans (BB2.out.mono B1.out.size)⟩
  have O12 := Box'.mk (O1.out.below BB2.out)
  have O2 := Box'.mk o2
  clear hb o2 b2 BB1 BB2 O1 B1 hwb
  obtain ⟨wc, hwc⟩ : ∃ wc, wc = w2.alloc (.cells #[.int .u8 0, .int .i64 3, .int .i64 1] 44) := ⟨_, rfl⟩
  have tc : Toks wc.heap.size wc (.slice (some ⟨w2.heap.size, 0, none⟩) 1 1) [(0, 3, 1)] := by
    have r : Row wc w2.heap.size 44 #[.int .u8 0, .int .i64 3, .int .i64 1] := by rw [hwc]; exact Row.new _ _ _
    refine ⟨_, _, rfl, Nat.le_refl _, .inr ⟨w2.heap.size, 0, rfl, r.lt, fun k hk => ?_⟩⟩
    rw [r.cell, r.cell, r.cell]
    have : k = 0 := by have : k < 1 := hk; omega
    subst this; exact ⟨rfl, rfl, rfl⟩
  have hc := expand_any _ _ (by show 1 ≤ _; omega) wc tc
  rw [exp_B] at hc
  have BB1 : Box' (Below w2.heap.size w2 wc) := ⟨by rw [hwc]; exact (Below.refl _ _).alloc (Nat.le_refl _) _⟩
  rw [hwc] at hc
  clear tc
  go_wp2_with fail
  refine hc.mono ?_
  rintro e w3 ⟨u3, rfl, o3, b3⟩
  rw [← hwc] at o3 b3
  have BB2 : Box' (Below w2.heap.size w2 w3) := ⟨BB1.out.trans (b3.mono BB1.out.size)⟩
  have B3 : Box' (Below w.heap.size w w3) := ⟨B2.out.trans (BB2.out.mono B2.out.size)⟩
  have O13 := Box'.mk (O12.out.below BB2.out)
  have O23 := Box'.mk (O2.out.below BB2.out)
  clear hc o3 b3 BB1 BB2 O12 O2 B2 hwc
  obtain ⟨w4, hw4⟩ : ∃ w4, w4 = w3.alloc (.cells #[.int .u8 97, .int .u8 97, .int .u8 97, .int .u8 97, .int .u8 97] 5 (5, 6)) := ⟨_, rfl⟩
  have al4 : Below w3.heap.size w3 w4 := by rw [hw4]; exact (Below.refl _ _).alloc (Nat.le_refl _) _
  have b4 : Bts (· < w4.heap.size) w4 (.slice (some ⟨w3.heap.size, 0, none⟩) 5 5) [97, 97, 97, 97, 97] := by rw [hw4]; exact marked_bts w3 [97, 97, 97, 97, 97] 5 (5, 6) rfl
  have s1 := refSame_any _ _ _ _ _ _ _ (O13.out.below al4).bts b4
  have al5 : Below w4.heap.size w4 (w4.alloc (.cells #[.int .u8 1, .int .u8 1, .int .u8 0, .int .u8 254, .int .u8 255, .int .u8 7] 5)) := (Below.refl _ _).alloc (Nat.le_refl _) _
  have b5 : Bts (· < (w4.alloc (.cells #[.int .u8 1, .int .u8 1, .int .u8 0, .int .u8 254, .int .u8 255, .int .u8 7] 5)).heap.size) (w4.alloc (.cells #[.int .u8 1, .int .u8 1, .int .u8 0, .int .u8 254, .int .u8 255, .int .u8 7] 5)) (.slice (some ⟨w4.heap.size, 0, none⟩) 6 6) [1, 1, 0, 254, 255, 7] := (Row.new w4 5 (ag [1, 1, 0, 254, 255, 7])).bts (n := 6) rfl
  have s2 := refSame_any _ _ _ _ _ _ _ ((O23.out.below al4).below al5).bts b5
  rw [decide_eq_true rfl] at s1 s2
  have B5 := Box'.mk ((B3.out.trans (al4.mono B3.out.size)).trans (al5.mono (Nat.le_trans B3.out.size al4.size)))
  rw [hw4] at s1
  clear al4 al5 O13 O23 B3 b4 b5
  have S2 := Box'.mk s2
  clear s2
  have kc := fun (w : World) (C : Array Value) (n c : Nat) => Lib.run_convert_bytes_const (P := Try.prog) w 23 5 C n c Try.underlying23 Try.underlying5
  go_wp2_with fail
  refine s1.mono ?_
  rintro e w5 ⟨rfl, rfl⟩
  rw [← hw4]
  clear s1 hw4 kc
  have s2 := S2.out
  clear S2
  go_wp2_with fail
  refine s2.mono ?_
  rintro e w5 ⟨rfl, rfl⟩
  clear s2
  go_wp2_with fail
  go_ret
  exact ⟨rfl, B5.out⟩

end Go.Proofs.Ytfbgackmjkancaa
