/- What the document fixes, and the walk of WireNumbers. -/
import Derived.Test.YtciiaopbghjcnaaO
namespace Go.Proofs.Ytciiaopbghjcnaa
open Go.RowKit Go.BigFrame
set_option linter.unusedSimpArgs false

theorem wr_A : wrF ⟨1, 2, 0, 1, [97]⟩ = ([1, 2, 0, 1, 1, 97], 0) := by simp [wrF, insF, tx, uf_small]
theorem ev_A : wevF [⟨4, [], 0, 0, 65⟩, ⟨2, [], 80, 24, 0⟩] = ([2, 4, 65, 2, 80, 24], 0) := by simp [wevF, badE, preE, evF, uf_small, Ev.may, mayN]
theorem rd_A : rdU [128, 0] = (0, 0, 8) := by simp [rdU, szF, szG, nf, uf_small]
theorem ev_row {w : World} {g : Nat} (h : Row w g 55 #[.int .u8 4, .slice none 0 0, .int .i64 0, .int .i64 0, .int .u8 65, .int .u8 2, .slice none 0 0, .int .i64 80, .int .i64 24, .int .u8 0]) :
    Evs w.heap.size w (.slice (some ⟨g, 0, none⟩) 2 2) [⟨4, [], 0, 0, 65⟩, ⟨2, [], 80, 24, 0⟩] := by
  refine ⟨_, _, rfl, Nat.le_refl _, fun k hk => ⟨g, 0, rfl, h.lt, ?_⟩⟩
  have hk : k < 2 := hk
  rcases (show k = 0 ∨ k = 1 by omega) with rfl | rfl
  · exact ⟨.slice none 0 0, by rw [h.cell]; rfl, by rw [h.cell]; rfl, by rw [h.cell]; rfl, by rw [h.cell]; rfl, by rw [h.cell]; rfl, .inl ⟨rfl, rfl⟩⟩
  · exact ⟨.slice none 0 0, by rw [h.cell]; rfl, by rw [h.cell]; rfl, by rw [h.cell]; rfl, by rw [h.cell]; rfl, by rw [h.cell]; rfl, .inl ⟨rfl, rfl⟩⟩

set_option maxRecDepth 100000 in
set_option maxHeartbeats 4000000 in
theorem anchored_any (w : World) : Calls Try.prog 14 #[] w fun e w' => e = .returned (.bool true) ∧ Below w.heap.size w w' := by
  obtain ⟨wa, hwa⟩ : ∃ wa, wa = w.alloc (.cells #[.int .u8 97] 5) := ⟨_, rfl⟩
  have ba : InB wa.heap.size wa (.slice (some ⟨w.heap.size, 0, none⟩) 1 1) [97] := by rw [hwa]; exact (Row.new w 5 (ag [97])).inB (n := 1) rfl
  have ha := write_any wa.heap.size wa _ ⟨1, 2, 0, 1, [97]⟩ ⟨by decide, by decide, by decide, by decide⟩ (Nat.le_refl _) ba
  rw [wr_A] at ha
  have B0 : Box' (Below w.heap.size w wa) := ⟨by rw [hwa]; exact (Below.refl _ _).alloc (Nat.le_refl _) _⟩
  have ha' : Calls Try.prog 15 #[.agg #[.int .u64 1, .int .u64 2, .int .u64 0, .int .u64 1, .slice (some ⟨w.heap.size, 0, none⟩) 1 1]] wa fun e w' => ∃ u, e = .returned (.tuple #[u, .int .i64 0]) ∧ OwnB wa.heap.size w' u [1, 2, 0, 1, 1, 97] ∧ Below wa.heap.size wa w' := ha
  rw [hwa] at ha'
  clear ba ha
  go_enter Try.func14, Try.ntmps14
  go_wp2_with fail
  refine ha'.mono ?_
  rw [← hwa]
  rintro e w1 ⟨u1, rfl, o1, b1⟩
  have B1 := Box'.mk (B0.out.trans (b1.mono B0.out.size))
  have O1 := Box'.mk o1
  clear ha' o1 b1 B0 hwa
  obtain ⟨wb, hwb⟩ : ∃ wb, wb = w1.alloc (.cells #[.int .u8 4, .slice none 0 0, .int .i64 0, .int .i64 0, .int .u8 65, .int .u8 2, .slice none 0 0, .int .i64 80, .int .i64 24, .int .u8 0] 55) := ⟨_, rfl⟩
  have bb := ev_row (w := wb) (g := w1.heap.size) (by rw [hwb]; exact Row.new _ _ _)
  have hb := writeEvents_any wb _ _ (by simp) bb
  rw [ev_A] at hb
  have BB1 : Box' (Below w1.heap.size w1 wb) := ⟨by rw [hwb]; exact (Below.refl _ _).alloc (Nat.le_refl _) _⟩
  rw [hwb] at hb
  clear bb
  go_wp2_with fail
  refine hb.mono ?_
  rw [← hwb]
  rintro e w2 ⟨u2, rfl, o2, b2⟩
  have BB2 : Box' (Below w1.heap.size w1 w2) := ⟨BB1.out.trans (b2.mono BB1.out.size)⟩
  have B2 : Box' (Below w.heap.size w w2) := ⟨B1.out.trans (BB2.out.mono B1.out.size)⟩
  have O12 := Box'.mk (O1.out.below BB2.out)
  have O2 := Box'.mk o2
  clear hb o2 b2 BB1 BB2 O1 B1 hwb
  obtain ⟨wc, hwc⟩ : ∃ wc, wc = w2.alloc (.cells #[.int .u8 128, .int .u8 0] 5) := ⟨_, rfl⟩
  have bc : InB wc.heap.size wc (.slice (some ⟨w2.heap.size, 0, none⟩) 2 2) [128, 0] := by rw [hwc]; exact (Row.new w2 5 (ag [128, 0])).inB (n := 2) rfl
  have hc := readUint_any _ _ _ _ bc (by simp)
  rw [rd_A] at hc
  have BB1 : Box' (Below w2.heap.size w2 wc) := ⟨by rw [hwc]; exact (Below.refl _ _).alloc (Nat.le_refl _) _⟩
  rw [hwc] at hc
  clear bc
  go_wp2_with fail
  refine hc.mono ?_
  rw [← hwc]
  rintro e w3 ⟨rfl, rfl⟩
  have B3 : Box' (Below w.heap.size w w3) := ⟨B2.out.trans (BB1.out.mono B2.out.size)⟩
  have O13 := Box'.mk (O12.out.below BB1.out)
  have O23 := Box'.mk (O2.out.below BB1.out)
  clear hc BB1 O12 O2 B2 hwc
  obtain ⟨w4, hw4⟩ : ∃ w4, w4 = w3.alloc (.cells #[.int .u8 1, .int .u8 2, .int .u8 0, .int .u8 1, .int .u8 1, .int .u8 97] 5) := ⟨_, rfl⟩
  have al4 : Below w3.heap.size w3 w4 := by rw [hw4]; exact (Below.refl _ _).alloc (Nat.le_refl _) _
  have b4 : Bts (· < w4.heap.size) w4 (.slice (some ⟨w3.heap.size, 0, none⟩) 6 6) [1, 2, 0, 1, 1, 97] := by rw [hw4]; exact (Row.new w3 5 (ag [1, 2, 0, 1, 1, 97])).bts (n := 6) rfl
  have s1 := refSame_any _ _ _ _ _ _ _ (O13.out.below al4).bts b4
  have al5 : Below w4.heap.size w4 (w4.alloc (.cells #[.int .u8 2, .int .u8 4, .int .u8 65, .int .u8 2, .int .u8 80, .int .u8 24] 5)) := (Below.refl _ _).alloc (Nat.le_refl _) _
  have b5 : Bts (· < (w4.alloc (.cells #[.int .u8 2, .int .u8 4, .int .u8 65, .int .u8 2, .int .u8 80, .int .u8 24] 5)).heap.size) (w4.alloc (.cells #[.int .u8 2, .int .u8 4, .int .u8 65, .int .u8 2, .int .u8 80, .int .u8 24] 5)) (.slice (some ⟨w4.heap.size, 0, none⟩) 6 6) [2, 4, 65, 2, 80, 24] := (Row.new w4 5 (ag [2, 4, 65, 2, 80, 24])).bts (n := 6) rfl
  have s2 := refSame_any _ _ _ _ _ _ _ ((O23.out.below al4).below al5).bts b5
  rw [decide_eq_true rfl] at s1 s2
  have B5 := Box'.mk ((B3.out.trans (al4.mono B3.out.size)).trans (al5.mono (Nat.le_trans B3.out.size al4.size)))
  rw [hw4] at s1
  clear al4 al5 O13 O23 B3 b4 b5
  have S2 := Box'.mk s2
  clear s2
  go_wp2_with fail
  refine s1.mono ?_
  rintro e w5 ⟨rfl, rfl⟩
  rw [← hw4]
  clear s1 hw4
  have s2 := S2.out
  clear S2
  go_wp2_with fail
  refine s2.mono ?_
  rintro e w5 ⟨rfl, rfl⟩
  clear s2
  go_wp2_with fail
  go_ret
  exact ⟨rfl, B5.out⟩

set_option maxRecDepth 100000 in
set_option maxHeartbeats 4000000 in
theorem numbers_any (n : Nat) (hn : n < 18446744073709551616) (v : Value) (b : List UInt8) (hb : b.length ≤ 140737488355328) (w : World) (h : InB w.heap.size w v b) :
    Calls Try.prog 3 #[.int .u64 (n : Int), v] w fun e w' => e = .returned (.bool true) ∧ Below w.heap.size w w' := by
  have h1 := readUint_any w.heap.size w v b h hb
  have h2 := refReadUint_any w.heap.size w v b h (Nat.le_refl _) hb
  obtain ⟨a, c, rfl, _⟩ := h.slice
  clear h
  generalize rdU b = R at *
  generalize b.length = m at *
  go_enter Try.func3, Try.ntmps3
  go_wp2_with fail
  refine h1.mono ?_
  rintro e w1 ⟨rfl, rfl⟩
  clear h1
  go_wp2_with fail
  refine h2.mono ?_
  rintro e w2 ⟨rfl, b2⟩
  clear h2
  have h3 := uint_any n hn w2
  have B2 := Box'.mk b2
  clear b2
  go_wp2_with fail
  refine h3.mono ?_
  rintro e w3 ⟨v3, rfl, o3, b3⟩
  have h4 := refUint_any n hn w3
  have B3 := Box'.mk (B2.out.trans (b3.mono B2.out.size))
  have O3 := Box'.mk o3
  clear h3 o3 b3 B2
  go_wp2_with fail
  refine h4.mono ?_
  rintro e w4 ⟨v4, rfl, o4, b4⟩
  have s1 := refSame_any _ _ _ _ _ _ _ (O3.out.below b4).bts o4.bts
  rw [decide_eq_true rfl] at s1
  have B4 := Box'.mk (B3.out.trans (b4.mono B3.out.size))
  clear h4 o4 b4 B3 O3
  go_wp2_with fail
  refine s1.mono ?_
  rintro e w5 ⟨rfl, rfl⟩
  clear s1
  have h6 := anchored_any w5
  go_wp2_with fail
  refine h6.mono ?_
  rintro e w6 ⟨rfl, b6⟩
  have B6 := Box'.mk (B4.out.trans (b6.mono B4.out.size))
  clear h6 b6 B4
  go_wp2_with fail
  go_ret
  exact ⟨rfl, B6.out⟩
end Go.Proofs.Ytciiaopbghjcnaa
