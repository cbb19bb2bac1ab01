/- The reference's Blank and Put. -/
import Derived.Test.YtnbonlkmadmpcaaRc
namespace Go.Proofs.Ytnbonlkmadmpcaa
open Go.RowKit Go.BigFrame
set_option linter.unusedVariables false
set_option linter.unusedSimpArgs false
theorem results14 (tmps : Array Value) (b : Nat) (hx : tmps.getD 2 undef = .pointer (some ⟨b, 0, none⟩)) (w : World) (c : Array Value) (hr : Row w b 49 c) (hn : c.size = 15) : (results Try.f31 tmps).run Try.prog w = .ok (.agg c) w :=
 results_row (p := 2) (ty := 49) rfl tmps b hx 49 c hr _ Try.underlying49 rfl 15 s26 hn
set_option maxHeartbeats 4000000 in
theorem refBlank_any (s : St) (w : World) : Calls Try.prog 31 #[.agg (sA s)] w fun e w' => e = .returned (.agg (cA (bl s))) ∧ Below w.heap.size w w' := by
 have RS : Box' (Row ((w.alloc (.cells (sA s) 26)).alloc (.cells #[.int .i32 0, .int .i32 0, .int .i32 0, .int .i32 0, .int .u8 0, .int .i64 0, .int .i64 0, .bool false, .bool false, .bool false, .bool false, .bool false, .bool false, .bool false, .bool false] 49)) w.heap.size 26 (sA s)) := ⟨(Row.new _ _ _).alloc _⟩
 have RM : Box' (Room ((w.alloc (.cells (sA s) 26)).alloc (.cells #[.int .i32 0, .int .i32 0, .int .i32 0, .int .i32 0, .int .u8 0, .int .i64 0, .int .i64 0, .bool false, .bool false, .bool false, .bool false, .bool false, .bool false, .bool false, .bool false] 49)) (w.heap.size + 1) 49 15) := ⟨Room.made _ _ _ _ _ rfl (by simp)⟩
 have BB : Box' (Below w.heap.size w ((w.alloc (.cells (sA s) 26)).alloc (.cells #[.int .i32 0, .int .i32 0, .int .i32 0, .int .i32 0, .int .u8 0, .int .i64 0, .int .i64 0, .bool false, .bool false, .bool false, .bool false, .bool false, .bool false, .bool false, .bool false] 49))) := ⟨((Below.refl w.heap.size w).alloc (Nat.le_refl _) _).alloc (by simp) _⟩
 have PL := Box'.mk (refPlain_any ((w.alloc (.cells (sA s) 26)).alloc (.cells #[.int .i32 0, .int .i32 0, .int .i32 0, .int .i32 0, .int .u8 0, .int .i64 0, .int .i64 0, .bool false, .bool false, .bool false, .bool false, .bool false, .bool false, .bool false, .bool false] 49)))
 rw [lit_p] at PL
 have S26 := Box'.mk s26
 have O : Box' ((#[.int .i32 32, .int .i32 0, .int .i32 0, .int .i32 0, .int .u8 1, .int .i64 (-1), .int .i64 s.bg, .bool false, .bool false, .bool false, .bool false, .bool false, .bool false, .bool false, .bool false] : Array Value).all (·.oneCell') = true) := ⟨one15 (bl s)⟩
 go_enter Try.func31, Try.ntmps31
 go_wp2_with fail
 generalize ((w.alloc (.cells (sA s) 26)).alloc (.cells #[.int .i32 0, .int .i32 0, .int .i32 0, .int .i32 0, .int .u8 0, .int .i64 0, .int .i64 0, .bool false, .bool false, .bool false, .bool false, .bool false, .bool false, .bool false, .bool false] 49)) = w1 at *
 refine PL.out.mono ?_
 rintro e w2 ⟨rfl, hb2⟩
 have R2 := Box'.mk (RS.out.below hb2 RS.out.lt)
 have M2 := Box'.mk (RM.out.below hb2 (by obtain ⟨c, h, _⟩ := RM.out; exact h.lt))
 have B2 := Box'.mk (BB.out.trans (hb2.mono BB.out.size))
 have hlt := R2.out.lt
 have R3 := Box'.mk (R2.out.alloc (.cells #[.int .i64 (-1), .int .i64 (-1), .bool false, .bool false, .bool false, .bool false, .bool false, .bool false, .bool false, .bool false] 26))
 have RP := Box'.mk (Row.new w2 26 #[.int .i64 (-1), .int .i64 (-1), .bool false, .bool false, .bool false, .bool false, .bool false, .bool false, .bool false, .bool false])
 have M3 := Box'.mk (M2.out.alloc (.cells #[.int .i64 (-1), .int .i64 (-1), .bool false, .bool false, .bool false, .bool false, .bool false, .bool false, .bool false, .bool false] 26))
 have hl2 : w.heap.size + 1 < w2.heap.size := by obtain ⟨c, h, _⟩ := M2.out; exact h.lt
 have B3 := Box'.mk (B2.out.alloc B2.out.size (.cells #[.int .i64 (-1), .int .i64 (-1), .bool false, .bool false, .bool false, .bool false, .bool false, .bool false, .bool false, .bool false] 26))
 clear hb2 RS RM BB PL M2 B2 R2
 go_upto_region 2 with (fail)
 generalize (w2.alloc (.cells #[.int .i64 (-1), .int .i64 (-1), .bool false, .bool false, .bool false, .bool false, .bool false, .bool false, .bool false, .bool false] 26)) = w3 at *
 generalize w2.heap.size = g at *
 have c1 : w3.cell? ⟨w.heap.size, 1, none⟩ = some (.int .i64 s.bg) := R3.out.cell 1
 have d1 : w3.cell? ⟨g, 1, none⟩ = some (.int .i64 (-1)) := RP.out.cell 1
 have f1 := RP.out.frozen 1
 have RQ : Box' (Row (w3.setCell ⟨g, 1, none⟩ (.int .i64 s.bg)) g 26 #[.int .i64 (-1), .int .i64 s.bg, .bool false, .bool false, .bool false, .bool false, .bool false, .bool false, .bool false, .bool false]) := ⟨RP.out.setCell 1 _⟩
 have M4 : Box' (Room (w3.setCell ⟨g, 1, none⟩ (.int .i64 s.bg)) (w.heap.size + 1) 49 15) := ⟨M3.out.setOther _ _ (by show w.heap.size + 1 ≠ g; omega)⟩
 have B4 : Box' (Below w.heap.size w (w3.setCell ⟨g, 1, none⟩ (.int .i64 s.bg))) := ⟨B3.out.setCell (by show w.heap.size ≤ g; omega) _⟩
 have S24 := Box'.mk s24
 have U24 := Box'.mk Try.underlying26
 clear R3 RP M3 B3 hlt
 go_wp2_with (first
  | (refine wpList_load_row rfl 26 (.tmp 3) rfl g rfl 26 #[.int .i64 (-1), .int .i64 s.bg, .bool false, .bool false, .bool false, .bool false, .bool false, .bool false, .bool false, .bool false] RQ.out _ U24.out rfl 10 S24.out rfl ?_)
  | (refine wpList_store_row rfl 49 (.tmp 2) (.tmp 9) rfl (w.heap.size + 1) rfl #[.int .i32 32, .int .i32 0, .int .i32 0, .int .i32 0, .int .u8 1, .int .i64 (-1), .int .i64 s.bg, .bool false, .bool false, .bool false, .bool false, .bool false, .bool false, .bool false, .bool false] rfl 49 15 M4.out S26.out rfl O.out ?_))
 exact bodyPost_ret (results14 _ (w.heap.size + 1) rfl _ _ (M4.out.setRow _) rfl) rfl ⟨rfl, below_setRow B4.out (by omega) _⟩
set_option maxHeartbeats 4000000 in
theorem refPut_1 (c : Int) (s : St) (h : ofF c = 1) (w : World) : Calls Try.prog 48 #[.int .i32 c, .agg (sA s)] w fun e w' => ∃ g, e = .returned (.slice (some ⟨g, 0, none⟩) 1 1) ∧ Row w' g 49 (cA ⟨c, 0, 0, 0, 1, s⟩) ∧ Below w.heap.size w w' := by
 have OF := Box'.mk (refOf_any c (w.alloc (.cells (sA s) 26)))
 rw [h] at OF
 obtain ⟨fg, bg, y1, y2, y3, y4, y5, y7, y8, y9⟩ := s
 unfold sA cA at *
 simp only at *
 go_enter Try.func48, Try.ntmps48
 go_wp2_with fail
 refine OF.out.mono ?_
 rintro e w1 ⟨rfl, hb1⟩
 have R1 := Box'.mk ((Row.new w 26 #[.int .i64 fg, .int .i64 bg, .bool y1, .bool y2, .bool y3, .bool y4, .bool y5, .bool y7, .bool y8, .bool y9]).below hb1 (by simp))
 have B1 : Box' (Below w.heap.size w w1) := ⟨((Below.refl w.heap.size w).alloc (Nat.le_refl _) _).trans (hb1.mono (by simp))⟩
 have U24 := Box'.mk Try.underlying26
 have S24 := Box'.mk s24
 clear hb1 OF h
 go_wp2_with (first
  | (refine wpList_load_row rfl 26 (.tmp 3) rfl w.heap.size rfl 26 #[.int .i64 fg, .int .i64 bg, .bool y1, .bool y2, .bool y3, .bool y4, .bool y5, .bool y7, .bool y8, .bool y9] R1.out _ U24.out rfl 10 S24.out rfl ?_))
 go_ret
 exact ⟨_, rfl, Row.new _ _ _, B1.out.alloc B1.out.size _⟩
set_option maxHeartbeats 4000000 in
theorem refPut_2 (c : Int) (s : St) (h : ofF c = 2) (w : World) : Calls Try.prog 48 #[.int .i32 c, .agg (sA s)] w fun e w' => ∃ g, e = .returned (.slice (some ⟨g, 0, none⟩) 2 2) ∧ Row w' g 49 (cA ⟨c, 0, 0, 0, 2, s⟩ ++ cA (hf s)) ∧ Below w.heap.size w w' := by
 have OF := Box'.mk (refOf_any c (w.alloc (.cells (sA s) 26)))
 rw [h] at OF
 obtain ⟨fg, bg, y1, y2, y3, y4, y5, y7, y8, y9⟩ := s
 unfold sA cA hf at *
 simp only at *
 go_enter Try.func48, Try.ntmps48
 go_wp2_with fail
 refine OF.out.mono ?_
 rintro e w1 ⟨rfl, hb1⟩
 have R1 := Box'.mk ((Row.new w 26 #[.int .i64 fg, .int .i64 bg, .bool y1, .bool y2, .bool y3, .bool y4, .bool y5, .bool y7, .bool y8, .bool y9]).below hb1 (by simp))
 have B1 : Box' (Below w.heap.size w w1) := ⟨((Below.refl w.heap.size w).alloc (Nat.le_refl _) _).trans (hb1.mono (by simp))⟩
 have U24 := Box'.mk Try.underlying26
 have S24 := Box'.mk s24
 clear hb1 OF h
 go_wp2_with (first
  | (refine wpList_load_row rfl 26 (.tmp 3) rfl w.heap.size rfl 26 #[.int .i64 fg, .int .i64 bg, .bool y1, .bool y2, .bool y3, .bool y4, .bool y5, .bool y7, .bool y8, .bool y9] R1.out _ U24.out rfl 10 S24.out rfl ?_))
 go_ret
 exact ⟨_, rfl, Row.new _ _ _, B1.out.alloc B1.out.size _⟩
end Go.Proofs.Ytnbonlkmadmpcaa
