/- What the reference's Write, Erase and Shift refuse; rows that are changed cell by cell. The good ways of the reference's Erase and Shift. The reference's Write: cells that may not be; its good way. -/
import Derived.Test.YtnbonlkmadmpcaaWa
namespace Go.Proofs.Ytnbonlkmadmpcaa
open Go.RowKit Go.BigFrame
set_option linter.unusedVariables false
set_option linter.unusedSimpArgs false
theorem cat_er (r : List Cl) (f t : Nat) (s : St) (h : f ≤ t) (h2 : t ≤ r.length) (i : Nat) : cat (erF r f t s) i = if f ≤ i ∧ i < t then bl s else cat r i := by
 rw [← erF_lay r f t s h, cat_lay _ _ _ (by rw [List.length_replicate]; omega), List.length_replicate]
 by_cases h3 : i < f
 ·rw [if_pos h3, if_neg (by omega)]
 ·rw [if_neg h3]
  by_cases h4 : i < t
  ·rw [if_pos (by omega), if_pos (by omega), cat_rep _ _ _ (by omega)]
  ·rw [if_neg (by omega), if_neg (by omega)]
theorem cat_sh (r : List Cl) (f : Nat) (b : Int) (s : St) (i : Nat) (hi : i < r.length) : cat (shF r f b s) i = if i < f then cat r i else if (f : Int) ≤ (i : Int) - b ∧ (i : Int) - b < (r.length : Int) then cat r ((i : Int) - b).toNat else bl s := by
 unfold shF
 rw [show ∀ g : Nat → Cl, cat ((List.range r.length).map g) i = g i from fun g => by unfold cat; simp [List.getD_eq_getElem?_getD, hi]]
theorem mix_first (x c : List Cl) (t : Nat) (h : x.length = c.length) (ht : t ≤ c.length) (he : ∀ i, i < t → cat x i = cat c i) : mix x c t = c :=
 cat_ext _ _ (mix_len x c t h) fun i _ => by
  rw [mix_cat x c t i h ht]
  split
  ·exact he i ‹_›
  ·rfl
theorem mix_last (x c : List Cl) (t : Nat) (h : x.length = c.length) (ht : t ≤ c.length) (he : ∀ i, t ≤ i → i < c.length → cat x i = cat c i) : mix x c t = x :=
 cat_ext _ _ (by rw [mix_len x c t h, h]) fun i hi => by
  rw [mix_len x c t h] at hi
  rw [mix_cat x c t i h ht]
  split
  ·rfl
  ·exact (he i (by omega) hi).symm
theorem lay_own (c : List Cl) (cols row : Nat) (h : cols * row + cols ≤ c.length) : lay c (cols * row) (rowF c cols row) = c := by
 unfold rowF
 rw [Nat.mul_comm row cols]
 exact lay_self c (cols * row) cols h
set_option maxRecDepth 100000 in
set_option maxHeartbeats 8000000 in
theorem rerase_no0 (co ro : Int) (v : Value) (c : List Cl) (row fr to : Int) (s : St) (w : World) (hv : Cls w.heap.size w v c) (hB : badF co ro c s row = true)  :
  Calls Try.prog 13 #[.agg (gA co ro v), .int .i64 row, .int .i64 fr, .int .i64 to, .agg (sA s)] w fun e w' => e = .returned gErr ∧ Below w.heap.size w w' := by
 have MB : Box' (∀ wx, Below w.heap.size w wx → Calls Try.prog 37 #[.agg (gA co ro v), .agg (sA s), .int .i64 row] wx fun e w' => e = .returned (.bool (badF co ro c s row)) ∧ Below wx.heap.size wx w') := ⟨fun wx hb => rbad_any co ro v c s row wx ((hv.below hb (Nat.le_refl _)).up hb.size)⟩
 rw [hB] at MB
 have F := Box'.mk (FrG.begin w (gA co ro v) s)
 have U24 := Box'.mk Try.underlying24
 have S24 := Box'.mk s24g
 have O := Box'.mk (gA_one 0 0 none 0 0)
 clear hB hv
 go_enter Try.func13, Try.ntmps13
 go_upto_region 1 with (fail)
 generalize (((w.alloc (.cells (gA co ro v) 24)).alloc (.cells (sA s) 26)).alloc (.cells #[.int .i64 0, .int .i64 0, .slice none 0 0] 24)) = w1 at *
 have cs0 : w1.cell? ⟨w.heap.size + 1, 0, none⟩ = some (.int .i64 s.fg) := F.out.rs.cell 0
 have cs1 : w1.cell? ⟨w.heap.size + 1, 1, none⟩ = some (.int .i64 s.bg) := F.out.rs.cell 1
 have cs2 : w1.cell? ⟨w.heap.size + 1, 2, none⟩ = some (.bool s.b1) := F.out.rs.cell 2
 have cs3 : w1.cell? ⟨w.heap.size + 1, 3, none⟩ = some (.bool s.b2) := F.out.rs.cell 3
 have cs4 : w1.cell? ⟨w.heap.size + 1, 4, none⟩ = some (.bool s.b3) := F.out.rs.cell 4
 have cs5 : w1.cell? ⟨w.heap.size + 1, 5, none⟩ = some (.bool s.b4) := F.out.rs.cell 5
 have cs6 : w1.cell? ⟨w.heap.size + 1, 6, none⟩ = some (.bool s.b5) := F.out.rs.cell 6
 have cs7 : w1.cell? ⟨w.heap.size + 1, 7, none⟩ = some (.bool s.b7) := F.out.rs.cell 7
 have cs8 : w1.cell? ⟨w.heap.size + 1, 8, none⟩ = some (.bool s.b8) := F.out.rs.cell 8
 have cs9 : w1.cell? ⟨w.heap.size + 1, 9, none⟩ = some (.bool s.b9) := F.out.rs.cell 9
 have c0 : w1.cell? ⟨w.heap.size, 0, none⟩ = some (.int .i64 co) := F.out.rg.cell 0
 have c1 : w1.cell? ⟨w.heap.size, 1, none⟩ = some (.int .i64 ro) := F.out.rg.cell 1
 clear c0 c1
 go_wp2_with (first
  | (refine wpList_load_row rfl 24 (.tmp 5) rfl w.heap.size rfl 24 (gA co ro v) F.out.rg _ U24.out rfl 3 S24.out rfl ?_))
 refine (MB.out _ F.out.be).mono ?_
 rintro e w2 ⟨rfl, hb⟩
 replace F := Box'.mk (F.out.below hb)
 clear hb cs0 cs1 cs2 cs3 cs4 cs5 cs6 cs7 cs8 cs9
 have c0 : w2.cell? ⟨w.heap.size, 0, none⟩ = some (.int .i64 co) := F.out.rg.cell 0
 go_wp2_with (first
  | (refine wpList_store_row rfl 24 (.tmp 10) (.tmp 33) rfl (w.heap.size + 2) rfl (gA 0 0 (.slice none 0 0)) rfl 24 3 F.out.rr S24.out rfl O.out ?_))
 exact bodyPost_ret (results_two rfl _ (w.heap.size + 2) rfl _ rfl _ _ (F.out.rr.setRow _) rfl) rfl ⟨rfl, below_setRow F.out.be (by omega) _⟩
set_option maxRecDepth 100000 in
set_option maxHeartbeats 8000000 in
theorem rerase_no1 (co ro : Int) (v : Value) (c : List Cl) (row fr to : Int) (s : St) (w : World) (hv : Cls w.heap.size w v c) (hB : badF co ro c s row = false) (h1 : fr < 0) :
  Calls Try.prog 13 #[.agg (gA co ro v), .int .i64 row, .int .i64 fr, .int .i64 to, .agg (sA s)] w fun e w' => e = .returned gErr ∧ Below w.heap.size w w' := by
 have MB : Box' (∀ wx, Below w.heap.size w wx → Calls Try.prog 37 #[.agg (gA co ro v), .agg (sA s), .int .i64 row] wx fun e w' => e = .returned (.bool (badF co ro c s row)) ∧ Below wx.heap.size wx w') := ⟨fun wx hb => rbad_any co ro v c s row wx ((hv.below hb (Nat.le_refl _)).up hb.size)⟩
 rw [hB] at MB
 have F := Box'.mk (FrG.begin w (gA co ro v) s)
 have U24 := Box'.mk Try.underlying24
 have S24 := Box'.mk s24g
 have O := Box'.mk (gA_one 0 0 none 0 0)
 clear hB hv
 go_enter Try.func13, Try.ntmps13
 go_upto_region 1 with (fail)
 generalize (((w.alloc (.cells (gA co ro v) 24)).alloc (.cells (sA s) 26)).alloc (.cells #[.int .i64 0, .int .i64 0, .slice none 0 0] 24)) = w1 at *
 have cs0 : w1.cell? ⟨w.heap.size + 1, 0, none⟩ = some (.int .i64 s.fg) := F.out.rs.cell 0
 have cs1 : w1.cell? ⟨w.heap.size + 1, 1, none⟩ = some (.int .i64 s.bg) := F.out.rs.cell 1
 have cs2 : w1.cell? ⟨w.heap.size + 1, 2, none⟩ = some (.bool s.b1) := F.out.rs.cell 2
 have cs3 : w1.cell? ⟨w.heap.size + 1, 3, none⟩ = some (.bool s.b2) := F.out.rs.cell 3
 have cs4 : w1.cell? ⟨w.heap.size + 1, 4, none⟩ = some (.bool s.b3) := F.out.rs.cell 4
 have cs5 : w1.cell? ⟨w.heap.size + 1, 5, none⟩ = some (.bool s.b4) := F.out.rs.cell 5
 have cs6 : w1.cell? ⟨w.heap.size + 1, 6, none⟩ = some (.bool s.b5) := F.out.rs.cell 6
 have cs7 : w1.cell? ⟨w.heap.size + 1, 7, none⟩ = some (.bool s.b7) := F.out.rs.cell 7
 have cs8 : w1.cell? ⟨w.heap.size + 1, 8, none⟩ = some (.bool s.b8) := F.out.rs.cell 8
 have cs9 : w1.cell? ⟨w.heap.size + 1, 9, none⟩ = some (.bool s.b9) := F.out.rs.cell 9
 have c0 : w1.cell? ⟨w.heap.size, 0, none⟩ = some (.int .i64 co) := F.out.rg.cell 0
 have c1 : w1.cell? ⟨w.heap.size, 1, none⟩ = some (.int .i64 ro) := F.out.rg.cell 1
 clear c0 c1
 go_wp2_with (first
  | (refine wpList_load_row rfl 24 (.tmp 5) rfl w.heap.size rfl 24 (gA co ro v) F.out.rg _ U24.out rfl 3 S24.out rfl ?_))
 refine (MB.out _ F.out.be).mono ?_
 rintro e w2 ⟨rfl, hb⟩
 replace F := Box'.mk (F.out.below hb)
 clear hb cs0 cs1 cs2 cs3 cs4 cs5 cs6 cs7 cs8 cs9
 have c0 : w2.cell? ⟨w.heap.size, 0, none⟩ = some (.int .i64 co) := F.out.rg.cell 0
 go_wp2_with (first
  | (refine wpList_store_row rfl 24 (.tmp 10) (.tmp 33) rfl (w.heap.size + 2) rfl (gA 0 0 (.slice none 0 0)) rfl 24 3 F.out.rr S24.out rfl O.out ?_))
 exact bodyPost_ret (results_two rfl _ (w.heap.size + 2) rfl _ rfl _ _ (F.out.rr.setRow _) rfl) rfl ⟨rfl, below_setRow F.out.be (by omega) _⟩
set_option maxRecDepth 100000 in
set_option maxHeartbeats 8000000 in
theorem rerase_no2 (co ro : Int) (v : Value) (c : List Cl) (row fr to : Int) (s : St) (w : World) (hv : Cls w.heap.size w v c) (hB : badF co ro c s row = false) (h1 : 0 ≤ fr) (h2 : to < fr) :
  Calls Try.prog 13 #[.agg (gA co ro v), .int .i64 row, .int .i64 fr, .int .i64 to, .agg (sA s)] w fun e w' => e = .returned gErr ∧ Below w.heap.size w w' := by
 have MB : Box' (∀ wx, Below w.heap.size w wx → Calls Try.prog 37 #[.agg (gA co ro v), .agg (sA s), .int .i64 row] wx fun e w' => e = .returned (.bool (badF co ro c s row)) ∧ Below wx.heap.size wx w') := ⟨fun wx hb => rbad_any co ro v c s row wx ((hv.below hb (Nat.le_refl _)).up hb.size)⟩
 rw [hB] at MB
 have F := Box'.mk (FrG.begin w (gA co ro v) s)
 have U24 := Box'.mk Try.underlying24
 have S24 := Box'.mk s24g
 have O := Box'.mk (gA_one 0 0 none 0 0)
 clear hB hv
 go_enter Try.func13, Try.ntmps13
 go_upto_region 1 with (fail)
 generalize (((w.alloc (.cells (gA co ro v) 24)).alloc (.cells (sA s) 26)).alloc (.cells #[.int .i64 0, .int .i64 0, .slice none 0 0] 24)) = w1 at *
 have cs0 : w1.cell? ⟨w.heap.size + 1, 0, none⟩ = some (.int .i64 s.fg) := F.out.rs.cell 0
 have cs1 : w1.cell? ⟨w.heap.size + 1, 1, none⟩ = some (.int .i64 s.bg) := F.out.rs.cell 1
 have cs2 : w1.cell? ⟨w.heap.size + 1, 2, none⟩ = some (.bool s.b1) := F.out.rs.cell 2
 have cs3 : w1.cell? ⟨w.heap.size + 1, 3, none⟩ = some (.bool s.b2) := F.out.rs.cell 3
 have cs4 : w1.cell? ⟨w.heap.size + 1, 4, none⟩ = some (.bool s.b3) := F.out.rs.cell 4
 have cs5 : w1.cell? ⟨w.heap.size + 1, 5, none⟩ = some (.bool s.b4) := F.out.rs.cell 5
 have cs6 : w1.cell? ⟨w.heap.size + 1, 6, none⟩ = some (.bool s.b5) := F.out.rs.cell 6
 have cs7 : w1.cell? ⟨w.heap.size + 1, 7, none⟩ = some (.bool s.b7) := F.out.rs.cell 7
 have cs8 : w1.cell? ⟨w.heap.size + 1, 8, none⟩ = some (.bool s.b8) := F.out.rs.cell 8
 have cs9 : w1.cell? ⟨w.heap.size + 1, 9, none⟩ = some (.bool s.b9) := F.out.rs.cell 9
 have c0 : w1.cell? ⟨w.heap.size, 0, none⟩ = some (.int .i64 co) := F.out.rg.cell 0
 have c1 : w1.cell? ⟨w.heap.size, 1, none⟩ = some (.int .i64 ro) := F.out.rg.cell 1
 clear c0 c1
 go_wp2_with (first
  | (refine wpList_load_row rfl 24 (.tmp 5) rfl w.heap.size rfl 24 (gA co ro v) F.out.rg _ U24.out rfl 3 S24.out rfl ?_))
 refine (MB.out _ F.out.be).mono ?_
 rintro e w2 ⟨rfl, hb⟩
 replace F := Box'.mk (F.out.below hb)
 clear hb cs0 cs1 cs2 cs3 cs4 cs5 cs6 cs7 cs8 cs9
 have c0 : w2.cell? ⟨w.heap.size, 0, none⟩ = some (.int .i64 co) := F.out.rg.cell 0
 go_wp2_with (first
  | (refine wpList_store_row rfl 24 (.tmp 10) (.tmp 33) rfl (w.heap.size + 2) rfl (gA 0 0 (.slice none 0 0)) rfl 24 3 F.out.rr S24.out rfl O.out ?_))
 exact bodyPost_ret (results_two rfl _ (w.heap.size + 2) rfl _ rfl _ _ (F.out.rr.setRow _) rfl) rfl ⟨rfl, below_setRow F.out.be (by omega) _⟩
set_option maxRecDepth 100000 in
set_option maxHeartbeats 8000000 in
theorem rerase_no3 (co ro : Int) (v : Value) (c : List Cl) (row fr to : Int) (s : St) (w : World) (hv : Cls w.heap.size w v c) (hB : badF co ro c s row = false) (h1 : 0 ≤ fr) (h2 : fr ≤ to) (h3 : co < to) :
  Calls Try.prog 13 #[.agg (gA co ro v), .int .i64 row, .int .i64 fr, .int .i64 to, .agg (sA s)] w fun e w' => e = .returned gErr ∧ Below w.heap.size w w' := by
 have MB : Box' (∀ wx, Below w.heap.size w wx → Calls Try.prog 37 #[.agg (gA co ro v), .agg (sA s), .int .i64 row] wx fun e w' => e = .returned (.bool (badF co ro c s row)) ∧ Below wx.heap.size wx w') := ⟨fun wx hb => rbad_any co ro v c s row wx ((hv.below hb (Nat.le_refl _)).up hb.size)⟩
 rw [hB] at MB
 have F := Box'.mk (FrG.begin w (gA co ro v) s)
 have U24 := Box'.mk Try.underlying24
 have S24 := Box'.mk s24g
 have O := Box'.mk (gA_one 0 0 none 0 0)
 clear hB hv
 go_enter Try.func13, Try.ntmps13
 go_upto_region 1 with (fail)
 generalize (((w.alloc (.cells (gA co ro v) 24)).alloc (.cells (sA s) 26)).alloc (.cells #[.int .i64 0, .int .i64 0, .slice none 0 0] 24)) = w1 at *
 have cs0 : w1.cell? ⟨w.heap.size + 1, 0, none⟩ = some (.int .i64 s.fg) := F.out.rs.cell 0
 have cs1 : w1.cell? ⟨w.heap.size + 1, 1, none⟩ = some (.int .i64 s.bg) := F.out.rs.cell 1
 have cs2 : w1.cell? ⟨w.heap.size + 1, 2, none⟩ = some (.bool s.b1) := F.out.rs.cell 2
 have cs3 : w1.cell? ⟨w.heap.size + 1, 3, none⟩ = some (.bool s.b2) := F.out.rs.cell 3
 have cs4 : w1.cell? ⟨w.heap.size + 1, 4, none⟩ = some (.bool s.b3) := F.out.rs.cell 4
 have cs5 : w1.cell? ⟨w.heap.size + 1, 5, none⟩ = some (.bool s.b4) := F.out.rs.cell 5
 have cs6 : w1.cell? ⟨w.heap.size + 1, 6, none⟩ = some (.bool s.b5) := F.out.rs.cell 6
 have cs7 : w1.cell? ⟨w.heap.size + 1, 7, none⟩ = some (.bool s.b7) := F.out.rs.cell 7
 have cs8 : w1.cell? ⟨w.heap.size + 1, 8, none⟩ = some (.bool s.b8) := F.out.rs.cell 8
 have cs9 : w1.cell? ⟨w.heap.size + 1, 9, none⟩ = some (.bool s.b9) := F.out.rs.cell 9
 have c0 : w1.cell? ⟨w.heap.size, 0, none⟩ = some (.int .i64 co) := F.out.rg.cell 0
 have c1 : w1.cell? ⟨w.heap.size, 1, none⟩ = some (.int .i64 ro) := F.out.rg.cell 1
 clear c0 c1
 go_wp2_with (first
  | (refine wpList_load_row rfl 24 (.tmp 5) rfl w.heap.size rfl 24 (gA co ro v) F.out.rg _ U24.out rfl 3 S24.out rfl ?_))
 refine (MB.out _ F.out.be).mono ?_
 rintro e w2 ⟨rfl, hb⟩
 replace F := Box'.mk (F.out.below hb)
 clear hb cs0 cs1 cs2 cs3 cs4 cs5 cs6 cs7 cs8 cs9
 have c0 : w2.cell? ⟨w.heap.size, 0, none⟩ = some (.int .i64 co) := F.out.rg.cell 0
 go_wp2_with (first
  | (refine wpList_store_row rfl 24 (.tmp 10) (.tmp 33) rfl (w.heap.size + 2) rfl (gA 0 0 (.slice none 0 0)) rfl 24 3 F.out.rr S24.out rfl O.out ?_))
 exact bodyPost_ret (results_two rfl _ (w.heap.size + 2) rfl _ rfl _ _ (F.out.rr.setRow _) rfl) rfl ⟨rfl, below_setRow F.out.be (by omega) _⟩
set_option maxRecDepth 100000 in
set_option maxHeartbeats 8000000 in
theorem rshift_no0 (co ro : Int) (v : Value) (c : List Cl) (row fr k : Int) (s : St) (w : World) (hv : Cls w.heap.size w v c) (hB : badF co ro c s row = true)  :
  Calls Try.prog 15 #[.agg (gA co ro v), .int .i64 row, .int .i64 fr, .int .i64 k, .agg (sA s)] w fun e w' => e = .returned gErr ∧ Below w.heap.size w w' := by
 have MB : Box' (∀ wx, Below w.heap.size w wx → Calls Try.prog 37 #[.agg (gA co ro v), .agg (sA s), .int .i64 row] wx fun e w' => e = .returned (.bool (badF co ro c s row)) ∧ Below wx.heap.size wx w') := ⟨fun wx hb => rbad_any co ro v c s row wx ((hv.below hb (Nat.le_refl _)).up hb.size)⟩
 rw [hB] at MB
 have F := Box'.mk (FrG.begin w (gA co ro v) s)
 have U24 := Box'.mk Try.underlying24
 have S24 := Box'.mk s24g
 have O := Box'.mk (gA_one 0 0 none 0 0)
 clear hB hv
 go_enter Try.func15, Try.ntmps15
 go_upto_region 1 with (fail)
 generalize (((w.alloc (.cells (gA co ro v) 24)).alloc (.cells (sA s) 26)).alloc (.cells #[.int .i64 0, .int .i64 0, .slice none 0 0] 24)) = w1 at *
 have cs0 : w1.cell? ⟨w.heap.size + 1, 0, none⟩ = some (.int .i64 s.fg) := F.out.rs.cell 0
 have cs1 : w1.cell? ⟨w.heap.size + 1, 1, none⟩ = some (.int .i64 s.bg) := F.out.rs.cell 1
 have cs2 : w1.cell? ⟨w.heap.size + 1, 2, none⟩ = some (.bool s.b1) := F.out.rs.cell 2
 have cs3 : w1.cell? ⟨w.heap.size + 1, 3, none⟩ = some (.bool s.b2) := F.out.rs.cell 3
 have cs4 : w1.cell? ⟨w.heap.size + 1, 4, none⟩ = some (.bool s.b3) := F.out.rs.cell 4
 have cs5 : w1.cell? ⟨w.heap.size + 1, 5, none⟩ = some (.bool s.b4) := F.out.rs.cell 5
 have cs6 : w1.cell? ⟨w.heap.size + 1, 6, none⟩ = some (.bool s.b5) := F.out.rs.cell 6
 have cs7 : w1.cell? ⟨w.heap.size + 1, 7, none⟩ = some (.bool s.b7) := F.out.rs.cell 7
 have cs8 : w1.cell? ⟨w.heap.size + 1, 8, none⟩ = some (.bool s.b8) := F.out.rs.cell 8
 have cs9 : w1.cell? ⟨w.heap.size + 1, 9, none⟩ = some (.bool s.b9) := F.out.rs.cell 9
 have c0 : w1.cell? ⟨w.heap.size, 0, none⟩ = some (.int .i64 co) := F.out.rg.cell 0
 have c1 : w1.cell? ⟨w.heap.size, 1, none⟩ = some (.int .i64 ro) := F.out.rg.cell 1
 clear c0 c1
 go_wp2_with (first
  | (refine wpList_load_row rfl 24 (.tmp 5) rfl w.heap.size rfl 24 (gA co ro v) F.out.rg _ U24.out rfl 3 S24.out rfl ?_))
 refine (MB.out _ F.out.be).mono ?_
 rintro e w2 ⟨rfl, hb⟩
 replace F := Box'.mk (F.out.below hb)
 clear hb cs0 cs1 cs2 cs3 cs4 cs5 cs6 cs7 cs8 cs9
 have c0 : w2.cell? ⟨w.heap.size, 0, none⟩ = some (.int .i64 co) := F.out.rg.cell 0
 go_wp2_with (first
  | (refine wpList_store_row rfl 24 (.tmp 10) (.tmp 29) rfl (w.heap.size + 2) rfl (gA 0 0 (.slice none 0 0)) rfl 24 3 F.out.rr S24.out rfl O.out ?_))
 exact bodyPost_ret (results_two rfl _ (w.heap.size + 2) rfl _ rfl _ _ (F.out.rr.setRow _) rfl) rfl ⟨rfl, below_setRow F.out.be (by omega) _⟩
set_option maxRecDepth 100000 in
set_option maxHeartbeats 8000000 in
theorem rshift_no1 (co ro : Int) (v : Value) (c : List Cl) (row fr k : Int) (s : St) (w : World) (hv : Cls w.heap.size w v c) (hB : badF co ro c s row = false) (h1 : fr < 0) :
  Calls Try.prog 15 #[.agg (gA co ro v), .int .i64 row, .int .i64 fr, .int .i64 k, .agg (sA s)] w fun e w' => e = .returned gErr ∧ Below w.heap.size w w' := by
 have MB : Box' (∀ wx, Below w.heap.size w wx → Calls Try.prog 37 #[.agg (gA co ro v), .agg (sA s), .int .i64 row] wx fun e w' => e = .returned (.bool (badF co ro c s row)) ∧ Below wx.heap.size wx w') := ⟨fun wx hb => rbad_any co ro v c s row wx ((hv.below hb (Nat.le_refl _)).up hb.size)⟩
 rw [hB] at MB
 have F := Box'.mk (FrG.begin w (gA co ro v) s)
 have U24 := Box'.mk Try.underlying24
 have S24 := Box'.mk s24g
 have O := Box'.mk (gA_one 0 0 none 0 0)
 clear hB hv
 go_enter Try.func15, Try.ntmps15
 go_upto_region 1 with (fail)
 generalize (((w.alloc (.cells (gA co ro v) 24)).alloc (.cells (sA s) 26)).alloc (.cells #[.int .i64 0, .int .i64 0, .slice none 0 0] 24)) = w1 at *
 have cs0 : w1.cell? ⟨w.heap.size + 1, 0, none⟩ = some (.int .i64 s.fg) := F.out.rs.cell 0
 have cs1 : w1.cell? ⟨w.heap.size + 1, 1, none⟩ = some (.int .i64 s.bg) := F.out.rs.cell 1
 have cs2 : w1.cell? ⟨w.heap.size + 1, 2, none⟩ = some (.bool s.b1) := F.out.rs.cell 2
 have cs3 : w1.cell? ⟨w.heap.size + 1, 3, none⟩ = some (.bool s.b2) := F.out.rs.cell 3
 have cs4 : w1.cell? ⟨w.heap.size + 1, 4, none⟩ = some (.bool s.b3) := F.out.rs.cell 4
 have cs5 : w1.cell? ⟨w.heap.size + 1, 5, none⟩ = some (.bool s.b4) := F.out.rs.cell 5
 have cs6 : w1.cell? ⟨w.heap.size + 1, 6, none⟩ = some (.bool s.b5) := F.out.rs.cell 6
 have cs7 : w1.cell? ⟨w.heap.size + 1, 7, none⟩ = some (.bool s.b7) := F.out.rs.cell 7
 have cs8 : w1.cell? ⟨w.heap.size + 1, 8, none⟩ = some (.bool s.b8) := F.out.rs.cell 8
 have cs9 : w1.cell? ⟨w.heap.size + 1, 9, none⟩ = some (.bool s.b9) := F.out.rs.cell 9
 have c0 : w1.cell? ⟨w.heap.size, 0, none⟩ = some (.int .i64 co) := F.out.rg.cell 0
 have c1 : w1.cell? ⟨w.heap.size, 1, none⟩ = some (.int .i64 ro) := F.out.rg.cell 1
 clear c0 c1
 go_wp2_with (first
  | (refine wpList_load_row rfl 24 (.tmp 5) rfl w.heap.size rfl 24 (gA co ro v) F.out.rg _ U24.out rfl 3 S24.out rfl ?_))
 refine (MB.out _ F.out.be).mono ?_
 rintro e w2 ⟨rfl, hb⟩
 replace F := Box'.mk (F.out.below hb)
 clear hb cs0 cs1 cs2 cs3 cs4 cs5 cs6 cs7 cs8 cs9
 have c0 : w2.cell? ⟨w.heap.size, 0, none⟩ = some (.int .i64 co) := F.out.rg.cell 0
 go_wp2_with (first
  | (refine wpList_store_row rfl 24 (.tmp 10) (.tmp 29) rfl (w.heap.size + 2) rfl (gA 0 0 (.slice none 0 0)) rfl 24 3 F.out.rr S24.out rfl O.out ?_))
 exact bodyPost_ret (results_two rfl _ (w.heap.size + 2) rfl _ rfl _ _ (F.out.rr.setRow _) rfl) rfl ⟨rfl, below_setRow F.out.be (by omega) _⟩
set_option maxRecDepth 100000 in
set_option maxHeartbeats 8000000 in
theorem rshift_no2 (co ro : Int) (v : Value) (c : List Cl) (row fr k : Int) (s : St) (w : World) (hv : Cls w.heap.size w v c) (hB : badF co ro c s row = false) (h1 : 0 ≤ fr) (h2 : co ≤ fr) :
  Calls Try.prog 15 #[.agg (gA co ro v), .int .i64 row, .int .i64 fr, .int .i64 k, .agg (sA s)] w fun e w' => e = .returned gErr ∧ Below w.heap.size w w' := by
 have MB : Box' (∀ wx, Below w.heap.size w wx → Calls Try.prog 37 #[.agg (gA co ro v), .agg (sA s), .int .i64 row] wx fun e w' => e = .returned (.bool (badF co ro c s row)) ∧ Below wx.heap.size wx w') := ⟨fun wx hb => rbad_any co ro v c s row wx ((hv.below hb (Nat.le_refl _)).up hb.size)⟩
 rw [hB] at MB
 have F := Box'.mk (FrG.begin w (gA co ro v) s)
 have U24 := Box'.mk Try.underlying24
 have S24 := Box'.mk s24g
 have O := Box'.mk (gA_one 0 0 none 0 0)
 clear hB hv
 go_enter Try.func15, Try.ntmps15
 go_upto_region 1 with (fail)
 generalize (((w.alloc (.cells (gA co ro v) 24)).alloc (.cells (sA s) 26)).alloc (.cells #[.int .i64 0, .int .i64 0, .slice none 0 0] 24)) = w1 at *
 have cs0 : w1.cell? ⟨w.heap.size + 1, 0, none⟩ = some (.int .i64 s.fg) := F.out.rs.cell 0
 have cs1 : w1.cell? ⟨w.heap.size + 1, 1, none⟩ = some (.int .i64 s.bg) := F.out.rs.cell 1
 have cs2 : w1.cell? ⟨w.heap.size + 1, 2, none⟩ = some (.bool s.b1) := F.out.rs.cell 2
 have cs3 : w1.cell? ⟨w.heap.size + 1, 3, none⟩ = some (.bool s.b2) := F.out.rs.cell 3
 have cs4 : w1.cell? ⟨w.heap.size + 1, 4, none⟩ = some (.bool s.b3) := F.out.rs.cell 4
 have cs5 : w1.cell? ⟨w.heap.size + 1, 5, none⟩ = some (.bool s.b4) := F.out.rs.cell 5
 have cs6 : w1.cell? ⟨w.heap.size + 1, 6, none⟩ = some (.bool s.b5) := F.out.rs.cell 6
 have cs7 : w1.cell? ⟨w.heap.size + 1, 7, none⟩ = some (.bool s.b7) := F.out.rs.cell 7
 have cs8 : w1.cell? ⟨w.heap.size + 1, 8, none⟩ = some (.bool s.b8) := F.out.rs.cell 8
 have cs9 : w1.cell? ⟨w.heap.size + 1, 9, none⟩ = some (.bool s.b9) := F.out.rs.cell 9
 have c0 : w1.cell? ⟨w.heap.size, 0, none⟩ = some (.int .i64 co) := F.out.rg.cell 0
 have c1 : w1.cell? ⟨w.heap.size, 1, none⟩ = some (.int .i64 ro) := F.out.rg.cell 1
 clear c0 c1
 go_wp2_with (first
  | (refine wpList_load_row rfl 24 (.tmp 5) rfl w.heap.size rfl 24 (gA co ro v) F.out.rg _ U24.out rfl 3 S24.out rfl ?_))
 refine (MB.out _ F.out.be).mono ?_
 rintro e w2 ⟨rfl, hb⟩
 replace F := Box'.mk (F.out.below hb)
 clear hb cs0 cs1 cs2 cs3 cs4 cs5 cs6 cs7 cs8 cs9
 have c0 : w2.cell? ⟨w.heap.size, 0, none⟩ = some (.int .i64 co) := F.out.rg.cell 0
 go_wp2_with (first
  | (refine wpList_store_row rfl 24 (.tmp 10) (.tmp 29) rfl (w.heap.size + 2) rfl (gA 0 0 (.slice none 0 0)) rfl 24 3 F.out.rr S24.out rfl O.out ?_))
 exact bodyPost_ret (results_two rfl _ (w.heap.size + 2) rfl _ rfl _ _ (F.out.rr.setRow _) rfl) rfl ⟨rfl, below_setRow F.out.be (by omega) _⟩
set_option maxRecDepth 100000 in
set_option maxHeartbeats 8000000 in
theorem rwrite_no0 (co ro : Int) (v : Value) (c : List Cl) (row col : Int) (s : St) (vl : Value) (w : World) (hv : Cls w.heap.size w v c) (hB : badF co ro c s row = true)  :
  Calls Try.prog 11 #[.agg (gA co ro v), .int .i64 row, .int .i64 col, .agg (sA s), vl] w fun e w' => e = .returned gErr ∧ Below w.heap.size w w' := by
 have MB : Box' (∀ wx, Below w.heap.size w wx → Calls Try.prog 37 #[.agg (gA co ro v), .agg (sA s), .int .i64 row] wx fun e w' => e = .returned (.bool (badF co ro c s row)) ∧ Below wx.heap.size wx w') := ⟨fun wx hb => rbad_any co ro v c s row wx ((hv.below hb (Nat.le_refl _)).up hb.size)⟩
 rw [hB] at MB
 have F := Box'.mk (FrG.begin w (gA co ro v) s)
 have U24 := Box'.mk Try.underlying24
 have S24 := Box'.mk s24g
 have O := Box'.mk (gA_one 0 0 none 0 0)
 clear hB hv
 go_enter Try.func11, Try.ntmps11
 go_upto_region 1 with (fail)
 generalize (((w.alloc (.cells (gA co ro v) 24)).alloc (.cells (sA s) 26)).alloc (.cells #[.int .i64 0, .int .i64 0, .slice none 0 0] 24)) = w1 at *
 have cs0 : w1.cell? ⟨w.heap.size + 1, 0, none⟩ = some (.int .i64 s.fg) := F.out.rs.cell 0
 have cs1 : w1.cell? ⟨w.heap.size + 1, 1, none⟩ = some (.int .i64 s.bg) := F.out.rs.cell 1
 have cs2 : w1.cell? ⟨w.heap.size + 1, 2, none⟩ = some (.bool s.b1) := F.out.rs.cell 2
 have cs3 : w1.cell? ⟨w.heap.size + 1, 3, none⟩ = some (.bool s.b2) := F.out.rs.cell 3
 have cs4 : w1.cell? ⟨w.heap.size + 1, 4, none⟩ = some (.bool s.b3) := F.out.rs.cell 4
 have cs5 : w1.cell? ⟨w.heap.size + 1, 5, none⟩ = some (.bool s.b4) := F.out.rs.cell 5
 have cs6 : w1.cell? ⟨w.heap.size + 1, 6, none⟩ = some (.bool s.b5) := F.out.rs.cell 6
 have cs7 : w1.cell? ⟨w.heap.size + 1, 7, none⟩ = some (.bool s.b7) := F.out.rs.cell 7
 have cs8 : w1.cell? ⟨w.heap.size + 1, 8, none⟩ = some (.bool s.b8) := F.out.rs.cell 8
 have cs9 : w1.cell? ⟨w.heap.size + 1, 9, none⟩ = some (.bool s.b9) := F.out.rs.cell 9
 have c0 : w1.cell? ⟨w.heap.size, 0, none⟩ = some (.int .i64 co) := F.out.rg.cell 0
 have c1 : w1.cell? ⟨w.heap.size, 1, none⟩ = some (.int .i64 ro) := F.out.rg.cell 1
 clear c0 c1
 go_wp2_with (first
  | (refine wpList_load_row rfl 24 (.tmp 5) rfl w.heap.size rfl 24 (gA co ro v) F.out.rg _ U24.out rfl 3 S24.out rfl ?_))
 refine (MB.out _ F.out.be).mono ?_
 rintro e w2 ⟨rfl, hb⟩
 replace F := Box'.mk (F.out.below hb)
 clear hb cs0 cs1 cs2 cs3 cs4 cs5 cs6 cs7 cs8 cs9
 have c0 : w2.cell? ⟨w.heap.size, 0, none⟩ = some (.int .i64 co) := F.out.rg.cell 0
 go_wp2_with (first
  | (refine wpList_store_row rfl 24 (.tmp 10) (.tmp 28) rfl (w.heap.size + 2) rfl (gA 0 0 (.slice none 0 0)) rfl 24 3 F.out.rr S24.out rfl O.out ?_))
 exact bodyPost_ret (results_two rfl _ (w.heap.size + 2) rfl _ rfl _ _ (F.out.rr.setRow _) rfl) rfl ⟨rfl, below_setRow F.out.be (by omega) _⟩
set_option maxRecDepth 100000 in
set_option maxHeartbeats 8000000 in
theorem rwrite_no1 (co ro : Int) (v : Value) (c : List Cl) (row col : Int) (s : St) (vl : Value) (w : World) (hv : Cls w.heap.size w v c) (hB : badF co ro c s row = false) (h1 : col < 0) :
  Calls Try.prog 11 #[.agg (gA co ro v), .int .i64 row, .int .i64 col, .agg (sA s), vl] w fun e w' => e = .returned gErr ∧ Below w.heap.size w w' := by
 have MB : Box' (∀ wx, Below w.heap.size w wx → Calls Try.prog 37 #[.agg (gA co ro v), .agg (sA s), .int .i64 row] wx fun e w' => e = .returned (.bool (badF co ro c s row)) ∧ Below wx.heap.size wx w') := ⟨fun wx hb => rbad_any co ro v c s row wx ((hv.below hb (Nat.le_refl _)).up hb.size)⟩
 rw [hB] at MB
 have F := Box'.mk (FrG.begin w (gA co ro v) s)
 have U24 := Box'.mk Try.underlying24
 have S24 := Box'.mk s24g
 have O := Box'.mk (gA_one 0 0 none 0 0)
 clear hB hv
 go_enter Try.func11, Try.ntmps11
 go_upto_region 1 with (fail)
 generalize (((w.alloc (.cells (gA co ro v) 24)).alloc (.cells (sA s) 26)).alloc (.cells #[.int .i64 0, .int .i64 0, .slice none 0 0] 24)) = w1 at *
 have cs0 : w1.cell? ⟨w.heap.size + 1, 0, none⟩ = some (.int .i64 s.fg) := F.out.rs.cell 0
 have cs1 : w1.cell? ⟨w.heap.size + 1, 1, none⟩ = some (.int .i64 s.bg) := F.out.rs.cell 1
 have cs2 : w1.cell? ⟨w.heap.size + 1, 2, none⟩ = some (.bool s.b1) := F.out.rs.cell 2
 have cs3 : w1.cell? ⟨w.heap.size + 1, 3, none⟩ = some (.bool s.b2) := F.out.rs.cell 3
 have cs4 : w1.cell? ⟨w.heap.size + 1, 4, none⟩ = some (.bool s.b3) := F.out.rs.cell 4
 have cs5 : w1.cell? ⟨w.heap.size + 1, 5, none⟩ = some (.bool s.b4) := F.out.rs.cell 5
 have cs6 : w1.cell? ⟨w.heap.size + 1, 6, none⟩ = some (.bool s.b5) := F.out.rs.cell 6
 have cs7 : w1.cell? ⟨w.heap.size + 1, 7, none⟩ = some (.bool s.b7) := F.out.rs.cell 7
 have cs8 : w1.cell? ⟨w.heap.size + 1, 8, none⟩ = some (.bool s.b8) := F.out.rs.cell 8
 have cs9 : w1.cell? ⟨w.heap.size + 1, 9, none⟩ = some (.bool s.b9) := F.out.rs.cell 9
 have c0 : w1.cell? ⟨w.heap.size, 0, none⟩ = some (.int .i64 co) := F.out.rg.cell 0
 have c1 : w1.cell? ⟨w.heap.size, 1, none⟩ = some (.int .i64 ro) := F.out.rg.cell 1
 clear c0 c1
 go_wp2_with (first
  | (refine wpList_load_row rfl 24 (.tmp 5) rfl w.heap.size rfl 24 (gA co ro v) F.out.rg _ U24.out rfl 3 S24.out rfl ?_))
 refine (MB.out _ F.out.be).mono ?_
 rintro e w2 ⟨rfl, hb⟩
 replace F := Box'.mk (F.out.below hb)
 clear hb cs0 cs1 cs2 cs3 cs4 cs5 cs6 cs7 cs8 cs9
 have c0 : w2.cell? ⟨w.heap.size, 0, none⟩ = some (.int .i64 co) := F.out.rg.cell 0
 go_wp2_with (first
  | (refine wpList_store_row rfl 24 (.tmp 10) (.tmp 28) rfl (w.heap.size + 2) rfl (gA 0 0 (.slice none 0 0)) rfl 24 3 F.out.rr S24.out rfl O.out ?_))
 exact bodyPost_ret (results_two rfl _ (w.heap.size + 2) rfl _ rfl _ _ (F.out.rr.setRow _) rfl) rfl ⟨rfl, below_setRow F.out.be (by omega) _⟩
set_option maxRecDepth 100000 in
set_option maxHeartbeats 8000000 in
theorem rwrite_no2 (co ro : Int) (v : Value) (c : List Cl) (row col : Int) (s : St) (vl : Value) (w : World) (hv : Cls w.heap.size w v c) (hB : badF co ro c s row = false) (h1 : 0 ≤ col) (h2 : co ≤ col) :
  Calls Try.prog 11 #[.agg (gA co ro v), .int .i64 row, .int .i64 col, .agg (sA s), vl] w fun e w' => e = .returned gErr ∧ Below w.heap.size w w' := by
 have MB : Box' (∀ wx, Below w.heap.size w wx → Calls Try.prog 37 #[.agg (gA co ro v), .agg (sA s), .int .i64 row] wx fun e w' => e = .returned (.bool (badF co ro c s row)) ∧ Below wx.heap.size wx w') := ⟨fun wx hb => rbad_any co ro v c s row wx ((hv.below hb (Nat.le_refl _)).up hb.size)⟩
 rw [hB] at MB
 have F := Box'.mk (FrG.begin w (gA co ro v) s)
 have U24 := Box'.mk Try.underlying24
 have S24 := Box'.mk s24g
 have O := Box'.mk (gA_one 0 0 none 0 0)
 clear hB hv
 go_enter Try.func11, Try.ntmps11
 go_upto_region 1 with (fail)
 generalize (((w.alloc (.cells (gA co ro v) 24)).alloc (.cells (sA s) 26)).alloc (.cells #[.int .i64 0, .int .i64 0, .slice none 0 0] 24)) = w1 at *
 have cs0 : w1.cell? ⟨w.heap.size + 1, 0, none⟩ = some (.int .i64 s.fg) := F.out.rs.cell 0
 have cs1 : w1.cell? ⟨w.heap.size + 1, 1, none⟩ = some (.int .i64 s.bg) := F.out.rs.cell 1
 have cs2 : w1.cell? ⟨w.heap.size + 1, 2, none⟩ = some (.bool s.b1) := F.out.rs.cell 2
 have cs3 : w1.cell? ⟨w.heap.size + 1, 3, none⟩ = some (.bool s.b2) := F.out.rs.cell 3
 have cs4 : w1.cell? ⟨w.heap.size + 1, 4, none⟩ = some (.bool s.b3) := F.out.rs.cell 4
 have cs5 : w1.cell? ⟨w.heap.size + 1, 5, none⟩ = some (.bool s.b4) := F.out.rs.cell 5
 have cs6 : w1.cell? ⟨w.heap.size + 1, 6, none⟩ = some (.bool s.b5) := F.out.rs.cell 6
 have cs7 : w1.cell? ⟨w.heap.size + 1, 7, none⟩ = some (.bool s.b7) := F.out.rs.cell 7
 have cs8 : w1.cell? ⟨w.heap.size + 1, 8, none⟩ = some (.bool s.b8) := F.out.rs.cell 8
 have cs9 : w1.cell? ⟨w.heap.size + 1, 9, none⟩ = some (.bool s.b9) := F.out.rs.cell 9
 have c0 : w1.cell? ⟨w.heap.size, 0, none⟩ = some (.int .i64 co) := F.out.rg.cell 0
 have c1 : w1.cell? ⟨w.heap.size, 1, none⟩ = some (.int .i64 ro) := F.out.rg.cell 1
 clear c0 c1
 go_wp2_with (first
  | (refine wpList_load_row rfl 24 (.tmp 5) rfl w.heap.size rfl 24 (gA co ro v) F.out.rg _ U24.out rfl 3 S24.out rfl ?_))
 refine (MB.out _ F.out.be).mono ?_
 rintro e w2 ⟨rfl, hb⟩
 replace F := Box'.mk (F.out.below hb)
 clear hb cs0 cs1 cs2 cs3 cs4 cs5 cs6 cs7 cs8 cs9
 have c0 : w2.cell? ⟨w.heap.size, 0, none⟩ = some (.int .i64 co) := F.out.rg.cell 0
 go_wp2_with (first
  | (refine wpList_store_row rfl 24 (.tmp 10) (.tmp 28) rfl (w.heap.size + 2) rfl (gA 0 0 (.slice none 0 0)) rfl 24 3 F.out.rr S24.out rfl O.out ?_))
 exact bodyPost_ret (results_two rfl _ (w.heap.size + 2) rfl _ rfl _ _ (F.out.rr.setRow _) rfl) rfl ⟨rfl, below_setRow F.out.be (by omega) _⟩
end Go.Proofs.Ytnbonlkmadmpcaa
namespace Go.Proofs.Ytnbonlkmadmpcaa
open Go.RowKit Go.BigFrame
set_option linter.unusedVariables false
set_option linter.unusedSimpArgs false
set_option maxRecDepth 100000 in
set_option maxHeartbeats 16000000 in
theorem rerase_ok (cols rows : Nat) (v : Value) (c : List Cl) (row fr to : Nat) (s : St) (w : World) (hv : Cls w.heap.size w v c) (hG : mayG (cols : Int) (rows : Int) c = true) (hS : mayS s = true) (h1 : row < rows) (h2 : fr ≤ to) (h3 : to ≤ cols) :
  Calls Try.prog 13 #[.agg (gA (cols : Int) (rows : Int) v), .int .i64 (row : Int), .int .i64 (fr : Int), .int .i64 (to : Int), .agg (sA s)] w fun e w' => ∃ b cap sp, e = .returned (gOk (cols : Int) (rows : Int) (.slice (some ⟨b, 0, none⟩) c.length cap)) ∧ w.heap.size ≤ b ∧ c.length ≤ cap ∧ RC w' b (putRow c cols row (mnd (erF (rowF c cols row) fr to s))) sp ∧ Below w.heap.size w w' := by
 obtain ⟨cols', rows', ec, er, p1, p2, p3, p4, hl⟩ := mayG_dest hG
 obtain rfl : cols = cols' := by omega
 obtain rfl : rows = rows' := by omega
 have hle : cols * rows ≤ 512 * 512 := Nat.mul_le_mul p2 p4
 have hpos : 0 < c.length := by rw [hl]; exact Nat.mul_pos (by omega) (by omega)
 have hB : badF (cols : Int) (rows : Int) c s (row : Int) = false := by unfold badF; rw [hG, hS]; simp; omega
 have MB : Box' (∀ wx, Below w.heap.size w wx → Calls Try.prog 37 #[.agg (gA (cols : Int) (rows : Int) v), .agg (sA s), .int .i64 (row : Int)] wx fun e w' => e = .returned (.bool false) ∧ Below wx.heap.size wx w') := ⟨fun wx hb => by
  have := rbad_any (cols : Int) (rows : Int) v c s (row : Int) wx ((hv.below hb (Nat.le_refl _)).up hb.size)
  rw [hB] at this
  exact this⟩
 have CP : Box' (∀ wx, Below w.heap.size w wx → Calls Try.prog 25 #[.agg (gA (cols : Int) (rows : Int) v)] wx fun e w' => ∃ b cap sp, e = .returned (.agg (gA (cols : Int) (rows : Int) (.slice (some ⟨b, 0, none⟩) c.length cap))) ∧ wx.heap.size ≤ b ∧ c.length ≤ cap ∧ RC w' b c sp ∧ Below wx.heap.size wx w') := ⟨fun wx hb => (rcopy_any (cols : Int) (rows : Int) v c wx ((hv.below hb (Nat.le_refl _)).up hb.size) (fun e => by rw [e] at hpos; cases hpos) (by omega)).mono (by
   rintro e w' ⟨v', rfl, ho, hb'⟩
   obtain ⟨g, cap, sp, rfl, hg, hcap, hr⟩ := ho.row hpos
   exact ⟨g, cap, sp, rfl, hg, hcap, hr, hb'⟩)⟩
 have hfit : cols * row + cols ≤ c.length := by rw [hl, Nat.mul_comm cols row]; exact fits (by omega)
 have hrl : (rowF c cols row).length = cols := rowF_len c cols row (by rw [Nat.mul_comm]; exact hfit)
 have XL : Box' ((erF (rowF c cols row) fr to s).length = cols) := ⟨by rw [erF_len _ _ _ _ h2 (by omega)]; exact hrl⟩
 have XB : Box' (mix (erF (rowF c cols row) fr to s) (rowF c cols row) fr = rowF c cols row) := ⟨mix_first _ _ _ (by rw [XL.out, hrl]) (by omega) fun i hi => by rw [cat_er _ _ _ _ h2 (by omega), if_neg (by omega)]⟩
 have XE : Box' (mix (erF (rowF c cols row) fr to s) (rowF c cols row) to = erF (rowF c cols row) fr to s) := ⟨mix_last _ _ _ (by rw [XL.out, hrl]) (by omega) fun i hi _ => by rw [cat_er _ _ _ _ h2 (by omega), if_neg (by omega)]⟩
 have XC : Box' (∀ i, fr ≤ i → i < to → cat (erF (rowF c cols row) fr to s) i = bl s) := ⟨fun i hi hj => by rw [cat_er _ _ _ _ h2 (by omega), if_pos ⟨hi, hj⟩]⟩
 have LY : Box' (lay c (cols * row) (rowF c cols row) = c) := ⟨lay_own c cols row hfit⟩
 have PUT : Box' (∀ r : List Cl, r.length = cols → lay c (cols * row) r = putRow c cols row r) := ⟨fun r h => lay_put c cols row r h⟩
 have RL := Box'.mk hrl
 have RB : Box' (row * cols = cols * row) := ⟨Nat.mul_comm _ _⟩
 obtain ⟨gb, go', gc, ev, hgc, HR0⟩ := cls_range2 hv hpos
 have HR := Box'.mk HR0
 have EV := Box'.mk ev
 clear HR0 hv ev
 have F := Box'.mk (FrG.begin w (gA (cols : Int) (rows : Int) v) s)
 have U24 := Box'.mk Try.underlying24
 have S24 := Box'.mk s24g
 have U26 := Box'.mk Try.underlying26
 have S26 := Box'.mk s24
 have SB := Box'.mk (refBlank_any s)
 generalize hR : rowF c cols row = R at *
 have HRR := Box'.mk hR
 clear hR
 have HL := Box'.mk hl
 have HNN : c.length ≤ 262144 := by omega
 have i1 : (fr : Int) ≤ (to : Int) := by omega
 have i2 : (to : Int) ≤ (cols : Int) := by omega
 generalize erF R fr to s = X at *
 clear hB hG hS ec er hl hle hrl
 go_enter Try.func13, Try.ntmps13
 go_upto_region 1 with (fail)
 generalize (((w.alloc (.cells (gA (cols : Int) (rows : Int) v) 24)).alloc (.cells (sA s) 26)).alloc (.cells #[.int .i64 0, .int .i64 0, .slice none 0 0] 24)) = w1 at *
 have cs0 : w1.cell? ⟨w.heap.size + 1, 0, none⟩ = some (.int .i64 s.fg) := F.out.rs.cell 0
 have cs1 : w1.cell? ⟨w.heap.size + 1, 1, none⟩ = some (.int .i64 s.bg) := F.out.rs.cell 1
 have cs2 : w1.cell? ⟨w.heap.size + 1, 2, none⟩ = some (.bool s.b1) := F.out.rs.cell 2
 have cs3 : w1.cell? ⟨w.heap.size + 1, 3, none⟩ = some (.bool s.b2) := F.out.rs.cell 3
 have cs4 : w1.cell? ⟨w.heap.size + 1, 4, none⟩ = some (.bool s.b3) := F.out.rs.cell 4
 have cs5 : w1.cell? ⟨w.heap.size + 1, 5, none⟩ = some (.bool s.b4) := F.out.rs.cell 5
 have cs6 : w1.cell? ⟨w.heap.size + 1, 6, none⟩ = some (.bool s.b5) := F.out.rs.cell 6
 have cs7 : w1.cell? ⟨w.heap.size + 1, 7, none⟩ = some (.bool s.b7) := F.out.rs.cell 7
 have cs8 : w1.cell? ⟨w.heap.size + 1, 8, none⟩ = some (.bool s.b8) := F.out.rs.cell 8
 have cs9 : w1.cell? ⟨w.heap.size + 1, 9, none⟩ = some (.bool s.b9) := F.out.rs.cell 9
 have c0 : w1.cell? ⟨w.heap.size, 0, none⟩ = some (.int .i64 (cols : Int)) := F.out.rg.cell 0
 have c1 : w1.cell? ⟨w.heap.size, 1, none⟩ = some (.int .i64 (rows : Int)) := F.out.rg.cell 1
 clear c0 c1
 go_wp2_with (first
  | (refine wpList_load_row rfl 24 (.tmp 5) rfl w.heap.size rfl 24 (gA (cols : Int) (rows : Int) v) F.out.rg _ U24.out rfl 3 S24.out rfl ?_))
 refine (MB.out _ F.out.be).mono ?_
 rintro e w2 ⟨rfl, hb⟩
 replace F := Box'.mk (F.out.below hb)
 clear hb cs0 cs1 cs2 cs3 cs4 cs5 cs6 cs7 cs8 cs9 MB
 have c0 : w2.cell? ⟨w.heap.size, 0, none⟩ = some (.int .i64 (cols : Int)) := F.out.rg.cell 0
 go_wp2_with (first
  | (refine wpList_load_row rfl 24 (.tmp 5) rfl w.heap.size rfl 24 (gA (cols : Int) (rows : Int) v) F.out.rg _ U24.out rfl 3 S24.out rfl ?_))
 refine (CP.out _ F.out.be).mono ?_
 rintro e w3 ⟨b, cap, sp, rfl, hb0, hcap, hr, hb⟩
 have hsz := F.out.sz
 replace F := Box'.mk (F.out.below hb)
 have RM : Box' (Room (w3.alloc (.cells #[.int .i64 0, .int .i64 0, .slice none 0 0] 24)) w3.heap.size 24 3) := ⟨Room.new _ _ _ _ rfl⟩
 have F4 : Box' (FrG w (gA (cols : Int) (rows : Int) v) s ((w3.alloc (.cells #[.int .i64 0, .int .i64 0, .slice none 0 0] 24)).setRow w3.heap.size (gA (cols : Int) (rows : Int) (.slice (some ⟨b, 0, none⟩) c.length cap)))) := ⟨F.out.below (below_setRow (bR.alloc (Nat.le_refl _) _) (Nat.le_refl _) _)⟩
 have G4 : Box' (Row ((w3.alloc (.cells #[.int .i64 0, .int .i64 0, .slice none 0 0] 24)).setRow w3.heap.size (gA (cols : Int) (rows : Int) (.slice (some ⟨b, 0, none⟩) c.length cap))) w3.heap.size 24 (gA (cols : Int) (rows : Int) (.slice (some ⟨b, 0, none⟩) c.length cap))) := ⟨RM.out.setRow _⟩
 have C4 : Box' (RC ((w3.alloc (.cells #[.int .i64 0, .int .i64 0, .slice none 0 0] 24)).setRow w3.heap.size (gA (cols : Int) (rows : Int) (.slice (some ⟨b, 0, none⟩) c.length cap))) b c sp) := ⟨Row.setRowOther (Row.alloc hr _) _ _ (by have := hr.lt; omega)⟩
 have O := Box'.mk (gA_one (cols : Int) (rows : Int) (some ⟨b, 0, none⟩) c.length cap)
 have hqb : w3.heap.size ≠ b := by have := hr.lt; omega
 have hq3 : w.heap.size + 3 ≤ w3.heap.size := F.out.sz
 have hb3 : w.heap.size + 3 ≤ b := by omega
 clear hb hr hb0 CP hsz
 go_upto_region 4 with (first
  | (refine wpList_store_row rfl 24 (.tmp 12) (.tmp 35) rfl w3.heap.size rfl (gA (cols : Int) (rows : Int) (.slice (some ⟨b, 0, none⟩) c.length cap)) rfl 24 3 RM.out S24.out rfl O.out ?_))
 generalize ((w3.alloc (.cells #[.int .i64 0, .int .i64 0, .slice none 0 0] 24)).setRow w3.heap.size (gA (cols : Int) (rows : Int) (.slice (some ⟨b, 0, none⟩) c.length cap))) = w4 at *
 clear RM F
 generalize w3.heap.size = q at *
 have RO : Box' (∀ wx, Calls Try.prog 39 #[.agg (gA (cols : Int) (rows : Int) (.slice (some ⟨b, 0, none⟩) c.length cap)), .int .i64 (row : Int)] wx fun e w' => e = .returned (.slice (some ⟨b, cols * row * 15, none⟩) cols (cap - cols * row)) ∧ Below wx.heap.size wx w') := ⟨fun wx => by
  have := refRow_any cols row b 0 c.length cap (rows : Int) p1 p2 (by omega) (by rw [Nat.mul_add, Nat.mul_one]; omega) wx
  rw [Nat.zero_add] at this
  exact this⟩
 have RMD : Box' (∀ wx (r : List Cl), r.length = cols → RC wx b (lay c (cols * row) r) sp → Calls Try.prog 40 #[.slice (some ⟨b, cols * row * 15, none⟩) cols (cap - cols * row)] wx fun e w' => (∃ v, e = .returned v) ∧ RC w' b (lay c (cols * row) (mnd r)) sp ∧ Tc b wx w') := ⟨fun wx r h1 h2 => rmend_any b (cols * row) cols (cap - cols * row) c sp r wx p1 (by omega) (by omega) h1 hfit h2⟩
 go_wp2_with fail
 go_loopw [13] (fun u wr => ∃ i : Nat, u = .int .i64 (i : Int) ∧ fr ≤ i ∧ i ≤ to ∧ Box' (FrG w (gA (cols : Int) (rows : Int) v) s wr) ∧ Box' (Row wr q 24 (gA (cols : Int) (rows : Int) (.slice (some ⟨b, 0, none⟩) c.length cap))) ∧ Box' (RC wr b (lay c (cols * row) (mix X R i)) sp)) (fun u _ => to - (intOf u).toNat)
 case atStart => exact ⟨fr, rfl, Nat.le_refl _, h2, F4, G4, ⟨by rw [XB.out, LY.out]; exact C4.out⟩⟩
 case round =>
  obtain ⟨i, rfl, hi1, hi2, FI, GI, CI⟩ := hrel
  clear F4 G4 C4 XB
  by_cases hlt : i < to
  case pos =>
   have YV : Box' (cat X i = bl s) := ⟨XC.out i hi1 hlt⟩
   have PO : Box' (cols * row * 15 + i * 15 = (cols * row + i) * 15) := ⟨by rw [Nat.add_mul]⟩
   go_upto_region 7 with (fail)
   refine wp_region_growg 7 (by kernel_rfl) 54 rfl (by kernel_rfl) (fun wa wb => Below wa.heap.size wa wb) (fun wa => FrG w (gA (cols : Int) (rows : Int) v) s wa ∧ Row wa q 24 (gA (cols : Int) (rows : Int) (.slice (some ⟨b, 0, none⟩) c.length cap)) ∧ RC wa b (lay c (cols * row) (mix X R i)) sp) (fun kc wa v => match kc with
    | 0 => v = .agg (gA (cols : Int) (rows : Int) (.slice (some ⟨b, 0, none⟩) c.length cap))
    | 1 => v = .int .i64 (row : Int)
    | 2 => v = .slice (some ⟨b, cols * row * 15, none⟩) cols (cap - cols * row)
    | 3 => v = .int .i64 (i : Int)
    | 4 => v = .agg (sA s)
    | 5 => v = .agg (cA (bl s))
    | 6 => v = .pointer (some ⟨b, cols * row * 15 + i * 15, none⟩)
    | _ => True) ?_ ?_ ?_ ?_ ?_ ?_
   ·intro i o' j b' hi hg wa v hC hV
    have hlt : i < 7 := by rcases Nat.lt_or_ge i 7 with q | q; exact q; rw [List.getElem?_eq_none (by simpa using q)] at hi; cases hi
    revert hi hg hV
    rcases (show i = 0 ∨ i = 1 ∨ i = 2 ∨ i = 3 ∨ i = 4 ∨ i = 5 ∨ i = 6 by omega) with rfl | rfl | rfl | rfl | rfl | rfl | rfl <;>
     (intro hi hg hV; simp only [tkS, List.getElem?_cons_zero, List.getElem?_cons_succ, Option.some.injEq] at hi; subst hi; first | (cases hg; exact hV) | (cases hg))
   ·rintro wa wb hb ⟨a1, a2, a3⟩; exact ⟨a1.below hb, a2.below hb a2.lt, Row.below a3 hb (Row.lt a3)⟩
   ·intro kc v wa wb hC1 hb h
    match kc, h with
    | 0, h => exact h
    | 1, h => exact h
    | 2, h => exact h
    | 3, h => exact h
    | 4, h => exact h
    | 5, h => exact h
    | 6, h => exact h
    | kc + 7, h => trivial
   ·exact ⟨FI.out.drew, GI.out.below (bR.drew) GI.out.lt, Row.below CI.out (bR.drew) (Row.lt CI.out)⟩
   ·refine ⟨?_, ?_, ?_, ?_, ?_, ?_, ?_, trivial⟩
    ·intro f wq hC hd KK hK
     clear hd
     simp only [tkS, tkZ, setAll, siB, stS, stZ, Nat.zero_add, Nat.reduceAdd] at hK ⊢
     exact wp_load_row 24 (.tmp 12) rfl q rfl 24 (gA (cols : Int) (rows : Int) (.slice (some ⟨b, 0, none⟩) c.length cap)) hC.2.1 _ U24.out rfl 3 S24.out rfl (hK _ _ rfl bR)
    ·intro f wq hC hd KK hK
     clear hd
     simp only [tkS, tkZ, setAll, siB, stS, stZ, Nat.zero_add, Nat.reduceAdd] at hK ⊢
     refine wp_of_quiet rfl ?_
     go_big_quiet_step (fail)
     exact wpQuiet_nil (hK _ _ (rfl) bR)
    ·intro f wq hC hd KK hK
     have g0 : f 0 = .agg (gA (cols : Int) (rows : Int) (.slice (some ⟨b, 0, none⟩) c.length cap)) := hd 0 (by kernel_rfl)
     have g1 : f 1 = .int .i64 (row : Int) := hd 1 (by kernel_rfl)
     clear hd
     simp only [tkS, tkZ, setAll, siB, stS, stZ, Nat.zero_add, Nat.reduceAdd, g0, g1] at hK ⊢
     exact wp_call 39 #[.agg (gA (cols : Int) (rows : Int) (.slice (some ⟨b, 0, none⟩) c.length cap)), .int .i64 (row : Int)] (by simp [go_sem]) _ _ (RO.out wq) (fun w' hb => hK _ _ rfl hb)
    ·intro f wq hC hd KK hK
     clear hd
     simp only [tkS, tkZ, setAll, siB, stS, stZ, Nat.zero_add, Nat.reduceAdd] at hK ⊢
     refine wp_of_quiet rfl ?_
     go_big_quiet_step (fail)
     exact wpQuiet_nil (hK _ _ (rfl) bR)
    ·intro f wq hC hd KK hK
     clear hd
     simp only [tkS, tkZ, setAll, siB, stS, stZ, Nat.zero_add, Nat.reduceAdd] at hK ⊢
     exact wp_load_row 26 (.tmp 9) rfl (w.heap.size + 1) rfl 26 (sA s) hC.1.rs _ U26.out rfl 10 S26.out rfl (hK _ _ rfl bR)
    ·intro f wq hC hd KK hK
     have g4 : f 4 = .agg (sA s) := hd 4 (by kernel_rfl)
     clear hd
     simp only [tkS, tkZ, setAll, siB, stS, stZ, Nat.zero_add, Nat.reduceAdd, g4] at hK ⊢
     exact wp_call 31 #[.agg (sA s)] (by simp [go_sem]) _ _ (SB.out wq) (fun w' hb => hK _ _ rfl hb)
    ·intro f wq hC hd KK hK
     have g2 : f 2 = .slice (some ⟨b, cols * row * 15, none⟩) cols (cap - cols * row) := hd 2 (by kernel_rfl)
     have g3 : f 3 = .int .i64 (i : Int) := hd 3 (by kernel_rfl)
     clear hd
     simp only [tkS, tkZ, setAll, siB, stS, stZ, Nat.zero_add, Nat.reduceAdd, g2, g3] at hK ⊢
     refine wp_of_quiet rfl ?_
     go_big_quiet_step (fail)
     exact wpQuiet_nil (hK _ _ (rfl) bR)
   ·intro f wz hC hv
    have p0 : f 0 = .agg (gA (cols : Int) (rows : Int) (.slice (some ⟨b, 0, none⟩) c.length cap)) := hv 0 (by decide)
    have p1 : f 1 = .int .i64 (row : Int) := hv 1 (by decide)
    have p2 : f 2 = .slice (some ⟨b, cols * row * 15, none⟩) cols (cap - cols * row) := hv 2 (by decide)
    have p3 : f 3 = .int .i64 (i : Int) := hv 3 (by decide)
    have p4 : f 4 = .agg (sA s) := hv 4 (by decide)
    have p5 : f 5 = .agg (cA (bl s)) := hv 5 (by decide)
    have p6 : f 6 = .pointer (some ⟨b, cols * row * 15 + i * 15, none⟩) := hv 6 (by decide)
    simp only [tkS, tkZ, List.drop_succ_cons, List.drop_zero, setAll, siB, stS, stZ, Nat.zero_add, Nat.reduceAdd, p0, p1, p2, p3, p4, p5, p6]
    clear hv p0 p1 p2 p3 p4 p5 p6
    have C7 := Box'.mk hC.2.2
    have TT := Box'.mk ((Tc.refl b wz).setRow (cLs ((lay c (cols * row) (mix X R i)).set (cols * row + i) (bl s)) ++ sp).toArray)
    have F8 := Box'.mk (hC.1.tc TT.out hb3)
    have G8 := Box'.mk (TT.out.row hC.2.1 hqb)
    have C8 : Box' (RC (wz.setRow b (cLs ((lay c (cols * row) (mix X R i)).set (cols * row + i) (bl s)) ++ sp).toArray) b (lay c (cols * row) (mix X R (i + 1))) sp) := ⟨by
     have e := mix_set X R i (by rw [XL.out, RL.out]) (by rw [RL.out]; omega)
     rw [YV.out] at e
     rw [← e, ← lay_set c (cols * row) (mix X R i) i _ (by rw [mix_len _ _ _ (by rw [XL.out, RL.out]), RL.out]; omega) (by rw [mix_len _ _ _ (by rw [XL.out, RL.out]), RL.out]; exact hfit)]
     exact C7.out.setRow _ _⟩
    have LT : Box' (cols * row + i < (lay c (cols * row) (mix X R i)).length) := ⟨by rw [lay_len c (cols * row) _ (by rw [mix_len _ _ _ (by rw [XL.out, RL.out]), RL.out]; exact hfit)]; omega⟩
    clear hC TT FI GI CI
    go_wp2_with (first
     | (refine wpList_store_cell rfl (.tmp 48) (.tmp 47) rfl b (lay c (cols * row) (mix X R i)) sp (cols * row + i) (bl s) (congrArg (fun z => Value.pointer (some ⟨b, z, none⟩)) PO.out) rfl C7.out LT.out ?_))
    exact ⟨⟨i + 1, by go_num, by omega, by omega, F8, G8, C8⟩, by simp [intOf]; omega⟩
  case neg =>
   obtain rfl : i = to := by omega
   rw [XE.out] at CI
   go_wp2_with (first
    | (refine wpList_load_row rfl 24 (.tmp 12) rfl q rfl 24 (gA (cols : Int) (rows : Int) (.slice (some ⟨b, 0, none⟩) c.length cap)) GI.out _ U24.out rfl 3 S24.out rfl ?_))
   refine (RO.out _).mono ?_
   rintro e w6 ⟨rfl, hb⟩
   have F6 := Box'.mk (FI.out.below hb)
   have G6 := Box'.mk (GI.out.below hb GI.out.lt)
   have C6 := Box'.mk (Row.below CI.out hb (Row.lt CI.out))
   clear hb FI GI CI
   go_wp2_with fail
   refine (RMD.out _ _ XL.out C6.out).mono ?_
   rintro e w7 ⟨⟨v7, rfl⟩, C7, T7⟩
   have F7 := Box'.mk (F6.out.tc T7 hb3)
   have G7 := Box'.mk (T7.row G6.out hqb)
   have C7 := Box'.mk C7
   rw [PUT.out _ (by rw [mnd_len]; exact XL.out)] at C7
   clear T7 F6 G6 C6
   go_wp2_with (first
    | (refine wpList_load_row rfl 24 (.tmp 12) rfl q rfl 24 (gA (cols : Int) (rows : Int) (.slice (some ⟨b, 0, none⟩) c.length cap)) G7.out _ U24.out rfl 3 S24.out rfl ?_)
    | (refine wpList_store_row rfl 24 (.tmp 10) (.tmp 53) rfl (w.heap.size + 2) rfl (gA (cols : Int) (rows : Int) (.slice (some ⟨b, 0, none⟩) c.length cap)) rfl 24 3 F7.out.rr S24.out rfl O.out ?_))
   exact bodyPost_ret (results_two rfl _ (w.heap.size + 2) rfl _ rfl _ _ (F7.out.rr.setRow _) rfl) rfl ⟨b, cap, sp, rfl, by omega, hcap, Row.setRowOther C7.out _ _ (by omega), below_setRow F7.out.be (by omega) _⟩
set_option maxRecDepth 100000 in
set_option maxHeartbeats 16000000 in
theorem rshift_ok (cols rows : Nat) (v : Value) (c : List Cl) (row fr : Nat) (by0 : Int) (s : St) (w : World) (hv : Cls w.heap.size w v c) (hG : mayG (cols : Int) (rows : Int) c = true) (hS : mayS s = true) (h1 : row < rows) (h2 : fr < cols) :
  Calls Try.prog 15 #[.agg (gA (cols : Int) (rows : Int) v), .int .i64 (row : Int), .int .i64 (fr : Int), .int .i64 by0, .agg (sA s)] w fun e w' => ∃ b cap sp, e = .returned (gOk (cols : Int) (rows : Int) (.slice (some ⟨b, 0, none⟩) c.length cap)) ∧ w.heap.size ≤ b ∧ c.length ≤ cap ∧ RC w' b (putRow c cols row (mnd (shF (rowF c cols row) fr by0 s))) sp ∧ Below w.heap.size w w' := by
 obtain ⟨cols', rows', ec, er, p1, p2, p3, p4, hl⟩ := mayG_dest hG
 obtain rfl : cols = cols' := by omega
 obtain rfl : rows = rows' := by omega
 have hle : cols * rows ≤ 512 * 512 := Nat.mul_le_mul p2 p4
 have hpos : 0 < c.length := by rw [hl]; exact Nat.mul_pos (by omega) (by omega)
 have hB : badF (cols : Int) (rows : Int) c s (row : Int) = false := by unfold badF; rw [hG, hS]; simp; omega
 have MB : Box' (∀ wx, Below w.heap.size w wx → Calls Try.prog 37 #[.agg (gA (cols : Int) (rows : Int) v), .agg (sA s), .int .i64 (row : Int)] wx fun e w' => e = .returned (.bool false) ∧ Below wx.heap.size wx w') := ⟨fun wx hb => by
  have := rbad_any (cols : Int) (rows : Int) v c s (row : Int) wx ((hv.below hb (Nat.le_refl _)).up hb.size)
  rw [hB] at this
  exact this⟩
 have CP : Box' (∀ wx, Below w.heap.size w wx → Calls Try.prog 25 #[.agg (gA (cols : Int) (rows : Int) v)] wx fun e w' => ∃ b cap sp, e = .returned (.agg (gA (cols : Int) (rows : Int) (.slice (some ⟨b, 0, none⟩) c.length cap))) ∧ wx.heap.size ≤ b ∧ c.length ≤ cap ∧ RC w' b c sp ∧ Below wx.heap.size wx w') := ⟨fun wx hb => (rcopy_any (cols : Int) (rows : Int) v c wx ((hv.below hb (Nat.le_refl _)).up hb.size) (fun e => by rw [e] at hpos; cases hpos) (by omega)).mono (by
   rintro e w' ⟨v', rfl, ho, hb'⟩
   obtain ⟨g, cap, sp, rfl, hg, hcap, hr⟩ := ho.row hpos
   exact ⟨g, cap, sp, rfl, hg, hcap, hr, hb'⟩)⟩
 have hfit : cols * row + cols ≤ c.length := by rw [hl, Nat.mul_comm cols row]; exact fits (by omega)
 have hrl : (rowF c cols row).length = cols := rowF_len c cols row (by rw [Nat.mul_comm]; exact hfit)
 have XL : Box' ((shF (rowF c cols row) fr by0 s).length = cols) := ⟨by rw [shF_len]; exact hrl⟩
 have XB : Box' (mix (shF (rowF c cols row) fr by0 s) (rowF c cols row) fr = rowF c cols row) := ⟨mix_first _ _ _ (by rw [XL.out, hrl]) (by omega) fun i hi => by rw [cat_sh _ _ _ _ _ (by omega), if_pos hi]⟩
 have XE : Box' (mix (shF (rowF c cols row) fr by0 s) (rowF c cols row) cols = shF (rowF c cols row) fr by0 s) := ⟨mix_last _ _ _ (by rw [XL.out, hrl]) (by omega) fun i hi hj => by omega⟩
 have XC : Box' (∀ i, fr ≤ i → i < cols → cat (shF (rowF c cols row) fr by0 s) i = if (fr : Int) ≤ (i : Int) - by0 ∧ (i : Int) - by0 < (cols : Int) then cat (rowF c cols row) ((i : Int) - by0).toNat else bl s) := ⟨fun i hi hj => by rw [cat_sh _ _ _ _ _ (by omega), if_neg (by omega), hrl]⟩
 have RC0 : Box' (∀ j, j < cols → cat (rowF c cols row) j = cat c (row * cols + j)) := ⟨fun j hj => cat_row c cols row j hj⟩
 have LY : Box' (lay c (cols * row) (rowF c cols row) = c) := ⟨lay_own c cols row hfit⟩
 have PUT : Box' (∀ r : List Cl, r.length = cols → lay c (cols * row) r = putRow c cols row r) := ⟨fun r h => lay_put c cols row r h⟩
 have RL := Box'.mk hrl
 have RB : Box' (row * cols = cols * row) := ⟨Nat.mul_comm _ _⟩
 obtain ⟨gb, go', gc, ev, hgc, HR0⟩ := cls_range2 hv hpos
 have HR := Box'.mk HR0
 have EV := Box'.mk ev
 clear HR0 hv ev
 have F := Box'.mk (FrG.begin w (gA (cols : Int) (rows : Int) v) s)
 have U24 := Box'.mk Try.underlying24
 have S24 := Box'.mk s24g
 have U26 := Box'.mk Try.underlying26
 have S26 := Box'.mk s24
 have SB := Box'.mk (refBlank_any s)
 generalize hR : rowF c cols row = R at *
 have HRR := Box'.mk hR
 clear hR
 have HL := Box'.mk hl
 have HNN : c.length ≤ 262144 := by omega
 have i1 : (fr : Int) < (cols : Int) := by omega
 generalize shF R fr by0 s = X at *
 clear hB hG hS ec er hl hle hrl
 go_enter Try.func15, Try.ntmps15
 go_upto_region 1 with (fail)
 generalize (((w.alloc (.cells (gA (cols : Int) (rows : Int) v) 24)).alloc (.cells (sA s) 26)).alloc (.cells #[.int .i64 0, .int .i64 0, .slice none 0 0] 24)) = w1 at *
 have cs0 : w1.cell? ⟨w.heap.size + 1, 0, none⟩ = some (.int .i64 s.fg) := F.out.rs.cell 0
 have cs1 : w1.cell? ⟨w.heap.size + 1, 1, none⟩ = some (.int .i64 s.bg) := F.out.rs.cell 1
 have cs2 : w1.cell? ⟨w.heap.size + 1, 2, none⟩ = some (.bool s.b1) := F.out.rs.cell 2
 have cs3 : w1.cell? ⟨w.heap.size + 1, 3, none⟩ = some (.bool s.b2) := F.out.rs.cell 3
 have cs4 : w1.cell? ⟨w.heap.size + 1, 4, none⟩ = some (.bool s.b3) := F.out.rs.cell 4
 have cs5 : w1.cell? ⟨w.heap.size + 1, 5, none⟩ = some (.bool s.b4) := F.out.rs.cell 5
 have cs6 : w1.cell? ⟨w.heap.size + 1, 6, none⟩ = some (.bool s.b5) := F.out.rs.cell 6
 have cs7 : w1.cell? ⟨w.heap.size + 1, 7, none⟩ = some (.bool s.b7) := F.out.rs.cell 7
 have cs8 : w1.cell? ⟨w.heap.size + 1, 8, none⟩ = some (.bool s.b8) := F.out.rs.cell 8
 have cs9 : w1.cell? ⟨w.heap.size + 1, 9, none⟩ = some (.bool s.b9) := F.out.rs.cell 9
 have c0 : w1.cell? ⟨w.heap.size, 0, none⟩ = some (.int .i64 (cols : Int)) := F.out.rg.cell 0
 have c1 : w1.cell? ⟨w.heap.size, 1, none⟩ = some (.int .i64 (rows : Int)) := F.out.rg.cell 1
 clear c0 c1
 go_wp2_with (first
  | (refine wpList_load_row rfl 24 (.tmp 5) rfl w.heap.size rfl 24 (gA (cols : Int) (rows : Int) v) F.out.rg _ U24.out rfl 3 S24.out rfl ?_))
 refine (MB.out _ F.out.be).mono ?_
 rintro e w2 ⟨rfl, hb⟩
 replace F := Box'.mk (F.out.below hb)
 clear hb cs0 cs1 cs2 cs3 cs4 cs5 cs6 cs7 cs8 cs9 MB
 have c0 : w2.cell? ⟨w.heap.size, 0, none⟩ = some (.int .i64 (cols : Int)) := F.out.rg.cell 0
 go_wp2_with (first
  | (refine wpList_load_row rfl 24 (.tmp 5) rfl w.heap.size rfl 24 (gA (cols : Int) (rows : Int) v) F.out.rg _ U24.out rfl 3 S24.out rfl ?_))
 refine (CP.out _ F.out.be).mono ?_
 rintro e w3 ⟨b, cap, sp, rfl, hb0, hcap, hr, hb⟩
 have hsz := F.out.sz
 replace F := Box'.mk (F.out.below hb)
 have RM : Box' (Room (w3.alloc (.cells #[.int .i64 0, .int .i64 0, .slice none 0 0] 24)) w3.heap.size 24 3) := ⟨Room.new _ _ _ _ rfl⟩
 have F4 : Box' (FrG w (gA (cols : Int) (rows : Int) v) s ((w3.alloc (.cells #[.int .i64 0, .int .i64 0, .slice none 0 0] 24)).setRow w3.heap.size (gA (cols : Int) (rows : Int) (.slice (some ⟨b, 0, none⟩) c.length cap)))) := ⟨F.out.below (below_setRow (bR.alloc (Nat.le_refl _) _) (Nat.le_refl _) _)⟩
 have G4 : Box' (Row ((w3.alloc (.cells #[.int .i64 0, .int .i64 0, .slice none 0 0] 24)).setRow w3.heap.size (gA (cols : Int) (rows : Int) (.slice (some ⟨b, 0, none⟩) c.length cap))) w3.heap.size 24 (gA (cols : Int) (rows : Int) (.slice (some ⟨b, 0, none⟩) c.length cap))) := ⟨RM.out.setRow _⟩
 have C4 : Box' (RC ((w3.alloc (.cells #[.int .i64 0, .int .i64 0, .slice none 0 0] 24)).setRow w3.heap.size (gA (cols : Int) (rows : Int) (.slice (some ⟨b, 0, none⟩) c.length cap))) b c sp) := ⟨Row.setRowOther (Row.alloc hr _) _ _ (by have := hr.lt; omega)⟩
 have O := Box'.mk (gA_one (cols : Int) (rows : Int) (some ⟨b, 0, none⟩) c.length cap)
 have hqb : w3.heap.size ≠ b := by have := hr.lt; omega
 have hq3 : w.heap.size + 3 ≤ w3.heap.size := F.out.sz
 have hb3 : w.heap.size + 3 ≤ b := by omega
 clear hb hr hb0 CP hsz
 go_upto_region 4 with (first
  | (refine wpList_store_row rfl 24 (.tmp 12) (.tmp 31) rfl w3.heap.size rfl (gA (cols : Int) (rows : Int) (.slice (some ⟨b, 0, none⟩) c.length cap)) rfl 24 3 RM.out S24.out rfl O.out ?_))
 generalize ((w3.alloc (.cells #[.int .i64 0, .int .i64 0, .slice none 0 0] 24)).setRow w3.heap.size (gA (cols : Int) (rows : Int) (.slice (some ⟨b, 0, none⟩) c.length cap))) = w4 at *
 clear RM F
 generalize w3.heap.size = q at *
 have RO : Box' (∀ wx, Calls Try.prog 39 #[.agg (gA (cols : Int) (rows : Int) (.slice (some ⟨b, 0, none⟩) c.length cap)), .int .i64 (row : Int)] wx fun e w' => e = .returned (.slice (some ⟨b, cols * row * 15, none⟩) cols (cap - cols * row)) ∧ Below wx.heap.size wx w') := ⟨fun wx => by
  have := refRow_any cols row b 0 c.length cap (rows : Int) p1 p2 (by omega) (by rw [Nat.mul_add, Nat.mul_one]; omega) wx
  rw [Nat.zero_add] at this
  exact this⟩
 have RMD : Box' (∀ wx (r : List Cl), r.length = cols → RC wx b (lay c (cols * row) r) sp → Calls Try.prog 40 #[.slice (some ⟨b, cols * row * 15, none⟩) cols (cap - cols * row)] wx fun e w' => (∃ v, e = .returned v) ∧ RC w' b (lay c (cols * row) (mnd r)) sp ∧ Tc b wx w') := ⟨fun wx r h1 h2 => rmend_any b (cols * row) cols (cap - cols * row) c sp r wx p1 (by omega) (by omega) h1 hfit h2⟩
 go_wp2_with fail
 go_loopw [13] (fun u wr => ∃ i : Nat, u = .int .i64 (i : Int) ∧ fr ≤ i ∧ i ≤ cols ∧ Box' (FrG w (gA (cols : Int) (rows : Int) v) s wr) ∧ Box' (Row wr q 24 (gA (cols : Int) (rows : Int) (.slice (some ⟨b, 0, none⟩) c.length cap))) ∧ Box' (RC wr b (lay c (cols * row) (mix X R i)) sp)) (fun u _ => cols - (intOf u).toNat)
 case atStart => exact ⟨fr, rfl, Nat.le_refl _, by omega, F4, G4, ⟨by rw [XB.out, LY.out]; exact C4.out⟩⟩
 case round =>
  obtain ⟨i, rfl, hi1, hi2, FI, GI, CI⟩ := hrel
  clear F4 G4 C4 XB
  have c0 : wr.cell? ⟨w.heap.size, 0, none⟩ = some (.int .i64 (cols : Int)) := FI.out.rg.cell 0
  by_cases hlt : i < cols
  case neg =>
   have hic : i = cols := by omega
   rw [hic, XE.out] at CI
   clear hic
   go_wp2_with (first
    | (refine wpList_load_row rfl 24 (.tmp 12) rfl q rfl 24 (gA (cols : Int) (rows : Int) (.slice (some ⟨b, 0, none⟩) c.length cap)) GI.out _ U24.out rfl 3 S24.out rfl ?_))
   refine (RO.out _).mono ?_
   rintro e w6 ⟨rfl, hb⟩
   have F6 := Box'.mk (FI.out.below hb)
   have G6 := Box'.mk (GI.out.below hb GI.out.lt)
   have C6 := Box'.mk (Row.below CI.out hb (Row.lt CI.out))
   clear hb FI GI CI
   go_wp2_with fail
   refine (RMD.out _ _ XL.out C6.out).mono ?_
   rintro e w7 ⟨⟨v7, rfl⟩, C7, T7⟩
   have F7 := Box'.mk (F6.out.tc T7 hb3)
   have G7 := Box'.mk (T7.row G6.out hqb)
   have C7 := Box'.mk C7
   rw [PUT.out _ (by rw [mnd_len]; exact XL.out)] at C7
   clear T7 F6 G6 C6
   go_wp2_with (first
    | (refine wpList_load_row rfl 24 (.tmp 12) rfl q rfl 24 (gA (cols : Int) (rows : Int) (.slice (some ⟨b, 0, none⟩) c.length cap)) G7.out _ U24.out rfl 3 S24.out rfl ?_)
    | (refine wpList_store_row rfl 24 (.tmp 10) (.tmp 85) rfl (w.heap.size + 2) rfl (gA (cols : Int) (rows : Int) (.slice (some ⟨b, 0, none⟩) c.length cap)) rfl 24 3 F7.out.rr S24.out rfl O.out ?_))
   exact bodyPost_ret (results_two rfl _ (w.heap.size + 2) rfl _ rfl _ _ (F7.out.rr.setRow _) rfl) rfl ⟨b, cap, sp, rfl, by omega, hcap, Row.setRowOther C7.out _ _ (by omega), below_setRow F7.out.be (by omega) _⟩
  case pos =>
   have PO : Box' (cols * row * 15 + i * 15 = (cols * row + i) * 15) := ⟨by rw [Nat.add_mul]⟩
   have XV := Box'.mk (XC.out i hi1 hlt)
   have cs0 : wr.cell? ⟨w.heap.size + 1, 0, none⟩ = some (.int .i64 s.fg) := FI.out.rs.cell 0
   have cs1 : wr.cell? ⟨w.heap.size + 1, 1, none⟩ = some (.int .i64 s.bg) := FI.out.rs.cell 1
   have cs2 : wr.cell? ⟨w.heap.size + 1, 2, none⟩ = some (.bool s.b1) := FI.out.rs.cell 2
   have cs3 : wr.cell? ⟨w.heap.size + 1, 3, none⟩ = some (.bool s.b2) := FI.out.rs.cell 3
   have cs4 : wr.cell? ⟨w.heap.size + 1, 4, none⟩ = some (.bool s.b3) := FI.out.rs.cell 4
   have cs5 : wr.cell? ⟨w.heap.size + 1, 5, none⟩ = some (.bool s.b4) := FI.out.rs.cell 5
   have cs6 : wr.cell? ⟨w.heap.size + 1, 6, none⟩ = some (.bool s.b5) := FI.out.rs.cell 6
   have cs7 : wr.cell? ⟨w.heap.size + 1, 7, none⟩ = some (.bool s.b7) := FI.out.rs.cell 7
   have cs8 : wr.cell? ⟨w.heap.size + 1, 8, none⟩ = some (.bool s.b8) := FI.out.rs.cell 8
   have cs9 : wr.cell? ⟨w.heap.size + 1, 9, none⟩ = some (.bool s.b9) := FI.out.rs.cell 9
   go_wp2_with fail
   refine (SB.out _).mono ?_
   rintro e w5 ⟨rfl, hb⟩
   have F5 := Box'.mk (FI.out.below hb)
   have G5 := Box'.mk (GI.out.below hb GI.out.lt)
   have C5 := Box'.mk (Row.below CI.out hb (Row.lt CI.out))
   clear hb FI GI CI cs0 cs1 cs2 cs3 cs4 cs5 cs6 cs7 cs8 cs9 c0
   have RZ : Box' (RC (w5.alloc (.cells #[.int .i32 0, .int .i32 0, .int .i32 0, .int .i32 0, .int .u8 0, .int .i64 0, .int .i64 0, .bool false, .bool false, .bool false, .bool false, .bool false, .bool false, .bool false, .bool false] 49)) w5.heap.size [zC] []) := ⟨rc_one (Row.new w5 49 (cA zC))⟩
   have BW : Box' (Below w5.heap.size w5 ((w5.alloc (.cells #[.int .i32 0, .int .i32 0, .int .i32 0, .int .i32 0, .int .u8 0, .int .i64 0, .int .i64 0, .bool false, .bool false, .bool false, .bool false, .bool false, .bool false, .bool false, .bool false] 49)).setRow w5.heap.size (cLs ([zC].set 0 (bl s)) ++ []).toArray)) := ⟨below_setRow (bR.alloc (Nat.le_refl _) _) (Nat.le_refl _) _⟩
   have FI := Box'.mk (F5.out.below BW.out)
   have GI := Box'.mk (G5.out.below BW.out G5.out.lt)
   have CI := Box'.mk (Row.below C5.out BW.out (Row.lt C5.out))
   have R6 : Box' (RC ((w5.alloc (.cells #[.int .i32 0, .int .i32 0, .int .i32 0, .int .i32 0, .int .u8 0, .int .i64 0, .int .i64 0, .bool false, .bool false, .bool false, .bool false, .bool false, .bool false, .bool false, .bool false] 49)).setRow w5.heap.size (cLs ([zC].set 0 (bl s)) ++ []).toArray) w5.heap.size [bl s] []) := ⟨RZ.out.setRow _ _⟩
   have hp1 : w5.heap.size ≠ b := by have := Row.lt C5.out; omega
   have hp2 : w5.heap.size ≠ q := by have := G5.out.lt; omega
   have hp3 : w.heap.size + 3 ≤ w5.heap.size := F5.out.sz
   clear BW
   go_upto_region 8 with (first
    | (refine wpList_store_cell rfl (.tmp 14) (.tmp 40) rfl w5.heap.size [zC] [] 0 (bl s) rfl rfl RZ.out (by simp) ?_))
   generalize ((w5.alloc (.cells #[.int .i32 0, .int .i32 0, .int .i32 0, .int .i32 0, .int .u8 0, .int .i64 0, .int .i64 0, .bool false, .bool false, .bool false, .bool false, .bool false, .bool false, .bool false, .bool false] 49)).setRow w5.heap.size (cLs ([zC].set 0 (bl s)) ++ []).toArray) = w6 at *
   clear RZ F5 G5 C5
   generalize w5.heap.size = p at *
   have c0 : w6.cell? ⟨w.heap.size, 0, none⟩ = some (.int .i64 (cols : Int)) := FI.out.rg.cell 0
   by_cases q1 : by0 < -(cols : Int)
   case pos =>
    have YV : Box' (cat X i = bl s) := ⟨by rw [XV.out, if_neg (by omega)]⟩
    clear XV
    go_wp2_with fail
    refine wp_region_growg 6 (by kernel_rfl) 86 rfl (by kernel_rfl) (fun wa wb => Below wa.heap.size wa wb) (fun wa => FrG w (gA (cols : Int) (rows : Int) v) s wa ∧ Row wa q 24 (gA (cols : Int) (rows : Int) (.slice (some ⟨b, 0, none⟩) c.length cap)) ∧ RC wa b (lay c (cols * row) (mix X R i)) sp ∧ RC wa p [bl s] []) (fun kc wa v => match kc with
     | 0 => v = .agg (gA (cols : Int) (rows : Int) (.slice (some ⟨b, 0, none⟩) c.length cap))
     | 1 => v = .int .i64 (row : Int)
     | 2 => v = .slice (some ⟨b, cols * row * 15, none⟩) cols (cap - cols * row)
     | 3 => v = .int .i64 (i : Int)
     | 4 => v = .agg (cA (bl s))
     | 5 => v = .pointer (some ⟨b, cols * row * 15 + i * 15, none⟩)
     | _ => True) ?_ ?_ ?_ ?_ ?_ ?_
    ·intro i o' j b' hi hg wa v hC hV
     have hlt : i < 6 := by rcases Nat.lt_or_ge i 6 with q | q; exact q; rw [List.getElem?_eq_none (by simpa using q)] at hi; cases hi
     revert hi hg hV
     rcases (show i = 0 ∨ i = 1 ∨ i = 2 ∨ i = 3 ∨ i = 4 ∨ i = 5 by omega) with rfl | rfl | rfl | rfl | rfl | rfl <;>
      (intro hi hg hV; simp only [tkS, List.getElem?_cons_zero, List.getElem?_cons_succ, Option.some.injEq] at hi; subst hi; first | (cases hg; exact hV) | (cases hg))
    ·rintro wa wb hb ⟨a1, a2, a3, a4⟩; exact ⟨a1.below hb, a2.below hb a2.lt, Row.below a3 hb (Row.lt a3), Row.below a4 hb (Row.lt a4)⟩
    ·intro kc v wa wb hC1 hb h
     match kc, h with
     | 0, h => exact h
     | 1, h => exact h
     | 2, h => exact h
     | 3, h => exact h
     | 4, h => exact h
     | 5, h => exact h
     | kc + 6, h => trivial
    ·exact ⟨FI.out.drew, GI.out.below (bR.drew) GI.out.lt, Row.below CI.out (bR.drew) (Row.lt CI.out), Row.below R6.out (bR.drew) (Row.lt R6.out)⟩
    ·refine ⟨?_, ?_, ?_, ?_, ?_, ?_, trivial⟩
     ·intro f wq hC hd KK hK
      clear hd
      simp only [tkS, tkZ, setAll, siB, stS, stZ, Nat.zero_add, Nat.reduceAdd] at hK ⊢
      exact wp_load_row 24 (.tmp 12) rfl q rfl 24 (gA (cols : Int) (rows : Int) (.slice (some ⟨b, 0, none⟩) c.length cap)) hC.2.1 _ U24.out rfl 3 S24.out rfl (hK _ _ rfl bR)
     ·intro f wq hC hd KK hK
      clear hd
      simp only [tkS, tkZ, setAll, siB, stS, stZ, Nat.zero_add, Nat.reduceAdd] at hK ⊢
      refine wp_of_quiet rfl ?_
      go_big_quiet_step (fail)
      exact wpQuiet_nil (hK _ _ (rfl) bR)
     ·intro f wq hC hd KK hK
      have g0 : f 0 = .agg (gA (cols : Int) (rows : Int) (.slice (some ⟨b, 0, none⟩) c.length cap)) := hd 0 (by kernel_rfl)
      have g1 : f 1 = .int .i64 (row : Int) := hd 1 (by kernel_rfl)
      clear hd
      simp only [tkS, tkZ, setAll, siB, stS, stZ, Nat.zero_add, Nat.reduceAdd, g0, g1] at hK ⊢
      exact wp_call 39 #[.agg (gA (cols : Int) (rows : Int) (.slice (some ⟨b, 0, none⟩) c.length cap)), .int .i64 (row : Int)] (by simp [go_sem]) _ _ (RO.out wq) (fun w' hb => hK _ _ rfl hb)
     ·intro f wq hC hd KK hK
      clear hd
      simp only [tkS, tkZ, setAll, siB, stS, stZ, Nat.zero_add, Nat.reduceAdd] at hK ⊢
      refine wp_of_quiet rfl ?_
      go_big_quiet_step (fail)
      exact wpQuiet_nil (hK _ _ (rfl) bR)
     ·intro f wq hC hd KK hK
      clear hd
      simp only [tkS, tkZ, setAll, siB, stS, stZ, Nat.zero_add, Nat.reduceAdd] at hK ⊢
      exact wp_load_cell (.tmp 14) rfl p 0 (bl s) rfl (by have := rangeAt_cell (k := 0) hC.2.2.2 (by simp); simpa using this) (hK _ _ rfl bR)
     ·intro f wq hC hd KK hK
      have g2 : f 2 = .slice (some ⟨b, cols * row * 15, none⟩) cols (cap - cols * row) := hd 2 (by kernel_rfl)
      have g3 : f 3 = .int .i64 (i : Int) := hd 3 (by kernel_rfl)
      clear hd
      simp only [tkS, tkZ, setAll, siB, stS, stZ, Nat.zero_add, Nat.reduceAdd, g2, g3] at hK ⊢
      refine wp_of_quiet rfl ?_
      go_big_quiet_step (fail)
      exact wpQuiet_nil (hK _ _ (rfl) bR)
    ·intro f wz hC hv
     have p0 : f 0 = .agg (gA (cols : Int) (rows : Int) (.slice (some ⟨b, 0, none⟩) c.length cap)) := hv 0 (by decide)
     have p1 : f 1 = .int .i64 (row : Int) := hv 1 (by decide)
     have p2 : f 2 = .slice (some ⟨b, cols * row * 15, none⟩) cols (cap - cols * row) := hv 2 (by decide)
     have p3 : f 3 = .int .i64 (i : Int) := hv 3 (by decide)
     have p4 : f 4 = .agg (cA (bl s)) := hv 4 (by decide)
     have p5 : f 5 = .pointer (some ⟨b, cols * row * 15 + i * 15, none⟩) := hv 5 (by decide)
     simp only [tkS, tkZ, List.drop_succ_cons, List.drop_zero, setAll, siB, stS, stZ, Nat.zero_add, Nat.reduceAdd, p0, p1, p2, p3, p4, p5]
     clear hv p0 p1 p2 p3 p4 p5
     have C7 := Box'.mk hC.2.2.1
     have TT := Box'.mk ((Tc.refl b wz).setRow (cLs ((lay c (cols * row) (mix X R i)).set (cols * row + i) (bl s)) ++ sp).toArray)
     have F8 := Box'.mk (hC.1.tc TT.out hb3)
     have G8 := Box'.mk (TT.out.row hC.2.1 hqb)
     have C8 : Box' (RC (wz.setRow b (cLs ((lay c (cols * row) (mix X R i)).set (cols * row + i) (bl s)) ++ sp).toArray) b (lay c (cols * row) (mix X R (i + 1))) sp) := ⟨by
      have e := mix_set X R i (by rw [XL.out, RL.out]) (by rw [RL.out]; omega)
      rw [YV.out] at e
      rw [← e, ← lay_set c (cols * row) (mix X R i) i _ (by rw [mix_len _ _ _ (by rw [XL.out, RL.out]), RL.out]; omega) (by rw [mix_len _ _ _ (by rw [XL.out, RL.out]), RL.out]; exact hfit)]
      exact C7.out.setRow _ _⟩
     have LT : Box' (cols * row + i < (lay c (cols * row) (mix X R i)).length) := ⟨by rw [lay_len c (cols * row) _ (by rw [mix_len _ _ _ (by rw [XL.out, RL.out]), RL.out]; exact hfit)]; omega⟩
     clear hC TT FI GI CI
     go_wp2_with (first
      | (refine wpList_store_cell rfl (.tmp 80) (.tmp 79) rfl b (lay c (cols * row) (mix X R i)) sp (cols * row + i) (bl s) (congrArg (fun z => Value.pointer (some ⟨b, z, none⟩)) PO.out) rfl C7.out LT.out ?_))
     exact ⟨⟨i + 1, by go_num, by omega, by omega, F8, G8, C8⟩, by simp [intOf]; omega⟩
   case neg =>
    by_cases q2 : (cols : Int) < by0
    case pos =>
     have YV : Box' (cat X i = bl s) := ⟨by rw [XV.out, if_neg (by omega)]⟩
     clear XV
     go_wp2_with fail
     refine wp_region_growg 6 (by kernel_rfl) 86 rfl (by kernel_rfl) (fun wa wb => Below wa.heap.size wa wb) (fun wa => FrG w (gA (cols : Int) (rows : Int) v) s wa ∧ Row wa q 24 (gA (cols : Int) (rows : Int) (.slice (some ⟨b, 0, none⟩) c.length cap)) ∧ RC wa b (lay c (cols * row) (mix X R i)) sp ∧ RC wa p [bl s] []) (fun kc wa v => match kc with
      | 0 => v = .agg (gA (cols : Int) (rows : Int) (.slice (some ⟨b, 0, none⟩) c.length cap))
      | 1 => v = .int .i64 (row : Int)
      | 2 => v = .slice (some ⟨b, cols * row * 15, none⟩) cols (cap - cols * row)
      | 3 => v = .int .i64 (i : Int)
      | 4 => v = .agg (cA (bl s))
      | 5 => v = .pointer (some ⟨b, cols * row * 15 + i * 15, none⟩)
      | _ => True) ?_ ?_ ?_ ?_ ?_ ?_
     ·intro i o' j b' hi hg wa v hC hV
      have hlt : i < 6 := by rcases Nat.lt_or_ge i 6 with q | q; exact q; rw [List.getElem?_eq_none (by simpa using q)] at hi; cases hi
      revert hi hg hV
      rcases (show i = 0 ∨ i = 1 ∨ i = 2 ∨ i = 3 ∨ i = 4 ∨ i = 5 by omega) with rfl | rfl | rfl | rfl | rfl | rfl <;>
       (intro hi hg hV; simp only [tkS, List.getElem?_cons_zero, List.getElem?_cons_succ, Option.some.injEq] at hi; subst hi; first | (cases hg; exact hV) | (cases hg))
     ·rintro wa wb hb ⟨a1, a2, a3, a4⟩; exact ⟨a1.below hb, a2.below hb a2.lt, Row.below a3 hb (Row.lt a3), Row.below a4 hb (Row.lt a4)⟩
     ·intro kc v wa wb hC1 hb h
      match kc, h with
      | 0, h => exact h
      | 1, h => exact h
      | 2, h => exact h
      | 3, h => exact h
      | 4, h => exact h
      | 5, h => exact h
      | kc + 6, h => trivial
     ·exact ⟨FI.out.drew, GI.out.below (bR.drew) GI.out.lt, Row.below CI.out (bR.drew) (Row.lt CI.out), Row.below R6.out (bR.drew) (Row.lt R6.out)⟩
     ·refine ⟨?_, ?_, ?_, ?_, ?_, ?_, trivial⟩
      ·intro f wq hC hd KK hK
       clear hd
       simp only [tkS, tkZ, setAll, siB, stS, stZ, Nat.zero_add, Nat.reduceAdd] at hK ⊢
       exact wp_load_row 24 (.tmp 12) rfl q rfl 24 (gA (cols : Int) (rows : Int) (.slice (some ⟨b, 0, none⟩) c.length cap)) hC.2.1 _ U24.out rfl 3 S24.out rfl (hK _ _ rfl bR)
      ·intro f wq hC hd KK hK
       clear hd
       simp only [tkS, tkZ, setAll, siB, stS, stZ, Nat.zero_add, Nat.reduceAdd] at hK ⊢
       refine wp_of_quiet rfl ?_
       go_big_quiet_step (fail)
       exact wpQuiet_nil (hK _ _ (rfl) bR)
      ·intro f wq hC hd KK hK
       have g0 : f 0 = .agg (gA (cols : Int) (rows : Int) (.slice (some ⟨b, 0, none⟩) c.length cap)) := hd 0 (by kernel_rfl)
       have g1 : f 1 = .int .i64 (row : Int) := hd 1 (by kernel_rfl)
       clear hd
       simp only [tkS, tkZ, setAll, siB, stS, stZ, Nat.zero_add, Nat.reduceAdd, g0, g1] at hK ⊢
       exact wp_call 39 #[.agg (gA (cols : Int) (rows : Int) (.slice (some ⟨b, 0, none⟩) c.length cap)), .int .i64 (row : Int)] (by simp [go_sem]) _ _ (RO.out wq) (fun w' hb => hK _ _ rfl hb)
      ·intro f wq hC hd KK hK
       clear hd
       simp only [tkS, tkZ, setAll, siB, stS, stZ, Nat.zero_add, Nat.reduceAdd] at hK ⊢
       refine wp_of_quiet rfl ?_
       go_big_quiet_step (fail)
       exact wpQuiet_nil (hK _ _ (rfl) bR)
      ·intro f wq hC hd KK hK
       clear hd
       simp only [tkS, tkZ, setAll, siB, stS, stZ, Nat.zero_add, Nat.reduceAdd] at hK ⊢
       exact wp_load_cell (.tmp 14) rfl p 0 (bl s) rfl (by have := rangeAt_cell (k := 0) hC.2.2.2 (by simp); simpa using this) (hK _ _ rfl bR)
      ·intro f wq hC hd KK hK
       have g2 : f 2 = .slice (some ⟨b, cols * row * 15, none⟩) cols (cap - cols * row) := hd 2 (by kernel_rfl)
       have g3 : f 3 = .int .i64 (i : Int) := hd 3 (by kernel_rfl)
       clear hd
       simp only [tkS, tkZ, setAll, siB, stS, stZ, Nat.zero_add, Nat.reduceAdd, g2, g3] at hK ⊢
       refine wp_of_quiet rfl ?_
       go_big_quiet_step (fail)
       exact wpQuiet_nil (hK _ _ (rfl) bR)
     ·intro f wz hC hv
      have p0 : f 0 = .agg (gA (cols : Int) (rows : Int) (.slice (some ⟨b, 0, none⟩) c.length cap)) := hv 0 (by decide)
      have p1 : f 1 = .int .i64 (row : Int) := hv 1 (by decide)
      have p2 : f 2 = .slice (some ⟨b, cols * row * 15, none⟩) cols (cap - cols * row) := hv 2 (by decide)
      have p3 : f 3 = .int .i64 (i : Int) := hv 3 (by decide)
      have p4 : f 4 = .agg (cA (bl s)) := hv 4 (by decide)
      have p5 : f 5 = .pointer (some ⟨b, cols * row * 15 + i * 15, none⟩) := hv 5 (by decide)
      simp only [tkS, tkZ, List.drop_succ_cons, List.drop_zero, setAll, siB, stS, stZ, Nat.zero_add, Nat.reduceAdd, p0, p1, p2, p3, p4, p5]
      clear hv p0 p1 p2 p3 p4 p5
      have C7 := Box'.mk hC.2.2.1
      have TT := Box'.mk ((Tc.refl b wz).setRow (cLs ((lay c (cols * row) (mix X R i)).set (cols * row + i) (bl s)) ++ sp).toArray)
      have F8 := Box'.mk (hC.1.tc TT.out hb3)
      have G8 := Box'.mk (TT.out.row hC.2.1 hqb)
      have C8 : Box' (RC (wz.setRow b (cLs ((lay c (cols * row) (mix X R i)).set (cols * row + i) (bl s)) ++ sp).toArray) b (lay c (cols * row) (mix X R (i + 1))) sp) := ⟨by
       have e := mix_set X R i (by rw [XL.out, RL.out]) (by rw [RL.out]; omega)
       rw [YV.out] at e
       rw [← e, ← lay_set c (cols * row) (mix X R i) i _ (by rw [mix_len _ _ _ (by rw [XL.out, RL.out]), RL.out]; omega) (by rw [mix_len _ _ _ (by rw [XL.out, RL.out]), RL.out]; exact hfit)]
       exact C7.out.setRow _ _⟩
      have LT : Box' (cols * row + i < (lay c (cols * row) (mix X R i)).length) := ⟨by rw [lay_len c (cols * row) _ (by rw [mix_len _ _ _ (by rw [XL.out, RL.out]), RL.out]; exact hfit)]; omega⟩
      clear hC TT FI GI CI
      go_wp2_with (first
       | (refine wpList_store_cell rfl (.tmp 80) (.tmp 79) rfl b (lay c (cols * row) (mix X R i)) sp (cols * row + i) (bl s) (congrArg (fun z => Value.pointer (some ⟨b, z, none⟩)) PO.out) rfl C7.out LT.out ?_))
      exact ⟨⟨i + 1, by go_num, by omega, by omega, F8, G8, C8⟩, by simp [intOf]; omega⟩
    case neg =>
     by_cases q3 : (i : Int) - by0 < (fr : Int)
     case pos =>
      have YV : Box' (cat X i = bl s) := ⟨by rw [XV.out, if_neg (by omega)]⟩
      clear XV
      go_wp2_with fail
      refine wp_region_growg 6 (by kernel_rfl) 86 rfl (by kernel_rfl) (fun wa wb => Below wa.heap.size wa wb) (fun wa => FrG w (gA (cols : Int) (rows : Int) v) s wa ∧ Row wa q 24 (gA (cols : Int) (rows : Int) (.slice (some ⟨b, 0, none⟩) c.length cap)) ∧ RC wa b (lay c (cols * row) (mix X R i)) sp ∧ RC wa p [bl s] []) (fun kc wa v => match kc with
       | 0 => v = .agg (gA (cols : Int) (rows : Int) (.slice (some ⟨b, 0, none⟩) c.length cap))
       | 1 => v = .int .i64 (row : Int)
       | 2 => v = .slice (some ⟨b, cols * row * 15, none⟩) cols (cap - cols * row)
       | 3 => v = .int .i64 (i : Int)
       | 4 => v = .agg (cA (bl s))
       | 5 => v = .pointer (some ⟨b, cols * row * 15 + i * 15, none⟩)
       | _ => True) ?_ ?_ ?_ ?_ ?_ ?_
      ·intro i o' j b' hi hg wa v hC hV
       have hlt : i < 6 := by rcases Nat.lt_or_ge i 6 with q | q; exact q; rw [List.getElem?_eq_none (by simpa using q)] at hi; cases hi
       revert hi hg hV
       rcases (show i = 0 ∨ i = 1 ∨ i = 2 ∨ i = 3 ∨ i = 4 ∨ i = 5 by omega) with rfl | rfl | rfl | rfl | rfl | rfl <;>
        (intro hi hg hV; simp only [tkS, List.getElem?_cons_zero, List.getElem?_cons_succ, Option.some.injEq] at hi; subst hi; first | (cases hg; exact hV) | (cases hg))
      ·rintro wa wb hb ⟨a1, a2, a3, a4⟩; exact ⟨a1.below hb, a2.below hb a2.lt, Row.below a3 hb (Row.lt a3), Row.below a4 hb (Row.lt a4)⟩
      ·intro kc v wa wb hC1 hb h
       match kc, h with
       | 0, h => exact h
       | 1, h => exact h
       | 2, h => exact h
       | 3, h => exact h
       | 4, h => exact h
       | 5, h => exact h
       | kc + 6, h => trivial
      ·exact ⟨FI.out.drew, GI.out.below (bR.drew) GI.out.lt, Row.below CI.out (bR.drew) (Row.lt CI.out), Row.below R6.out (bR.drew) (Row.lt R6.out)⟩
      ·refine ⟨?_, ?_, ?_, ?_, ?_, ?_, trivial⟩
       ·intro f wq hC hd KK hK
        clear hd
        simp only [tkS, tkZ, setAll, siB, stS, stZ, Nat.zero_add, Nat.reduceAdd] at hK ⊢
        exact wp_load_row 24 (.tmp 12) rfl q rfl 24 (gA (cols : Int) (rows : Int) (.slice (some ⟨b, 0, none⟩) c.length cap)) hC.2.1 _ U24.out rfl 3 S24.out rfl (hK _ _ rfl bR)
       ·intro f wq hC hd KK hK
        clear hd
        simp only [tkS, tkZ, setAll, siB, stS, stZ, Nat.zero_add, Nat.reduceAdd] at hK ⊢
        refine wp_of_quiet rfl ?_
        go_big_quiet_step (fail)
        exact wpQuiet_nil (hK _ _ (rfl) bR)
       ·intro f wq hC hd KK hK
        have g0 : f 0 = .agg (gA (cols : Int) (rows : Int) (.slice (some ⟨b, 0, none⟩) c.length cap)) := hd 0 (by kernel_rfl)
        have g1 : f 1 = .int .i64 (row : Int) := hd 1 (by kernel_rfl)
        clear hd
        simp only [tkS, tkZ, setAll, siB, stS, stZ, Nat.zero_add, Nat.reduceAdd, g0, g1] at hK ⊢
        exact wp_call 39 #[.agg (gA (cols : Int) (rows : Int) (.slice (some ⟨b, 0, none⟩) c.length cap)), .int .i64 (row : Int)] (by simp [go_sem]) _ _ (RO.out wq) (fun w' hb => hK _ _ rfl hb)
       ·intro f wq hC hd KK hK
        clear hd
        simp only [tkS, tkZ, setAll, siB, stS, stZ, Nat.zero_add, Nat.reduceAdd] at hK ⊢
        refine wp_of_quiet rfl ?_
        go_big_quiet_step (fail)
        exact wpQuiet_nil (hK _ _ (rfl) bR)
       ·intro f wq hC hd KK hK
        clear hd
        simp only [tkS, tkZ, setAll, siB, stS, stZ, Nat.zero_add, Nat.reduceAdd] at hK ⊢
        exact wp_load_cell (.tmp 14) rfl p 0 (bl s) rfl (by have := rangeAt_cell (k := 0) hC.2.2.2 (by simp); simpa using this) (hK _ _ rfl bR)
       ·intro f wq hC hd KK hK
        have g2 : f 2 = .slice (some ⟨b, cols * row * 15, none⟩) cols (cap - cols * row) := hd 2 (by kernel_rfl)
        have g3 : f 3 = .int .i64 (i : Int) := hd 3 (by kernel_rfl)
        clear hd
        simp only [tkS, tkZ, setAll, siB, stS, stZ, Nat.zero_add, Nat.reduceAdd, g2, g3] at hK ⊢
        refine wp_of_quiet rfl ?_
        go_big_quiet_step (fail)
        exact wpQuiet_nil (hK _ _ (rfl) bR)
      ·intro f wz hC hv
       have p0 : f 0 = .agg (gA (cols : Int) (rows : Int) (.slice (some ⟨b, 0, none⟩) c.length cap)) := hv 0 (by decide)
       have p1 : f 1 = .int .i64 (row : Int) := hv 1 (by decide)
       have p2 : f 2 = .slice (some ⟨b, cols * row * 15, none⟩) cols (cap - cols * row) := hv 2 (by decide)
       have p3 : f 3 = .int .i64 (i : Int) := hv 3 (by decide)
       have p4 : f 4 = .agg (cA (bl s)) := hv 4 (by decide)
       have p5 : f 5 = .pointer (some ⟨b, cols * row * 15 + i * 15, none⟩) := hv 5 (by decide)
       simp only [tkS, tkZ, List.drop_succ_cons, List.drop_zero, setAll, siB, stS, stZ, Nat.zero_add, Nat.reduceAdd, p0, p1, p2, p3, p4, p5]
       clear hv p0 p1 p2 p3 p4 p5
       have C7 := Box'.mk hC.2.2.1
       have TT := Box'.mk ((Tc.refl b wz).setRow (cLs ((lay c (cols * row) (mix X R i)).set (cols * row + i) (bl s)) ++ sp).toArray)
       have F8 := Box'.mk (hC.1.tc TT.out hb3)
       have G8 := Box'.mk (TT.out.row hC.2.1 hqb)
       have C8 : Box' (RC (wz.setRow b (cLs ((lay c (cols * row) (mix X R i)).set (cols * row + i) (bl s)) ++ sp).toArray) b (lay c (cols * row) (mix X R (i + 1))) sp) := ⟨by
        have e := mix_set X R i (by rw [XL.out, RL.out]) (by rw [RL.out]; omega)
        rw [YV.out] at e
        rw [← e, ← lay_set c (cols * row) (mix X R i) i _ (by rw [mix_len _ _ _ (by rw [XL.out, RL.out]), RL.out]; omega) (by rw [mix_len _ _ _ (by rw [XL.out, RL.out]), RL.out]; exact hfit)]
        exact C7.out.setRow _ _⟩
       have LT : Box' (cols * row + i < (lay c (cols * row) (mix X R i)).length) := ⟨by rw [lay_len c (cols * row) _ (by rw [mix_len _ _ _ (by rw [XL.out, RL.out]), RL.out]; exact hfit)]; omega⟩
       clear hC TT FI GI CI
       go_wp2_with (first
        | (refine wpList_store_cell rfl (.tmp 80) (.tmp 79) rfl b (lay c (cols * row) (mix X R i)) sp (cols * row + i) (bl s) (congrArg (fun z => Value.pointer (some ⟨b, z, none⟩)) PO.out) rfl C7.out LT.out ?_))
       exact ⟨⟨i + 1, by go_num, by omega, by omega, F8, G8, C8⟩, by simp [intOf]; omega⟩
     case neg =>
      by_cases q4 : (cols : Int) ≤ (i : Int) - by0
      case pos =>
       have YV : Box' (cat X i = bl s) := ⟨by rw [XV.out, if_neg (by omega)]⟩
       clear XV
       go_wp2_with fail
       refine wp_region_growg 6 (by kernel_rfl) 86 rfl (by kernel_rfl) (fun wa wb => Below wa.heap.size wa wb) (fun wa => FrG w (gA (cols : Int) (rows : Int) v) s wa ∧ Row wa q 24 (gA (cols : Int) (rows : Int) (.slice (some ⟨b, 0, none⟩) c.length cap)) ∧ RC wa b (lay c (cols * row) (mix X R i)) sp ∧ RC wa p [bl s] []) (fun kc wa v => match kc with
        | 0 => v = .agg (gA (cols : Int) (rows : Int) (.slice (some ⟨b, 0, none⟩) c.length cap))
        | 1 => v = .int .i64 (row : Int)
        | 2 => v = .slice (some ⟨b, cols * row * 15, none⟩) cols (cap - cols * row)
        | 3 => v = .int .i64 (i : Int)
        | 4 => v = .agg (cA (bl s))
        | 5 => v = .pointer (some ⟨b, cols * row * 15 + i * 15, none⟩)
        | _ => True) ?_ ?_ ?_ ?_ ?_ ?_
       ·intro i o' j b' hi hg wa v hC hV
        have hlt : i < 6 := by rcases Nat.lt_or_ge i 6 with q | q; exact q; rw [List.getElem?_eq_none (by simpa using q)] at hi; cases hi
        revert hi hg hV
        rcases (show i = 0 ∨ i = 1 ∨ i = 2 ∨ i = 3 ∨ i = 4 ∨ i = 5 by omega) with rfl | rfl | rfl | rfl | rfl | rfl <;>
         (intro hi hg hV; simp only [tkS, List.getElem?_cons_zero, List.getElem?_cons_succ, Option.some.injEq] at hi; subst hi; first | (cases hg; exact hV) | (cases hg))
       ·rintro wa wb hb ⟨a1, a2, a3, a4⟩; exact ⟨a1.below hb, a2.below hb a2.lt, Row.below a3 hb (Row.lt a3), Row.below a4 hb (Row.lt a4)⟩
       ·intro kc v wa wb hC1 hb h
        match kc, h with
        | 0, h => exact h
        | 1, h => exact h
        | 2, h => exact h
        | 3, h => exact h
        | 4, h => exact h
        | 5, h => exact h
        | kc + 6, h => trivial
       ·exact ⟨FI.out.drew, GI.out.below (bR.drew) GI.out.lt, Row.below CI.out (bR.drew) (Row.lt CI.out), Row.below R6.out (bR.drew) (Row.lt R6.out)⟩
       ·refine ⟨?_, ?_, ?_, ?_, ?_, ?_, trivial⟩
        ·intro f wq hC hd KK hK
         clear hd
         simp only [tkS, tkZ, setAll, siB, stS, stZ, Nat.zero_add, Nat.reduceAdd] at hK ⊢
         exact wp_load_row 24 (.tmp 12) rfl q rfl 24 (gA (cols : Int) (rows : Int) (.slice (some ⟨b, 0, none⟩) c.length cap)) hC.2.1 _ U24.out rfl 3 S24.out rfl (hK _ _ rfl bR)
        ·intro f wq hC hd KK hK
         clear hd
         simp only [tkS, tkZ, setAll, siB, stS, stZ, Nat.zero_add, Nat.reduceAdd] at hK ⊢
         refine wp_of_quiet rfl ?_
         go_big_quiet_step (fail)
         exact wpQuiet_nil (hK _ _ (rfl) bR)
        ·intro f wq hC hd KK hK
         have g0 : f 0 = .agg (gA (cols : Int) (rows : Int) (.slice (some ⟨b, 0, none⟩) c.length cap)) := hd 0 (by kernel_rfl)
         have g1 : f 1 = .int .i64 (row : Int) := hd 1 (by kernel_rfl)
         clear hd
         simp only [tkS, tkZ, setAll, siB, stS, stZ, Nat.zero_add, Nat.reduceAdd, g0, g1] at hK ⊢
         exact wp_call 39 #[.agg (gA (cols : Int) (rows : Int) (.slice (some ⟨b, 0, none⟩) c.length cap)), .int .i64 (row : Int)] (by simp [go_sem]) _ _ (RO.out wq) (fun w' hb => hK _ _ rfl hb)
        ·intro f wq hC hd KK hK
         clear hd
         simp only [tkS, tkZ, setAll, siB, stS, stZ, Nat.zero_add, Nat.reduceAdd] at hK ⊢
         refine wp_of_quiet rfl ?_
         go_big_quiet_step (fail)
         exact wpQuiet_nil (hK _ _ (rfl) bR)
        ·intro f wq hC hd KK hK
         clear hd
         simp only [tkS, tkZ, setAll, siB, stS, stZ, Nat.zero_add, Nat.reduceAdd] at hK ⊢
         exact wp_load_cell (.tmp 14) rfl p 0 (bl s) rfl (by have := rangeAt_cell (k := 0) hC.2.2.2 (by simp); simpa using this) (hK _ _ rfl bR)
        ·intro f wq hC hd KK hK
         have g2 : f 2 = .slice (some ⟨b, cols * row * 15, none⟩) cols (cap - cols * row) := hd 2 (by kernel_rfl)
         have g3 : f 3 = .int .i64 (i : Int) := hd 3 (by kernel_rfl)
         clear hd
         simp only [tkS, tkZ, setAll, siB, stS, stZ, Nat.zero_add, Nat.reduceAdd, g2, g3] at hK ⊢
         refine wp_of_quiet rfl ?_
         go_big_quiet_step (fail)
         exact wpQuiet_nil (hK _ _ (rfl) bR)
       ·intro f wz hC hv
        have p0 : f 0 = .agg (gA (cols : Int) (rows : Int) (.slice (some ⟨b, 0, none⟩) c.length cap)) := hv 0 (by decide)
        have p1 : f 1 = .int .i64 (row : Int) := hv 1 (by decide)
        have p2 : f 2 = .slice (some ⟨b, cols * row * 15, none⟩) cols (cap - cols * row) := hv 2 (by decide)
        have p3 : f 3 = .int .i64 (i : Int) := hv 3 (by decide)
        have p4 : f 4 = .agg (cA (bl s)) := hv 4 (by decide)
        have p5 : f 5 = .pointer (some ⟨b, cols * row * 15 + i * 15, none⟩) := hv 5 (by decide)
        simp only [tkS, tkZ, List.drop_succ_cons, List.drop_zero, setAll, siB, stS, stZ, Nat.zero_add, Nat.reduceAdd, p0, p1, p2, p3, p4, p5]
        clear hv p0 p1 p2 p3 p4 p5
        have C7 := Box'.mk hC.2.2.1
        have TT := Box'.mk ((Tc.refl b wz).setRow (cLs ((lay c (cols * row) (mix X R i)).set (cols * row + i) (bl s)) ++ sp).toArray)
        have F8 := Box'.mk (hC.1.tc TT.out hb3)
        have G8 := Box'.mk (TT.out.row hC.2.1 hqb)
        have C8 : Box' (RC (wz.setRow b (cLs ((lay c (cols * row) (mix X R i)).set (cols * row + i) (bl s)) ++ sp).toArray) b (lay c (cols * row) (mix X R (i + 1))) sp) := ⟨by
         have e := mix_set X R i (by rw [XL.out, RL.out]) (by rw [RL.out]; omega)
         rw [YV.out] at e
         rw [← e, ← lay_set c (cols * row) (mix X R i) i _ (by rw [mix_len _ _ _ (by rw [XL.out, RL.out]), RL.out]; omega) (by rw [mix_len _ _ _ (by rw [XL.out, RL.out]), RL.out]; exact hfit)]
         exact C7.out.setRow _ _⟩
        have LT : Box' (cols * row + i < (lay c (cols * row) (mix X R i)).length) := ⟨by rw [lay_len c (cols * row) _ (by rw [mix_len _ _ _ (by rw [XL.out, RL.out]), RL.out]; exact hfit)]; omega⟩
        clear hC TT FI GI CI
        go_wp2_with (first
         | (refine wpList_store_cell rfl (.tmp 80) (.tmp 79) rfl b (lay c (cols * row) (mix X R i)) sp (cols * row + i) (bl s) (congrArg (fun z => Value.pointer (some ⟨b, z, none⟩)) PO.out) rfl C7.out LT.out ?_))
        exact ⟨⟨i + 1, by go_num, by omega, by omega, F8, G8, C8⟩, by simp [intOf]; omega⟩
      case neg =>
       obtain ⟨u, hu⟩ : ∃ u : Nat, (i : Int) - by0 = (u : Int) := ⟨((i : Int) - by0).toNat, by omega⟩
       have hu1 : u < cols := by omega
       have YV : Box' (cat X i = cat c (row * cols + u)) := ⟨by rw [XV.out, if_pos (by omega), hu]; exact RC0.out u hu1⟩
       have HU : row * cols + u < c.length := by rw [RB.out]; omega
       have RO2 : Box' (∀ wx, Calls Try.prog 39 #[.agg (gA (cols : Int) (rows : Int) v), .int .i64 (row : Int)] wx fun e w' => e = .returned (.slice (some ⟨gb, go' + cols * row * 15, none⟩) cols (gc - cols * row)) ∧ Below wx.heap.size wx w') := ⟨fun wx => by
        rw [EV.out]
        exact refRow_any cols row gb go' c.length gc (rows : Int) p1 p2 (by omega) (by rw [Nat.mul_add, Nat.mul_one]; omega) wx⟩
       have RG : Box' (∀ wx, Below w.heap.size w wx → wx.rangeAt gb (go' + cols * row * 15 + u * 15) (cA (cat c (row * cols + u))).toList) := ⟨fun wx hb => by
        have := HR.out (row * cols + u) wx HU hb
        rw [show go' + cols * row * 15 + u * 15 = go' + (row * cols + u) * 15 by rw [RB.out, Nat.add_mul]; omega]
        exact this⟩
       have HU2 := Box'.mk hu
       clear XV HU HR
       go_wp2_with (first
        | (refine wpList_load_row rfl 24 (.tmp 5) rfl w.heap.size rfl 24 (gA (cols : Int) (rows : Int) v) FI.out.rg _ U24.out rfl 3 S24.out rfl ?_))
       refine (RO2.out _).mono ?_
       rintro e w7 ⟨rfl, hb⟩
       have F7 := Box'.mk (FI.out.below hb)
       have G7 := Box'.mk (GI.out.below hb GI.out.lt)
       have C7 := Box'.mk (Row.below CI.out hb (Row.lt CI.out))
       have R7 : Box' (RC w7 p [bl s] []) := ⟨Row.below R6.out hb (Row.lt R6.out)⟩
       have TP := Box'.mk ((Tc.refl p w7).setRow (cLs ([bl s].set 0 (cat c (row * cols + u))) ++ []).toArray)
       clear hb FI GI CI R6 RO2 c0
       have FI := Box'.mk (F7.out.tc TP.out hp3)
       have GI := Box'.mk (TP.out.row G7.out (Ne.symm hp2))
       have CI := Box'.mk (TP.out.rc C7.out (Ne.symm hp1))
       have R6 : Box' (RC (w7.setRow p (cLs ([bl s].set 0 (cat c (row * cols + u))) ++ []).toArray) p [cat c (row * cols + u)] []) := ⟨R7.out.setRow _ _⟩
       go_upto_region 10 with (first
        | (refine wpList_load_cell rfl (.tmp 73) rfl gb (go' + cols * row * 15 + u * 15) (cat c (row * cols + u)) rfl (RG.out _ F7.out.be) ?_)
        | (refine wpList_store_cell rfl (.tmp 14) (.tmp 74) rfl p [bl s] [] 0 (cat c (row * cols + u)) rfl rfl R7.out (by simp) ?_))
       generalize (w7.setRow p (cLs ([bl s].set 0 (cat c (row * cols + u))) ++ []).toArray) = w8 at *
       clear TP F7 G7 C7 R7
       refine wp_region_growg 6 (by kernel_rfl) 86 rfl (by kernel_rfl) (fun wa wb => Below wa.heap.size wa wb) (fun wa => FrG w (gA (cols : Int) (rows : Int) v) s wa ∧ Row wa q 24 (gA (cols : Int) (rows : Int) (.slice (some ⟨b, 0, none⟩) c.length cap)) ∧ RC wa b (lay c (cols * row) (mix X R i)) sp ∧ RC wa p [cat c (row * cols + u)] []) (fun kc wa v => match kc with
        | 0 => v = .agg (gA (cols : Int) (rows : Int) (.slice (some ⟨b, 0, none⟩) c.length cap))
        | 1 => v = .int .i64 (row : Int)
        | 2 => v = .slice (some ⟨b, cols * row * 15, none⟩) cols (cap - cols * row)
        | 3 => v = .int .i64 (i : Int)
        | 4 => v = .agg (cA (cat c (row * cols + u)))
        | 5 => v = .pointer (some ⟨b, cols * row * 15 + i * 15, none⟩)
        | _ => True) ?_ ?_ ?_ ?_ ?_ ?_
       ·intro i o' j b' hi hg wa v hC hV
        have hlt : i < 6 := by rcases Nat.lt_or_ge i 6 with q | q; exact q; rw [List.getElem?_eq_none (by simpa using q)] at hi; cases hi
        revert hi hg hV
        rcases (show i = 0 ∨ i = 1 ∨ i = 2 ∨ i = 3 ∨ i = 4 ∨ i = 5 by omega) with rfl | rfl | rfl | rfl | rfl | rfl <;>
         (intro hi hg hV; simp only [tkS, List.getElem?_cons_zero, List.getElem?_cons_succ, Option.some.injEq] at hi; subst hi; first | (cases hg; exact hV) | (cases hg))
       ·rintro wa wb hb ⟨a1, a2, a3, a4⟩; exact ⟨a1.below hb, a2.below hb a2.lt, Row.below a3 hb (Row.lt a3), Row.below a4 hb (Row.lt a4)⟩
       ·intro kc v wa wb hC1 hb h
        match kc, h with
        | 0, h => exact h
        | 1, h => exact h
        | 2, h => exact h
        | 3, h => exact h
        | 4, h => exact h
        | 5, h => exact h
        | kc + 6, h => trivial
       ·exact ⟨FI.out.drew, GI.out.below (bR.drew) GI.out.lt, Row.below CI.out (bR.drew) (Row.lt CI.out), Row.below R6.out (bR.drew) (Row.lt R6.out)⟩
       ·refine ⟨?_, ?_, ?_, ?_, ?_, ?_, trivial⟩
        ·intro f wq hC hd KK hK
         clear hd
         simp only [tkS, tkZ, setAll, siB, stS, stZ, Nat.zero_add, Nat.reduceAdd] at hK ⊢
         exact wp_load_row 24 (.tmp 12) rfl q rfl 24 (gA (cols : Int) (rows : Int) (.slice (some ⟨b, 0, none⟩) c.length cap)) hC.2.1 _ U24.out rfl 3 S24.out rfl (hK _ _ rfl bR)
        ·intro f wq hC hd KK hK
         clear hd
         simp only [tkS, tkZ, setAll, siB, stS, stZ, Nat.zero_add, Nat.reduceAdd] at hK ⊢
         refine wp_of_quiet rfl ?_
         go_big_quiet_step (fail)
         exact wpQuiet_nil (hK _ _ (rfl) bR)
        ·intro f wq hC hd KK hK
         have g0 : f 0 = .agg (gA (cols : Int) (rows : Int) (.slice (some ⟨b, 0, none⟩) c.length cap)) := hd 0 (by kernel_rfl)
         have g1 : f 1 = .int .i64 (row : Int) := hd 1 (by kernel_rfl)
         clear hd
         simp only [tkS, tkZ, setAll, siB, stS, stZ, Nat.zero_add, Nat.reduceAdd, g0, g1] at hK ⊢
         exact wp_call 39 #[.agg (gA (cols : Int) (rows : Int) (.slice (some ⟨b, 0, none⟩) c.length cap)), .int .i64 (row : Int)] (by simp [go_sem]) _ _ (RO.out wq) (fun w' hb => hK _ _ rfl hb)
        ·intro f wq hC hd KK hK
         clear hd
         simp only [tkS, tkZ, setAll, siB, stS, stZ, Nat.zero_add, Nat.reduceAdd] at hK ⊢
         refine wp_of_quiet rfl ?_
         go_big_quiet_step (fail)
         exact wpQuiet_nil (hK _ _ (rfl) bR)
        ·intro f wq hC hd KK hK
         clear hd
         simp only [tkS, tkZ, setAll, siB, stS, stZ, Nat.zero_add, Nat.reduceAdd] at hK ⊢
         exact wp_load_cell (.tmp 14) rfl p 0 (cat c (row * cols + u)) rfl (by have := rangeAt_cell (k := 0) hC.2.2.2 (by simp); simpa using this) (hK _ _ rfl bR)
        ·intro f wq hC hd KK hK
         have g2 : f 2 = .slice (some ⟨b, cols * row * 15, none⟩) cols (cap - cols * row) := hd 2 (by kernel_rfl)
         have g3 : f 3 = .int .i64 (i : Int) := hd 3 (by kernel_rfl)
         clear hd
         simp only [tkS, tkZ, setAll, siB, stS, stZ, Nat.zero_add, Nat.reduceAdd, g2, g3] at hK ⊢
         refine wp_of_quiet rfl ?_
         go_big_quiet_step (fail)
         exact wpQuiet_nil (hK _ _ (rfl) bR)
       ·intro f wz hC hv
        have p0 : f 0 = .agg (gA (cols : Int) (rows : Int) (.slice (some ⟨b, 0, none⟩) c.length cap)) := hv 0 (by decide)
        have p1 : f 1 = .int .i64 (row : Int) := hv 1 (by decide)
        have p2 : f 2 = .slice (some ⟨b, cols * row * 15, none⟩) cols (cap - cols * row) := hv 2 (by decide)
        have p3 : f 3 = .int .i64 (i : Int) := hv 3 (by decide)
        have p4 : f 4 = .agg (cA (cat c (row * cols + u))) := hv 4 (by decide)
        have p5 : f 5 = .pointer (some ⟨b, cols * row * 15 + i * 15, none⟩) := hv 5 (by decide)
        simp only [tkS, tkZ, List.drop_succ_cons, List.drop_zero, setAll, siB, stS, stZ, Nat.zero_add, Nat.reduceAdd, p0, p1, p2, p3, p4, p5]
        clear hv p0 p1 p2 p3 p4 p5
        have C7 := Box'.mk hC.2.2.1
        have TT := Box'.mk ((Tc.refl b wz).setRow (cLs ((lay c (cols * row) (mix X R i)).set (cols * row + i) (cat c (row * cols + u))) ++ sp).toArray)
        have F8 := Box'.mk (hC.1.tc TT.out hb3)
        have G8 := Box'.mk (TT.out.row hC.2.1 hqb)
        have C8 : Box' (RC (wz.setRow b (cLs ((lay c (cols * row) (mix X R i)).set (cols * row + i) (cat c (row * cols + u))) ++ sp).toArray) b (lay c (cols * row) (mix X R (i + 1))) sp) := ⟨by
         have e := mix_set X R i (by rw [XL.out, RL.out]) (by rw [RL.out]; omega)
         rw [YV.out] at e
         rw [← e, ← lay_set c (cols * row) (mix X R i) i _ (by rw [mix_len _ _ _ (by rw [XL.out, RL.out]), RL.out]; omega) (by rw [mix_len _ _ _ (by rw [XL.out, RL.out]), RL.out]; exact hfit)]
         exact C7.out.setRow _ _⟩
        have LT : Box' (cols * row + i < (lay c (cols * row) (mix X R i)).length) := ⟨by rw [lay_len c (cols * row) _ (by rw [mix_len _ _ _ (by rw [XL.out, RL.out]), RL.out]; exact hfit)]; omega⟩
        clear hC TT FI GI CI
        go_wp2_with (first
         | (refine wpList_store_cell rfl (.tmp 80) (.tmp 79) rfl b (lay c (cols * row) (mix X R i)) sp (cols * row + i) (cat c (row * cols + u)) (congrArg (fun z => Value.pointer (some ⟨b, z, none⟩)) PO.out) rfl C7.out LT.out ?_))
        exact ⟨⟨i + 1, by go_num, by omega, by omega, F8, G8, C8⟩, by simp [intOf]; omega⟩
end Go.Proofs.Ytnbonlkmadmpcaa
namespace Go.Proofs.Ytnbonlkmadmpcaa
open Go.RowKit Go.BigFrame
set_option linter.unusedVariables false
set_option linter.unusedSimpArgs false
set_option maxRecDepth 100000 in
set_option maxHeartbeats 16000000 in
theorem rwrite_ok (cols rows : Nat) (v : Value) (c : List Cl) (row col : Nat) (s : St) (al : Option Addr) (cl : Nat) (l : List Cl) (w : World) (hv : Cls w.heap.size w v c) (hG : mayG (cols : Int) (rows : Int) c = true) (hS : mayS s = true) (h1 : row < rows) (h2 : col < cols) (hn : l.length ≤ 140737488355328) (hvl : Cls w.heap.size w (.slice al l.length cl) l) (hL : l.all mayC = true) :
  Calls Try.prog 11 #[.agg (gA (cols : Int) (rows : Int) v), .int .i64 (row : Int), .int .i64 (col : Int), .agg (sA s), .slice al l.length cl] w fun e w' => ∃ b cap sp, e = .returned (gOk (cols : Int) (rows : Int) (.slice (some ⟨b, 0, none⟩) c.length cap)) ∧ w.heap.size ≤ b ∧ c.length ≤ cap ∧ RC w' b (putRow c cols row (mnd (wrF (rowF c cols row) col l))) sp ∧ Below w.heap.size w w' := by
 obtain ⟨cols', rows', ec, er, p1, p2, p3, p4, hl⟩ := mayG_dest hG
 obtain rfl : cols = cols' := by omega
 obtain rfl : rows = rows' := by omega
 have hle : cols * rows ≤ 512 * 512 := Nat.mul_le_mul p2 p4
 have hpos : 0 < c.length := by rw [hl]; exact Nat.mul_pos (by omega) (by omega)
 have hB : badF (cols : Int) (rows : Int) c s (row : Int) = false := by unfold badF; rw [hG, hS]; simp; omega
 have MB : Box' (∀ wx, Below w.heap.size w wx → Calls Try.prog 37 #[.agg (gA (cols : Int) (rows : Int) v), .agg (sA s), .int .i64 (row : Int)] wx fun e w' => e = .returned (.bool false) ∧ Below wx.heap.size wx w') := ⟨fun wx hb => by
  have := rbad_any (cols : Int) (rows : Int) v c s (row : Int) wx ((hv.below hb (Nat.le_refl _)).up hb.size)
  rw [hB] at this
  exact this⟩
 have CP : Box' (∀ wx, Below w.heap.size w wx → Calls Try.prog 25 #[.agg (gA (cols : Int) (rows : Int) v)] wx fun e w' => ∃ b cap sp, e = .returned (.agg (gA (cols : Int) (rows : Int) (.slice (some ⟨b, 0, none⟩) c.length cap))) ∧ wx.heap.size ≤ b ∧ c.length ≤ cap ∧ RC w' b c sp ∧ Below wx.heap.size wx w') := ⟨fun wx hb => (rcopy_any (cols : Int) (rows : Int) v c wx ((hv.below hb (Nat.le_refl _)).up hb.size) (fun e => by rw [e] at hpos; cases hpos) (by omega)).mono (by
   rintro e w' ⟨v', rfl, ho, hb'⟩
   obtain ⟨g, cap, sp, rfl, hg, hcap, hr⟩ := ho.row hpos
   exact ⟨g, cap, sp, rfl, hg, hcap, hr, hb'⟩)⟩
 have hfit : cols * row + cols ≤ c.length := by rw [hl, Nat.mul_comm cols row]; exact fits (by omega)
 have hrl : (rowF c cols row).length = cols := rowF_len c cols row (by rw [Nat.mul_comm]; exact hfit)
 have XL : Box' ((wrF (rowF c cols row) col l).length = cols) := ⟨by rw [wrF_len _ _ _ (by omega)]; exact hrl⟩
 have HML : Box' (cols * row + col + (l.take (cols - col)).length ≤ c.length) := ⟨by rw [List.length_take]; omega⟩
 have HE : Box' (lay c (cols * row + col) (l.take (cols - col)) = lay c (cols * row) (wrF (rowF c cols row) col l)) := ⟨by
  have hm2 : (l.take (cols - col)).length ≤ cols - col := by rw [List.length_take]; omega
  rw [lay_row c cols row col _ (by omega) (by omega), ← wrF_lay (rowF c cols row) col l (by omega), hrl]⟩
 have LY : Box' (lay c (cols * row) (rowF c cols row) = c) := ⟨lay_own c cols row hfit⟩
 have PUT : Box' (∀ r : List Cl, r.length = cols → lay c (cols * row) r = putRow c cols row r) := ⟨fun r h => lay_put c cols row r h⟩
 have RL := Box'.mk hrl
 have RB : Box' (row * cols = cols * row) := ⟨Nat.mul_comm _ _⟩
 obtain ⟨gb, go', gc, ev, hgc, HR0⟩ := cls_range2 hv hpos
 have HR := Box'.mk HR0
 have EV := Box'.mk ev
 clear HR0 hv ev
 have F := Box'.mk (FrG.begin w (gA (cols : Int) (rows : Int) v) s)
 have U24 := Box'.mk Try.underlying24
 have S24 := Box'.mk s24g
 have U26 := Box'.mk Try.underlying26
 have S26 := Box'.mk s24
 have SB := Box'.mk (refBlank_any s)
 generalize hR : rowF c cols row = R at *
 have HRR := Box'.mk hR
 clear hR
 have HL := Box'.mk hl
 have HNN : c.length ≤ 262144 := by omega
 have i1 : (col : Int) < (cols : Int) := by omega
 have i3 : ¬ cols ≤ col := by omega
 have i2 : ¬ (col : Int) < 0 := by omega
 have i4 : decide (cols ≤ col) = false := by simpa using i3
 have i5 : decide ((col : Int) < 0) = false := by simp
 have ML : Box' (∀ k, k < l.length → mayC (cat l k) = true) := ⟨fun k hk => (cat_all l mayC).1 hL k hk⟩
 generalize hX : wrF R col l = X at *
 have VL : Box' (∀ wx, Below w.heap.size w wx → Cls w.heap.size wx (.slice al l.length cl) l) := ⟨fun wx hb => hvl.below hb (Nat.le_refl _)⟩
 have LS : Box' (∀ k, k < l.length → ∃ lb lo, al = some ⟨lb, lo, none⟩ ∧ ∀ wx, Below w.heap.size w wx → wx.rangeAt lb (lo + k * 15) (cA (cat l k)).toList) := ⟨fun k hk => by
  obtain ⟨b, o, kk, e, h⟩ := cls_range (wx := w) hvl (by omega)
  cases e
  exact ⟨b, o, rfl, fun wx hb => h k wx hk hb⟩⟩
 have MC := Box'.mk refMay_any
 clear hX hvl hL
 clear hB hG hS ec er hl hle hrl
 go_enter Try.func11, Try.ntmps11
 go_upto_region 1 with (fail)
 generalize (((w.alloc (.cells (gA (cols : Int) (rows : Int) v) 24)).alloc (.cells (sA s) 26)).alloc (.cells #[.int .i64 0, .int .i64 0, .slice none 0 0] 24)) = w1 at *
 have cs0 : w1.cell? ⟨w.heap.size + 1, 0, none⟩ = some (.int .i64 s.fg) := F.out.rs.cell 0
 have cs1 : w1.cell? ⟨w.heap.size + 1, 1, none⟩ = some (.int .i64 s.bg) := F.out.rs.cell 1
 have cs2 : w1.cell? ⟨w.heap.size + 1, 2, none⟩ = some (.bool s.b1) := F.out.rs.cell 2
 have cs3 : w1.cell? ⟨w.heap.size + 1, 3, none⟩ = some (.bool s.b2) := F.out.rs.cell 3
 have cs4 : w1.cell? ⟨w.heap.size + 1, 4, none⟩ = some (.bool s.b3) := F.out.rs.cell 4
 have cs5 : w1.cell? ⟨w.heap.size + 1, 5, none⟩ = some (.bool s.b4) := F.out.rs.cell 5
 have cs6 : w1.cell? ⟨w.heap.size + 1, 6, none⟩ = some (.bool s.b5) := F.out.rs.cell 6
 have cs7 : w1.cell? ⟨w.heap.size + 1, 7, none⟩ = some (.bool s.b7) := F.out.rs.cell 7
 have cs8 : w1.cell? ⟨w.heap.size + 1, 8, none⟩ = some (.bool s.b8) := F.out.rs.cell 8
 have cs9 : w1.cell? ⟨w.heap.size + 1, 9, none⟩ = some (.bool s.b9) := F.out.rs.cell 9
 have c0 : w1.cell? ⟨w.heap.size, 0, none⟩ = some (.int .i64 (cols : Int)) := F.out.rg.cell 0
 have c1 : w1.cell? ⟨w.heap.size, 1, none⟩ = some (.int .i64 (rows : Int)) := F.out.rg.cell 1
 clear c0 c1
 go_wp2_with (first
  | (refine wpList_load_row rfl 24 (.tmp 5) rfl w.heap.size rfl 24 (gA (cols : Int) (rows : Int) v) F.out.rg _ U24.out rfl 3 S24.out rfl ?_))
 refine (MB.out _ F.out.be).mono ?_
 rintro e w2 ⟨rfl, hb⟩
 replace F := Box'.mk (F.out.below hb)
 clear hb cs0 cs1 cs2 cs3 cs4 cs5 cs6 cs7 cs8 cs9 MB
 have c0 : w2.cell? ⟨w.heap.size, 0, none⟩ = some (.int .i64 (cols : Int)) := F.out.rg.cell 0
 go_wp2_with fail
 go_loopw [11, 12] (fun _ u wr => ∃ k : Nat, u = .int .i64 (k : Int) ∧ k ≤ l.length ∧ Box' (FrG w (gA (cols : Int) (rows : Int) v) s wr)) (fun _ u _ => l.length - (intOf u).toNat)
 case atStart => exact ⟨0, rfl, by omega, F⟩
 case round =>
  obtain ⟨k, rfl, hk, FF⟩ := hrel
  clear F c0
  by_cases hlt : k < l.length
  case pos =>
   obtain ⟨lb, lo, rfl, HRk⟩ := LS.out k hlt
   have RGk : Box' (wr.rangeAt lb (lo + k * 15) (cA (cat l k)).toList) := ⟨HRk wr FF.out.be⟩
   have MK := Box'.mk (MC.out (cat l k))
   rw [ML.out k hlt] at MK
   clear HRk
   go_wp2_with (first
    | (refine wpList_load_cell rfl (.tmp 37) rfl lb (lo + k * 15) (cat l k) rfl RGk.out ?_))
   refine (MK.out _).mono ?_
   rintro e w5 ⟨rfl, hb⟩
   have F5 := Box'.mk (FF.out.below hb)
   clear hb FF
   go_wp2_with fail
   exact ⟨⟨k + 1, by go_num, by omega, F5⟩, by simp [intOf]; omega⟩
  case neg =>
   have F := FF
   clear FF LS
   go_wp2_with (first
    | (refine wpList_load_row rfl 24 (.tmp 5) rfl w.heap.size rfl 24 (gA (cols : Int) (rows : Int) v) F.out.rg _ U24.out rfl 3 S24.out rfl ?_))
   refine (CP.out _ F.out.be).mono ?_
   rintro e w3 ⟨b, cap, sp, rfl, hb0, hcap, hr, hb⟩
   have hsz := F.out.sz
   replace F := Box'.mk (F.out.below hb)
   have RM : Box' (Room (w3.alloc (.cells #[.int .i64 0, .int .i64 0, .slice none 0 0] 24)) w3.heap.size 24 3) := ⟨Room.new _ _ _ _ rfl⟩
   have F4 : Box' (FrG w (gA (cols : Int) (rows : Int) v) s ((w3.alloc (.cells #[.int .i64 0, .int .i64 0, .slice none 0 0] 24)).setRow w3.heap.size (gA (cols : Int) (rows : Int) (.slice (some ⟨b, 0, none⟩) c.length cap)))) := ⟨F.out.below (below_setRow (bR.alloc (Nat.le_refl _) _) (Nat.le_refl _) _)⟩
   have G4 : Box' (Row ((w3.alloc (.cells #[.int .i64 0, .int .i64 0, .slice none 0 0] 24)).setRow w3.heap.size (gA (cols : Int) (rows : Int) (.slice (some ⟨b, 0, none⟩) c.length cap))) w3.heap.size 24 (gA (cols : Int) (rows : Int) (.slice (some ⟨b, 0, none⟩) c.length cap))) := ⟨RM.out.setRow _⟩
   have C4 : Box' (RC ((w3.alloc (.cells #[.int .i64 0, .int .i64 0, .slice none 0 0] 24)).setRow w3.heap.size (gA (cols : Int) (rows : Int) (.slice (some ⟨b, 0, none⟩) c.length cap))) b c sp) := ⟨Row.setRowOther (Row.alloc hr _) _ _ (by have := hr.lt; omega)⟩
   have O := Box'.mk (gA_one (cols : Int) (rows : Int) (some ⟨b, 0, none⟩) c.length cap)
   have hqb : w3.heap.size ≠ b := by have := hr.lt; omega
   have hq3 : w.heap.size + 3 ≤ w3.heap.size := F.out.sz
   have hb3 : w.heap.size + 3 ≤ b := by omega
   clear hb hr hb0 CP hsz
   go_upto_region 9 with (first
    | (refine wpList_store_row rfl 24 (.tmp 13) (.tmp 43) rfl w3.heap.size rfl (gA (cols : Int) (rows : Int) (.slice (some ⟨b, 0, none⟩) c.length cap)) rfl 24 3 RM.out S24.out rfl O.out ?_))
   generalize ((w3.alloc (.cells #[.int .i64 0, .int .i64 0, .slice none 0 0] 24)).setRow w3.heap.size (gA (cols : Int) (rows : Int) (.slice (some ⟨b, 0, none⟩) c.length cap))) = w4 at *
   clear RM F
   generalize w3.heap.size = q at *
   have RO : Box' (∀ wx, Calls Try.prog 39 #[.agg (gA (cols : Int) (rows : Int) (.slice (some ⟨b, 0, none⟩) c.length cap)), .int .i64 (row : Int)] wx fun e w' => e = .returned (.slice (some ⟨b, cols * row * 15, none⟩) cols (cap - cols * row)) ∧ Below wx.heap.size wx w') := ⟨fun wx => by
    have := refRow_any cols row b 0 c.length cap (rows : Int) p1 p2 (by omega) (by rw [Nat.mul_add, Nat.mul_one]; omega) wx
    rw [Nat.zero_add] at this
    exact this⟩
   have RMD : Box' (∀ wx (r : List Cl), r.length = cols → RC wx b (lay c (cols * row) r) sp → Calls Try.prog 40 #[.slice (some ⟨b, cols * row * 15, none⟩) cols (cap - cols * row)] wx fun e w' => (∃ v, e = .returned v) ∧ RC w' b (lay c (cols * row) (mnd r)) sp ∧ Tc b wx w') := ⟨fun wx r h1 h2 => rmend_any b (cols * row) cols (cap - cols * row) c sp r wx p1 (by omega) (by omega) h1 hfit h2⟩
   have CU := Box'.mk (fun w => run_cutL b (cols * row * 15) cols (cap - cols * row) col (by omega) (by omega) w)
   rw [cutO_at (by omega), ← Nat.add_mul] at CU
   go_wp2_with (first
    | (refine wpList_load_row rfl 24 (.tmp 13) rfl q rfl 24 (gA (cols : Int) (rows : Int) (.slice (some ⟨b, 0, none⟩) c.length cap)) G4.out _ U24.out rfl 3 S24.out rfl ?_))
   refine (RO.out _).mono ?_
   rintro e w5 ⟨rfl, hb⟩
   replace F4 := Box'.mk (F4.out.below hb)
   replace G4 := Box'.mk (G4.out.below hb G4.out.lt)
   replace C4 := Box'.mk (Row.below C4.out hb (Row.lt C4.out))
   clear hb
   have BE := Box'.mk (VL.out _ F4.out.be)
   go_upto_region 10 with (first
    | (refine wpList_slice rfl 22 (.tmp 46) (some (.tmp 47)) none none rfl _ (CU.out _) ?_)
    | (refine wpList_copyA rfl (.tmp 48) (.tmp 49) rfl b ((cols * row + col) * 15) (cols * row + col) (cols - col) (cap - cols * row - col) (.slice al l.length cl) w.heap.size c l (l.take (cols - col)) sp rfl rfl BE.out C4.out rfl (.inr rfl) HML.out ?_; intro u6 w6 W6))
   rw [HE.out] at W6
   have CI := Box'.mk W6.out.1
   have FI := Box'.mk (F4.out.tc W6.out.2 hb3)
   have GI := Box'.mk (W6.out.2.row G4.out hqb)
   clear W6 C4 F4 G4 BE CU
   go_wp2_with (first
    | (refine wpList_load_row rfl 24 (.tmp 13) rfl q rfl 24 (gA (cols : Int) (rows : Int) (.slice (some ⟨b, 0, none⟩) c.length cap)) GI.out _ U24.out rfl 3 S24.out rfl ?_))
   refine (RO.out _).mono ?_
   rintro e w6 ⟨rfl, hb⟩
   have F6 := Box'.mk (FI.out.below hb)
   have G6 := Box'.mk (GI.out.below hb GI.out.lt)
   have C6 := Box'.mk (Row.below CI.out hb (Row.lt CI.out))
   clear hb FI GI CI
   go_wp2_with fail
   refine (RMD.out _ _ XL.out C6.out).mono ?_
   rintro e w7 ⟨⟨v7, rfl⟩, C7, T7⟩
   have F7 := Box'.mk (F6.out.tc T7 hb3)
   have G7 := Box'.mk (T7.row G6.out hqb)
   have C7 := Box'.mk C7
   rw [PUT.out _ (by rw [mnd_len]; exact XL.out)] at C7
   clear T7 F6 G6 C6
   go_wp2_with (first
    | (refine wpList_load_row rfl 24 (.tmp 13) rfl q rfl 24 (gA (cols : Int) (rows : Int) (.slice (some ⟨b, 0, none⟩) c.length cap)) G7.out _ U24.out rfl 3 S24.out rfl ?_)
    | (refine wpList_store_row rfl 24 (.tmp 10) (.tmp 55) rfl (w.heap.size + 2) rfl (gA (cols : Int) (rows : Int) (.slice (some ⟨b, 0, none⟩) c.length cap)) rfl 24 3 F7.out.rr S24.out rfl O.out ?_))
   exact bodyPost_ret (results_two rfl _ (w.heap.size + 2) rfl _ rfl _ _ (F7.out.rr.setRow _) rfl) rfl ⟨b, cap, sp, rfl, by omega, hcap, Row.setRowOther C7.out _ _ (by omega), below_setRow F7.out.be (by omega) _⟩
set_option maxRecDepth 100000 in
set_option maxHeartbeats 8000000 in
theorem rwrite_no3 (co ro : Int) (v : Value) (c : List Cl) (row col : Int) (s : St) (al : Option Addr) (cl : Nat) (l : List Cl) (w : World) (hv : Cls w.heap.size w v c) (hB : badF co ro c s row = false) (h1 : 0 ≤ col) (h2 : col < co) (hn : l.length ≤ 140737488355328) (hvl : Cls w.heap.size w (.slice al l.length cl) l) (hL : l.all mayC = false) :
  Calls Try.prog 11 #[.agg (gA co ro v), .int .i64 row, .int .i64 col, .agg (sA s), .slice al l.length cl] w fun e w' => e = .returned gErr ∧ Below w.heap.size w w' := by
 have MB : Box' (∀ wx, Below w.heap.size w wx → Calls Try.prog 37 #[.agg (gA co ro v), .agg (sA s), .int .i64 row] wx fun e w' => e = .returned (.bool (badF co ro c s row)) ∧ Below wx.heap.size wx w') := ⟨fun wx hb => rbad_any co ro v c s row wx ((hv.below hb (Nat.le_refl _)).up hb.size)⟩
 rw [hB] at MB
 have F := Box'.mk (FrG.begin w (gA co ro v) s)
 have U24 := Box'.mk Try.underlying24
 have S24 := Box'.mk s24g
 have O := Box'.mk (gA_one 0 0 none 0 0)
 have VL : Box' (∀ wx, Below w.heap.size w wx → Cls w.heap.size wx (.slice al l.length cl) l) := ⟨fun wx hb => hvl.below hb (Nat.le_refl _)⟩
 have LS : Box' (∀ k, k < l.length → ∃ lb lo, al = some ⟨lb, lo, none⟩ ∧ ∀ wx, Below w.heap.size w wx → wx.rangeAt lb (lo + k * 15) (cA (cat l k)).toList) := ⟨fun k hk => by
  obtain ⟨b, o, kk, e, h⟩ := cls_range (wx := w) hvl (by omega)
  cases e
  exact ⟨b, o, rfl, fun wx hb => h k wx hk hb⟩⟩
 have MC := Box'.mk refMay_any
 have NOT : Box' (¬ ∀ k, k < l.length → mayC (cat l k) = true) := ⟨fun h => by rw [(cat_all l mayC).2 h] at hL; cases hL⟩
 clear hB hv hvl hL VL
 go_enter Try.func11, Try.ntmps11
 go_upto_region 1 with (fail)
 generalize (((w.alloc (.cells (gA co ro v) 24)).alloc (.cells (sA s) 26)).alloc (.cells #[.int .i64 0, .int .i64 0, .slice none 0 0] 24)) = w1 at *
 have cs0 : w1.cell? ⟨w.heap.size + 1, 0, none⟩ = some (.int .i64 s.fg) := F.out.rs.cell 0
 have cs1 : w1.cell? ⟨w.heap.size + 1, 1, none⟩ = some (.int .i64 s.bg) := F.out.rs.cell 1
 have cs2 : w1.cell? ⟨w.heap.size + 1, 2, none⟩ = some (.bool s.b1) := F.out.rs.cell 2
 have cs3 : w1.cell? ⟨w.heap.size + 1, 3, none⟩ = some (.bool s.b2) := F.out.rs.cell 3
 have cs4 : w1.cell? ⟨w.heap.size + 1, 4, none⟩ = some (.bool s.b3) := F.out.rs.cell 4
 have cs5 : w1.cell? ⟨w.heap.size + 1, 5, none⟩ = some (.bool s.b4) := F.out.rs.cell 5
 have cs6 : w1.cell? ⟨w.heap.size + 1, 6, none⟩ = some (.bool s.b5) := F.out.rs.cell 6
 have cs7 : w1.cell? ⟨w.heap.size + 1, 7, none⟩ = some (.bool s.b7) := F.out.rs.cell 7
 have cs8 : w1.cell? ⟨w.heap.size + 1, 8, none⟩ = some (.bool s.b8) := F.out.rs.cell 8
 have cs9 : w1.cell? ⟨w.heap.size + 1, 9, none⟩ = some (.bool s.b9) := F.out.rs.cell 9
 have c0 : w1.cell? ⟨w.heap.size, 0, none⟩ = some (.int .i64 co) := F.out.rg.cell 0
 have c1 : w1.cell? ⟨w.heap.size, 1, none⟩ = some (.int .i64 ro) := F.out.rg.cell 1
 clear c0 c1
 go_wp2_with (first
  | (refine wpList_load_row rfl 24 (.tmp 5) rfl w.heap.size rfl 24 (gA co ro v) F.out.rg _ U24.out rfl 3 S24.out rfl ?_))
 refine (MB.out _ F.out.be).mono ?_
 rintro e w2 ⟨rfl, hb⟩
 replace F := Box'.mk (F.out.below hb)
 clear hb cs0 cs1 cs2 cs3 cs4 cs5 cs6 cs7 cs8 cs9
 have c0 : w2.cell? ⟨w.heap.size, 0, none⟩ = some (.int .i64 co) := F.out.rg.cell 0
 go_wp2_with fail
 go_loopw [11, 12] (fun _ u wr => ∃ k : Nat, u = .int .i64 (k : Int) ∧ k ≤ l.length ∧ Box' (∀ j, j < k → mayC (cat l j) = true) ∧ Box' (FrG w (gA co ro v) s wr)) (fun _ u _ => l.length - (intOf u).toNat)
 case atStart => exact ⟨0, rfl, by omega, ⟨fun j hj => by omega⟩, F⟩
 case round =>
  obtain ⟨k, rfl, hk, AL, FF⟩ := hrel
  clear F c0
  by_cases hlt : k < l.length
  case neg => exact absurd (fun j hj => AL.out j (by omega)) NOT.out
  case pos =>
   obtain ⟨lb, lo, rfl, HRk⟩ := LS.out k hlt
   have RGk : Box' (wr.rangeAt lb (lo + k * 15) (cA (cat l k)).toList) := ⟨HRk wr FF.out.be⟩
   have MK := Box'.mk (MC.out (cat l k))
   clear HRk
   cases hm : mayC (cat l k) with
   | true =>
    rw [hm] at MK
    have A2 : Box' (∀ j, j < k + 1 → mayC (cat l j) = true) := ⟨fun j hj => by
     rcases Nat.lt_or_ge j k with q | q
     ·exact AL.out j q
     ·have e : j = k := by omega
      rw [e]; exact hm⟩
    clear hm
    go_wp2_with (first
     | (refine wpList_load_cell rfl (.tmp 37) rfl lb (lo + k * 15) (cat l k) rfl RGk.out ?_))
    refine (MK.out _).mono ?_
    rintro e w5 ⟨rfl, hb⟩
    have F5 := Box'.mk (FF.out.below hb)
    clear hb FF
    go_wp2_with fail
    exact ⟨⟨k + 1, by go_num, by omega, A2, F5⟩, by simp [intOf]; omega⟩
   | false =>
    rw [hm] at MK
    clear hm
    go_wp2_with (first
     | (refine wpList_load_cell rfl (.tmp 37) rfl lb (lo + k * 15) (cat l k) rfl RGk.out ?_))
    refine (MK.out _).mono ?_
    rintro e w5 ⟨rfl, hb⟩
    have F5 := Box'.mk (FF.out.below hb)
    clear hb FF
    go_wp2_with (first
     | (refine wpList_store_row rfl 24 (.tmp 10) (.tmp 41) rfl (w.heap.size + 2) rfl (gA 0 0 (.slice none 0 0)) rfl 24 3 F5.out.rr S24.out rfl O.out ?_))
    exact bodyPost_ret (results_two rfl _ (w.heap.size + 2) rfl _ rfl _ _ (F5.out.rr.setRow _) rfl) rfl ⟨rfl, below_setRow F5.out.be (by omega) _⟩
end Go.Proofs.Ytnbonlkmadmpcaa
