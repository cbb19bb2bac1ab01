/- The word for the lengths from a place of a row on: nextWord whole. -/
import Derived.Test.YtcjfaahlchbcmaaK10
import Derived.Test.YtcjfaahlchbcmaaK19
namespace Go.Proofs.Ytcjfaahlchbcmaa
open Go.RowKit Go.BigFrame
set_option linter.unusedVariables false
set_option linter.unusedSimpArgs false
set_option maxRecDepth 1000000 in
set_option maxHeartbeats 4000000 in
theorem nwReg0 (b o n c a s : Nat) (x y : Int) (u2 u3 u4 u5 u7 u8 u9 u10 u11 u12 u13 u14 u15 u16 u17 u18 u19 u20 u21 u22 u23 u24 u25 u26 u27 u28 u29 u30 u31 u32 u33 u34 u35 u36 u37 u38 u39 u40 u41 u42 u43 u44 u45 u46 u47 u48 u49 u50 u51 u52 u53 u54 u55 u56 u57 u58 u59 u60 u61 u62 u63 u64 u65 u66 u67 u68 u69 u70 u71 u72 u73 u74 u75 u76 u77 : Value) (w : World)  :
    Code.wp Try.prog ((Try.f63.body.bind (regOf' 7)).getD .skip) (fun e a' w' => e = .normal ∧ ∃ v46 v47 v48 v49 v50 v51 v52 v53 v54 v55 v56 v57 v58 v59 v60 v61 v62 v63 v64 : Value, a' = ⟨List.toArray (.slice (some ⟨b, o, none⟩) n c :: .int .i64 (0 : Int) :: u2 :: u3 :: u4 :: u5 :: .int .i64 (s : Int) :: u7 :: u8 :: u9 :: u10 :: u11 :: u12 :: u13 :: u14 :: u15 :: u16 :: u17 :: u18 :: u19 :: u20 :: u21 :: u22 :: u23 :: u24 :: u25 :: u26 :: u27 :: u28 :: u29 :: u30 :: u31 :: u32 :: u33 :: u34 :: u35 :: u36 :: u37 :: u38 :: u39 :: u40 :: u41 :: u42 :: u43 :: u44 :: u45 :: v46 :: v47 :: v48 :: v49 :: v50 :: v51 :: v52 :: v53 :: v54 :: v55 :: v56 :: v57 :: v58 :: v59 :: v60 :: v61 :: v62 :: v63 :: v64 :: u65 :: u66 :: u67 :: u68 :: u69 :: u70 :: u71 :: u72 :: u73 :: u74 :: u75 :: u76 :: u77 :: []), []⟩ ∧ v46 = .bool false ∧ ∃ q, w' = w.drewN q) ⟨List.toArray (.slice (some ⟨b, o, none⟩) n c :: .int .i64 (0 : Int) :: u2 :: u3 :: u4 :: u5 :: .int .i64 (s : Int) :: u7 :: u8 :: u9 :: u10 :: u11 :: u12 :: u13 :: u14 :: u15 :: u16 :: u17 :: u18 :: u19 :: u20 :: u21 :: u22 :: u23 :: u24 :: u25 :: u26 :: u27 :: u28 :: u29 :: u30 :: u31 :: u32 :: u33 :: u34 :: u35 :: u36 :: u37 :: u38 :: u39 :: u40 :: u41 :: u42 :: u43 :: u44 :: u45 :: u46 :: u47 :: u48 :: u49 :: u50 :: u51 :: u52 :: u53 :: u54 :: u55 :: u56 :: u57 :: u58 :: u59 :: u60 :: u61 :: u62 :: u63 :: u64 :: u65 :: u66 :: u67 :: u68 :: u69 :: u70 :: u71 :: u72 :: u73 :: u74 :: u75 :: u76 :: u77 :: []), []⟩ w := by
  conv => arg 2; whnf
  go_quiet ((fail))
  go_wp2_with fail
  exact ⟨nq, rfl⟩
set_option maxRecDepth 1000000 in
set_option maxHeartbeats 4000000 in
theorem nwRegA (b o n c a s : Nat) (x y : Int) (u2 u3 u4 u5 u7 u8 u9 u10 u11 u12 u13 u14 u15 u16 u17 u18 u19 u20 u21 u22 u23 u24 u25 u26 u27 u28 u29 u30 u31 u32 u33 u34 u35 u36 u37 u38 u39 u40 u41 u42 u43 u44 u45 u46 u47 u48 u49 u50 u51 u52 u53 u54 u55 u56 u57 u58 u59 u60 u61 u62 u63 u64 u65 u66 u67 u68 u69 u70 u71 u72 u73 u74 u75 u76 u77 : Value) (w : World) (hn : n ≤ 1024) (ha : a + 1 < n) (c0 : w.cell? ⟨b, o + (a + 1), none⟩ = some (.int .i64 x)) (c1 : w.cell? ⟨b, o + a, none⟩ = some (.int .i64 y)) (hxy : x ≠ y) :
    Code.wp Try.prog ((Try.f63.body.bind (regOf' 7)).getD .skip) (fun e a' w' => e = .normal ∧ ∃ v46 v47 v48 v49 v50 v51 v52 v53 v54 v55 v56 v57 v58 v59 v60 v61 v62 v63 v64 : Value, a' = ⟨List.toArray (.slice (some ⟨b, o, none⟩) n c :: .int .i64 ((a : Int) + 1) :: u2 :: u3 :: u4 :: u5 :: .int .i64 (s : Int) :: u7 :: u8 :: u9 :: u10 :: u11 :: u12 :: u13 :: u14 :: u15 :: u16 :: u17 :: u18 :: u19 :: u20 :: u21 :: u22 :: u23 :: u24 :: u25 :: u26 :: u27 :: u28 :: u29 :: u30 :: u31 :: u32 :: u33 :: u34 :: u35 :: u36 :: u37 :: u38 :: u39 :: u40 :: u41 :: u42 :: u43 :: u44 :: u45 :: v46 :: v47 :: v48 :: v49 :: v50 :: v51 :: v52 :: v53 :: v54 :: v55 :: v56 :: v57 :: v58 :: v59 :: v60 :: v61 :: v62 :: v63 :: v64 :: u65 :: u66 :: u67 :: u68 :: u69 :: u70 :: u71 :: u72 :: u73 :: u74 :: u75 :: u76 :: u77 :: []), []⟩ ∧ v46 = .bool false ∧ ∃ q, w' = w.drewN q) ⟨List.toArray (.slice (some ⟨b, o, none⟩) n c :: .int .i64 ((a : Int) + 1) :: u2 :: u3 :: u4 :: u5 :: .int .i64 (s : Int) :: u7 :: u8 :: u9 :: u10 :: u11 :: u12 :: u13 :: u14 :: u15 :: u16 :: u17 :: u18 :: u19 :: u20 :: u21 :: u22 :: u23 :: u24 :: u25 :: u26 :: u27 :: u28 :: u29 :: u30 :: u31 :: u32 :: u33 :: u34 :: u35 :: u36 :: u37 :: u38 :: u39 :: u40 :: u41 :: u42 :: u43 :: u44 :: u45 :: u46 :: u47 :: u48 :: u49 :: u50 :: u51 :: u52 :: u53 :: u54 :: u55 :: u56 :: u57 :: u58 :: u59 :: u60 :: u61 :: u62 :: u63 :: u64 :: u65 :: u66 :: u67 :: u68 :: u69 :: u70 :: u71 :: u72 :: u73 :: u74 :: u75 :: u76 :: u77 :: []), []⟩ w := by
  conv => arg 2; whnf
  have j1 : (0 : Int) ≤ (a : Int) := by omega
  have j2 : (a : Int) + 1 < (n : Int) := by omega
  have j3 : (a : Int) < (n : Int) := by omega
  have hd : (x == y) = false := by rw [beq_eq_false_iff_ne]; exact hxy
  go_quiet ((fail))
  go_wp2_with fail
  exact ⟨nq, rfl⟩
set_option maxRecDepth 1000000 in
set_option maxHeartbeats 4000000 in
theorem nwRegB (b o n c a s : Nat) (x y : Int) (u2 u3 u4 u5 u7 u8 u9 u10 u11 u12 u13 u14 u15 u16 u17 u18 u19 u20 u21 u22 u23 u24 u25 u26 u27 u28 u29 u30 u31 u32 u33 u34 u35 u36 u37 u38 u39 u40 u41 u42 u43 u44 u45 u46 u47 u48 u49 u50 u51 u52 u53 u54 u55 u56 u57 u58 u59 u60 u61 u62 u63 u64 u65 u66 u67 u68 u69 u70 u71 u72 u73 u74 u75 u76 u77 : Value) (w : World) (hn : n ≤ 1024) (ha : a + 1 < n) (c0 : w.cell? ⟨b, o + (a + 1), none⟩ = some (.int .i64 x)) (c1 : w.cell? ⟨b, o + a, none⟩ = some (.int .i64 y)) (hxy : x = y) (hs : s < 3) :
    Code.wp Try.prog ((Try.f63.body.bind (regOf' 7)).getD .skip) (fun e a' w' => e = .normal ∧ ∃ v46 v47 v48 v49 v50 v51 v52 v53 v54 v55 v56 v57 v58 v59 v60 v61 v62 v63 v64 : Value, a' = ⟨List.toArray (.slice (some ⟨b, o, none⟩) n c :: .int .i64 ((a : Int) + 1) :: u2 :: u3 :: u4 :: u5 :: .int .i64 (s : Int) :: u7 :: u8 :: u9 :: u10 :: u11 :: u12 :: u13 :: u14 :: u15 :: u16 :: u17 :: u18 :: u19 :: u20 :: u21 :: u22 :: u23 :: u24 :: u25 :: u26 :: u27 :: u28 :: u29 :: u30 :: u31 :: u32 :: u33 :: u34 :: u35 :: u36 :: u37 :: u38 :: u39 :: u40 :: u41 :: u42 :: u43 :: u44 :: u45 :: v46 :: v47 :: v48 :: v49 :: v50 :: v51 :: v52 :: v53 :: v54 :: v55 :: v56 :: v57 :: v58 :: v59 :: v60 :: v61 :: v62 :: v63 :: v64 :: u65 :: u66 :: u67 :: u68 :: u69 :: u70 :: u71 :: u72 :: u73 :: u74 :: u75 :: u76 :: u77 :: []), []⟩ ∧ v46 = .bool false ∧ ∃ q, w' = w.drewN q) ⟨List.toArray (.slice (some ⟨b, o, none⟩) n c :: .int .i64 ((a : Int) + 1) :: u2 :: u3 :: u4 :: u5 :: .int .i64 (s : Int) :: u7 :: u8 :: u9 :: u10 :: u11 :: u12 :: u13 :: u14 :: u15 :: u16 :: u17 :: u18 :: u19 :: u20 :: u21 :: u22 :: u23 :: u24 :: u25 :: u26 :: u27 :: u28 :: u29 :: u30 :: u31 :: u32 :: u33 :: u34 :: u35 :: u36 :: u37 :: u38 :: u39 :: u40 :: u41 :: u42 :: u43 :: u44 :: u45 :: u46 :: u47 :: u48 :: u49 :: u50 :: u51 :: u52 :: u53 :: u54 :: u55 :: u56 :: u57 :: u58 :: u59 :: u60 :: u61 :: u62 :: u63 :: u64 :: u65 :: u66 :: u67 :: u68 :: u69 :: u70 :: u71 :: u72 :: u73 :: u74 :: u75 :: u76 :: u77 :: []), []⟩ w := by
  conv => arg 2; whnf
  have j1 : (0 : Int) ≤ (a : Int) := by omega
  have j2 : (a : Int) + 1 < (n : Int) := by omega
  have j3 : (a : Int) < (n : Int) := by omega
  subst hxy
  have hd : decide ((3 : Int) ≤ (s : Int)) = false := decide_eq_false (by omega)
  have hd2 : decide (3 ≤ s) = false := decide_eq_false (by omega)
  go_quiet ((fail))
  go_wp2_with fail
  exact ⟨nq, rfl⟩
set_option maxRecDepth 1000000 in
set_option maxHeartbeats 4000000 in
theorem nwRegC (b o n c a s : Nat) (x y : Int) (u2 u3 u4 u5 u7 u8 u9 u10 u11 u12 u13 u14 u15 u16 u17 u18 u19 u20 u21 u22 u23 u24 u25 u26 u27 u28 u29 u30 u31 u32 u33 u34 u35 u36 u37 u38 u39 u40 u41 u42 u43 u44 u45 u46 u47 u48 u49 u50 u51 u52 u53 u54 u55 u56 u57 u58 u59 u60 u61 u62 u63 u64 u65 u66 u67 u68 u69 u70 u71 u72 u73 u74 u75 u76 u77 : Value) (w : World) (hn : n ≤ 1024) (ha : a + 1 < n) (c0 : w.cell? ⟨b, o + (a + 1), none⟩ = some (.int .i64 x)) (c1 : w.cell? ⟨b, o + a, none⟩ = some (.int .i64 y)) (hxy : x = y) (hs : 3 ≤ s) :
    Code.wp Try.prog ((Try.f63.body.bind (regOf' 7)).getD .skip) (fun e a' w' => e = .normal ∧ ∃ v46 v47 v48 v49 v50 v51 v52 v53 v54 v55 v56 v57 v58 v59 v60 v61 v62 v63 v64 : Value, a' = ⟨List.toArray (.slice (some ⟨b, o, none⟩) n c :: .int .i64 ((a : Int) + 1) :: u2 :: u3 :: u4 :: u5 :: .int .i64 (s : Int) :: u7 :: u8 :: u9 :: u10 :: u11 :: u12 :: u13 :: u14 :: u15 :: u16 :: u17 :: u18 :: u19 :: u20 :: u21 :: u22 :: u23 :: u24 :: u25 :: u26 :: u27 :: u28 :: u29 :: u30 :: u31 :: u32 :: u33 :: u34 :: u35 :: u36 :: u37 :: u38 :: u39 :: u40 :: u41 :: u42 :: u43 :: u44 :: u45 :: v46 :: v47 :: v48 :: v49 :: v50 :: v51 :: v52 :: v53 :: v54 :: v55 :: v56 :: v57 :: v58 :: v59 :: v60 :: v61 :: v62 :: v63 :: v64 :: u65 :: u66 :: u67 :: u68 :: u69 :: u70 :: u71 :: u72 :: u73 :: u74 :: u75 :: u76 :: u77 :: []), []⟩ ∧ v46 = .bool true ∧ ∃ q, w' = w.drewN q) ⟨List.toArray (.slice (some ⟨b, o, none⟩) n c :: .int .i64 ((a : Int) + 1) :: u2 :: u3 :: u4 :: u5 :: .int .i64 (s : Int) :: u7 :: u8 :: u9 :: u10 :: u11 :: u12 :: u13 :: u14 :: u15 :: u16 :: u17 :: u18 :: u19 :: u20 :: u21 :: u22 :: u23 :: u24 :: u25 :: u26 :: u27 :: u28 :: u29 :: u30 :: u31 :: u32 :: u33 :: u34 :: u35 :: u36 :: u37 :: u38 :: u39 :: u40 :: u41 :: u42 :: u43 :: u44 :: u45 :: u46 :: u47 :: u48 :: u49 :: u50 :: u51 :: u52 :: u53 :: u54 :: u55 :: u56 :: u57 :: u58 :: u59 :: u60 :: u61 :: u62 :: u63 :: u64 :: u65 :: u66 :: u67 :: u68 :: u69 :: u70 :: u71 :: u72 :: u73 :: u74 :: u75 :: u76 :: u77 :: []), []⟩ w := by
  conv => arg 2; whnf
  have j1 : (0 : Int) ≤ (a : Int) := by omega
  have j2 : (a : Int) + 1 < (n : Int) := by omega
  have j3 : (a : Int) < (n : Int) := by omega
  subst hxy
  have hd : decide ((3 : Int) ≤ (s : Int)) = true := decide_eq_true (by omega)
  have hd2 : decide (3 ≤ s) = true := decide_eq_true (by omega)
  go_quiet ((fail))
  go_wp2_with fail
  exact ⟨nq, rfl⟩
set_option maxRecDepth 100000 in
set_option maxHeartbeats 4000000 in
theorem nextWord_d0 (w : World) (b o n c a s : Nat) (x y : Int) (hn : n ≤ 1024) (hbN : b < w.heap.size)
    (hrun : ∀ w1, Below w.heap.size w w1 → Calls Try.prog 77 #[.slice (some ⟨b, o, none⟩) n c, .int .i64 (0)] w1 fun e w' => e = .returned (.int .i64 (s : Int)) ∧ Below w1.heap.size w1 w')
    (ha : 0 < n) (h0 : w.cell? ⟨b, o, none⟩ = some (.int .i64 x)) (hx : (x = 0 ∧ s < 3) ∨ x ≠ 0) :
    Calls Try.prog 63 #[.slice (some ⟨b, o, none⟩) n c, .int .i64 (0)] w fun e w' => e = .returned (.tuple #[.agg #[.int .i64 x, .int .u64 0, .int .i64 0], .int .i64 (1)]) ∧ Below w.heap.size w w' := by
  have bl : Below w.heap.size w (w.alloc (.cells #[.int .i64 0, .int .u64 0, .int .i64 0] 110)) := (Below.refl _ _).alloc (Nat.le_refl _) _
  have hr := hrun _ bl
  have R0 := Box'.mk (Row.new w 110 #[.int .i64 0, .int .u64 0, .int .i64 0])
  have BL := Box'.mk bl
  clear hrun bl
  have hx2 : ((x == 0) = true ∧ s < 3) ∨ (x == 0) = false := by
    rcases hx with ⟨h, h'⟩ | h
    · exact .inl ⟨by rw [beq_iff_eq]; exact h, h'⟩
    · exact .inr (by rw [beq_eq_false_iff_ne]; exact h)
  have HX := Box'.mk hx
  clear hx
  rcases hx2 with ⟨hx1, hx2⟩ | hx1
  all_goals
    go_enter Try.func63, Try.ntmps63
    go_wp2_with fail
    refine hr.mono ?_
    rintro e w1 ⟨rfl, b1⟩
    have q1 := R0.out.below b1 R0.out.lt
    have B1 := Box'.mk (BL.out.trans (b1.mono BL.out.size))
    have c0 : w1.cell? ⟨b, o, none⟩ = some (.int .i64 x) := by rw [← h0]; exact B1.out.cell (p := ⟨b, o, none⟩) hbN
    have Q1 := Box'.mk q1
    clear hr b1 q1 R0 BL
    go_upto_region 7 with (fail)
    refine wp_mono (nwReg0 b o n c a s x y _ _ _ _ _ _ _ _ _ _ _ _ _ _ _ _ _ _ _ _ _ _ _ _ _ _ _ _ _ _ _ _ _ _ _ _ _ _ _ _ _ _ _ _ _ _ _ _ _ _ _ _ _ _ _ _ _ _ _ _ _ _ _ _ _ _ _ _ _ _ _ _ _ _ _ w1) ?_
    rintro e a' w2 ⟨rfl, v46, v47, v48, v49, v50, v51, v52, v53, v54, v55, v56, v57, v58, v59, v60, v61, v62, v63, v64, rfl, rfl, q, rfl⟩
    have Q2 := Box'.mk (Q1.out.drewN q)
    have B2 := Box'.mk (Below.drewN B1.out q)
    have c2 : (w1.drewN q).cell? ⟨b, o, none⟩ = some (.int .i64 x) := c0
    generalize hw2 : w1.drewN q = w2 at *
    clear hw2
    have k0 : w2.cell? ⟨w.heap.size, 0, none⟩ = some (.int .i64 0) := Q2.out.cell 0
    have k1 : w2.cell? ⟨w.heap.size, 1, none⟩ = some (.int .u64 0) := Q2.out.cell 1
    have k2 : w2.cell? ⟨w.heap.size, 2, none⟩ = some (.int .i64 0) := Q2.out.cell 2
    have f0 := Q2.out.frozen 0
    have f1 := Q2.out.frozen 1
    have f2 := Q2.out.frozen 2
    go_wp2_with fail
    exact bodyPost_ret (results_row_slot rfl _ _ rfl _ rfl _ _ (((Q2.out.setCell 0 _).setCell 1 _).setCell 2 _) _ Try.underlying110 rfl 3 rfl rfl) rfl ⟨rfl, ((B2.out.setCell (by simp) _).setCell (by simp) _).setCell (by simp) _⟩
set_option maxRecDepth 100000 in
set_option maxHeartbeats 4000000 in
theorem nextWord_dA (w : World) (b o n c a s : Nat) (x y : Int) (hn : n ≤ 1024) (hbN : b < w.heap.size)
    (hrun : ∀ w1, Below w.heap.size w w1 → Calls Try.prog 77 #[.slice (some ⟨b, o, none⟩) n c, .int .i64 ((a : Int) + 1)] w1 fun e w' => e = .returned (.int .i64 (s : Int)) ∧ Below w1.heap.size w1 w')
    (ha : a + 1 < n) (h0 : w.cell? ⟨b, o + (a + 1), none⟩ = some (.int .i64 x)) (h1 : w.cell? ⟨b, o + a, none⟩ = some (.int .i64 y)) (hx : (x = 0 ∧ s < 3) ∨ x ≠ 0) (hxy : x ≠ y) :
    Calls Try.prog 63 #[.slice (some ⟨b, o, none⟩) n c, .int .i64 ((a : Int) + 1)] w fun e w' => e = .returned (.tuple #[.agg #[.int .i64 x, .int .u64 0, .int .i64 0], .int .i64 (1)]) ∧ Below w.heap.size w w' := by
  have bl : Below w.heap.size w (w.alloc (.cells #[.int .i64 0, .int .u64 0, .int .i64 0] 110)) := (Below.refl _ _).alloc (Nat.le_refl _) _
  have hr := hrun _ bl
  have R0 := Box'.mk (Row.new w 110 #[.int .i64 0, .int .u64 0, .int .i64 0])
  have BL := Box'.mk bl
  clear hrun bl
  have hx2 : ((x == 0) = true ∧ s < 3) ∨ (x == 0) = false := by
    rcases hx with ⟨h, h'⟩ | h
    · exact .inl ⟨by rw [beq_iff_eq]; exact h, h'⟩
    · exact .inr (by rw [beq_eq_false_iff_ne]; exact h)
  have HX := Box'.mk hx
  clear hx
  rcases hx2 with ⟨hx1, hx2⟩ | hx1
  all_goals
    go_enter Try.func63, Try.ntmps63
    go_wp2_with fail
    refine hr.mono ?_
    rintro e w1 ⟨rfl, b1⟩
    have q1 := R0.out.below b1 R0.out.lt
    have B1 := Box'.mk (BL.out.trans (b1.mono BL.out.size))
    have c0 : w1.cell? ⟨b, o + (a + 1), none⟩ = some (.int .i64 x) := by rw [← h0]; exact B1.out.cell (p := ⟨b, o + (a + 1), none⟩) hbN
    have c1 : w1.cell? ⟨b, o + a, none⟩ = some (.int .i64 y) := by rw [← h1]; exact B1.out.cell (p := ⟨b, o + a, none⟩) hbN
    have Q1 := Box'.mk q1
    clear hr b1 q1 R0 BL
    go_upto_region 7 with (fail)
    refine wp_mono (nwRegA b o n c a s x y _ _ _ _ _ _ _ _ _ _ _ _ _ _ _ _ _ _ _ _ _ _ _ _ _ _ _ _ _ _ _ _ _ _ _ _ _ _ _ _ _ _ _ _ _ _ _ _ _ _ _ _ _ _ _ _ _ _ _ _ _ _ _ _ _ _ _ _ _ _ _ _ _ _ _ w1 hn ha c0 c1 hxy) ?_
    rintro e a' w2 ⟨rfl, v46, v47, v48, v49, v50, v51, v52, v53, v54, v55, v56, v57, v58, v59, v60, v61, v62, v63, v64, rfl, rfl, q, rfl⟩
    have Q2 := Box'.mk (Q1.out.drewN q)
    have B2 := Box'.mk (Below.drewN B1.out q)
    have c2 : (w1.drewN q).cell? ⟨b, o + (a + 1), none⟩ = some (.int .i64 x) := c0
    generalize hw2 : w1.drewN q = w2 at *
    clear hw2
    have k0 : w2.cell? ⟨w.heap.size, 0, none⟩ = some (.int .i64 0) := Q2.out.cell 0
    have k1 : w2.cell? ⟨w.heap.size, 1, none⟩ = some (.int .u64 0) := Q2.out.cell 1
    have k2 : w2.cell? ⟨w.heap.size, 2, none⟩ = some (.int .i64 0) := Q2.out.cell 2
    have f0 := Q2.out.frozen 0
    have f1 := Q2.out.frozen 1
    have f2 := Q2.out.frozen 2
    go_wp2_with fail
    exact bodyPost_ret (results_row_slot rfl _ _ rfl _ rfl _ _ (((Q2.out.setCell 0 _).setCell 1 _).setCell 2 _) _ Try.underlying110 rfl 3 rfl rfl) rfl ⟨rfl, ((B2.out.setCell (by simp) _).setCell (by simp) _).setCell (by simp) _⟩
set_option maxRecDepth 100000 in
set_option maxHeartbeats 4000000 in
theorem nextWord_dB (w : World) (b o n c a s : Nat) (x y : Int) (hn : n ≤ 1024) (hbN : b < w.heap.size)
    (hrun : ∀ w1, Below w.heap.size w w1 → Calls Try.prog 77 #[.slice (some ⟨b, o, none⟩) n c, .int .i64 ((a : Int) + 1)] w1 fun e w' => e = .returned (.int .i64 (s : Int)) ∧ Below w1.heap.size w1 w')
    (ha : a + 1 < n) (h0 : w.cell? ⟨b, o + (a + 1), none⟩ = some (.int .i64 x)) (h1 : w.cell? ⟨b, o + a, none⟩ = some (.int .i64 y)) (hx : (x = 0 ∧ s < 3) ∨ x ≠ 0) (hxy : x = y) (hs : s < 3) :
    Calls Try.prog 63 #[.slice (some ⟨b, o, none⟩) n c, .int .i64 ((a : Int) + 1)] w fun e w' => e = .returned (.tuple #[.agg #[.int .i64 x, .int .u64 0, .int .i64 0], .int .i64 (1)]) ∧ Below w.heap.size w w' := by
  have bl : Below w.heap.size w (w.alloc (.cells #[.int .i64 0, .int .u64 0, .int .i64 0] 110)) := (Below.refl _ _).alloc (Nat.le_refl _) _
  have hr := hrun _ bl
  have R0 := Box'.mk (Row.new w 110 #[.int .i64 0, .int .u64 0, .int .i64 0])
  have BL := Box'.mk bl
  clear hrun bl
  have hx2 : ((x == 0) = true ∧ s < 3) ∨ (x == 0) = false := by
    rcases hx with ⟨h, h'⟩ | h
    · exact .inl ⟨by rw [beq_iff_eq]; exact h, h'⟩
    · exact .inr (by rw [beq_eq_false_iff_ne]; exact h)
  have HXY := Box'.mk hxy
  clear hxy
  have HX := Box'.mk hx
  clear hx
  rcases hx2 with ⟨hx1, hx2⟩ | hx1
  all_goals
    go_enter Try.func63, Try.ntmps63
    go_wp2_with fail
    refine hr.mono ?_
    rintro e w1 ⟨rfl, b1⟩
    have q1 := R0.out.below b1 R0.out.lt
    have B1 := Box'.mk (BL.out.trans (b1.mono BL.out.size))
    have c0 : w1.cell? ⟨b, o + (a + 1), none⟩ = some (.int .i64 x) := by rw [← h0]; exact B1.out.cell (p := ⟨b, o + (a + 1), none⟩) hbN
    have c1 : w1.cell? ⟨b, o + a, none⟩ = some (.int .i64 y) := by rw [← h1]; exact B1.out.cell (p := ⟨b, o + a, none⟩) hbN
    have Q1 := Box'.mk q1
    clear hr b1 q1 R0 BL
    go_upto_region 7 with (fail)
    refine wp_mono (nwRegB b o n c a s x y _ _ _ _ _ _ _ _ _ _ _ _ _ _ _ _ _ _ _ _ _ _ _ _ _ _ _ _ _ _ _ _ _ _ _ _ _ _ _ _ _ _ _ _ _ _ _ _ _ _ _ _ _ _ _ _ _ _ _ _ _ _ _ _ _ _ _ _ _ _ _ _ _ _ _ w1 hn ha c0 c1 HXY.out hs) ?_
    rintro e a' w2 ⟨rfl, v46, v47, v48, v49, v50, v51, v52, v53, v54, v55, v56, v57, v58, v59, v60, v61, v62, v63, v64, rfl, rfl, q, rfl⟩
    have Q2 := Box'.mk (Q1.out.drewN q)
    have B2 := Box'.mk (Below.drewN B1.out q)
    have c2 : (w1.drewN q).cell? ⟨b, o + (a + 1), none⟩ = some (.int .i64 x) := c0
    generalize hw2 : w1.drewN q = w2 at *
    clear hw2
    have k0 : w2.cell? ⟨w.heap.size, 0, none⟩ = some (.int .i64 0) := Q2.out.cell 0
    have k1 : w2.cell? ⟨w.heap.size, 1, none⟩ = some (.int .u64 0) := Q2.out.cell 1
    have k2 : w2.cell? ⟨w.heap.size, 2, none⟩ = some (.int .i64 0) := Q2.out.cell 2
    have f0 := Q2.out.frozen 0
    have f1 := Q2.out.frozen 1
    have f2 := Q2.out.frozen 2
    go_wp2_with fail
    exact bodyPost_ret (results_row_slot rfl _ _ rfl _ rfl _ _ (((Q2.out.setCell 0 _).setCell 1 _).setCell 2 _) _ Try.underlying110 rfl 3 rfl rfl) rfl ⟨rfl, ((B2.out.setCell (by simp) _).setCell (by simp) _).setCell (by simp) _⟩
set_option maxRecDepth 100000 in
set_option maxHeartbeats 4000000 in
theorem nextWord_16 (w : World) (b o n c a s : Nat) (x y : Int) (hn : n ≤ 1024) (hbN : b < w.heap.size)
    (hrun : ∀ w1, Below w.heap.size w w1 → Calls Try.prog 77 #[.slice (some ⟨b, o, none⟩) n c, .int .i64 ((a : Int) + 1)] w1 fun e w' => e = .returned (.int .i64 (s : Int)) ∧ Below w1.heap.size w1 w')
    (ha : a + 1 < n) (h0 : w.cell? ⟨b, o + (a + 1), none⟩ = some (.int .i64 x)) (h1 : w.cell? ⟨b, o + a, none⟩ = some (.int .i64 y)) (hsn : s ≤ 1024) (hx : x ≠ 0) (hxy : x = y) (hs : 3 ≤ s) (M : Nat) (hM : min s 6 = M) :
    Calls Try.prog 63 #[.slice (some ⟨b, o, none⟩) n c, .int .i64 ((a : Int) + 1)] w fun e w' => e = .returned (.tuple #[.agg #[.int .i64 16, .int .u64 ((M - 3 : Nat) : Int), .int .i64 2], .int .i64 ((M : Int))]) ∧ Below w.heap.size w w' := by
  have bl : Below w.heap.size w (w.alloc (.cells #[.int .i64 0, .int .u64 0, .int .i64 0] 110)) := (Below.refl _ _).alloc (Nat.le_refl _) _
  have hr := hrun _ bl
  have R0 := Box'.mk (Row.new w 110 #[.int .i64 0, .int .u64 0, .int .i64 0])
  have BL := Box'.mk bl
  clear hrun bl
  have hx1 : (x == 0) = false := by rw [beq_eq_false_iff_ne]; exact hx
  have hm1 : 3 ≤ M := by omega
  have hm2 : M ≤ 6 := by omega
  all_goals
    go_enter Try.func63, Try.ntmps63
    go_wp2_with fail
    refine hr.mono ?_
    rintro e w1 ⟨rfl, b1⟩
    have q1 := R0.out.below b1 R0.out.lt
    have B1 := Box'.mk (BL.out.trans (b1.mono BL.out.size))
    have c0 : w1.cell? ⟨b, o + (a + 1), none⟩ = some (.int .i64 x) := by rw [← h0]; exact B1.out.cell (p := ⟨b, o + (a + 1), none⟩) hbN
    have c1 : w1.cell? ⟨b, o + a, none⟩ = some (.int .i64 y) := by rw [← h1]; exact B1.out.cell (p := ⟨b, o + a, none⟩) hbN
    have Q1 := Box'.mk q1
    clear hr b1 q1 R0 BL
    go_upto_region 7 with (fail)
    refine wp_mono (nwRegC b o n c a s x y _ _ _ _ _ _ _ _ _ _ _ _ _ _ _ _ _ _ _ _ _ _ _ _ _ _ _ _ _ _ _ _ _ _ _ _ _ _ _ _ _ _ _ _ _ _ _ _ _ _ _ _ _ _ _ _ _ _ _ _ _ _ _ _ _ _ _ _ _ _ _ _ _ _ _ w1 hn ha c0 c1 hxy hs) ?_
    rintro e a' w2 ⟨rfl, v46, v47, v48, v49, v50, v51, v52, v53, v54, v55, v56, v57, v58, v59, v60, v61, v62, v63, v64, rfl, rfl, q, rfl⟩
    have Q2 := Box'.mk (Q1.out.drewN q)
    have B2 := Box'.mk (Below.drewN B1.out q)
    have c2 : (w1.drewN q).cell? ⟨b, o + (a + 1), none⟩ = some (.int .i64 x) := c0
    generalize hw2 : w1.drewN q = w2 at *
    clear hw2
    have k0 : w2.cell? ⟨w.heap.size, 0, none⟩ = some (.int .i64 0) := Q2.out.cell 0
    have k1 : w2.cell? ⟨w.heap.size, 1, none⟩ = some (.int .u64 0) := Q2.out.cell 1
    have k2 : w2.cell? ⟨w.heap.size, 2, none⟩ = some (.int .i64 0) := Q2.out.cell 2
    have f0 := Q2.out.frozen 0
    have f1 := Q2.out.frozen 1
    have f2 := Q2.out.frozen 2
    go_wp2_with fail
    all_goals (refine bodyPost_ret (results_row_slot rfl _ _ rfl _ rfl _ _ (((Q2.out.setCell 0 _).setCell 1 _).setCell 2 _) _ Try.underlying110 rfl 3 rfl rfl) rfl ⟨?_, ((B2.out.setCell (by simp) _).setCell (by simp) _).setCell (by simp) _⟩)
    all_goals first | (obtain rfl : M = s := by omega
                       rw [Int.ofNat_sub (by omega)]; rfl) | (obtain rfl : M = 6 := by omega
                                                              rfl)
end Go.Proofs.Ytcjfaahlchbcmaa
