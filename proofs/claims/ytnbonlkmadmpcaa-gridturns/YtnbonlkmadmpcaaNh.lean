/- Cells and styles that may be, as the grid asks. -/
import Derived.Test.YtnbonlkmadmpcaaMi
import Derived.Test.YtnbonlkmadmpcaaRb
namespace Go.Proofs.Ytnbonlkmadmpcaa
open Go.RowKit Go.BigFrame
set_option linter.unusedVariables false
set_option linter.unusedSimpArgs false
set_option maxRecDepth 100000 in
set_option maxHeartbeats 4000000 in
theorem mayStyle15_any (s : St) (w : World) : Calls Try.prog 27 #[.agg (sA s)] w fun e w' => e = .returned (.bool (mayS s)) ∧ Below w.heap.size w w' := by
 have MF := Box'.mk (mayF_any (hf s))
 have E : mayC (hf s) = mayS s := by
  unfold mayC
  cases h : mayS s with
  | false => rw [if_pos (show mayS (hf s).st = false from h)]
  | true => rw [if_neg (show ¬ mayS (hf s).st = false by show ¬ mayS s = false; rw [h]; simp)]; rfl
 rw [E] at MF
 have S24 := Box'.mk s24
 have U24 := Box'.mk Try.underlying26
 have R1 := Box'.mk (Row.new w 26 (sA s))
 have B1 := Box'.mk ((Below.refl w.heap.size w).alloc (Nat.le_refl _) (.cells (sA s) 26))
 have HF : Box' (cA (hf s) = #[.int .i32 0, .int .i32 0, .int .i32 0, .int .i32 0, .int .u8 0, .int .i64 s.fg, .int .i64 s.bg, .bool s.b1, .bool s.b2, .bool s.b3, .bool s.b4, .bool s.b5, .bool s.b7, .bool s.b8, .bool s.b9]) := ⟨rfl⟩
 clear E
 generalize mayS s = v at *
 go_enter Try.func27, Try.ntmps27
 go_upto_region 1 with (fail)
 generalize (w.alloc (.cells (sA s) 26)) = w1 at *
 have c0 : w1.cell? ⟨w.heap.size, 0, none⟩ = some (.int .i64 s.fg) := R1.out.cell 0
 have c1 : w1.cell? ⟨w.heap.size, 1, none⟩ = some (.int .i64 s.bg) := R1.out.cell 1
 have c2 : w1.cell? ⟨w.heap.size, 2, none⟩ = some (.bool s.b1) := R1.out.cell 2
 have c3 : w1.cell? ⟨w.heap.size, 3, none⟩ = some (.bool s.b2) := R1.out.cell 3
 have c4 : w1.cell? ⟨w.heap.size, 4, none⟩ = some (.bool s.b3) := R1.out.cell 4
 have c5 : w1.cell? ⟨w.heap.size, 5, none⟩ = some (.bool s.b4) := R1.out.cell 5
 have c6 : w1.cell? ⟨w.heap.size, 6, none⟩ = some (.bool s.b5) := R1.out.cell 6
 have c7 : w1.cell? ⟨w.heap.size, 7, none⟩ = some (.bool s.b7) := R1.out.cell 7
 have c8 : w1.cell? ⟨w.heap.size, 8, none⟩ = some (.bool s.b8) := R1.out.cell 8
 have c9 : w1.cell? ⟨w.heap.size, 9, none⟩ = some (.bool s.b9) := R1.out.cell 9
 go_wp2_with fail
 refine (MF.out _).mono ?_
 rintro e w2 ⟨rfl, hb2⟩
 have B2 := Box'.mk (B1.out.trans (hb2.mono B1.out.size))
 clear hb2
 go_wp2_with fail
 go_ret
 exact ⟨rfl, B2.out⟩
set_option maxRecDepth 100000 in
set_option maxHeartbeats 16000000 in
theorem mayCells_any (v : Value) (l : List Cl) (hl : l.length ≤ 140737488355328) (w : World) (h : Cls w.heap.size w v l) :
  Calls Try.prog 32 #[v] w fun e w' => e = .returned (.bool (l.all mayC)) ∧ Below w.heap.size w w' := by
 obtain ⟨a, c, rfl, hc, h3⟩ := h
 have HCL : Box' (∀ k, k < l.length → ∃ b o, a = some ⟨b, o, none⟩ ∧ ∀ k, k < l.length → ∀ wx, Below w.heap.size w wx → wx.rangeAt b (o + k * 15) (cA (cat l k)).toList) := ⟨fun k hk => by
  rcases h3 with rfl | ⟨b, o, rfl, h5, h6⟩
  ·simp at hk
  ·refine ⟨b, o, rfl, fun k hk wx hb => ?_⟩
   intro j v hv
   have hj : j < 15 := by have := (List.getElem?_eq_some_iff.1 hv).1; rwa [cA_len] at this
   rw [hb.cell (p := ⟨b, o + k * 15 + j, none⟩) h5, h6 k hk j hj]
   simpa [cat] using hv⟩
 have WT : Box' ((∀ i, i < l.length → mayC (cat l i) = true) → l.all mayC = true) := ⟨fun h => (cat_all l mayC).2 h⟩
 have WF : Box' (∀ i, i < l.length → mayC (cat l i) = false → l.all mayC = false) := ⟨fun i hi h => by
  cases e : l.all mayC with
  | false => rfl
  | true => rw [(cat_all l mayC).1 e i hi] at h; cases h⟩
 have MF := Box'.mk mayF_any
 generalize hn : l.length = n at *
 clear h3 hn
 go_enter Try.func32, Try.ntmps32
 go_wp2_with fail
 go_loopw [6] (fun i wr => ∃ k : Nat, k ≤ n ∧ i = .int .i64 (k : Int) ∧ Box' (∀ i, i < k → mayC (cat l i) = true) ∧ Box' (Below w.heap.size w wr)) (fun i _ => n - (intOf i).toNat)
 case atStart => exact ⟨0, by omega, rfl, ⟨fun i hi => by omega⟩, ⟨Below.refl _ _⟩⟩
 case round =>
  obtain ⟨k, hk, rfl, OK, BB⟩ := hrel
  by_cases hlt : k < n
  case neg =>
   obtain rfl : k = n := by omega
   have E := Box'.mk (WT.out OK.out)
   clear HCL
   go_wp2_with fail
   go_ret
   exact ⟨by rw [E.out]; rfl, BB.out⟩
  case pos =>
   obtain ⟨b, o, rfl, HC0⟩ := HCL.out k hlt
   have HX := Box'.mk (HC0 k hlt)
   have HY := Box'.mk (fun h => HC0 (k - 1) (by omega) h)
   have MY := Box'.mk (MF.out (cat l k))
   clear HCL HC0 MF
   go_wp2_with fail
   by_cases hz : k = 0
   case pos =>
    subst hz
    cases hm : mayC (cat l 0) with
    | false =>
     have MZ := Box'.mk MY.out
     rw [hm] at MZ
     refine wp_region_growh 22 (by kernel_rfl) 32 rfl (by kernel_rfl) (fun wa wb => Below wa.heap.size wa wb) (fun wa => Below w.heap.size w wa) (fun kc wa v => match kc with
      | 0 => v = .int .i64 0
      | 1 => v = .bool true
      | 2 => v = .bool true
      | 3 => v = undef
      | 4 => v = undef
      | 5 => v = undef
      | 6 => v = undef
      | 7 => v = undef
      | 8 => v = undef
      | 9 => v = undef
      | 10 => v = undef
      | 11 => v = undef
      | 12 => v = undef
      | 13 => v = .bool true
      | 14 => v = .bool true
      | 15 => v = .slice (some ⟨b, o, none⟩) n c
      | 16 => v = .int .i64 0
      | 17 => v = .pointer (some ⟨b, o, none⟩)
      | 18 => v = .agg (cA (cat l 0))
      | 19 => v = .bool false
      | 20 => v = .bool true
      | 21 => v = .bool true
      | _ => True) (fun i => !([3, 4, 5, 6, 7, 8, 9, 10, 11, 12] : List Nat).contains i) ?_ ?_ ?_ ?_ ?_ ?_ ?_ ?_
     ·intro i o' j b' hi hg wa v hC hV
      have hlt : i < 22 := by rcases Nat.lt_or_ge i 22 with q | q; exact q; rw [List.getElem?_eq_none (by simpa using q)] at hi; cases hi
      revert hi hg hV
      rcases (show i = 0 ∨ i = 1 ∨ i = 2 ∨ i = 3 ∨ i = 4 ∨ i = 5 ∨ i = 6 ∨ i = 7 ∨ i = 8 ∨ i = 9 ∨ i = 10 ∨ i = 11 ∨ i = 12 ∨ i = 13 ∨ i = 14 ∨ i = 15 ∨ i = 16 ∨ i = 17 ∨ i = 18 ∨ i = 19 ∨ i = 20 ∨ i = 21 by omega) with rfl | rfl | rfl | rfl | rfl | rfl | rfl | rfl | rfl | rfl | rfl | rfl | rfl | rfl | rfl | rfl | rfl | rfl | rfl | rfl | rfl | rfl <;>
       (intro hi hg hV; simp only [tkS, List.getElem?_cons_zero, List.getElem?_cons_succ, Option.some.injEq] at hi; subst hi; first | (cases hg; first | exact hV | exact (show v ≠ _ from (by rw [hV]; intro hh; cases hh))) | (cases hg))
     ·intro i o' hi hg
      have hlt : i < 22 := by rcases Nat.lt_or_ge i 22 with q | q; exact q; rw [List.getElem?_eq_none (by simpa using q)] at hi; cases hi
      revert hi hg
      rcases (show i = 0 ∨ i = 1 ∨ i = 2 ∨ i = 3 ∨ i = 4 ∨ i = 5 ∨ i = 6 ∨ i = 7 ∨ i = 8 ∨ i = 9 ∨ i = 10 ∨ i = 11 ∨ i = 12 ∨ i = 13 ∨ i = 14 ∨ i = 15 ∨ i = 16 ∨ i = 17 ∨ i = 18 ∨ i = 19 ∨ i = 20 ∨ i = 21 by omega) with rfl | rfl | rfl | rfl | rfl | rfl | rfl | rfl | rfl | rfl | rfl | rfl | rfl | rfl | rfl | rfl | rfl | rfl | rfl | rfl | rfl | rfl <;>
       (intro hi hg; simp only [tkS, List.getElem?_cons_zero, List.getElem?_cons_succ, Option.some.injEq] at hi; subst hi; first | (cases hg; done) | (intro hh; cases hh))
     ·intro i hi wa
      have hi' : (!([3, 4, 5, 6, 7, 8, 9, 10, 11, 12] : List Nat).contains i) = false := hi
      have hm : i ∈ ([3, 4, 5, 6, 7, 8, 9, 10, 11, 12] : List Nat) := List.contains_iff_mem.1 (by cases hc : ([3, 4, 5, 6, 7, 8, 9, 10, 11, 12] : List Nat).contains i with | true => rfl | false => rw [hc] at hi'; cases hi')
      simp only [List.mem_cons, List.not_mem_nil, or_false] at hm
      rcases hm with rfl | rfl | rfl | rfl | rfl | rfl | rfl | rfl | rfl | rfl <;> rfl
     ·intro wa wb hb q; exact q.trans (hb.mono q.size)
     ·intro kc v wa wb hC1 hb h
      match kc, h with
      | 0, h => exact h
      | 1, h => exact h
      | 2, h => exact h
      | 3, h => exact h
      | 4, h => exact h
      | 5, h => exact h
      | 6, h => exact h
      | 7, h => exact h
      | 8, h => exact h
      | 9, h => exact h
      | 10, h => exact h
      | 11, h => exact h
      | 12, h => exact h
      | 13, h => exact h
      | 14, h => exact h
      | 15, h => exact h
      | 16, h => exact h
      | 17, h => exact h
      | 18, h => exact h
      | 19, h => exact h
      | 20, h => exact h
      | 21, h => exact h
      | kc + 22, h => trivial
     ·exact BB.out.drew
     ·refine ⟨?_, ?_, ?_, ?_, ?_, ?_, ?_, ?_, ?_, ?_, ?_, ?_, ?_, ?_, ?_, ?_, ?_, ?_, ?_, ?_, ?_, ?_, trivial⟩
      ·intro _ f wq hC hd KK hK
       clear hd
       simp only [tkS, tkZ, setAll, siB, stS, stZ, Nat.zero_add, Nat.reduceAdd] at hK ⊢
       refine wp_of_quiet rfl ?_
       go_big_quiet_step (fail)
       exact wpQuiet_nil (hK _ _ (rfl) bR)
      ·intro _ f wq hC hd KK hK
       have g0 : f 0 = .int .i64 0 := hd 0 (by kernel_rfl)
       clear hd
       simp only [tkS, tkZ, setAll, siB, stS, stZ, Nat.zero_add, Nat.reduceAdd, g0] at hK ⊢
       refine wp_of_quiet rfl ?_
       go_big_quiet_step (fail)
       exact wpQuiet_nil (hK _ _ (by first | rfl | (simp; omega) | simp) bR)
      ·intro _ f wq hC hd KK hK
       have g1 : f 1 = .bool true := hd 1 (by kernel_rfl)
       clear hd
       simp only [tkS, tkZ, setAll, siB, stS, stZ, Nat.zero_add, Nat.reduceAdd, g1] at hK ⊢
       refine wp_of_quiet rfl ?_
       go_big_quiet_step (fail)
       exact wpQuiet_nil (hK _ _ (rfl) bR)
      ·intro hh; cases hh
      ·intro hh; cases hh
      ·intro hh; cases hh
      ·intro hh; cases hh
      ·intro hh; cases hh
      ·intro hh; cases hh
      ·intro hh; cases hh
      ·intro hh; cases hh
      ·intro hh; cases hh
      ·intro hh; cases hh
      ·intro _ f wq hC hd KK hK
       have g2 : f 2 = .bool true := hd 2 (by kernel_rfl)
       clear hd
       simp only [tkS, tkZ, setAll, siB, stS, stZ, Nat.zero_add, Nat.reduceAdd, g2] at hK ⊢
       refine wp_of_quiet rfl ?_
       go_big_quiet_step (fail)
       exact wpQuiet_nil (hK _ _ (rfl) bR)
      ·intro _ f wq hC hd KK hK
       have g13 : f 13 = .bool true := hd 13 (by kernel_rfl)
       clear hd
       simp only [tkS, tkZ, setAll, siB, stS, stZ, Nat.zero_add, Nat.reduceAdd, g13] at hK ⊢
       refine wp_of_quiet rfl ?_
       go_big_quiet_step (fail)
       exact wpQuiet_nil (hK _ _ (rfl) bR)
      ·intro _ f wq hC hd KK hK
       clear hd
       simp only [tkS, tkZ, setAll, siB, stS, stZ, Nat.zero_add, Nat.reduceAdd] at hK ⊢
       refine wp_unguard ?_
       refine wp_of_quiet rfl ?_
       go_big_quiet_step (fail)
       exact wpQuiet_nil (hK _ _ (rfl) bR)
      ·intro _ f wq hC hd KK hK
       clear hd
       simp only [tkS, tkZ, setAll, siB, stS, stZ, Nat.zero_add, Nat.reduceAdd] at hK ⊢
       refine wp_unguard ?_
       refine wp_of_quiet rfl ?_
       go_big_quiet_step (fail)
       exact wpQuiet_nil (hK _ _ (rfl) bR)
      ·intro _ f wq hC hd KK hK
       have g15 : f 15 = .slice (some ⟨b, o, none⟩) n c := hd 15 (by kernel_rfl)
       have g16 : f 16 = .int .i64 0 := hd 16 (by kernel_rfl)
       clear hd
       simp only [tkS, tkZ, setAll, siB, stS, stZ, Nat.zero_add, Nat.reduceAdd, g15, g16] at hK ⊢
       refine wp_unguard ?_
       refine wp_of_quiet rfl ?_
       go_big_quiet_step (fail)
       exact wpQuiet_nil (hK _ _ (rfl) bR)
      ·intro _ f wq hC hd KK hK
       have g17 : f 17 = .pointer (some ⟨b, o, none⟩) := hd 17 (by kernel_rfl)
       clear hd
       simp only [tkS, tkZ, setAll, siB, stS, stZ, Nat.zero_add, Nat.reduceAdd, g17] at hK ⊢
       refine wp_unguard ?_
       exact wp_load_cell (.tmp 26) rfl b (o) (cat l 0) rfl (by have := HX.out wq hC; simpa using this) (hK _ _ rfl bR)
      ·intro _ f wq hC hd KK hK
       have g18 : f 18 = .agg (cA (cat l 0)) := hd 18 (by kernel_rfl)
       clear hd
       simp only [tkS, tkZ, setAll, siB, stS, stZ, Nat.zero_add, Nat.reduceAdd, g18] at hK ⊢
       refine wp_unguard ?_
       exact wp_call 50 #[.agg (cA (cat l 0))] (by simp [go_sem]) _ _ (MZ.out wq) (fun w' hb => hK _ _ rfl hb)
      ·intro _ f wq hC hd KK hK
       have g19 : f 19 = .bool false := hd 19 (by kernel_rfl)
       clear hd
       simp only [tkS, tkZ, setAll, siB, stS, stZ, Nat.zero_add, Nat.reduceAdd, g19] at hK ⊢
       refine wp_unguard ?_
       refine wp_of_quiet rfl ?_
       go_big_quiet_step (fail)
       exact wpQuiet_nil (hK _ _ (rfl) bR)
      ·intro _ f wq hC hd KK hK
       have g14 : f 14 = .bool true := hd 14 (by kernel_rfl)
       have g20 : f 20 = .bool true := hd 20 (by kernel_rfl)
       clear hd
       simp only [tkS, tkZ, setAll, siB, stS, stZ, Nat.zero_add, Nat.reduceAdd, g14, g20] at hK ⊢
       refine wp_of_quiet rfl ?_
       go_big_quiet_step (fail)
       exact wpQuiet_nil (hK _ _ (rfl) bR)
     ·intro f wz hC hv
      have p0 : f 0 = .int .i64 0 := hv 0 (by decide)
      have p1 : f 1 = .bool true := hv 1 (by decide)
      have p2 : f 2 = .bool true := hv 2 (by decide)
      have p13 : f 13 = .bool true := hv 13 (by decide)
      have p14 : f 14 = .bool true := hv 14 (by decide)
      have p15 : f 15 = .slice (some ⟨b, o, none⟩) n c := hv 15 (by decide)
      have p16 : f 16 = .int .i64 0 := hv 16 (by decide)
      have p17 : f 17 = .pointer (some ⟨b, o, none⟩) := hv 17 (by decide)
      have p18 : f 18 = .agg (cA (cat l 0)) := hv 18 (by decide)
      have p19 : f 19 = .bool false := hv 19 (by decide)
      have p20 : f 20 = .bool true := hv 20 (by decide)
      have p21 : f 21 = .bool true := hv 21 (by decide)
      simp only [tkS, tkZ, List.drop_succ_cons, List.drop_zero, setAll, siB, stS, stZ, Nat.zero_add, Nat.reduceAdd, p0, p1, p2, p13, p14, p15, p16, p17, p18, p19, p20, p21]
      clear hv p0 p1 p2 p13 p14 p15 p16 p17 p18 p19 p20 p21
      have E := Box'.mk (WF.out 0 hlt hm)
      have B2 := Box'.mk hC
      clear hC
      go_wp2_with fail
      go_ret
      exact ⟨by rw [E.out]; rfl, B2.out⟩
    | true =>
     have MZ := Box'.mk MY.out
     rw [hm] at MZ
     have OK2 : Box' (∀ i, i < 0 + 1 → mayC (cat l i) = true) := ⟨fun i hi => by
      rcases Nat.lt_or_ge i 0 with q | q
      ·exact OK.out i q
      ·rw [show i = 0 by omega]; exact hm⟩
     refine wp_region_growh 22 (by kernel_rfl) 32 rfl (by kernel_rfl) (fun wa wb => Below wa.heap.size wa wb) (fun wa => Below w.heap.size w wa) (fun kc wa v => match kc with
      | 0 => v = .int .i64 0
      | 1 => v = .bool true
      | 2 => v = .bool true
      | 3 => v = undef
      | 4 => v = undef
      | 5 => v = undef
      | 6 => v = undef
      | 7 => v = undef
      | 8 => v = undef
      | 9 => v = undef
      | 10 => v = undef
      | 11 => v = undef
      | 12 => v = undef
      | 13 => v = .bool true
      | 14 => v = .bool true
      | 15 => v = .slice (some ⟨b, o, none⟩) n c
      | 16 => v = .int .i64 0
      | 17 => v = .pointer (some ⟨b, o, none⟩)
      | 18 => v = .agg (cA (cat l 0))
      | 19 => v = .bool true
      | 20 => v = .bool false
      | 21 => v = .bool false
      | _ => True) (fun i => !([3, 4, 5, 6, 7, 8, 9, 10, 11, 12] : List Nat).contains i) ?_ ?_ ?_ ?_ ?_ ?_ ?_ ?_
     ·intro i o' j b' hi hg wa v hC hV
      have hlt : i < 22 := by rcases Nat.lt_or_ge i 22 with q | q; exact q; rw [List.getElem?_eq_none (by simpa using q)] at hi; cases hi
      revert hi hg hV
      rcases (show i = 0 ∨ i = 1 ∨ i = 2 ∨ i = 3 ∨ i = 4 ∨ i = 5 ∨ i = 6 ∨ i = 7 ∨ i = 8 ∨ i = 9 ∨ i = 10 ∨ i = 11 ∨ i = 12 ∨ i = 13 ∨ i = 14 ∨ i = 15 ∨ i = 16 ∨ i = 17 ∨ i = 18 ∨ i = 19 ∨ i = 20 ∨ i = 21 by omega) with rfl | rfl | rfl | rfl | rfl | rfl | rfl | rfl | rfl | rfl | rfl | rfl | rfl | rfl | rfl | rfl | rfl | rfl | rfl | rfl | rfl | rfl <;>
       (intro hi hg hV; simp only [tkS, List.getElem?_cons_zero, List.getElem?_cons_succ, Option.some.injEq] at hi; subst hi; first | (cases hg; first | exact hV | exact (show v ≠ _ from (by rw [hV]; intro hh; cases hh))) | (cases hg))
     ·intro i o' hi hg
      have hlt : i < 22 := by rcases Nat.lt_or_ge i 22 with q | q; exact q; rw [List.getElem?_eq_none (by simpa using q)] at hi; cases hi
      revert hi hg
      rcases (show i = 0 ∨ i = 1 ∨ i = 2 ∨ i = 3 ∨ i = 4 ∨ i = 5 ∨ i = 6 ∨ i = 7 ∨ i = 8 ∨ i = 9 ∨ i = 10 ∨ i = 11 ∨ i = 12 ∨ i = 13 ∨ i = 14 ∨ i = 15 ∨ i = 16 ∨ i = 17 ∨ i = 18 ∨ i = 19 ∨ i = 20 ∨ i = 21 by omega) with rfl | rfl | rfl | rfl | rfl | rfl | rfl | rfl | rfl | rfl | rfl | rfl | rfl | rfl | rfl | rfl | rfl | rfl | rfl | rfl | rfl | rfl <;>
       (intro hi hg; simp only [tkS, List.getElem?_cons_zero, List.getElem?_cons_succ, Option.some.injEq] at hi; subst hi; first | (cases hg; done) | (intro hh; cases hh))
     ·intro i hi wa
      have hi' : (!([3, 4, 5, 6, 7, 8, 9, 10, 11, 12] : List Nat).contains i) = false := hi
      have hm : i ∈ ([3, 4, 5, 6, 7, 8, 9, 10, 11, 12] : List Nat) := List.contains_iff_mem.1 (by cases hc : ([3, 4, 5, 6, 7, 8, 9, 10, 11, 12] : List Nat).contains i with | true => rfl | false => rw [hc] at hi'; cases hi')
      simp only [List.mem_cons, List.not_mem_nil, or_false] at hm
      rcases hm with rfl | rfl | rfl | rfl | rfl | rfl | rfl | rfl | rfl | rfl <;> rfl
     ·intro wa wb hb q; exact q.trans (hb.mono q.size)
     ·intro kc v wa wb hC1 hb h
      match kc, h with
      | 0, h => exact h
      | 1, h => exact h
      | 2, h => exact h
      | 3, h => exact h
      | 4, h => exact h
      | 5, h => exact h
      | 6, h => exact h
      | 7, h => exact h
      | 8, h => exact h
      | 9, h => exact h
      | 10, h => exact h
      | 11, h => exact h
      | 12, h => exact h
      | 13, h => exact h
      | 14, h => exact h
      | 15, h => exact h
      | 16, h => exact h
      | 17, h => exact h
      | 18, h => exact h
      | 19, h => exact h
      | 20, h => exact h
      | 21, h => exact h
      | kc + 22, h => trivial
     ·exact BB.out.drew
     ·refine ⟨?_, ?_, ?_, ?_, ?_, ?_, ?_, ?_, ?_, ?_, ?_, ?_, ?_, ?_, ?_, ?_, ?_, ?_, ?_, ?_, ?_, ?_, trivial⟩
      ·intro _ f wq hC hd KK hK
       clear hd
       simp only [tkS, tkZ, setAll, siB, stS, stZ, Nat.zero_add, Nat.reduceAdd] at hK ⊢
       refine wp_of_quiet rfl ?_
       go_big_quiet_step (fail)
       exact wpQuiet_nil (hK _ _ (rfl) bR)
      ·intro _ f wq hC hd KK hK
       have g0 : f 0 = .int .i64 0 := hd 0 (by kernel_rfl)
       clear hd
       simp only [tkS, tkZ, setAll, siB, stS, stZ, Nat.zero_add, Nat.reduceAdd, g0] at hK ⊢
       refine wp_of_quiet rfl ?_
       go_big_quiet_step (fail)
       exact wpQuiet_nil (hK _ _ (by first | rfl | (simp; omega) | simp) bR)
      ·intro _ f wq hC hd KK hK
       have g1 : f 1 = .bool true := hd 1 (by kernel_rfl)
       clear hd
       simp only [tkS, tkZ, setAll, siB, stS, stZ, Nat.zero_add, Nat.reduceAdd, g1] at hK ⊢
       refine wp_of_quiet rfl ?_
       go_big_quiet_step (fail)
       exact wpQuiet_nil (hK _ _ (rfl) bR)
      ·intro hh; cases hh
      ·intro hh; cases hh
      ·intro hh; cases hh
      ·intro hh; cases hh
      ·intro hh; cases hh
      ·intro hh; cases hh
      ·intro hh; cases hh
      ·intro hh; cases hh
      ·intro hh; cases hh
      ·intro hh; cases hh
      ·intro _ f wq hC hd KK hK
       have g2 : f 2 = .bool true := hd 2 (by kernel_rfl)
       clear hd
       simp only [tkS, tkZ, setAll, siB, stS, stZ, Nat.zero_add, Nat.reduceAdd, g2] at hK ⊢
       refine wp_of_quiet rfl ?_
       go_big_quiet_step (fail)
       exact wpQuiet_nil (hK _ _ (rfl) bR)
      ·intro _ f wq hC hd KK hK
       have g13 : f 13 = .bool true := hd 13 (by kernel_rfl)
       clear hd
       simp only [tkS, tkZ, setAll, siB, stS, stZ, Nat.zero_add, Nat.reduceAdd, g13] at hK ⊢
       refine wp_of_quiet rfl ?_
       go_big_quiet_step (fail)
       exact wpQuiet_nil (hK _ _ (rfl) bR)
      ·intro _ f wq hC hd KK hK
       clear hd
       simp only [tkS, tkZ, setAll, siB, stS, stZ, Nat.zero_add, Nat.reduceAdd] at hK ⊢
       refine wp_unguard ?_
       refine wp_of_quiet rfl ?_
       go_big_quiet_step (fail)
       exact wpQuiet_nil (hK _ _ (rfl) bR)
      ·intro _ f wq hC hd KK hK
       clear hd
       simp only [tkS, tkZ, setAll, siB, stS, stZ, Nat.zero_add, Nat.reduceAdd] at hK ⊢
       refine wp_unguard ?_
       refine wp_of_quiet rfl ?_
       go_big_quiet_step (fail)
       exact wpQuiet_nil (hK _ _ (rfl) bR)
      ·intro _ f wq hC hd KK hK
       have g15 : f 15 = .slice (some ⟨b, o, none⟩) n c := hd 15 (by kernel_rfl)
       have g16 : f 16 = .int .i64 0 := hd 16 (by kernel_rfl)
       clear hd
       simp only [tkS, tkZ, setAll, siB, stS, stZ, Nat.zero_add, Nat.reduceAdd, g15, g16] at hK ⊢
       refine wp_unguard ?_
       refine wp_of_quiet rfl ?_
       go_big_quiet_step (fail)
       exact wpQuiet_nil (hK _ _ (rfl) bR)
      ·intro _ f wq hC hd KK hK
       have g17 : f 17 = .pointer (some ⟨b, o, none⟩) := hd 17 (by kernel_rfl)
       clear hd
       simp only [tkS, tkZ, setAll, siB, stS, stZ, Nat.zero_add, Nat.reduceAdd, g17] at hK ⊢
       refine wp_unguard ?_
       exact wp_load_cell (.tmp 26) rfl b (o) (cat l 0) rfl (by have := HX.out wq hC; simpa using this) (hK _ _ rfl bR)
      ·intro _ f wq hC hd KK hK
       have g18 : f 18 = .agg (cA (cat l 0)) := hd 18 (by kernel_rfl)
       clear hd
       simp only [tkS, tkZ, setAll, siB, stS, stZ, Nat.zero_add, Nat.reduceAdd, g18] at hK ⊢
       refine wp_unguard ?_
       exact wp_call 50 #[.agg (cA (cat l 0))] (by simp [go_sem]) _ _ (MZ.out wq) (fun w' hb => hK _ _ rfl hb)
      ·intro _ f wq hC hd KK hK
       have g19 : f 19 = .bool true := hd 19 (by kernel_rfl)
       clear hd
       simp only [tkS, tkZ, setAll, siB, stS, stZ, Nat.zero_add, Nat.reduceAdd, g19] at hK ⊢
       refine wp_unguard ?_
       refine wp_of_quiet rfl ?_
       go_big_quiet_step (fail)
       exact wpQuiet_nil (hK _ _ (rfl) bR)
      ·intro _ f wq hC hd KK hK
       have g14 : f 14 = .bool true := hd 14 (by kernel_rfl)
       have g20 : f 20 = .bool false := hd 20 (by kernel_rfl)
       clear hd
       simp only [tkS, tkZ, setAll, siB, stS, stZ, Nat.zero_add, Nat.reduceAdd, g14, g20] at hK ⊢
       refine wp_of_quiet rfl ?_
       go_big_quiet_step (fail)
       exact wpQuiet_nil (hK _ _ (rfl) bR)
     ·intro f wz hC hv
      have p0 : f 0 = .int .i64 0 := hv 0 (by decide)
      have p1 : f 1 = .bool true := hv 1 (by decide)
      have p2 : f 2 = .bool true := hv 2 (by decide)
      have p13 : f 13 = .bool true := hv 13 (by decide)
      have p14 : f 14 = .bool true := hv 14 (by decide)
      have p15 : f 15 = .slice (some ⟨b, o, none⟩) n c := hv 15 (by decide)
      have p16 : f 16 = .int .i64 0 := hv 16 (by decide)
      have p17 : f 17 = .pointer (some ⟨b, o, none⟩) := hv 17 (by decide)
      have p18 : f 18 = .agg (cA (cat l 0)) := hv 18 (by decide)
      have p19 : f 19 = .bool true := hv 19 (by decide)
      have p20 : f 20 = .bool false := hv 20 (by decide)
      have p21 : f 21 = .bool false := hv 21 (by decide)
      simp only [tkS, tkZ, List.drop_succ_cons, List.drop_zero, setAll, siB, stS, stZ, Nat.zero_add, Nat.reduceAdd, p0, p1, p2, p13, p14, p15, p16, p17, p18, p19, p20, p21]
      clear hv p0 p1 p2 p13 p14 p15 p16 p17 p18 p19 p20 p21
      have B2 := Box'.mk hC
      clear hC
      go_wp2_with fail
      exact ⟨⟨0 + 1, by omega, by go_num, OK2, B2⟩, by simp [intOf]; omega⟩
   case neg =>
    by_cases he : cat l k = cat l (k - 1)
    case pos =>
     have hm : mayC (cat l k) = true := by rw [he]; exact OK.out (k - 1) (by omega)
     have EQ : Box' ((!clB (cat l k) (cat l (k - 1))) = false) := ⟨by rw [clB_yes he]; rfl⟩
     have OK2 : Box' (∀ i, i < k + 1 → mayC (cat l i) = true) := ⟨fun i hi => by
      rcases Nat.lt_or_ge i k with q | q
      ·exact OK.out i q
      ·rw [show i = k by omega]; exact hm⟩
     clear he hm
     refine wp_region_growh 22 (by kernel_rfl) 32 rfl (by kernel_rfl) (fun wa wb => Below wa.heap.size wa wb) (fun wa => Below w.heap.size w wa) (fun kc wa v => match kc with
      | 0 => v = .int .i64 (k : Int)
      | 1 => v = .bool false
      | 2 => v = .bool false
      | 3 => v = .slice (some ⟨b, o, none⟩) n c
      | 4 => v = .int .i64 (k : Int)
      | 5 => v = .pointer (some ⟨b, o + k * 15, none⟩)
      | 6 => v = .agg (cA (cat l k))
      | 7 => v = .slice (some ⟨b, o, none⟩) n c
      | 8 => v = .int .i64 (k : Int)
      | 9 => v = .int .i64 ((k : Int) - 1)
      | 10 => v = .pointer (some ⟨b, o + (k - 1) * 15, none⟩)
      | 11 => v = .agg (cA (cat l (k - 1)))
      | 12 => v = .bool false
      | 13 => v = .bool false
      | 14 => v = .bool false
      | 15 => v = undef
      | 16 => v = undef
      | 17 => v = undef
      | 18 => v = undef
      | 19 => v = undef
      | 20 => v = undef
      | 21 => v = .bool false
      | _ => True) (fun i => !([15, 16, 17, 18, 19, 20] : List Nat).contains i) ?_ ?_ ?_ ?_ ?_ ?_ ?_ ?_
     ·intro i o' j b' hi hg wa v hC hV
      have hlt : i < 22 := by rcases Nat.lt_or_ge i 22 with q | q; exact q; rw [List.getElem?_eq_none (by simpa using q)] at hi; cases hi
      revert hi hg hV
      rcases (show i = 0 ∨ i = 1 ∨ i = 2 ∨ i = 3 ∨ i = 4 ∨ i = 5 ∨ i = 6 ∨ i = 7 ∨ i = 8 ∨ i = 9 ∨ i = 10 ∨ i = 11 ∨ i = 12 ∨ i = 13 ∨ i = 14 ∨ i = 15 ∨ i = 16 ∨ i = 17 ∨ i = 18 ∨ i = 19 ∨ i = 20 ∨ i = 21 by omega) with rfl | rfl | rfl | rfl | rfl | rfl | rfl | rfl | rfl | rfl | rfl | rfl | rfl | rfl | rfl | rfl | rfl | rfl | rfl | rfl | rfl | rfl <;>
       (intro hi hg hV; simp only [tkS, List.getElem?_cons_zero, List.getElem?_cons_succ, Option.some.injEq] at hi; subst hi; first | (cases hg; first | exact hV | exact (show v ≠ _ from (by rw [hV]; intro hh; cases hh))) | (cases hg))
     ·intro i o' hi hg
      have hlt : i < 22 := by rcases Nat.lt_or_ge i 22 with q | q; exact q; rw [List.getElem?_eq_none (by simpa using q)] at hi; cases hi
      revert hi hg
      rcases (show i = 0 ∨ i = 1 ∨ i = 2 ∨ i = 3 ∨ i = 4 ∨ i = 5 ∨ i = 6 ∨ i = 7 ∨ i = 8 ∨ i = 9 ∨ i = 10 ∨ i = 11 ∨ i = 12 ∨ i = 13 ∨ i = 14 ∨ i = 15 ∨ i = 16 ∨ i = 17 ∨ i = 18 ∨ i = 19 ∨ i = 20 ∨ i = 21 by omega) with rfl | rfl | rfl | rfl | rfl | rfl | rfl | rfl | rfl | rfl | rfl | rfl | rfl | rfl | rfl | rfl | rfl | rfl | rfl | rfl | rfl | rfl <;>
       (intro hi hg; simp only [tkS, List.getElem?_cons_zero, List.getElem?_cons_succ, Option.some.injEq] at hi; subst hi; first | (cases hg; done) | (intro hh; cases hh))
     ·intro i hi wa
      have hi' : (!([15, 16, 17, 18, 19, 20] : List Nat).contains i) = false := hi
      have hm : i ∈ ([15, 16, 17, 18, 19, 20] : List Nat) := List.contains_iff_mem.1 (by cases hc : ([15, 16, 17, 18, 19, 20] : List Nat).contains i with | true => rfl | false => rw [hc] at hi'; cases hi')
      simp only [List.mem_cons, List.not_mem_nil, or_false] at hm
      rcases hm with rfl | rfl | rfl | rfl | rfl | rfl <;> rfl
     ·intro wa wb hb q; exact q.trans (hb.mono q.size)
     ·intro kc v wa wb hC1 hb h
      match kc, h with
      | 0, h => exact h
      | 1, h => exact h
      | 2, h => exact h
      | 3, h => exact h
      | 4, h => exact h
      | 5, h => exact h
      | 6, h => exact h
      | 7, h => exact h
      | 8, h => exact h
      | 9, h => exact h
      | 10, h => exact h
      | 11, h => exact h
      | 12, h => exact h
      | 13, h => exact h
      | 14, h => exact h
      | 15, h => exact h
      | 16, h => exact h
      | 17, h => exact h
      | 18, h => exact h
      | 19, h => exact h
      | 20, h => exact h
      | 21, h => exact h
      | kc + 22, h => trivial
     ·exact BB.out.drew
     ·refine ⟨?_, ?_, ?_, ?_, ?_, ?_, ?_, ?_, ?_, ?_, ?_, ?_, ?_, ?_, ?_, ?_, ?_, ?_, ?_, ?_, ?_, ?_, trivial⟩
      ·intro _ f wq hC hd KK hK
       clear hd
       simp only [tkS, tkZ, setAll, siB, stS, stZ, Nat.zero_add, Nat.reduceAdd] at hK ⊢
       refine wp_of_quiet rfl ?_
       go_big_quiet_step (fail)
       exact wpQuiet_nil (hK _ _ (rfl) bR)
      ·intro _ f wq hC hd KK hK
       have g0 : f 0 = .int .i64 (k : Int) := hd 0 (by kernel_rfl)
       clear hd
       simp only [tkS, tkZ, setAll, siB, stS, stZ, Nat.zero_add, Nat.reduceAdd, g0] at hK ⊢
       refine wp_of_quiet rfl ?_
       go_big_quiet_step (fail)
       exact wpQuiet_nil (hK _ _ (by first | rfl | (simp; omega) | simp) bR)
      ·intro _ f wq hC hd KK hK
       have g1 : f 1 = .bool false := hd 1 (by kernel_rfl)
       clear hd
       simp only [tkS, tkZ, setAll, siB, stS, stZ, Nat.zero_add, Nat.reduceAdd, g1] at hK ⊢
       refine wp_of_quiet rfl ?_
       go_big_quiet_step (fail)
       exact wpQuiet_nil (hK _ _ (rfl) bR)
      ·intro _ f wq hC hd KK hK
       clear hd
       simp only [tkS, tkZ, setAll, siB, stS, stZ, Nat.zero_add, Nat.reduceAdd] at hK ⊢
       refine wp_unguard ?_
       refine wp_of_quiet rfl ?_
       go_big_quiet_step (fail)
       exact wpQuiet_nil (hK _ _ (rfl) bR)
      ·intro _ f wq hC hd KK hK
       clear hd
       simp only [tkS, tkZ, setAll, siB, stS, stZ, Nat.zero_add, Nat.reduceAdd] at hK ⊢
       refine wp_unguard ?_
       refine wp_of_quiet rfl ?_
       go_big_quiet_step (fail)
       exact wpQuiet_nil (hK _ _ (rfl) bR)
      ·intro _ f wq hC hd KK hK
       have g3 : f 3 = .slice (some ⟨b, o, none⟩) n c := hd 3 (by kernel_rfl)
       have g4 : f 4 = .int .i64 (k : Int) := hd 4 (by kernel_rfl)
       clear hd
       simp only [tkS, tkZ, setAll, siB, stS, stZ, Nat.zero_add, Nat.reduceAdd, g3, g4] at hK ⊢
       refine wp_unguard ?_
       refine wp_of_quiet rfl ?_
       go_big_quiet_step (fail)
       exact wpQuiet_nil (hK _ _ (rfl) bR)
      ·intro _ f wq hC hd KK hK
       have g5 : f 5 = .pointer (some ⟨b, o + k * 15, none⟩) := hd 5 (by kernel_rfl)
       clear hd
       simp only [tkS, tkZ, setAll, siB, stS, stZ, Nat.zero_add, Nat.reduceAdd, g5] at hK ⊢
       refine wp_unguard ?_
       exact wp_load_cell (.tmp 14) rfl b (o + k * 15) (cat l k) rfl (HX.out wq hC) (hK _ _ rfl bR)
      ·intro _ f wq hC hd KK hK
       clear hd
       simp only [tkS, tkZ, setAll, siB, stS, stZ, Nat.zero_add, Nat.reduceAdd] at hK ⊢
       refine wp_unguard ?_
       refine wp_of_quiet rfl ?_
       go_big_quiet_step (fail)
       exact wpQuiet_nil (hK _ _ (rfl) bR)
      ·intro _ f wq hC hd KK hK
       clear hd
       simp only [tkS, tkZ, setAll, siB, stS, stZ, Nat.zero_add, Nat.reduceAdd] at hK ⊢
       refine wp_unguard ?_
       refine wp_of_quiet rfl ?_
       go_big_quiet_step (fail)
       exact wpQuiet_nil (hK _ _ (rfl) bR)
      ·intro _ f wq hC hd KK hK
       have g8 : f 8 = .int .i64 (k : Int) := hd 8 (by kernel_rfl)
       clear hd
       simp only [tkS, tkZ, setAll, siB, stS, stZ, Nat.zero_add, Nat.reduceAdd, g8] at hK ⊢
       refine wp_unguard ?_
       refine wp_of_quiet rfl ?_
       go_big_quiet_step (fail)
       exact wpQuiet_nil (hK _ _ (rfl) bR)
      ·intro _ f wq hC hd KK hK
       have g7 : f 7 = .slice (some ⟨b, o, none⟩) n c := hd 7 (by kernel_rfl)
       have g9 : f 9 = .int .i64 ((k : Int) - 1) := hd 9 (by kernel_rfl)
       clear hd
       simp only [tkS, tkZ, setAll, siB, stS, stZ, Nat.zero_add, Nat.reduceAdd, g7, g9] at hK ⊢
       refine wp_unguard ?_
       refine wp_of_quiet rfl ?_
       go_big_quiet_step (fail)
       exact wpQuiet_nil (hK _ _ (by first | rfl | (simp; omega)) bR)
      ·intro _ f wq hC hd KK hK
       have g10 : f 10 = .pointer (some ⟨b, o + (k - 1) * 15, none⟩) := hd 10 (by kernel_rfl)
       clear hd
       simp only [tkS, tkZ, setAll, siB, stS, stZ, Nat.zero_add, Nat.reduceAdd, g10] at hK ⊢
       refine wp_unguard ?_
       exact wp_load_cell (.tmp 19) rfl b (o + (k - 1) * 15) (cat l (k - 1)) rfl (HY.out wq hC) (hK _ _ rfl bR)
      ·intro _ f wq hC hd KK hK
       have g6 : f 6 = .agg (cA (cat l k)) := hd 6 (by kernel_rfl)
       have g11 : f 11 = .agg (cA (cat l (k - 1))) := hd 11 (by kernel_rfl)
       clear hd
       simp only [tkS, tkZ, setAll, siB, stS, stZ, Nat.zero_add, Nat.reduceAdd, g6, g11] at hK ⊢
       refine wp_unguard ?_
       exact wp_val _ (run_neq_cell_op 49 (.tmp 15) (.tmp 20) rfl (cat l k) (cat l (k - 1)) rfl rfl _ EQ.out _) (hK _ _ rfl bR)
      ·intro _ f wq hC hd KK hK
       have g2 : f 2 = .bool false := hd 2 (by kernel_rfl)
       have g12 : f 12 = .bool false := hd 12 (by kernel_rfl)
       clear hd
       simp only [tkS, tkZ, setAll, siB, stS, stZ, Nat.zero_add, Nat.reduceAdd, g2, g12] at hK ⊢
       refine wp_of_quiet rfl ?_
       go_big_quiet_step (fail)
       exact wpQuiet_nil (hK _ _ (rfl) bR)
      ·intro _ f wq hC hd KK hK
       have g13 : f 13 = .bool false := hd 13 (by kernel_rfl)
       clear hd
       simp only [tkS, tkZ, setAll, siB, stS, stZ, Nat.zero_add, Nat.reduceAdd, g13] at hK ⊢
       refine wp_of_quiet rfl ?_
       go_big_quiet_step (fail)
       exact wpQuiet_nil (hK _ _ (rfl) bR)
      ·intro hh; cases hh
      ·intro hh; cases hh
      ·intro hh; cases hh
      ·intro hh; cases hh
      ·intro hh; cases hh
      ·intro hh; cases hh
      ·intro _ f wq hC hd KK hK
       have g14 : f 14 = .bool false := hd 14 (by kernel_rfl)
       clear hd
       simp only [tkS, tkZ, setAll, siB, stS, stZ, Nat.zero_add, Nat.reduceAdd, g14] at hK ⊢
       refine wp_of_quiet rfl ?_
       go_big_quiet_step (fail)
       exact wpQuiet_nil (hK _ _ (rfl) bR)
     ·intro f wz hC hv
      have p0 : f 0 = .int .i64 (k : Int) := hv 0 (by decide)
      have p1 : f 1 = .bool false := hv 1 (by decide)
      have p2 : f 2 = .bool false := hv 2 (by decide)
      have p3 : f 3 = .slice (some ⟨b, o, none⟩) n c := hv 3 (by decide)
      have p4 : f 4 = .int .i64 (k : Int) := hv 4 (by decide)
      have p5 : f 5 = .pointer (some ⟨b, o + k * 15, none⟩) := hv 5 (by decide)
      have p6 : f 6 = .agg (cA (cat l k)) := hv 6 (by decide)
      have p7 : f 7 = .slice (some ⟨b, o, none⟩) n c := hv 7 (by decide)
      have p8 : f 8 = .int .i64 (k : Int) := hv 8 (by decide)
      have p9 : f 9 = .int .i64 ((k : Int) - 1) := hv 9 (by decide)
      have p10 : f 10 = .pointer (some ⟨b, o + (k - 1) * 15, none⟩) := hv 10 (by decide)
      have p11 : f 11 = .agg (cA (cat l (k - 1))) := hv 11 (by decide)
      have p12 : f 12 = .bool false := hv 12 (by decide)
      have p13 : f 13 = .bool false := hv 13 (by decide)
      have p14 : f 14 = .bool false := hv 14 (by decide)
      have p21 : f 21 = .bool false := hv 21 (by decide)
      simp only [tkS, tkZ, List.drop_succ_cons, List.drop_zero, setAll, siB, stS, stZ, Nat.zero_add, Nat.reduceAdd, p0, p1, p2, p3, p4, p5, p6, p7, p8, p9, p10, p11, p12, p13, p14, p21]
      clear hv p0 p1 p2 p3 p4 p5 p6 p7 p8 p9 p10 p11 p12 p13 p14 p21
      have B2 := Box'.mk hC
      clear hC
      go_wp2_with fail
      exact ⟨⟨k + 1, by omega, by go_num, OK2, B2⟩, by simp [intOf]; omega⟩
    case neg =>
     have EQ : Box' ((!clB (cat l k) (cat l (k - 1))) = true) := ⟨by rw [clB_no he]; rfl⟩
     clear he
     cases hm : mayC (cat l k) with
     | false =>
      have MZ := Box'.mk MY.out
      rw [hm] at MZ
      refine wp_region_growg 22 (by kernel_rfl) 32 rfl (by kernel_rfl) (fun wa wb => Below wa.heap.size wa wb) (fun wa => Below w.heap.size w wa) (fun kc wa v => match kc with
       | 0 => v = .int .i64 (k : Int)
       | 1 => v = .bool false
       | 2 => v = .bool false
       | 3 => v = .slice (some ⟨b, o, none⟩) n c
       | 4 => v = .int .i64 (k : Int)
       | 5 => v = .pointer (some ⟨b, o + k * 15, none⟩)
       | 6 => v = .agg (cA (cat l k))
       | 7 => v = .slice (some ⟨b, o, none⟩) n c
       | 8 => v = .int .i64 (k : Int)
       | 9 => v = .int .i64 ((k : Int) - 1)
       | 10 => v = .pointer (some ⟨b, o + (k - 1) * 15, none⟩)
       | 11 => v = .agg (cA (cat l (k - 1)))
       | 12 => v = .bool true
       | 13 => v = .bool true
       | 14 => v = .bool true
       | 15 => v = .slice (some ⟨b, o, none⟩) n c
       | 16 => v = .int .i64 (k : Int)
       | 17 => v = .pointer (some ⟨b, o + k * 15, none⟩)
       | 18 => v = .agg (cA (cat l k))
       | 19 => v = .bool false
       | 20 => v = .bool true
       | 21 => v = .bool true
       | _ => True) ?_ ?_ ?_ ?_ ?_ ?_
      ·intro i o' j b' hi hg wa v hC hV
       have hlt : i < 22 := by rcases Nat.lt_or_ge i 22 with q | q; exact q; rw [List.getElem?_eq_none (by simpa using q)] at hi; cases hi
       revert hi hg hV
       rcases (show i = 0 ∨ i = 1 ∨ i = 2 ∨ i = 3 ∨ i = 4 ∨ i = 5 ∨ i = 6 ∨ i = 7 ∨ i = 8 ∨ i = 9 ∨ i = 10 ∨ i = 11 ∨ i = 12 ∨ i = 13 ∨ i = 14 ∨ i = 15 ∨ i = 16 ∨ i = 17 ∨ i = 18 ∨ i = 19 ∨ i = 20 ∨ i = 21 by omega) with rfl | rfl | rfl | rfl | rfl | rfl | rfl | rfl | rfl | rfl | rfl | rfl | rfl | rfl | rfl | rfl | rfl | rfl | rfl | rfl | rfl | rfl <;>
        (intro hi hg hV; simp only [tkS, List.getElem?_cons_zero, List.getElem?_cons_succ, Option.some.injEq] at hi; subst hi; first | (cases hg; exact hV) | (cases hg))
      ·intro wa wb hb q; exact q.trans (hb.mono q.size)
      ·intro kc v wa wb hC1 hb h
       match kc, h with
       | 0, h => exact h
       | 1, h => exact h
       | 2, h => exact h
       | 3, h => exact h
       | 4, h => exact h
       | 5, h => exact h
       | 6, h => exact h
       | 7, h => exact h
       | 8, h => exact h
       | 9, h => exact h
       | 10, h => exact h
       | 11, h => exact h
       | 12, h => exact h
       | 13, h => exact h
       | 14, h => exact h
       | 15, h => exact h
       | 16, h => exact h
       | 17, h => exact h
       | 18, h => exact h
       | 19, h => exact h
       | 20, h => exact h
       | 21, h => exact h
       | kc + 22, h => trivial
      ·exact BB.out.drew
      ·refine ⟨?_, ?_, ?_, ?_, ?_, ?_, ?_, ?_, ?_, ?_, ?_, ?_, ?_, ?_, ?_, ?_, ?_, ?_, ?_, ?_, ?_, ?_, trivial⟩
       ·intro f wq hC hd KK hK
        clear hd
        simp only [tkS, tkZ, setAll, siB, stS, stZ, Nat.zero_add, Nat.reduceAdd] at hK ⊢
        refine wp_of_quiet rfl ?_
        go_big_quiet_step (fail)
        exact wpQuiet_nil (hK _ _ (rfl) bR)
       ·intro f wq hC hd KK hK
        have g0 : f 0 = .int .i64 (k : Int) := hd 0 (by kernel_rfl)
        clear hd
        simp only [tkS, tkZ, setAll, siB, stS, stZ, Nat.zero_add, Nat.reduceAdd, g0] at hK ⊢
        refine wp_of_quiet rfl ?_
        go_big_quiet_step (fail)
        exact wpQuiet_nil (hK _ _ (by first | rfl | (simp; omega) | simp) bR)
       ·intro f wq hC hd KK hK
        have g1 : f 1 = .bool false := hd 1 (by kernel_rfl)
        clear hd
        simp only [tkS, tkZ, setAll, siB, stS, stZ, Nat.zero_add, Nat.reduceAdd, g1] at hK ⊢
        refine wp_of_quiet rfl ?_
        go_big_quiet_step (fail)
        exact wpQuiet_nil (hK _ _ (rfl) bR)
       ·intro f wq hC hd KK hK
        clear hd
        simp only [tkS, tkZ, setAll, siB, stS, stZ, Nat.zero_add, Nat.reduceAdd] at hK ⊢
        refine wp_unguard ?_
        refine wp_of_quiet rfl ?_
        go_big_quiet_step (fail)
        exact wpQuiet_nil (hK _ _ (rfl) bR)
       ·intro f wq hC hd KK hK
        clear hd
        simp only [tkS, tkZ, setAll, siB, stS, stZ, Nat.zero_add, Nat.reduceAdd] at hK ⊢
        refine wp_unguard ?_
        refine wp_of_quiet rfl ?_
        go_big_quiet_step (fail)
        exact wpQuiet_nil (hK _ _ (rfl) bR)
       ·intro f wq hC hd KK hK
        have g3 : f 3 = .slice (some ⟨b, o, none⟩) n c := hd 3 (by kernel_rfl)
        have g4 : f 4 = .int .i64 (k : Int) := hd 4 (by kernel_rfl)
        clear hd
        simp only [tkS, tkZ, setAll, siB, stS, stZ, Nat.zero_add, Nat.reduceAdd, g3, g4] at hK ⊢
        refine wp_unguard ?_
        refine wp_of_quiet rfl ?_
        go_big_quiet_step (fail)
        exact wpQuiet_nil (hK _ _ (rfl) bR)
       ·intro f wq hC hd KK hK
        have g5 : f 5 = .pointer (some ⟨b, o + k * 15, none⟩) := hd 5 (by kernel_rfl)
        clear hd
        simp only [tkS, tkZ, setAll, siB, stS, stZ, Nat.zero_add, Nat.reduceAdd, g5] at hK ⊢
        refine wp_unguard ?_
        exact wp_load_cell (.tmp 14) rfl b (o + k * 15) (cat l k) rfl (HX.out wq hC) (hK _ _ rfl bR)
       ·intro f wq hC hd KK hK
        clear hd
        simp only [tkS, tkZ, setAll, siB, stS, stZ, Nat.zero_add, Nat.reduceAdd] at hK ⊢
        refine wp_unguard ?_
        refine wp_of_quiet rfl ?_
        go_big_quiet_step (fail)
        exact wpQuiet_nil (hK _ _ (rfl) bR)
       ·intro f wq hC hd KK hK
        clear hd
        simp only [tkS, tkZ, setAll, siB, stS, stZ, Nat.zero_add, Nat.reduceAdd] at hK ⊢
        refine wp_unguard ?_
        refine wp_of_quiet rfl ?_
        go_big_quiet_step (fail)
        exact wpQuiet_nil (hK _ _ (rfl) bR)
       ·intro f wq hC hd KK hK
        have g8 : f 8 = .int .i64 (k : Int) := hd 8 (by kernel_rfl)
        clear hd
        simp only [tkS, tkZ, setAll, siB, stS, stZ, Nat.zero_add, Nat.reduceAdd, g8] at hK ⊢
        refine wp_unguard ?_
        refine wp_of_quiet rfl ?_
        go_big_quiet_step (fail)
        exact wpQuiet_nil (hK _ _ (rfl) bR)
       ·intro f wq hC hd KK hK
        have g7 : f 7 = .slice (some ⟨b, o, none⟩) n c := hd 7 (by kernel_rfl)
        have g9 : f 9 = .int .i64 ((k : Int) - 1) := hd 9 (by kernel_rfl)
        clear hd
        simp only [tkS, tkZ, setAll, siB, stS, stZ, Nat.zero_add, Nat.reduceAdd, g7, g9] at hK ⊢
        refine wp_unguard ?_
        refine wp_of_quiet rfl ?_
        go_big_quiet_step (fail)
        exact wpQuiet_nil (hK _ _ (by first | rfl | (simp; omega)) bR)
       ·intro f wq hC hd KK hK
        have g10 : f 10 = .pointer (some ⟨b, o + (k - 1) * 15, none⟩) := hd 10 (by kernel_rfl)
        clear hd
        simp only [tkS, tkZ, setAll, siB, stS, stZ, Nat.zero_add, Nat.reduceAdd, g10] at hK ⊢
        refine wp_unguard ?_
        exact wp_load_cell (.tmp 19) rfl b (o + (k - 1) * 15) (cat l (k - 1)) rfl (HY.out wq hC) (hK _ _ rfl bR)
       ·intro f wq hC hd KK hK
        have g6 : f 6 = .agg (cA (cat l k)) := hd 6 (by kernel_rfl)
        have g11 : f 11 = .agg (cA (cat l (k - 1))) := hd 11 (by kernel_rfl)
        clear hd
        simp only [tkS, tkZ, setAll, siB, stS, stZ, Nat.zero_add, Nat.reduceAdd, g6, g11] at hK ⊢
        refine wp_unguard ?_
        exact wp_val _ (run_neq_cell_op 49 (.tmp 15) (.tmp 20) rfl (cat l k) (cat l (k - 1)) rfl rfl _ EQ.out _) (hK _ _ rfl bR)
       ·intro f wq hC hd KK hK
        have g2 : f 2 = .bool false := hd 2 (by kernel_rfl)
        have g12 : f 12 = .bool true := hd 12 (by kernel_rfl)
        clear hd
        simp only [tkS, tkZ, setAll, siB, stS, stZ, Nat.zero_add, Nat.reduceAdd, g2, g12] at hK ⊢
        refine wp_of_quiet rfl ?_
        go_big_quiet_step (fail)
        exact wpQuiet_nil (hK _ _ (rfl) bR)
       ·intro f wq hC hd KK hK
        have g13 : f 13 = .bool true := hd 13 (by kernel_rfl)
        clear hd
        simp only [tkS, tkZ, setAll, siB, stS, stZ, Nat.zero_add, Nat.reduceAdd, g13] at hK ⊢
        refine wp_of_quiet rfl ?_
        go_big_quiet_step (fail)
        exact wpQuiet_nil (hK _ _ (rfl) bR)
       ·intro f wq hC hd KK hK
        clear hd
        simp only [tkS, tkZ, setAll, siB, stS, stZ, Nat.zero_add, Nat.reduceAdd] at hK ⊢
        refine wp_unguard ?_
        refine wp_of_quiet rfl ?_
        go_big_quiet_step (fail)
        exact wpQuiet_nil (hK _ _ (rfl) bR)
       ·intro f wq hC hd KK hK
        clear hd
        simp only [tkS, tkZ, setAll, siB, stS, stZ, Nat.zero_add, Nat.reduceAdd] at hK ⊢
        refine wp_unguard ?_
        refine wp_of_quiet rfl ?_
        go_big_quiet_step (fail)
        exact wpQuiet_nil (hK _ _ (rfl) bR)
       ·intro f wq hC hd KK hK
        have g15 : f 15 = .slice (some ⟨b, o, none⟩) n c := hd 15 (by kernel_rfl)
        have g16 : f 16 = .int .i64 (k : Int) := hd 16 (by kernel_rfl)
        clear hd
        simp only [tkS, tkZ, setAll, siB, stS, stZ, Nat.zero_add, Nat.reduceAdd, g15, g16] at hK ⊢
        refine wp_unguard ?_
        refine wp_of_quiet rfl ?_
        go_big_quiet_step (fail)
        exact wpQuiet_nil (hK _ _ (rfl) bR)
       ·intro f wq hC hd KK hK
        have g17 : f 17 = .pointer (some ⟨b, o + k * 15, none⟩) := hd 17 (by kernel_rfl)
        clear hd
        simp only [tkS, tkZ, setAll, siB, stS, stZ, Nat.zero_add, Nat.reduceAdd, g17] at hK ⊢
        refine wp_unguard ?_
        exact wp_load_cell (.tmp 26) rfl b (o + k * 15) (cat l k) rfl (HX.out wq hC) (hK _ _ rfl bR)
       ·intro f wq hC hd KK hK
        have g18 : f 18 = .agg (cA (cat l k)) := hd 18 (by kernel_rfl)
        clear hd
        simp only [tkS, tkZ, setAll, siB, stS, stZ, Nat.zero_add, Nat.reduceAdd, g18] at hK ⊢
        refine wp_unguard ?_
        exact wp_call 50 #[.agg (cA (cat l k))] (by simp [go_sem]) _ _ (MZ.out wq) (fun w' hb => hK _ _ rfl hb)
       ·intro f wq hC hd KK hK
        have g19 : f 19 = .bool false := hd 19 (by kernel_rfl)
        clear hd
        simp only [tkS, tkZ, setAll, siB, stS, stZ, Nat.zero_add, Nat.reduceAdd, g19] at hK ⊢
        refine wp_unguard ?_
        refine wp_of_quiet rfl ?_
        go_big_quiet_step (fail)
        exact wpQuiet_nil (hK _ _ (rfl) bR)
       ·intro f wq hC hd KK hK
        have g14 : f 14 = .bool true := hd 14 (by kernel_rfl)
        have g20 : f 20 = .bool true := hd 20 (by kernel_rfl)
        clear hd
        simp only [tkS, tkZ, setAll, siB, stS, stZ, Nat.zero_add, Nat.reduceAdd, g14, g20] at hK ⊢
        refine wp_of_quiet rfl ?_
        go_big_quiet_step (fail)
        exact wpQuiet_nil (hK _ _ (rfl) bR)
      ·intro f wz hC hv
       have p0 : f 0 = .int .i64 (k : Int) := hv 0 (by decide)
       have p1 : f 1 = .bool false := hv 1 (by decide)
       have p2 : f 2 = .bool false := hv 2 (by decide)
       have p3 : f 3 = .slice (some ⟨b, o, none⟩) n c := hv 3 (by decide)
       have p4 : f 4 = .int .i64 (k : Int) := hv 4 (by decide)
       have p5 : f 5 = .pointer (some ⟨b, o + k * 15, none⟩) := hv 5 (by decide)
       have p6 : f 6 = .agg (cA (cat l k)) := hv 6 (by decide)
       have p7 : f 7 = .slice (some ⟨b, o, none⟩) n c := hv 7 (by decide)
       have p8 : f 8 = .int .i64 (k : Int) := hv 8 (by decide)
       have p9 : f 9 = .int .i64 ((k : Int) - 1) := hv 9 (by decide)
       have p10 : f 10 = .pointer (some ⟨b, o + (k - 1) * 15, none⟩) := hv 10 (by decide)
       have p11 : f 11 = .agg (cA (cat l (k - 1))) := hv 11 (by decide)
       have p12 : f 12 = .bool true := hv 12 (by decide)
       have p13 : f 13 = .bool true := hv 13 (by decide)
       have p14 : f 14 = .bool true := hv 14 (by decide)
       have p15 : f 15 = .slice (some ⟨b, o, none⟩) n c := hv 15 (by decide)
       have p16 : f 16 = .int .i64 (k : Int) := hv 16 (by decide)
       have p17 : f 17 = .pointer (some ⟨b, o + k * 15, none⟩) := hv 17 (by decide)
       have p18 : f 18 = .agg (cA (cat l k)) := hv 18 (by decide)
       have p19 : f 19 = .bool false := hv 19 (by decide)
       have p20 : f 20 = .bool true := hv 20 (by decide)
       have p21 : f 21 = .bool true := hv 21 (by decide)
       simp only [tkS, tkZ, List.drop_succ_cons, List.drop_zero, setAll, siB, stS, stZ, Nat.zero_add, Nat.reduceAdd, p0, p1, p2, p3, p4, p5, p6, p7, p8, p9, p10, p11, p12, p13, p14, p15, p16, p17, p18, p19, p20, p21]
       clear hv p0 p1 p2 p3 p4 p5 p6 p7 p8 p9 p10 p11 p12 p13 p14 p15 p16 p17 p18 p19 p20 p21
       have E := Box'.mk (WF.out k hlt hm)
       have B2 := Box'.mk hC
       clear hC
       go_wp2_with fail
       go_ret
       exact ⟨by rw [E.out]; rfl, B2.out⟩
     | true =>
      have MZ := Box'.mk MY.out
      rw [hm] at MZ
      have OK2 : Box' (∀ i, i < k + 1 → mayC (cat l i) = true) := ⟨fun i hi => by
       rcases Nat.lt_or_ge i k with q | q
       ·exact OK.out i q
       ·rw [show i = k by omega]; exact hm⟩
      refine wp_region_growg 22 (by kernel_rfl) 32 rfl (by kernel_rfl) (fun wa wb => Below wa.heap.size wa wb) (fun wa => Below w.heap.size w wa) (fun kc wa v => match kc with
       | 0 => v = .int .i64 (k : Int)
       | 1 => v = .bool false
       | 2 => v = .bool false
       | 3 => v = .slice (some ⟨b, o, none⟩) n c
       | 4 => v = .int .i64 (k : Int)
       | 5 => v = .pointer (some ⟨b, o + k * 15, none⟩)
       | 6 => v = .agg (cA (cat l k))
       | 7 => v = .slice (some ⟨b, o, none⟩) n c
       | 8 => v = .int .i64 (k : Int)
       | 9 => v = .int .i64 ((k : Int) - 1)
       | 10 => v = .pointer (some ⟨b, o + (k - 1) * 15, none⟩)
       | 11 => v = .agg (cA (cat l (k - 1)))
       | 12 => v = .bool true
       | 13 => v = .bool true
       | 14 => v = .bool true
       | 15 => v = .slice (some ⟨b, o, none⟩) n c
       | 16 => v = .int .i64 (k : Int)
       | 17 => v = .pointer (some ⟨b, o + k * 15, none⟩)
       | 18 => v = .agg (cA (cat l k))
       | 19 => v = .bool true
       | 20 => v = .bool false
       | 21 => v = .bool false
       | _ => True) ?_ ?_ ?_ ?_ ?_ ?_
      ·intro i o' j b' hi hg wa v hC hV
       have hlt : i < 22 := by rcases Nat.lt_or_ge i 22 with q | q; exact q; rw [List.getElem?_eq_none (by simpa using q)] at hi; cases hi
       revert hi hg hV
       rcases (show i = 0 ∨ i = 1 ∨ i = 2 ∨ i = 3 ∨ i = 4 ∨ i = 5 ∨ i = 6 ∨ i = 7 ∨ i = 8 ∨ i = 9 ∨ i = 10 ∨ i = 11 ∨ i = 12 ∨ i = 13 ∨ i = 14 ∨ i = 15 ∨ i = 16 ∨ i = 17 ∨ i = 18 ∨ i = 19 ∨ i = 20 ∨ i = 21 by omega) with rfl | rfl | rfl | rfl | rfl | rfl | rfl | rfl | rfl | rfl | rfl | rfl | rfl | rfl | rfl | rfl | rfl | rfl | rfl | rfl | rfl | rfl <;>
        (intro hi hg hV; simp only [tkS, List.getElem?_cons_zero, List.getElem?_cons_succ, Option.some.injEq] at hi; subst hi; first | (cases hg; exact hV) | (cases hg))
      ·intro wa wb hb q; exact q.trans (hb.mono q.size)
      ·intro kc v wa wb hC1 hb h
       match kc, h with
       | 0, h => exact h
       | 1, h => exact h
       | 2, h => exact h
       | 3, h => exact h
       | 4, h => exact h
       | 5, h => exact h
       | 6, h => exact h
       | 7, h => exact h
       | 8, h => exact h
       | 9, h => exact h
       | 10, h => exact h
       | 11, h => exact h
       | 12, h => exact h
       | 13, h => exact h
       | 14, h => exact h
       | 15, h => exact h
       | 16, h => exact h
       | 17, h => exact h
       | 18, h => exact h
       | 19, h => exact h
       | 20, h => exact h
       | 21, h => exact h
       | kc + 22, h => trivial
      ·exact BB.out.drew
      ·refine ⟨?_, ?_, ?_, ?_, ?_, ?_, ?_, ?_, ?_, ?_, ?_, ?_, ?_, ?_, ?_, ?_, ?_, ?_, ?_, ?_, ?_, ?_, trivial⟩
       ·intro f wq hC hd KK hK
        clear hd
        simp only [tkS, tkZ, setAll, siB, stS, stZ, Nat.zero_add, Nat.reduceAdd] at hK ⊢
        refine wp_of_quiet rfl ?_
        go_big_quiet_step (fail)
        exact wpQuiet_nil (hK _ _ (rfl) bR)
       ·intro f wq hC hd KK hK
        have g0 : f 0 = .int .i64 (k : Int) := hd 0 (by kernel_rfl)
        clear hd
        simp only [tkS, tkZ, setAll, siB, stS, stZ, Nat.zero_add, Nat.reduceAdd, g0] at hK ⊢
        refine wp_of_quiet rfl ?_
        go_big_quiet_step (fail)
        exact wpQuiet_nil (hK _ _ (by first | rfl | (simp; omega) | simp) bR)
       ·intro f wq hC hd KK hK
        have g1 : f 1 = .bool false := hd 1 (by kernel_rfl)
        clear hd
        simp only [tkS, tkZ, setAll, siB, stS, stZ, Nat.zero_add, Nat.reduceAdd, g1] at hK ⊢
        refine wp_of_quiet rfl ?_
        go_big_quiet_step (fail)
        exact wpQuiet_nil (hK _ _ (rfl) bR)
       ·intro f wq hC hd KK hK
        clear hd
        simp only [tkS, tkZ, setAll, siB, stS, stZ, Nat.zero_add, Nat.reduceAdd] at hK ⊢
        refine wp_unguard ?_
        refine wp_of_quiet rfl ?_
        go_big_quiet_step (fail)
        exact wpQuiet_nil (hK _ _ (rfl) bR)
       ·intro f wq hC hd KK hK
        clear hd
        simp only [tkS, tkZ, setAll, siB, stS, stZ, Nat.zero_add, Nat.reduceAdd] at hK ⊢
        refine wp_unguard ?_
        refine wp_of_quiet rfl ?_
        go_big_quiet_step (fail)
        exact wpQuiet_nil (hK _ _ (rfl) bR)
       ·intro f wq hC hd KK hK
        have g3 : f 3 = .slice (some ⟨b, o, none⟩) n c := hd 3 (by kernel_rfl)
        have g4 : f 4 = .int .i64 (k : Int) := hd 4 (by kernel_rfl)
        clear hd
        simp only [tkS, tkZ, setAll, siB, stS, stZ, Nat.zero_add, Nat.reduceAdd, g3, g4] at hK ⊢
        refine wp_unguard ?_
        refine wp_of_quiet rfl ?_
        go_big_quiet_step (fail)
        exact wpQuiet_nil (hK _ _ (rfl) bR)
       ·intro f wq hC hd KK hK
        have g5 : f 5 = .pointer (some ⟨b, o + k * 15, none⟩) := hd 5 (by kernel_rfl)
        clear hd
        simp only [tkS, tkZ, setAll, siB, stS, stZ, Nat.zero_add, Nat.reduceAdd, g5] at hK ⊢
        refine wp_unguard ?_
        exact wp_load_cell (.tmp 14) rfl b (o + k * 15) (cat l k) rfl (HX.out wq hC) (hK _ _ rfl bR)
       ·intro f wq hC hd KK hK
        clear hd
        simp only [tkS, tkZ, setAll, siB, stS, stZ, Nat.zero_add, Nat.reduceAdd] at hK ⊢
        refine wp_unguard ?_
        refine wp_of_quiet rfl ?_
        go_big_quiet_step (fail)
        exact wpQuiet_nil (hK _ _ (rfl) bR)
       ·intro f wq hC hd KK hK
        clear hd
        simp only [tkS, tkZ, setAll, siB, stS, stZ, Nat.zero_add, Nat.reduceAdd] at hK ⊢
        refine wp_unguard ?_
        refine wp_of_quiet rfl ?_
        go_big_quiet_step (fail)
        exact wpQuiet_nil (hK _ _ (rfl) bR)
       ·intro f wq hC hd KK hK
        have g8 : f 8 = .int .i64 (k : Int) := hd 8 (by kernel_rfl)
        clear hd
        simp only [tkS, tkZ, setAll, siB, stS, stZ, Nat.zero_add, Nat.reduceAdd, g8] at hK ⊢
        refine wp_unguard ?_
        refine wp_of_quiet rfl ?_
        go_big_quiet_step (fail)
        exact wpQuiet_nil (hK _ _ (rfl) bR)
       ·intro f wq hC hd KK hK
        have g7 : f 7 = .slice (some ⟨b, o, none⟩) n c := hd 7 (by kernel_rfl)
        have g9 : f 9 = .int .i64 ((k : Int) - 1) := hd 9 (by kernel_rfl)
        clear hd
        simp only [tkS, tkZ, setAll, siB, stS, stZ, Nat.zero_add, Nat.reduceAdd, g7, g9] at hK ⊢
        refine wp_unguard ?_
        refine wp_of_quiet rfl ?_
        go_big_quiet_step (fail)
        exact wpQuiet_nil (hK _ _ (by first | rfl | (simp; omega)) bR)
       ·intro f wq hC hd KK hK
        have g10 : f 10 = .pointer (some ⟨b, o + (k - 1) * 15, none⟩) := hd 10 (by kernel_rfl)
        clear hd
        simp only [tkS, tkZ, setAll, siB, stS, stZ, Nat.zero_add, Nat.reduceAdd, g10] at hK ⊢
        refine wp_unguard ?_
        exact wp_load_cell (.tmp 19) rfl b (o + (k - 1) * 15) (cat l (k - 1)) rfl (HY.out wq hC) (hK _ _ rfl bR)
       ·intro f wq hC hd KK hK
        have g6 : f 6 = .agg (cA (cat l k)) := hd 6 (by kernel_rfl)
        have g11 : f 11 = .agg (cA (cat l (k - 1))) := hd 11 (by kernel_rfl)
        clear hd
        simp only [tkS, tkZ, setAll, siB, stS, stZ, Nat.zero_add, Nat.reduceAdd, g6, g11] at hK ⊢
        refine wp_unguard ?_
        exact wp_val _ (run_neq_cell_op 49 (.tmp 15) (.tmp 20) rfl (cat l k) (cat l (k - 1)) rfl rfl _ EQ.out _) (hK _ _ rfl bR)
       ·intro f wq hC hd KK hK
        have g2 : f 2 = .bool false := hd 2 (by kernel_rfl)
        have g12 : f 12 = .bool true := hd 12 (by kernel_rfl)
        clear hd
        simp only [tkS, tkZ, setAll, siB, stS, stZ, Nat.zero_add, Nat.reduceAdd, g2, g12] at hK ⊢
        refine wp_of_quiet rfl ?_
        go_big_quiet_step (fail)
        exact wpQuiet_nil (hK _ _ (rfl) bR)
       ·intro f wq hC hd KK hK
        have g13 : f 13 = .bool true := hd 13 (by kernel_rfl)
        clear hd
        simp only [tkS, tkZ, setAll, siB, stS, stZ, Nat.zero_add, Nat.reduceAdd, g13] at hK ⊢
        refine wp_of_quiet rfl ?_
        go_big_quiet_step (fail)
        exact wpQuiet_nil (hK _ _ (rfl) bR)
       ·intro f wq hC hd KK hK
        clear hd
        simp only [tkS, tkZ, setAll, siB, stS, stZ, Nat.zero_add, Nat.reduceAdd] at hK ⊢
        refine wp_unguard ?_
        refine wp_of_quiet rfl ?_
        go_big_quiet_step (fail)
        exact wpQuiet_nil (hK _ _ (rfl) bR)
       ·intro f wq hC hd KK hK
        clear hd
        simp only [tkS, tkZ, setAll, siB, stS, stZ, Nat.zero_add, Nat.reduceAdd] at hK ⊢
        refine wp_unguard ?_
        refine wp_of_quiet rfl ?_
        go_big_quiet_step (fail)
        exact wpQuiet_nil (hK _ _ (rfl) bR)
       ·intro f wq hC hd KK hK
        have g15 : f 15 = .slice (some ⟨b, o, none⟩) n c := hd 15 (by kernel_rfl)
        have g16 : f 16 = .int .i64 (k : Int) := hd 16 (by kernel_rfl)
        clear hd
        simp only [tkS, tkZ, setAll, siB, stS, stZ, Nat.zero_add, Nat.reduceAdd, g15, g16] at hK ⊢
        refine wp_unguard ?_
        refine wp_of_quiet rfl ?_
        go_big_quiet_step (fail)
        exact wpQuiet_nil (hK _ _ (rfl) bR)
       ·intro f wq hC hd KK hK
        have g17 : f 17 = .pointer (some ⟨b, o + k * 15, none⟩) := hd 17 (by kernel_rfl)
        clear hd
        simp only [tkS, tkZ, setAll, siB, stS, stZ, Nat.zero_add, Nat.reduceAdd, g17] at hK ⊢
        refine wp_unguard ?_
        exact wp_load_cell (.tmp 26) rfl b (o + k * 15) (cat l k) rfl (HX.out wq hC) (hK _ _ rfl bR)
       ·intro f wq hC hd KK hK
        have g18 : f 18 = .agg (cA (cat l k)) := hd 18 (by kernel_rfl)
        clear hd
        simp only [tkS, tkZ, setAll, siB, stS, stZ, Nat.zero_add, Nat.reduceAdd, g18] at hK ⊢
        refine wp_unguard ?_
        exact wp_call 50 #[.agg (cA (cat l k))] (by simp [go_sem]) _ _ (MZ.out wq) (fun w' hb => hK _ _ rfl hb)
       ·intro f wq hC hd KK hK
        have g19 : f 19 = .bool true := hd 19 (by kernel_rfl)
        clear hd
        simp only [tkS, tkZ, setAll, siB, stS, stZ, Nat.zero_add, Nat.reduceAdd, g19] at hK ⊢
        refine wp_unguard ?_
        refine wp_of_quiet rfl ?_
        go_big_quiet_step (fail)
        exact wpQuiet_nil (hK _ _ (rfl) bR)
       ·intro f wq hC hd KK hK
        have g14 : f 14 = .bool true := hd 14 (by kernel_rfl)
        have g20 : f 20 = .bool false := hd 20 (by kernel_rfl)
        clear hd
        simp only [tkS, tkZ, setAll, siB, stS, stZ, Nat.zero_add, Nat.reduceAdd, g14, g20] at hK ⊢
        refine wp_of_quiet rfl ?_
        go_big_quiet_step (fail)
        exact wpQuiet_nil (hK _ _ (rfl) bR)
      ·intro f wz hC hv
       have p0 : f 0 = .int .i64 (k : Int) := hv 0 (by decide)
       have p1 : f 1 = .bool false := hv 1 (by decide)
       have p2 : f 2 = .bool false := hv 2 (by decide)
       have p3 : f 3 = .slice (some ⟨b, o, none⟩) n c := hv 3 (by decide)
       have p4 : f 4 = .int .i64 (k : Int) := hv 4 (by decide)
       have p5 : f 5 = .pointer (some ⟨b, o + k * 15, none⟩) := hv 5 (by decide)
       have p6 : f 6 = .agg (cA (cat l k)) := hv 6 (by decide)
       have p7 : f 7 = .slice (some ⟨b, o, none⟩) n c := hv 7 (by decide)
       have p8 : f 8 = .int .i64 (k : Int) := hv 8 (by decide)
       have p9 : f 9 = .int .i64 ((k : Int) - 1) := hv 9 (by decide)
       have p10 : f 10 = .pointer (some ⟨b, o + (k - 1) * 15, none⟩) := hv 10 (by decide)
       have p11 : f 11 = .agg (cA (cat l (k - 1))) := hv 11 (by decide)
       have p12 : f 12 = .bool true := hv 12 (by decide)
       have p13 : f 13 = .bool true := hv 13 (by decide)
       have p14 : f 14 = .bool true := hv 14 (by decide)
       have p15 : f 15 = .slice (some ⟨b, o, none⟩) n c := hv 15 (by decide)
       have p16 : f 16 = .int .i64 (k : Int) := hv 16 (by decide)
       have p17 : f 17 = .pointer (some ⟨b, o + k * 15, none⟩) := hv 17 (by decide)
       have p18 : f 18 = .agg (cA (cat l k)) := hv 18 (by decide)
       have p19 : f 19 = .bool true := hv 19 (by decide)
       have p20 : f 20 = .bool false := hv 20 (by decide)
       have p21 : f 21 = .bool false := hv 21 (by decide)
       simp only [tkS, tkZ, List.drop_succ_cons, List.drop_zero, setAll, siB, stS, stZ, Nat.zero_add, Nat.reduceAdd, p0, p1, p2, p3, p4, p5, p6, p7, p8, p9, p10, p11, p12, p13, p14, p15, p16, p17, p18, p19, p20, p21]
       clear hv p0 p1 p2 p3 p4 p5 p6 p7 p8 p9 p10 p11 p12 p13 p14 p15 p16 p17 p18 p19 p20 p21
       have B2 := Box'.mk hC
       clear hC
       go_wp2_with fail
       exact ⟨⟨k + 1, by omega, by go_num, OK2, B2⟩, by simp [intOf]; omega⟩
end Go.Proofs.Ytnbonlkmadmpcaa
