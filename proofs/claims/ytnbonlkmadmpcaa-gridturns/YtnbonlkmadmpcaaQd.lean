/- Which grids may be, as the reference asks. -/
import Derived.Test.YtnbonlkmadmpcaaQa
import Derived.Test.YtnbonlkmadmpcaaGy
namespace Go.Proofs.Ytnbonlkmadmpcaa
open Go.RowKit Go.BigFrame
set_option linter.unusedVariables false
set_option linter.unusedSimpArgs false
set_option maxRecDepth 100000 in
set_option maxHeartbeats 16000000 in
theorem rmayg_4 (cols rows : Nat) (v : Value) (c : List Cl) (h1 : 1 ≤ cols) (h2 : cols ≤ 512) (h3 : 1 ≤ rows) (h4 : rows ≤ 512) (hl : c.length = cols * rows) (w : World) (hv : Cls w.heap.size w v c) : Calls Try.prog 21 #[.agg (gA (cols : Int) (rows : Int) v)] w fun e w' => e = .returned (.bool (mayG (cols : Int) (rows : Int) c)) ∧ Below w.heap.size w w' := by
 have MS := Box'.mk (side_any (cols : Int))
 rw [side_of h1 h2] at MS
 have MT := Box'.mk (side_any (rows : Int))
 rw [side_of h3 h4] at MT
 have hle : cols * rows ≤ 512 * 512 := Nat.mul_le_mul h2 h4
 have hpos : 1 * 1 ≤ cols * rows := Nat.mul_le_mul h1 h3
 have eG : mayG (cols : Int) (rows : Int) c = (List.range c.length).all (okAt cols c) := by
  unfold mayG
  rw [side_of h1 h2, side_of h3 h4, decide_eq_true (show (c.length : Int) = (cols : Int) * (rows : Int) by rw [hl, Int.natCast_mul])]
  simp
 have GT : Box' ((∀ i, i < c.length → okAt cols c i = true) → mayG (cols : Int) (rows : Int) c = true) := ⟨fun h => by
  rw [eG, List.all_eq_true]
  intro i hi
  exact h i (List.mem_range.1 hi)⟩
 have GF : Box' (∀ i, i < c.length → okAt cols c i = false → mayG (cols : Int) (rows : Int) c = false) := ⟨fun i hi h => by
  rw [eG, List.all_eq_false]
  exact ⟨i, List.mem_range.2 hi, by rw [h]; simp⟩⟩
 obtain ⟨b, o, cp, rfl, hb, hcp, HC0⟩ : ∃ b o cp, v = .slice (some ⟨b, o, none⟩) c.length cp ∧ b < w.heap.size ∧ c.length ≤ cp ∧ ∀ k, k < c.length → ∀ j, j < 15 → w.cell? ⟨b, o + k * 15 + j, none⟩ = (cA (cat c k))[j]? := by
  obtain ⟨a, cp, rfl, hcp, h3⟩ := hv
  rcases h3 with rfl | ⟨b, o, rfl, h5, h6⟩
  ·simp at hl; omega
  ·exact ⟨b, o, cp, rfl, h5, hcp, h6⟩
 have HR : Box' (∀ k wx, k < c.length → Below w.heap.size w wx → wx.rangeAt b (o + k * 15) (cA (cat c k)).toList) := ⟨fun k wx hk hbe j v hv => by
  have hj : j < 15 := by have := (List.getElem?_eq_some_iff.1 hv).1; rwa [cA_len] at this
  rw [hbe.cell (p := ⟨b, o + k * 15 + j, none⟩) hb, HC0 k hk j hj]
  simpa using hv⟩
 have HW : Box' (∀ k wx, k < c.length → Below w.heap.size w wx → wx.cell? ⟨b, o + k * 15 + 4, none⟩ = some (.int .u8 ((cat c k).wd : Int))) := ⟨fun k wx hk hbe => by
  rw [hbe.cell (p := ⟨b, o + k * 15 + 4, none⟩) hb]
  exact HC0 k hk 4 (by decide)⟩
 have HS : Box' (∀ k wx, k < c.length → Below w.heap.size w wx → wx.rangeAt b (o + k * 15 + 5) (sA (cat c k).st).toList) := ⟨fun k wx hk hbe j v hv => by
  have hj : j < 10 := by have := (List.getElem?_eq_some_iff.1 hv).1; exact this
  rw [hbe.cell (p := ⟨b, o + k * 15 + 5 + j, none⟩) hb, Nat.add_assoc (o + k * 15), HC0 k hk (5 + j) (by omega)]
  have e : ∀ j, j < 10 → (cA (cat c k))[5 + j]? = (sA (cat c k).st).toList[j]? := by
   intro j hj
   rcases (show j = 0 ∨ j = 1 ∨ j = 2 ∨ j = 3 ∨ j = 4 ∨ j = 5 ∨ j = 6 ∨ j = 7 ∨ j = 8 ∨ j = 9 by omega) with rfl | rfl | rfl | rfl | rfl | rfl | rfl | rfl | rfl | rfl <;> rfl
  rw [e j hj]
  exact hv⟩
 have F := Box'.mk (GrM.begin w (gA (cols : Int) (rows : Int) (.slice (some ⟨b, o, none⟩) c.length cp)))
 have RM := Box'.mk refMay_any
 have q1 : (cols : Int) * (rows : Int) ≤ 262144 := by rw [← Int.natCast_mul]; omega
 have q2 : 0 ≤ (cols : Int) * (rows : Int) := by rw [← Int.natCast_mul]; omega
 have q3 : ((c.length : Int) != (cols : Int) * (rows : Int)) = false := by rw [← Int.natCast_mul, hl]; simp
 clear HC0 eG
 generalize hn : c.length = n at *
 have hn0 : n ≤ 262144 := by omega
 clear hn hl hpos hle
 go_enter Try.func21, Try.ntmps21
 go_upto_region 1 with (fail)
 generalize (w.alloc (.cells (gA (cols : Int) (rows : Int) (.slice (some ⟨b, o, none⟩) n cp)) 24)) = w1 at *
 have c0 : w1.cell? ⟨w.heap.size, 0, none⟩ = some (.int .i64 (cols : Int)) := F.out.rg.cell 0
 have c1 : w1.cell? ⟨w.heap.size, 1, none⟩ = some (.int .i64 (rows : Int)) := F.out.rg.cell 1
 have c2 : w1.cell? ⟨w.heap.size, 2, none⟩ = some (.slice (some ⟨b, o, none⟩) n cp) := F.out.rg.cell 2
 go_wp2_with fail
 refine (MS.out _).mono ?_
 rintro e w2 ⟨rfl, rfl⟩
 go_wp2_with fail
 refine (MT.out _).mono ?_
 rintro e w2 ⟨rfl, rfl⟩
 go_wp2_with fail
 clear c0 c1 c2 MS MT q1 q2 q3
 go_loopw [3] (fun i wr => ∃ k : Nat, k ≤ n ∧ i = .int .i64 (k : Int) ∧ Box' (∀ j, j < k → okAt cols c j = true) ∧ Box' (GrM w (gA (cols : Int) (rows : Int) (.slice (some ⟨b, o, none⟩) n cp)) wr)) (fun i _ => n - (intOf i).toNat)
 case atStart => exact ⟨0, by omega, rfl, ⟨fun j hj => by omega⟩, F⟩
 case round =>
  obtain ⟨k, hk, rfl, OK, FF⟩ := hrel
  clear F
  have c2 : wr.cell? ⟨w.heap.size, 2, none⟩ = some (.slice (some ⟨b, o, none⟩) n cp) := FF.out.rg.cell 2
  by_cases hlt : k < n
  case neg =>
   obtain rfl : k = n := by omega
   have E := Box'.mk (GT.out OK.out)
   clear HR HW HS
   go_wp2_with fail
   go_ret
   exact ⟨by rw [E.out]; rfl, FF.out.be⟩
  case pos =>
   have RG := Box'.mk (HR.out k wr hlt FF.out.be)
   have RK := Box'.mk (RM.out (cat c k))
   have KF : Box' (okAt cols c k = false → mayG (cols : Int) (rows : Int) c = false) := ⟨GF.out k hlt⟩
   have KN : Box' (okAt cols c k = true → ∀ j, j < k + 1 → okAt cols c j = true) := ⟨fun h j hj => by
    rcases Nat.lt_or_ge j k with q | q
    ·exact OK.out j q
    ·rw [show j = k by omega]; exact h⟩
   clear HR RM OK GT GF
   cases hm : mayC (cat c k) with
   | false =>
    have E := Box'.mk (KF.out (by unfold okAt; rw [hm]; rfl))
    rw [hm] at RK
    clear hm
    go_wp2_with (first
     | (refine wpList_load_cell rfl (.tmp 36) rfl b (o + k * 15) (cat c k) rfl RG.out ?_))
    refine (RK.out _).mono ?_
    rintro e w3 ⟨rfl, hb3⟩
    have F3 := Box'.mk (FF.out.below hb3)
    clear hb3
    go_wp2_with fail
    go_ret
    exact ⟨by rw [E.out]; rfl, F3.out.be⟩
   | true =>
    have okE : Box' (okAt cols c k = ((decide ((cat c k).wd = 0) == hfAt cols c k) && (!hfAt cols c k || stB (cat c k).st (cat c (k - 1)).st) && !(decide ((cat c k).wd = 2) && decide (k % cols = cols - 1)))) := ⟨by unfold okAt; rw [hm, Bool.true_and]⟩
    rw [hm] at RK
    clear hm
    go_wp2_with (first
     | (refine wpList_load_cell rfl (.tmp 36) rfl b (o + k * 15) (cat c k) rfl RG.out ?_))
    refine (RK.out _).mono ?_
    rintro e w3 ⟨rfl, hb3⟩
    have F3 := Box'.mk (FF.out.below hb3)
    clear hb3 FF RG RK c2
    have c0 : w3.cell? ⟨w.heap.size, 0, none⟩ = some (.int .i64 (cols : Int)) := F3.out.rg.cell 0
    have c2 : w3.cell? ⟨w.heap.size, 2, none⟩ = some (.slice (some ⟨b, o, none⟩) n cp) := F3.out.rg.cell 2
    have HEM : Box' ((k : Int) % (cols : Int) = ((k % cols : Nat) : Int)) := ⟨(Int.natCast_emod k cols).symm⟩
    go_upto_region 8 with (fail)
    by_cases hp : 0 < k % cols
    case pos =>
     have hk0 : 0 < k := by
      rcases Nat.eq_zero_or_pos k with q | q
      ·rw [q, Nat.zero_mod] at hp; omega
      ·exact q
     have hpi : 0 < (k : Int) % (cols : Int) := by rw [HEM.out]; omega
     have e4 := HW.out (k - 1) w3 (by omega) F3.out.be
     by_cases hpw : ((cat c (k - 1)).wd : Int) = 2
     case pos =>
      rw [hpw] at e4
      have hH : hfAt cols c k = true := by unfold hfAt; rw [decide_eq_true hp, decide_eq_true (show (cat c (k - 1)).wd = 2 by omega)]; rfl
      go_upto_region 9 with (fail)
      clear c0 c2 e4 HEM hpi
      have F5 := F3
      clear F3
      by_cases hw0 : ((cat c k).wd : Int) = 0
      case pos =>
       have hz := hw0
       have HZ : Box' ((cat c k).wd = 0) := ⟨by omega⟩
       by_cases hs : (cat c k).st = (cat c (k - 1)).st
       case pos =>
        have EQ : Box' ((!stB (cat c k).st (cat c (k - 1)).st) = false) := ⟨by rw [stB_yes hs]; rfl⟩
        have EQ2 : Box' (stB (cat c k).st (cat c (k - 1)).st = true) := ⟨stB_yes hs⟩
        clear hs
        refine wp_region_growg 28 (by kernel_rfl) 100 rfl (by kernel_rfl) (fun wa wb => Below wa.heap.size wa wb) (fun wa => GrM w (gA (cols : Int) (rows : Int) (.slice (some ⟨b, o, none⟩) n cp)) wa) (fun kc wa v => match kc with
         | 0 => v = .pointer (some ⟨w.heap.size, 2, none⟩)
         | 1 => v = .slice (some ⟨b, o, none⟩) n cp
         | 2 => v = .int .i64 (k : Int)
         | 3 => v = .pointer (some ⟨b, o + k * 15, none⟩)
         | 4 => v = .pointer (some ⟨b, o + k * 15 + 4, none⟩)
         | 5 => v = .int .u8 0
         | 6 => v = .bool true
         | 7 => v = .bool true
         | 8 => v = .bool false
         | 9 => v = .bool false
         | 10 => v = .bool true
         | 11 => v = .bool true
         | 12 => v = .pointer (some ⟨w.heap.size, 2, none⟩)
         | 13 => v = .slice (some ⟨b, o, none⟩) n cp
         | 14 => v = .int .i64 (k : Int)
         | 15 => v = .pointer (some ⟨b, o + k * 15, none⟩)
         | 16 => v = .pointer (some ⟨b, o + k * 15 + 5, none⟩)
         | 17 => v = .agg (sA (cat c k).st)
         | 18 => v = .pointer (some ⟨w.heap.size, 2, none⟩)
         | 19 => v = .slice (some ⟨b, o, none⟩) n cp
         | 20 => v = .int .i64 (k : Int)
         | 21 => v = .int .i64 ((k : Int) - 1)
         | 22 => v = .pointer (some ⟨b, o + (k - 1) * 15, none⟩)
         | 23 => v = .pointer (some ⟨b, o + (k - 1) * 15 + 5, none⟩)
         | 24 => v = .agg (sA (cat c (k - 1)).st)
         | 25 => v = .bool false
         | 26 => v = .bool false
         | 27 => v = .bool false
         | _ => True) ?_ ?_ ?_ ?_ ?_ ?_
        ·intro i o' j b' hi hg wa v hC hV
         have hlt : i < 28 := by rcases Nat.lt_or_ge i 28 with q | q; exact q; rw [List.getElem?_eq_none (by simpa using q)] at hi; cases hi
         revert hi hg hV
         rcases (show i = 0 ∨ i = 1 ∨ i = 2 ∨ i = 3 ∨ i = 4 ∨ i = 5 ∨ i = 6 ∨ i = 7 ∨ i = 8 ∨ i = 9 ∨ i = 10 ∨ i = 11 ∨ i = 12 ∨ i = 13 ∨ i = 14 ∨ i = 15 ∨ i = 16 ∨ i = 17 ∨ i = 18 ∨ i = 19 ∨ i = 20 ∨ i = 21 ∨ i = 22 ∨ i = 23 ∨ i = 24 ∨ i = 25 ∨ i = 26 ∨ i = 27 by omega) with rfl | rfl | rfl | rfl | rfl | rfl | rfl | rfl | rfl | rfl | rfl | rfl | rfl | rfl | rfl | rfl | rfl | rfl | rfl | rfl | rfl | rfl | rfl | rfl | rfl | rfl | rfl | rfl <;>
          (intro hi hg hV; simp only [tkS, List.getElem?_cons_zero, List.getElem?_cons_succ, Option.some.injEq] at hi; subst hi; first | (cases hg; exact hV) | (cases hg))
        ·intro wa wb hb q; exact q.below hb
        ·intro kc v wa wb hC1 hb h
         match kc, h with
         | 0, h => exact h
         | 1, h => exact h
         | 2, h => exact h
         | 3, h => exact h
         | 4, h => exact h
         | 5, h => exact h
         | 6, h => exact h
         | 7, h => exact h
         | 8, h => exact h
         | 9, h => exact h
         | 10, h => exact h
         | 11, h => exact h
         | 12, h => exact h
         | 13, h => exact h
         | 14, h => exact h
         | 15, h => exact h
         | 16, h => exact h
         | 17, h => exact h
         | 18, h => exact h
         | 19, h => exact h
         | 20, h => exact h
         | 21, h => exact h
         | 22, h => exact h
         | 23, h => exact h
         | 24, h => exact h
         | 25, h => exact h
         | 26, h => exact h
         | 27, h => exact h
         | kc + 28, h => trivial
        ·exact F5.out.drew
        ·refine ⟨?_, ?_, ?_, ?_, ?_, ?_, ?_, ?_, ?_, ?_, ?_, ?_, ?_, ?_, ?_, ?_, ?_, ?_, ?_, ?_, ?_, ?_, ?_, ?_, ?_, ?_, ?_, ?_, trivial⟩
         ·intro f wq hC hd KK hK
          clear hd
          simp only [tkS, tkZ, setAll, siB, stS, stZ, Nat.zero_add, Nat.reduceAdd] at hK ⊢
          refine wp_of_quiet rfl ?_
          go_big_quiet_step (fail)
          exact wpQuiet_nil (hK _ _ (rfl) bR)
         ·intro f wq hC hd KK hK
          have g0 : f 0 = .pointer (some ⟨w.heap.size, 2, none⟩) := hd 0 (by kernel_rfl)
          clear hd
          have c2 : wq.cell? ⟨w.heap.size, 2, none⟩ = some (.slice (some ⟨b, o, none⟩) n cp) := hC.rg.cell 2
          clear hC
          simp only [tkS, tkZ, setAll, siB, stS, stZ, Nat.zero_add, Nat.reduceAdd, g0] at hK ⊢
          refine wp_of_quiet rfl ?_
          go_big_quiet_step (fail)
          exact wpQuiet_nil (hK _ _ (rfl) bR)
         ·intro f wq hC hd KK hK
          clear hd
          simp only [tkS, tkZ, setAll, siB, stS, stZ, Nat.zero_add, Nat.reduceAdd] at hK ⊢
          refine wp_of_quiet rfl ?_
          go_big_quiet_step (fail)
          exact wpQuiet_nil (hK _ _ (rfl) bR)
         ·intro f wq hC hd KK hK
          have g1 : f 1 = .slice (some ⟨b, o, none⟩) n cp := hd 1 (by kernel_rfl)
          have g2 : f 2 = .int .i64 (k : Int) := hd 2 (by kernel_rfl)
          clear hd
          simp only [tkS, tkZ, setAll, siB, stS, stZ, Nat.zero_add, Nat.reduceAdd, g1, g2] at hK ⊢
          refine wp_of_quiet rfl ?_
          go_big_quiet_step (fail)
          exact wpQuiet_nil (hK _ _ (rfl) bR)
         ·intro f wq hC hd KK hK
          have g3 : f 3 = .pointer (some ⟨b, o + k * 15, none⟩) := hd 3 (by kernel_rfl)
          clear hd
          simp only [tkS, tkZ, setAll, siB, stS, stZ, Nat.zero_add, Nat.reduceAdd, g3] at hK ⊢
          refine wp_of_quiet rfl ?_
          go_big_quiet_step (fail)
          exact wpQuiet_nil (hK _ _ (rfl) bR)
         ·intro f wq hC hd KK hK
          have g4 : f 4 = .pointer (some ⟨b, o + k * 15 + 4, none⟩) := hd 4 (by kernel_rfl)
          clear hd
          have c4 : wq.cell? ⟨b, o + k * 15 + 4, none⟩ = some (.int .u8 0) := by rw [HW.out k wq hlt hC.be, hz]
          clear hC
          simp only [tkS, tkZ, setAll, siB, stS, stZ, Nat.zero_add, Nat.reduceAdd, g4] at hK ⊢
          refine wp_of_quiet rfl ?_
          go_big_quiet_step (fail)
          exact wpQuiet_nil (hK _ _ (rfl) bR)
         ·intro f wq hC hd KK hK
          have g5 : f 5 = .int .u8 0 := hd 5 (by kernel_rfl)
          clear hd
          simp only [tkS, tkZ, setAll, siB, stS, stZ, Nat.zero_add, Nat.reduceAdd, g5] at hK ⊢
          refine wp_of_quiet rfl ?_
          go_big_quiet_step (fail)
          exact wpQuiet_nil (hK _ _ (by first | rfl | (simp; assumption) | (simp; omega) | simp) bR)
         ·intro f wq hC hd KK hK
          clear hd
          simp only [tkS, tkZ, setAll, siB, stS, stZ, Nat.zero_add, Nat.reduceAdd] at hK ⊢
          refine wp_of_quiet rfl ?_
          go_big_quiet_step (fail)
          exact wpQuiet_nil (hK _ _ (rfl) bR)
         ·intro f wq hC hd KK hK
          have g6 : f 6 = .bool true := hd 6 (by kernel_rfl)
          have g7 : f 7 = .bool true := hd 7 (by kernel_rfl)
          clear hd
          simp only [tkS, tkZ, setAll, siB, stS, stZ, Nat.zero_add, Nat.reduceAdd, g6, g7] at hK ⊢
          refine wp_of_quiet rfl ?_
          go_big_quiet_step (fail)
          exact wpQuiet_nil (hK _ _ (by first | rfl | (simp; assumption) | (simp; omega) | simp) bR)
         ·intro f wq hC hd KK hK
          have g8 : f 8 = .bool false := hd 8 (by kernel_rfl)
          clear hd
          simp only [tkS, tkZ, setAll, siB, stS, stZ, Nat.zero_add, Nat.reduceAdd, g8] at hK ⊢
          refine wp_of_quiet rfl ?_
          go_big_quiet_step (fail)
          exact wpQuiet_nil (hK _ _ (rfl) bR)
         ·intro f wq hC hd KK hK
          clear hd
          simp only [tkS, tkZ, setAll, siB, stS, stZ, Nat.zero_add, Nat.reduceAdd] at hK ⊢
          refine wp_unguard ?_
          refine wp_of_quiet rfl ?_
          go_big_quiet_step (fail)
          exact wpQuiet_nil (hK _ _ (rfl) bR)
         ·intro f wq hC hd KK hK
          have g10 : f 10 = .bool true := hd 10 (by kernel_rfl)
          clear hd
          simp only [tkS, tkZ, setAll, siB, stS, stZ, Nat.zero_add, Nat.reduceAdd, g10] at hK ⊢
          refine wp_unguard ?_
          refine wp_of_quiet rfl ?_
          go_big_quiet_step (fail)
          exact wpQuiet_nil (hK _ _ (rfl) bR)
         ·intro f wq hC hd KK hK
          clear hd
          simp only [tkS, tkZ, setAll, siB, stS, stZ, Nat.zero_add, Nat.reduceAdd] at hK ⊢
          refine wp_unguard ?_
          refine wp_of_quiet rfl ?_
          go_big_quiet_step (fail)
          exact wpQuiet_nil (hK _ _ (rfl) bR)
         ·intro f wq hC hd KK hK
          have g12 : f 12 = .pointer (some ⟨w.heap.size, 2, none⟩) := hd 12 (by kernel_rfl)
          clear hd
          have c2 : wq.cell? ⟨w.heap.size, 2, none⟩ = some (.slice (some ⟨b, o, none⟩) n cp) := hC.rg.cell 2
          clear hC
          simp only [tkS, tkZ, setAll, siB, stS, stZ, Nat.zero_add, Nat.reduceAdd, g12] at hK ⊢
          refine wp_unguard ?_
          refine wp_of_quiet rfl ?_
          go_big_quiet_step (fail)
          exact wpQuiet_nil (hK _ _ (rfl) bR)
         ·intro f wq hC hd KK hK
          clear hd
          simp only [tkS, tkZ, setAll, siB, stS, stZ, Nat.zero_add, Nat.reduceAdd] at hK ⊢
          refine wp_unguard ?_
          refine wp_of_quiet rfl ?_
          go_big_quiet_step (fail)
          exact wpQuiet_nil (hK _ _ (rfl) bR)
         ·intro f wq hC hd KK hK
          have g13 : f 13 = .slice (some ⟨b, o, none⟩) n cp := hd 13 (by kernel_rfl)
          have g14 : f 14 = .int .i64 (k : Int) := hd 14 (by kernel_rfl)
          clear hd
          simp only [tkS, tkZ, setAll, siB, stS, stZ, Nat.zero_add, Nat.reduceAdd, g13, g14] at hK ⊢
          refine wp_unguard ?_
          refine wp_of_quiet rfl ?_
          go_big_quiet_step (fail)
          exact wpQuiet_nil (hK _ _ (rfl) bR)
         ·intro f wq hC hd KK hK
          have g15 : f 15 = .pointer (some ⟨b, o + k * 15, none⟩) := hd 15 (by kernel_rfl)
          clear hd
          simp only [tkS, tkZ, setAll, siB, stS, stZ, Nat.zero_add, Nat.reduceAdd, g15] at hK ⊢
          refine wp_unguard ?_
          refine wp_of_quiet rfl ?_
          go_big_quiet_step (fail)
          exact wpQuiet_nil (hK _ _ (rfl) bR)
         ·intro f wq hC hd KK hK
          have g16 : f 16 = .pointer (some ⟨b, o + k * 15 + 5, none⟩) := hd 16 (by kernel_rfl)
          clear hd
          simp only [tkS, tkZ, setAll, siB, stS, stZ, Nat.zero_add, Nat.reduceAdd, g16] at hK ⊢
          refine wp_unguard ?_
          exact wp_load_style (.tmp 71) rfl b (o + k * 15 + 5) _ rfl (HS.out k wq hlt hC.be) (hK _ _ rfl bR)
         ·intro f wq hC hd KK hK
          clear hd
          simp only [tkS, tkZ, setAll, siB, stS, stZ, Nat.zero_add, Nat.reduceAdd] at hK ⊢
          refine wp_unguard ?_
          refine wp_of_quiet rfl ?_
          go_big_quiet_step (fail)
          exact wpQuiet_nil (hK _ _ (rfl) bR)
         ·intro f wq hC hd KK hK
          have g18 : f 18 = .pointer (some ⟨w.heap.size, 2, none⟩) := hd 18 (by kernel_rfl)
          clear hd
          have c2 : wq.cell? ⟨w.heap.size, 2, none⟩ = some (.slice (some ⟨b, o, none⟩) n cp) := hC.rg.cell 2
          clear hC
          simp only [tkS, tkZ, setAll, siB, stS, stZ, Nat.zero_add, Nat.reduceAdd, g18] at hK ⊢
          refine wp_unguard ?_
          refine wp_of_quiet rfl ?_
          go_big_quiet_step (fail)
          exact wpQuiet_nil (hK _ _ (rfl) bR)
         ·intro f wq hC hd KK hK
          clear hd
          simp only [tkS, tkZ, setAll, siB, stS, stZ, Nat.zero_add, Nat.reduceAdd] at hK ⊢
          refine wp_unguard ?_
          refine wp_of_quiet rfl ?_
          go_big_quiet_step (fail)
          exact wpQuiet_nil (hK _ _ (rfl) bR)
         ·intro f wq hC hd KK hK
          have g20 : f 20 = .int .i64 (k : Int) := hd 20 (by kernel_rfl)
          clear hd
          simp only [tkS, tkZ, setAll, siB, stS, stZ, Nat.zero_add, Nat.reduceAdd, g20] at hK ⊢
          refine wp_unguard ?_
          refine wp_of_quiet rfl ?_
          go_big_quiet_step (fail)
          exact wpQuiet_nil (hK _ _ (rfl) bR)
         ·intro f wq hC hd KK hK
          have g19 : f 19 = .slice (some ⟨b, o, none⟩) n cp := hd 19 (by kernel_rfl)
          have g21 : f 21 = .int .i64 ((k : Int) - 1) := hd 21 (by kernel_rfl)
          clear hd
          simp only [tkS, tkZ, setAll, siB, stS, stZ, Nat.zero_add, Nat.reduceAdd, g19, g21] at hK ⊢
          refine wp_unguard ?_
          refine wp_of_quiet rfl ?_
          go_big_quiet_step (fail)
          exact wpQuiet_nil (hK _ _ (by first | rfl | (simp; omega)) bR)
         ·intro f wq hC hd KK hK
          have g22 : f 22 = .pointer (some ⟨b, o + (k - 1) * 15, none⟩) := hd 22 (by kernel_rfl)
          clear hd
          simp only [tkS, tkZ, setAll, siB, stS, stZ, Nat.zero_add, Nat.reduceAdd, g22] at hK ⊢
          refine wp_unguard ?_
          refine wp_of_quiet rfl ?_
          go_big_quiet_step (fail)
          exact wpQuiet_nil (hK _ _ (rfl) bR)
         ·intro f wq hC hd KK hK
          have g23 : f 23 = .pointer (some ⟨b, o + (k - 1) * 15 + 5, none⟩) := hd 23 (by kernel_rfl)
          clear hd
          simp only [tkS, tkZ, setAll, siB, stS, stZ, Nat.zero_add, Nat.reduceAdd, g23] at hK ⊢
          refine wp_unguard ?_
          exact wp_load_style (.tmp 78) rfl b (o + (k - 1) * 15 + 5) _ rfl (HS.out (k - 1) wq (by omega) hC.be) (hK _ _ rfl bR)
         ·intro f wq hC hd KK hK
          have g17 : f 17 = .agg (sA (cat c k).st) := hd 17 (by kernel_rfl)
          have g24 : f 24 = .agg (sA (cat c (k - 1)).st) := hd 24 (by kernel_rfl)
          clear hd
          simp only [tkS, tkZ, setAll, siB, stS, stZ, Nat.zero_add, Nat.reduceAdd, g17, g24] at hK ⊢
          refine wp_unguard ?_
          exact wp_val _ (run_neq_op 26 (.tmp 72) (.tmp 79) rfl (cat c k).st (cat c (k - 1)).st rfl rfl _ EQ.out _) (hK _ _ rfl bR)
         ·intro f wq hC hd KK hK
          have g11 : f 11 = .bool true := hd 11 (by kernel_rfl)
          have g25 : f 25 = .bool false := hd 25 (by kernel_rfl)
          clear hd
          simp only [tkS, tkZ, setAll, siB, stS, stZ, Nat.zero_add, Nat.reduceAdd, g11, g25] at hK ⊢
          refine wp_unguard ?_
          refine wp_of_quiet rfl ?_
          go_big_quiet_step (fail)
          exact wpQuiet_nil (hK _ _ (rfl) bR)
         ·intro f wq hC hd KK hK
          have g9 : f 9 = .bool false := hd 9 (by kernel_rfl)
          have g26 : f 26 = .bool false := hd 26 (by kernel_rfl)
          clear hd
          simp only [tkS, tkZ, setAll, siB, stS, stZ, Nat.zero_add, Nat.reduceAdd, g9, g26] at hK ⊢
          refine wp_of_quiet rfl ?_
          go_big_quiet_step (fail)
          exact wpQuiet_nil (hK _ _ (rfl) bR)
        ·intro f wz hC hv
         have p0 : f 0 = .pointer (some ⟨w.heap.size, 2, none⟩) := hv 0 (by decide)
         have p1 : f 1 = .slice (some ⟨b, o, none⟩) n cp := hv 1 (by decide)
         have p2 : f 2 = .int .i64 (k : Int) := hv 2 (by decide)
         have p3 : f 3 = .pointer (some ⟨b, o + k * 15, none⟩) := hv 3 (by decide)
         have p4 : f 4 = .pointer (some ⟨b, o + k * 15 + 4, none⟩) := hv 4 (by decide)
         have p5 : f 5 = .int .u8 0 := hv 5 (by decide)
         have p6 : f 6 = .bool true := hv 6 (by decide)
         have p7 : f 7 = .bool true := hv 7 (by decide)
         have p8 : f 8 = .bool false := hv 8 (by decide)
         have p9 : f 9 = .bool false := hv 9 (by decide)
         have p10 : f 10 = .bool true := hv 10 (by decide)
         have p11 : f 11 = .bool true := hv 11 (by decide)
         have p12 : f 12 = .pointer (some ⟨w.heap.size, 2, none⟩) := hv 12 (by decide)
         have p13 : f 13 = .slice (some ⟨b, o, none⟩) n cp := hv 13 (by decide)
         have p14 : f 14 = .int .i64 (k : Int) := hv 14 (by decide)
         have p15 : f 15 = .pointer (some ⟨b, o + k * 15, none⟩) := hv 15 (by decide)
         have p16 : f 16 = .pointer (some ⟨b, o + k * 15 + 5, none⟩) := hv 16 (by decide)
         have p17 : f 17 = .agg (sA (cat c k).st) := hv 17 (by decide)
         have p18 : f 18 = .pointer (some ⟨w.heap.size, 2, none⟩) := hv 18 (by decide)
         have p19 : f 19 = .slice (some ⟨b, o, none⟩) n cp := hv 19 (by decide)
         have p20 : f 20 = .int .i64 (k : Int) := hv 20 (by decide)
         have p21 : f 21 = .int .i64 ((k : Int) - 1) := hv 21 (by decide)
         have p22 : f 22 = .pointer (some ⟨b, o + (k - 1) * 15, none⟩) := hv 22 (by decide)
         have p23 : f 23 = .pointer (some ⟨b, o + (k - 1) * 15 + 5, none⟩) := hv 23 (by decide)
         have p24 : f 24 = .agg (sA (cat c (k - 1)).st) := hv 24 (by decide)
         have p25 : f 25 = .bool false := hv 25 (by decide)
         have p26 : f 26 = .bool false := hv 26 (by decide)
         have p27 : f 27 = .bool false := hv 27 (by decide)
         simp only [tkS, tkZ, List.drop_succ_cons, List.drop_zero, setAll, siB, stS, stZ, Nat.zero_add, Nat.reduceAdd, p0, p1, p2, p3, p4, p5, p6, p7, p8, p9, p10, p11, p12, p13, p14, p15, p16, p17, p18, p19, p20, p21, p22, p23, p24, p25, p26, p27]
         clear hv p0 p1 p2 p3 p4 p5 p6 p7 p8 p9 p10 p11 p12 p13 p14 p15 p16 p17 p18 p19 p20 p21 p22 p23 p24 p25 p26 p27
         have F7 := Box'.mk hC
         clear hC F5
         go_wp2_with fail
         have E : ∀ j, j < k + 1 → okAt cols c j = true := KN.out (by rw [okE.out, hH, HZ.out]; simp [EQ2.out])
         refine wp_region_growh 17 (by kernel_rfl) 100 rfl (by kernel_rfl) (fun wa wb => Below wa.heap.size wa wb) (fun wa => GrM w (gA (cols : Int) (rows : Int) (.slice (some ⟨b, o, none⟩) n cp)) wa) (fun kc wa v => match kc with
          | 0 => v = .pointer (some ⟨w.heap.size, 2, none⟩)
          | 1 => v = .slice (some ⟨b, o, none⟩) n cp
          | 2 => v = .int .i64 (k : Int)
          | 3 => v = .pointer (some ⟨b, o + k * 15, none⟩)
          | 4 => v = .pointer (some ⟨b, o + k * 15 + 4, none⟩)
          | 5 => v = .int .u8 0
          | 6 => v = .bool false
          | 7 => v = .bool false
          | 8 => v = undef
          | 9 => v = undef
          | 10 => v = undef
          | 11 => v = undef
          | 12 => v = undef
          | 13 => v = undef
          | 14 => v = undef
          | 15 => v = undef
          | 16 => v = .bool false
          | _ => True) (fun i => !([8, 9, 10, 11, 12, 13, 14, 15] : List Nat).contains i) ?_ ?_ ?_ ?_ ?_ ?_ ?_ ?_
         ·intro i o' j b' hi hg wa v hC hV
          have hlt : i < 17 := by rcases Nat.lt_or_ge i 17 with q | q; exact q; rw [List.getElem?_eq_none (by simpa using q)] at hi; cases hi
          revert hi hg hV
          rcases (show i = 0 ∨ i = 1 ∨ i = 2 ∨ i = 3 ∨ i = 4 ∨ i = 5 ∨ i = 6 ∨ i = 7 ∨ i = 8 ∨ i = 9 ∨ i = 10 ∨ i = 11 ∨ i = 12 ∨ i = 13 ∨ i = 14 ∨ i = 15 ∨ i = 16 by omega) with rfl | rfl | rfl | rfl | rfl | rfl | rfl | rfl | rfl | rfl | rfl | rfl | rfl | rfl | rfl | rfl | rfl <;>
           (intro hi hg hV; simp only [tkS, List.getElem?_cons_zero, List.getElem?_cons_succ, Option.some.injEq] at hi; subst hi; first | (cases hg; first | exact hV | exact (show v ≠ _ from (by rw [hV]; intro hh; cases hh))) | (cases hg))
         ·intro i o' hi hg
          have hlt : i < 17 := by rcases Nat.lt_or_ge i 17 with q | q; exact q; rw [List.getElem?_eq_none (by simpa using q)] at hi; cases hi
          revert hi hg
          rcases (show i = 0 ∨ i = 1 ∨ i = 2 ∨ i = 3 ∨ i = 4 ∨ i = 5 ∨ i = 6 ∨ i = 7 ∨ i = 8 ∨ i = 9 ∨ i = 10 ∨ i = 11 ∨ i = 12 ∨ i = 13 ∨ i = 14 ∨ i = 15 ∨ i = 16 by omega) with rfl | rfl | rfl | rfl | rfl | rfl | rfl | rfl | rfl | rfl | rfl | rfl | rfl | rfl | rfl | rfl | rfl <;>
           (intro hi hg; simp only [tkS, List.getElem?_cons_zero, List.getElem?_cons_succ, Option.some.injEq] at hi; subst hi; first | (cases hg; done) | (intro hh; cases hh))
         ·intro i hi wa
          have hi' : (!([8, 9, 10, 11, 12, 13, 14, 15] : List Nat).contains i) = false := hi
          have hm : i ∈ ([8, 9, 10, 11, 12, 13, 14, 15] : List Nat) := List.contains_iff_mem.1 (by cases hc : ([8, 9, 10, 11, 12, 13, 14, 15] : List Nat).contains i with | true => rfl | false => rw [hc] at hi'; cases hi')
          simp only [List.mem_cons, List.not_mem_nil, or_false] at hm
          rcases hm with rfl | rfl | rfl | rfl | rfl | rfl | rfl | rfl <;> rfl
         ·intro wa wb hb q; exact q.below hb
         ·intro kc v wa wb hC1 hb h
          match kc, h with
          | 0, h => exact h
          | 1, h => exact h
          | 2, h => exact h
          | 3, h => exact h
          | 4, h => exact h
          | 5, h => exact h
          | 6, h => exact h
          | 7, h => exact h
          | 8, h => exact h
          | 9, h => exact h
          | 10, h => exact h
          | 11, h => exact h
          | 12, h => exact h
          | 13, h => exact h
          | 14, h => exact h
          | 15, h => exact h
          | 16, h => exact h
          | kc + 17, h => trivial
         ·exact F7.out.drew
         ·refine ⟨?_, ?_, ?_, ?_, ?_, ?_, ?_, ?_, ?_, ?_, ?_, ?_, ?_, ?_, ?_, ?_, ?_, trivial⟩
          ·intro _ f wq hC hd KK hK
           clear hd
           simp only [tkS, tkZ, setAll, siB, stS, stZ, Nat.zero_add, Nat.reduceAdd] at hK ⊢
           refine wp_of_quiet rfl ?_
           go_big_quiet_step (fail)
           exact wpQuiet_nil (hK _ _ (rfl) bR)
          ·intro _ f wq hC hd KK hK
           have g0 : f 0 = .pointer (some ⟨w.heap.size, 2, none⟩) := hd 0 (by kernel_rfl)
           clear hd
           have c2 : wq.cell? ⟨w.heap.size, 2, none⟩ = some (.slice (some ⟨b, o, none⟩) n cp) := hC.rg.cell 2
           clear hC
           simp only [tkS, tkZ, setAll, siB, stS, stZ, Nat.zero_add, Nat.reduceAdd, g0] at hK ⊢
           refine wp_of_quiet rfl ?_
           go_big_quiet_step (fail)
           exact wpQuiet_nil (hK _ _ (rfl) bR)
          ·intro _ f wq hC hd KK hK
           clear hd
           simp only [tkS, tkZ, setAll, siB, stS, stZ, Nat.zero_add, Nat.reduceAdd] at hK ⊢
           refine wp_of_quiet rfl ?_
           go_big_quiet_step (fail)
           exact wpQuiet_nil (hK _ _ (rfl) bR)
          ·intro _ f wq hC hd KK hK
           have g1 : f 1 = .slice (some ⟨b, o, none⟩) n cp := hd 1 (by kernel_rfl)
           have g2 : f 2 = .int .i64 (k : Int) := hd 2 (by kernel_rfl)
           clear hd
           simp only [tkS, tkZ, setAll, siB, stS, stZ, Nat.zero_add, Nat.reduceAdd, g1, g2] at hK ⊢
           refine wp_of_quiet rfl ?_
           go_big_quiet_step (fail)
           exact wpQuiet_nil (hK _ _ (rfl) bR)
          ·intro _ f wq hC hd KK hK
           have g3 : f 3 = .pointer (some ⟨b, o + k * 15, none⟩) := hd 3 (by kernel_rfl)
           clear hd
           simp only [tkS, tkZ, setAll, siB, stS, stZ, Nat.zero_add, Nat.reduceAdd, g3] at hK ⊢
           refine wp_of_quiet rfl ?_
           go_big_quiet_step (fail)
           exact wpQuiet_nil (hK _ _ (rfl) bR)
          ·intro _ f wq hC hd KK hK
           have g4 : f 4 = .pointer (some ⟨b, o + k * 15 + 4, none⟩) := hd 4 (by kernel_rfl)
           clear hd
           have c4 : wq.cell? ⟨b, o + k * 15 + 4, none⟩ = some (.int .u8 0) := by rw [HW.out k wq hlt hC.be, hz]
           clear hC
           simp only [tkS, tkZ, setAll, siB, stS, stZ, Nat.zero_add, Nat.reduceAdd, g4] at hK ⊢
           refine wp_of_quiet rfl ?_
           go_big_quiet_step (fail)
           exact wpQuiet_nil (hK _ _ (rfl) bR)
          ·intro _ f wq hC hd KK hK
           have g5 : f 5 = .int .u8 0 := hd 5 (by kernel_rfl)
           clear hd
           simp only [tkS, tkZ, setAll, siB, stS, stZ, Nat.zero_add, Nat.reduceAdd, g5] at hK ⊢
           refine wp_of_quiet rfl ?_
           go_big_quiet_step (fail)
           exact wpQuiet_nil (hK _ _ (by first | rfl | (simp; assumption) | (simp; omega) | simp) bR)
          ·intro _ f wq hC hd KK hK
           have g6 : f 6 = .bool false := hd 6 (by kernel_rfl)
           clear hd
           simp only [tkS, tkZ, setAll, siB, stS, stZ, Nat.zero_add, Nat.reduceAdd, g6] at hK ⊢
           refine wp_of_quiet rfl ?_
           go_big_quiet_step (fail)
           exact wpQuiet_nil (hK _ _ (rfl) bR)
          ·intro hh; cases hh
          ·intro hh; cases hh
          ·intro hh; cases hh
          ·intro hh; cases hh
          ·intro hh; cases hh
          ·intro hh; cases hh
          ·intro hh; cases hh
          ·intro hh; cases hh
          ·intro _ f wq hC hd KK hK
           have g7 : f 7 = .bool false := hd 7 (by kernel_rfl)
           clear hd
           simp only [tkS, tkZ, setAll, siB, stS, stZ, Nat.zero_add, Nat.reduceAdd, g7] at hK ⊢
           refine wp_of_quiet rfl ?_
           go_big_quiet_step (fail)
           exact wpQuiet_nil (hK _ _ (rfl) bR)
         ·intro f wz hC hv
          have p0 : f 0 = .pointer (some ⟨w.heap.size, 2, none⟩) := hv 0 (by decide)
          have p1 : f 1 = .slice (some ⟨b, o, none⟩) n cp := hv 1 (by decide)
          have p2 : f 2 = .int .i64 (k : Int) := hv 2 (by decide)
          have p3 : f 3 = .pointer (some ⟨b, o + k * 15, none⟩) := hv 3 (by decide)
          have p4 : f 4 = .pointer (some ⟨b, o + k * 15 + 4, none⟩) := hv 4 (by decide)
          have p5 : f 5 = .int .u8 0 := hv 5 (by decide)
          have p6 : f 6 = .bool false := hv 6 (by decide)
          have p7 : f 7 = .bool false := hv 7 (by decide)
          have p16 : f 16 = .bool false := hv 16 (by decide)
          simp only [tkS, tkZ, List.drop_succ_cons, List.drop_zero, setAll, siB, stS, stZ, Nat.zero_add, Nat.reduceAdd, p0, p1, p2, p3, p4, p5, p6, p7, p16]
          clear hv p0 p1 p2 p3 p4 p5 p6 p7 p16
          have F9 := Box'.mk hC
          clear hC
          go_wp2_with fail
          exact ⟨⟨k + 1, by omega, by go_num, ⟨E⟩, F9⟩, by simp [intOf]; omega⟩
       case neg =>
        have EQ : Box' ((!stB (cat c k).st (cat c (k - 1)).st) = true) := ⟨by rw [stB_no hs]; rfl⟩
        have E := Box'.mk (KF.out (by rw [okE.out, hH, stB_no hs]; simp))
        clear hs
        refine wp_region_growg 28 (by kernel_rfl) 100 rfl (by kernel_rfl) (fun wa wb => Below wa.heap.size wa wb) (fun wa => GrM w (gA (cols : Int) (rows : Int) (.slice (some ⟨b, o, none⟩) n cp)) wa) (fun kc wa v => match kc with
         | 0 => v = .pointer (some ⟨w.heap.size, 2, none⟩)
         | 1 => v = .slice (some ⟨b, o, none⟩) n cp
         | 2 => v = .int .i64 (k : Int)
         | 3 => v = .pointer (some ⟨b, o + k * 15, none⟩)
         | 4 => v = .pointer (some ⟨b, o + k * 15 + 4, none⟩)
         | 5 => v = .int .u8 0
         | 6 => v = .bool true
         | 7 => v = .bool true
         | 8 => v = .bool false
         | 9 => v = .bool false
         | 10 => v = .bool true
         | 11 => v = .bool true
         | 12 => v = .pointer (some ⟨w.heap.size, 2, none⟩)
         | 13 => v = .slice (some ⟨b, o, none⟩) n cp
         | 14 => v = .int .i64 (k : Int)
         | 15 => v = .pointer (some ⟨b, o + k * 15, none⟩)
         | 16 => v = .pointer (some ⟨b, o + k * 15 + 5, none⟩)
         | 17 => v = .agg (sA (cat c k).st)
         | 18 => v = .pointer (some ⟨w.heap.size, 2, none⟩)
         | 19 => v = .slice (some ⟨b, o, none⟩) n cp
         | 20 => v = .int .i64 (k : Int)
         | 21 => v = .int .i64 ((k : Int) - 1)
         | 22 => v = .pointer (some ⟨b, o + (k - 1) * 15, none⟩)
         | 23 => v = .pointer (some ⟨b, o + (k - 1) * 15 + 5, none⟩)
         | 24 => v = .agg (sA (cat c (k - 1)).st)
         | 25 => v = .bool true
         | 26 => v = .bool true
         | 27 => v = .bool true
         | _ => True) ?_ ?_ ?_ ?_ ?_ ?_
        ·intro i o' j b' hi hg wa v hC hV
         have hlt : i < 28 := by rcases Nat.lt_or_ge i 28 with q | q; exact q; rw [List.getElem?_eq_none (by simpa using q)] at hi; cases hi
         revert hi hg hV
         rcases (show i = 0 ∨ i = 1 ∨ i = 2 ∨ i = 3 ∨ i = 4 ∨ i = 5 ∨ i = 6 ∨ i = 7 ∨ i = 8 ∨ i = 9 ∨ i = 10 ∨ i = 11 ∨ i = 12 ∨ i = 13 ∨ i = 14 ∨ i = 15 ∨ i = 16 ∨ i = 17 ∨ i = 18 ∨ i = 19 ∨ i = 20 ∨ i = 21 ∨ i = 22 ∨ i = 23 ∨ i = 24 ∨ i = 25 ∨ i = 26 ∨ i = 27 by omega) with rfl | rfl | rfl | rfl | rfl | rfl | rfl | rfl | rfl | rfl | rfl | rfl | rfl | rfl | rfl | rfl | rfl | rfl | rfl | rfl | rfl | rfl | rfl | rfl | rfl | rfl | rfl | rfl <;>
          (intro hi hg hV; simp only [tkS, List.getElem?_cons_zero, List.getElem?_cons_succ, Option.some.injEq] at hi; subst hi; first | (cases hg; exact hV) | (cases hg))
        ·intro wa wb hb q; exact q.below hb
        ·intro kc v wa wb hC1 hb h
         match kc, h with
         | 0, h => exact h
         | 1, h => exact h
         | 2, h => exact h
         | 3, h => exact h
         | 4, h => exact h
         | 5, h => exact h
         | 6, h => exact h
         | 7, h => exact h
         | 8, h => exact h
         | 9, h => exact h
         | 10, h => exact h
         | 11, h => exact h
         | 12, h => exact h
         | 13, h => exact h
         | 14, h => exact h
         | 15, h => exact h
         | 16, h => exact h
         | 17, h => exact h
         | 18, h => exact h
         | 19, h => exact h
         | 20, h => exact h
         | 21, h => exact h
         | 22, h => exact h
         | 23, h => exact h
         | 24, h => exact h
         | 25, h => exact h
         | 26, h => exact h
         | 27, h => exact h
         | kc + 28, h => trivial
        ·exact F5.out.drew
        ·refine ⟨?_, ?_, ?_, ?_, ?_, ?_, ?_, ?_, ?_, ?_, ?_, ?_, ?_, ?_, ?_, ?_, ?_, ?_, ?_, ?_, ?_, ?_, ?_, ?_, ?_, ?_, ?_, ?_, trivial⟩
         ·intro f wq hC hd KK hK
          clear hd
          simp only [tkS, tkZ, setAll, siB, stS, stZ, Nat.zero_add, Nat.reduceAdd] at hK ⊢
          refine wp_of_quiet rfl ?_
          go_big_quiet_step (fail)
          exact wpQuiet_nil (hK _ _ (rfl) bR)
         ·intro f wq hC hd KK hK
          have g0 : f 0 = .pointer (some ⟨w.heap.size, 2, none⟩) := hd 0 (by kernel_rfl)
          clear hd
          have c2 : wq.cell? ⟨w.heap.size, 2, none⟩ = some (.slice (some ⟨b, o, none⟩) n cp) := hC.rg.cell 2
          clear hC
          simp only [tkS, tkZ, setAll, siB, stS, stZ, Nat.zero_add, Nat.reduceAdd, g0] at hK ⊢
          refine wp_of_quiet rfl ?_
          go_big_quiet_step (fail)
          exact wpQuiet_nil (hK _ _ (rfl) bR)
         ·intro f wq hC hd KK hK
          clear hd
          simp only [tkS, tkZ, setAll, siB, stS, stZ, Nat.zero_add, Nat.reduceAdd] at hK ⊢
          refine wp_of_quiet rfl ?_
          go_big_quiet_step (fail)
          exact wpQuiet_nil (hK _ _ (rfl) bR)
         ·intro f wq hC hd KK hK
          have g1 : f 1 = .slice (some ⟨b, o, none⟩) n cp := hd 1 (by kernel_rfl)
          have g2 : f 2 = .int .i64 (k : Int) := hd 2 (by kernel_rfl)
          clear hd
          simp only [tkS, tkZ, setAll, siB, stS, stZ, Nat.zero_add, Nat.reduceAdd, g1, g2] at hK ⊢
          refine wp_of_quiet rfl ?_
          go_big_quiet_step (fail)
          exact wpQuiet_nil (hK _ _ (rfl) bR)
         ·intro f wq hC hd KK hK
          have g3 : f 3 = .pointer (some ⟨b, o + k * 15, none⟩) := hd 3 (by kernel_rfl)
          clear hd
          simp only [tkS, tkZ, setAll, siB, stS, stZ, Nat.zero_add, Nat.reduceAdd, g3] at hK ⊢
          refine wp_of_quiet rfl ?_
          go_big_quiet_step (fail)
          exact wpQuiet_nil (hK _ _ (rfl) bR)
         ·intro f wq hC hd KK hK
          have g4 : f 4 = .pointer (some ⟨b, o + k * 15 + 4, none⟩) := hd 4 (by kernel_rfl)
          clear hd
          have c4 : wq.cell? ⟨b, o + k * 15 + 4, none⟩ = some (.int .u8 0) := by rw [HW.out k wq hlt hC.be, hz]
          clear hC
          simp only [tkS, tkZ, setAll, siB, stS, stZ, Nat.zero_add, Nat.reduceAdd, g4] at hK ⊢
          refine wp_of_quiet rfl ?_
          go_big_quiet_step (fail)
          exact wpQuiet_nil (hK _ _ (rfl) bR)
         ·intro f wq hC hd KK hK
          have g5 : f 5 = .int .u8 0 := hd 5 (by kernel_rfl)
          clear hd
          simp only [tkS, tkZ, setAll, siB, stS, stZ, Nat.zero_add, Nat.reduceAdd, g5] at hK ⊢
          refine wp_of_quiet rfl ?_
          go_big_quiet_step (fail)
          exact wpQuiet_nil (hK _ _ (by first | rfl | (simp; assumption) | (simp; omega) | simp) bR)
         ·intro f wq hC hd KK hK
          clear hd
          simp only [tkS, tkZ, setAll, siB, stS, stZ, Nat.zero_add, Nat.reduceAdd] at hK ⊢
          refine wp_of_quiet rfl ?_
          go_big_quiet_step (fail)
          exact wpQuiet_nil (hK _ _ (rfl) bR)
         ·intro f wq hC hd KK hK
          have g6 : f 6 = .bool true := hd 6 (by kernel_rfl)
          have g7 : f 7 = .bool true := hd 7 (by kernel_rfl)
          clear hd
          simp only [tkS, tkZ, setAll, siB, stS, stZ, Nat.zero_add, Nat.reduceAdd, g6, g7] at hK ⊢
          refine wp_of_quiet rfl ?_
          go_big_quiet_step (fail)
          exact wpQuiet_nil (hK _ _ (by first | rfl | (simp; assumption) | (simp; omega) | simp) bR)
         ·intro f wq hC hd KK hK
          have g8 : f 8 = .bool false := hd 8 (by kernel_rfl)
          clear hd
          simp only [tkS, tkZ, setAll, siB, stS, stZ, Nat.zero_add, Nat.reduceAdd, g8] at hK ⊢
          refine wp_of_quiet rfl ?_
          go_big_quiet_step (fail)
          exact wpQuiet_nil (hK _ _ (rfl) bR)
         ·intro f wq hC hd KK hK
          clear hd
          simp only [tkS, tkZ, setAll, siB, stS, stZ, Nat.zero_add, Nat.reduceAdd] at hK ⊢
          refine wp_unguard ?_
          refine wp_of_quiet rfl ?_
          go_big_quiet_step (fail)
          exact wpQuiet_nil (hK _ _ (rfl) bR)
         ·intro f wq hC hd KK hK
          have g10 : f 10 = .bool true := hd 10 (by kernel_rfl)
          clear hd
          simp only [tkS, tkZ, setAll, siB, stS, stZ, Nat.zero_add, Nat.reduceAdd, g10] at hK ⊢
          refine wp_unguard ?_
          refine wp_of_quiet rfl ?_
          go_big_quiet_step (fail)
          exact wpQuiet_nil (hK _ _ (rfl) bR)
         ·intro f wq hC hd KK hK
          clear hd
          simp only [tkS, tkZ, setAll, siB, stS, stZ, Nat.zero_add, Nat.reduceAdd] at hK ⊢
          refine wp_unguard ?_
          refine wp_of_quiet rfl ?_
          go_big_quiet_step (fail)
          exact wpQuiet_nil (hK _ _ (rfl) bR)
         ·intro f wq hC hd KK hK
          have g12 : f 12 = .pointer (some ⟨w.heap.size, 2, none⟩) := hd 12 (by kernel_rfl)
          clear hd
          have c2 : wq.cell? ⟨w.heap.size, 2, none⟩ = some (.slice (some ⟨b, o, none⟩) n cp) := hC.rg.cell 2
          clear hC
          simp only [tkS, tkZ, setAll, siB, stS, stZ, Nat.zero_add, Nat.reduceAdd, g12] at hK ⊢
          refine wp_unguard ?_
          refine wp_of_quiet rfl ?_
          go_big_quiet_step (fail)
          exact wpQuiet_nil (hK _ _ (rfl) bR)
         ·intro f wq hC hd KK hK
          clear hd
          simp only [tkS, tkZ, setAll, siB, stS, stZ, Nat.zero_add, Nat.reduceAdd] at hK ⊢
          refine wp_unguard ?_
          refine wp_of_quiet rfl ?_
          go_big_quiet_step (fail)
          exact wpQuiet_nil (hK _ _ (rfl) bR)
         ·intro f wq hC hd KK hK
          have g13 : f 13 = .slice (some ⟨b, o, none⟩) n cp := hd 13 (by kernel_rfl)
          have g14 : f 14 = .int .i64 (k : Int) := hd 14 (by kernel_rfl)
          clear hd
          simp only [tkS, tkZ, setAll, siB, stS, stZ, Nat.zero_add, Nat.reduceAdd, g13, g14] at hK ⊢
          refine wp_unguard ?_
          refine wp_of_quiet rfl ?_
          go_big_quiet_step (fail)
          exact wpQuiet_nil (hK _ _ (rfl) bR)
         ·intro f wq hC hd KK hK
          have g15 : f 15 = .pointer (some ⟨b, o + k * 15, none⟩) := hd 15 (by kernel_rfl)
          clear hd
          simp only [tkS, tkZ, setAll, siB, stS, stZ, Nat.zero_add, Nat.reduceAdd, g15] at hK ⊢
          refine wp_unguard ?_
          refine wp_of_quiet rfl ?_
          go_big_quiet_step (fail)
          exact wpQuiet_nil (hK _ _ (rfl) bR)
         ·intro f wq hC hd KK hK
          have g16 : f 16 = .pointer (some ⟨b, o + k * 15 + 5, none⟩) := hd 16 (by kernel_rfl)
          clear hd
          simp only [tkS, tkZ, setAll, siB, stS, stZ, Nat.zero_add, Nat.reduceAdd, g16] at hK ⊢
          refine wp_unguard ?_
          exact wp_load_style (.tmp 71) rfl b (o + k * 15 + 5) _ rfl (HS.out k wq hlt hC.be) (hK _ _ rfl bR)
         ·intro f wq hC hd KK hK
          clear hd
          simp only [tkS, tkZ, setAll, siB, stS, stZ, Nat.zero_add, Nat.reduceAdd] at hK ⊢
          refine wp_unguard ?_
          refine wp_of_quiet rfl ?_
          go_big_quiet_step (fail)
          exact wpQuiet_nil (hK _ _ (rfl) bR)
         ·intro f wq hC hd KK hK
          have g18 : f 18 = .pointer (some ⟨w.heap.size, 2, none⟩) := hd 18 (by kernel_rfl)
          clear hd
          have c2 : wq.cell? ⟨w.heap.size, 2, none⟩ = some (.slice (some ⟨b, o, none⟩) n cp) := hC.rg.cell 2
          clear hC
          simp only [tkS, tkZ, setAll, siB, stS, stZ, Nat.zero_add, Nat.reduceAdd, g18] at hK ⊢
          refine wp_unguard ?_
          refine wp_of_quiet rfl ?_
          go_big_quiet_step (fail)
          exact wpQuiet_nil (hK _ _ (rfl) bR)
         ·intro f wq hC hd KK hK
          clear hd
          simp only [tkS, tkZ, setAll, siB, stS, stZ, Nat.zero_add, Nat.reduceAdd] at hK ⊢
          refine wp_unguard ?_
          refine wp_of_quiet rfl ?_
          go_big_quiet_step (fail)
          exact wpQuiet_nil (hK _ _ (rfl) bR)
         ·intro f wq hC hd KK hK
          have g20 : f 20 = .int .i64 (k : Int) := hd 20 (by kernel_rfl)
          clear hd
          simp only [tkS, tkZ, setAll, siB, stS, stZ, Nat.zero_add, Nat.reduceAdd, g20] at hK ⊢
          refine wp_unguard ?_
          refine wp_of_quiet rfl ?_
          go_big_quiet_step (fail)
          exact wpQuiet_nil (hK _ _ (rfl) bR)
         ·intro f wq hC hd KK hK
          have g19 : f 19 = .slice (some ⟨b, o, none⟩) n cp := hd 19 (by kernel_rfl)
          have g21 : f 21 = .int .i64 ((k : Int) - 1) := hd 21 (by kernel_rfl)
          clear hd
          simp only [tkS, tkZ, setAll, siB, stS, stZ, Nat.zero_add, Nat.reduceAdd, g19, g21] at hK ⊢
          refine wp_unguard ?_
          refine wp_of_quiet rfl ?_
          go_big_quiet_step (fail)
          exact wpQuiet_nil (hK _ _ (by first | rfl | (simp; omega)) bR)
         ·intro f wq hC hd KK hK
          have g22 : f 22 = .pointer (some ⟨b, o + (k - 1) * 15, none⟩) := hd 22 (by kernel_rfl)
          clear hd
          simp only [tkS, tkZ, setAll, siB, stS, stZ, Nat.zero_add, Nat.reduceAdd, g22] at hK ⊢
          refine wp_unguard ?_
          refine wp_of_quiet rfl ?_
          go_big_quiet_step (fail)
          exact wpQuiet_nil (hK _ _ (rfl) bR)
         ·intro f wq hC hd KK hK
          have g23 : f 23 = .pointer (some ⟨b, o + (k - 1) * 15 + 5, none⟩) := hd 23 (by kernel_rfl)
          clear hd
          simp only [tkS, tkZ, setAll, siB, stS, stZ, Nat.zero_add, Nat.reduceAdd, g23] at hK ⊢
          refine wp_unguard ?_
          exact wp_load_style (.tmp 78) rfl b (o + (k - 1) * 15 + 5) _ rfl (HS.out (k - 1) wq (by omega) hC.be) (hK _ _ rfl bR)
         ·intro f wq hC hd KK hK
          have g17 : f 17 = .agg (sA (cat c k).st) := hd 17 (by kernel_rfl)
          have g24 : f 24 = .agg (sA (cat c (k - 1)).st) := hd 24 (by kernel_rfl)
          clear hd
          simp only [tkS, tkZ, setAll, siB, stS, stZ, Nat.zero_add, Nat.reduceAdd, g17, g24] at hK ⊢
          refine wp_unguard ?_
          exact wp_val _ (run_neq_op 26 (.tmp 72) (.tmp 79) rfl (cat c k).st (cat c (k - 1)).st rfl rfl _ EQ.out _) (hK _ _ rfl bR)
         ·intro f wq hC hd KK hK
          have g11 : f 11 = .bool true := hd 11 (by kernel_rfl)
          have g25 : f 25 = .bool true := hd 25 (by kernel_rfl)
          clear hd
          simp only [tkS, tkZ, setAll, siB, stS, stZ, Nat.zero_add, Nat.reduceAdd, g11, g25] at hK ⊢
          refine wp_unguard ?_
          refine wp_of_quiet rfl ?_
          go_big_quiet_step (fail)
          exact wpQuiet_nil (hK _ _ (rfl) bR)
         ·intro f wq hC hd KK hK
          have g9 : f 9 = .bool false := hd 9 (by kernel_rfl)
          have g26 : f 26 = .bool true := hd 26 (by kernel_rfl)
          clear hd
          simp only [tkS, tkZ, setAll, siB, stS, stZ, Nat.zero_add, Nat.reduceAdd, g9, g26] at hK ⊢
          refine wp_of_quiet rfl ?_
          go_big_quiet_step (fail)
          exact wpQuiet_nil (hK _ _ (rfl) bR)
        ·intro f wz hC hv
         have p0 : f 0 = .pointer (some ⟨w.heap.size, 2, none⟩) := hv 0 (by decide)
         have p1 : f 1 = .slice (some ⟨b, o, none⟩) n cp := hv 1 (by decide)
         have p2 : f 2 = .int .i64 (k : Int) := hv 2 (by decide)
         have p3 : f 3 = .pointer (some ⟨b, o + k * 15, none⟩) := hv 3 (by decide)
         have p4 : f 4 = .pointer (some ⟨b, o + k * 15 + 4, none⟩) := hv 4 (by decide)
         have p5 : f 5 = .int .u8 0 := hv 5 (by decide)
         have p6 : f 6 = .bool true := hv 6 (by decide)
         have p7 : f 7 = .bool true := hv 7 (by decide)
         have p8 : f 8 = .bool false := hv 8 (by decide)
         have p9 : f 9 = .bool false := hv 9 (by decide)
         have p10 : f 10 = .bool true := hv 10 (by decide)
         have p11 : f 11 = .bool true := hv 11 (by decide)
         have p12 : f 12 = .pointer (some ⟨w.heap.size, 2, none⟩) := hv 12 (by decide)
         have p13 : f 13 = .slice (some ⟨b, o, none⟩) n cp := hv 13 (by decide)
         have p14 : f 14 = .int .i64 (k : Int) := hv 14 (by decide)
         have p15 : f 15 = .pointer (some ⟨b, o + k * 15, none⟩) := hv 15 (by decide)
         have p16 : f 16 = .pointer (some ⟨b, o + k * 15 + 5, none⟩) := hv 16 (by decide)
         have p17 : f 17 = .agg (sA (cat c k).st) := hv 17 (by decide)
         have p18 : f 18 = .pointer (some ⟨w.heap.size, 2, none⟩) := hv 18 (by decide)
         have p19 : f 19 = .slice (some ⟨b, o, none⟩) n cp := hv 19 (by decide)
         have p20 : f 20 = .int .i64 (k : Int) := hv 20 (by decide)
         have p21 : f 21 = .int .i64 ((k : Int) - 1) := hv 21 (by decide)
         have p22 : f 22 = .pointer (some ⟨b, o + (k - 1) * 15, none⟩) := hv 22 (by decide)
         have p23 : f 23 = .pointer (some ⟨b, o + (k - 1) * 15 + 5, none⟩) := hv 23 (by decide)
         have p24 : f 24 = .agg (sA (cat c (k - 1)).st) := hv 24 (by decide)
         have p25 : f 25 = .bool true := hv 25 (by decide)
         have p26 : f 26 = .bool true := hv 26 (by decide)
         have p27 : f 27 = .bool true := hv 27 (by decide)
         simp only [tkS, tkZ, List.drop_succ_cons, List.drop_zero, setAll, siB, stS, stZ, Nat.zero_add, Nat.reduceAdd, p0, p1, p2, p3, p4, p5, p6, p7, p8, p9, p10, p11, p12, p13, p14, p15, p16, p17, p18, p19, p20, p21, p22, p23, p24, p25, p26, p27]
         clear hv p0 p1 p2 p3 p4 p5 p6 p7 p8 p9 p10 p11 p12 p13 p14 p15 p16 p17 p18 p19 p20 p21 p22 p23 p24 p25 p26 p27
         have F9 := Box'.mk hC
         clear hC
         go_wp2_with fail
         go_ret
         exact ⟨by rw [E.out]; rfl, F9.out.be⟩
      case neg =>
       have E := Box'.mk (KF.out (by rw [okE.out, hH, decide_eq_false (show ¬ (cat c k).wd = 0 by omega)]; rfl))
       obtain ⟨z, hz⟩ : ∃ z : Int, ((cat c k).wd : Int) = z := ⟨_, rfl⟩
       rw [hz] at hw0
       refine wp_region_growh 28 (by kernel_rfl) 100 rfl (by kernel_rfl) (fun wa wb => Below wa.heap.size wa wb) (fun wa => GrM w (gA (cols : Int) (rows : Int) (.slice (some ⟨b, o, none⟩) n cp)) wa) (fun kc wa v => match kc with
        | 0 => v = .pointer (some ⟨w.heap.size, 2, none⟩)
        | 1 => v = .slice (some ⟨b, o, none⟩) n cp
        | 2 => v = .int .i64 (k : Int)
        | 3 => v = .pointer (some ⟨b, o + k * 15, none⟩)
        | 4 => v = .pointer (some ⟨b, o + k * 15 + 4, none⟩)
        | 5 => v = .int .u8 z
        | 6 => v = .bool false
        | 7 => v = .bool true
        | 8 => v = .bool true
        | 9 => v = .bool true
        | 10 => v = undef
        | 11 => v = undef
        | 12 => v = undef
        | 13 => v = undef
        | 14 => v = undef
        | 15 => v = undef
        | 16 => v = undef
        | 17 => v = undef
        | 18 => v = undef
        | 19 => v = undef
        | 20 => v = undef
        | 21 => v = undef
        | 22 => v = undef
        | 23 => v = undef
        | 24 => v = undef
        | 25 => v = undef
        | 26 => v = undef
        | 27 => v = .bool true
        | _ => True) (fun i => !([10, 11, 12, 13, 14, 15, 16, 17, 18, 19, 20, 21, 22, 23, 24, 25, 26] : List Nat).contains i) ?_ ?_ ?_ ?_ ?_ ?_ ?_ ?_
       ·intro i o' j b' hi hg wa v hC hV
        have hlt : i < 28 := by rcases Nat.lt_or_ge i 28 with q | q; exact q; rw [List.getElem?_eq_none (by simpa using q)] at hi; cases hi
        revert hi hg hV
        rcases (show i = 0 ∨ i = 1 ∨ i = 2 ∨ i = 3 ∨ i = 4 ∨ i = 5 ∨ i = 6 ∨ i = 7 ∨ i = 8 ∨ i = 9 ∨ i = 10 ∨ i = 11 ∨ i = 12 ∨ i = 13 ∨ i = 14 ∨ i = 15 ∨ i = 16 ∨ i = 17 ∨ i = 18 ∨ i = 19 ∨ i = 20 ∨ i = 21 ∨ i = 22 ∨ i = 23 ∨ i = 24 ∨ i = 25 ∨ i = 26 ∨ i = 27 by omega) with rfl | rfl | rfl | rfl | rfl | rfl | rfl | rfl | rfl | rfl | rfl | rfl | rfl | rfl | rfl | rfl | rfl | rfl | rfl | rfl | rfl | rfl | rfl | rfl | rfl | rfl | rfl | rfl <;>
         (intro hi hg hV; simp only [tkS, List.getElem?_cons_zero, List.getElem?_cons_succ, Option.some.injEq] at hi; subst hi; first | (cases hg; first | exact hV | exact (show v ≠ _ from (by rw [hV]; intro hh; cases hh))) | (cases hg))
       ·intro i o' hi hg
        have hlt : i < 28 := by rcases Nat.lt_or_ge i 28 with q | q; exact q; rw [List.getElem?_eq_none (by simpa using q)] at hi; cases hi
        revert hi hg
        rcases (show i = 0 ∨ i = 1 ∨ i = 2 ∨ i = 3 ∨ i = 4 ∨ i = 5 ∨ i = 6 ∨ i = 7 ∨ i = 8 ∨ i = 9 ∨ i = 10 ∨ i = 11 ∨ i = 12 ∨ i = 13 ∨ i = 14 ∨ i = 15 ∨ i = 16 ∨ i = 17 ∨ i = 18 ∨ i = 19 ∨ i = 20 ∨ i = 21 ∨ i = 22 ∨ i = 23 ∨ i = 24 ∨ i = 25 ∨ i = 26 ∨ i = 27 by omega) with rfl | rfl | rfl | rfl | rfl | rfl | rfl | rfl | rfl | rfl | rfl | rfl | rfl | rfl | rfl | rfl | rfl | rfl | rfl | rfl | rfl | rfl | rfl | rfl | rfl | rfl | rfl | rfl <;>
         (intro hi hg; simp only [tkS, List.getElem?_cons_zero, List.getElem?_cons_succ, Option.some.injEq] at hi; subst hi; first | (cases hg; done) | (intro hh; cases hh))
       ·intro i hi wa
        have hi' : (!([10, 11, 12, 13, 14, 15, 16, 17, 18, 19, 20, 21, 22, 23, 24, 25, 26] : List Nat).contains i) = false := hi
        have hm : i ∈ ([10, 11, 12, 13, 14, 15, 16, 17, 18, 19, 20, 21, 22, 23, 24, 25, 26] : List Nat) := List.contains_iff_mem.1 (by cases hc : ([10, 11, 12, 13, 14, 15, 16, 17, 18, 19, 20, 21, 22, 23, 24, 25, 26] : List Nat).contains i with | true => rfl | false => rw [hc] at hi'; cases hi')
        simp only [List.mem_cons, List.not_mem_nil, or_false] at hm
        rcases hm with rfl | rfl | rfl | rfl | rfl | rfl | rfl | rfl | rfl | rfl | rfl | rfl | rfl | rfl | rfl | rfl | rfl <;> rfl
       ·intro wa wb hb q; exact q.below hb
       ·intro kc v wa wb hC1 hb h
        match kc, h with
        | 0, h => exact h
        | 1, h => exact h
        | 2, h => exact h
        | 3, h => exact h
        | 4, h => exact h
        | 5, h => exact h
        | 6, h => exact h
        | 7, h => exact h
        | 8, h => exact h
        | 9, h => exact h
        | 10, h => exact h
        | 11, h => exact h
        | 12, h => exact h
        | 13, h => exact h
        | 14, h => exact h
        | 15, h => exact h
        | 16, h => exact h
        | 17, h => exact h
        | 18, h => exact h
        | 19, h => exact h
        | 20, h => exact h
        | 21, h => exact h
        | 22, h => exact h
        | 23, h => exact h
        | 24, h => exact h
        | 25, h => exact h
        | 26, h => exact h
        | 27, h => exact h
        | kc + 28, h => trivial
       ·exact F5.out.drew
       ·refine ⟨?_, ?_, ?_, ?_, ?_, ?_, ?_, ?_, ?_, ?_, ?_, ?_, ?_, ?_, ?_, ?_, ?_, ?_, ?_, ?_, ?_, ?_, ?_, ?_, ?_, ?_, ?_, ?_, trivial⟩
        ·intro _ f wq hC hd KK hK
         clear hd
         simp only [tkS, tkZ, setAll, siB, stS, stZ, Nat.zero_add, Nat.reduceAdd] at hK ⊢
         refine wp_of_quiet rfl ?_
         go_big_quiet_step (fail)
         exact wpQuiet_nil (hK _ _ (rfl) bR)
        ·intro _ f wq hC hd KK hK
         have g0 : f 0 = .pointer (some ⟨w.heap.size, 2, none⟩) := hd 0 (by kernel_rfl)
         clear hd
         have c2 : wq.cell? ⟨w.heap.size, 2, none⟩ = some (.slice (some ⟨b, o, none⟩) n cp) := hC.rg.cell 2
         clear hC
         simp only [tkS, tkZ, setAll, siB, stS, stZ, Nat.zero_add, Nat.reduceAdd, g0] at hK ⊢
         refine wp_of_quiet rfl ?_
         go_big_quiet_step (fail)
         exact wpQuiet_nil (hK _ _ (rfl) bR)
        ·intro _ f wq hC hd KK hK
         clear hd
         simp only [tkS, tkZ, setAll, siB, stS, stZ, Nat.zero_add, Nat.reduceAdd] at hK ⊢
         refine wp_of_quiet rfl ?_
         go_big_quiet_step (fail)
         exact wpQuiet_nil (hK _ _ (rfl) bR)
        ·intro _ f wq hC hd KK hK
         have g1 : f 1 = .slice (some ⟨b, o, none⟩) n cp := hd 1 (by kernel_rfl)
         have g2 : f 2 = .int .i64 (k : Int) := hd 2 (by kernel_rfl)
         clear hd
         simp only [tkS, tkZ, setAll, siB, stS, stZ, Nat.zero_add, Nat.reduceAdd, g1, g2] at hK ⊢
         refine wp_of_quiet rfl ?_
         go_big_quiet_step (fail)
         exact wpQuiet_nil (hK _ _ (rfl) bR)
        ·intro _ f wq hC hd KK hK
         have g3 : f 3 = .pointer (some ⟨b, o + k * 15, none⟩) := hd 3 (by kernel_rfl)
         clear hd
         simp only [tkS, tkZ, setAll, siB, stS, stZ, Nat.zero_add, Nat.reduceAdd, g3] at hK ⊢
         refine wp_of_quiet rfl ?_
         go_big_quiet_step (fail)
         exact wpQuiet_nil (hK _ _ (rfl) bR)
        ·intro _ f wq hC hd KK hK
         have g4 : f 4 = .pointer (some ⟨b, o + k * 15 + 4, none⟩) := hd 4 (by kernel_rfl)
         clear hd
         have c4 : wq.cell? ⟨b, o + k * 15 + 4, none⟩ = some (.int .u8 z) := by rw [HW.out k wq hlt hC.be, hz]
         clear hC
         simp only [tkS, tkZ, setAll, siB, stS, stZ, Nat.zero_add, Nat.reduceAdd, g4] at hK ⊢
         refine wp_of_quiet rfl ?_
         go_big_quiet_step (fail)
         exact wpQuiet_nil (hK _ _ (rfl) bR)
        ·intro _ f wq hC hd KK hK
         have g5 : f 5 = .int .u8 z := hd 5 (by kernel_rfl)
         clear hd
         simp only [tkS, tkZ, setAll, siB, stS, stZ, Nat.zero_add, Nat.reduceAdd, g5] at hK ⊢
         refine wp_of_quiet rfl ?_
         go_big_quiet_step (fail)
         exact wpQuiet_nil (hK _ _ (by first | rfl | (simp; assumption) | (simp; omega) | simp) bR)
        ·intro _ f wq hC hd KK hK
         clear hd
         simp only [tkS, tkZ, setAll, siB, stS, stZ, Nat.zero_add, Nat.reduceAdd] at hK ⊢
         refine wp_of_quiet rfl ?_
         go_big_quiet_step (fail)
         exact wpQuiet_nil (hK _ _ (rfl) bR)
        ·intro _ f wq hC hd KK hK
         have g6 : f 6 = .bool false := hd 6 (by kernel_rfl)
         have g7 : f 7 = .bool true := hd 7 (by kernel_rfl)
         clear hd
         simp only [tkS, tkZ, setAll, siB, stS, stZ, Nat.zero_add, Nat.reduceAdd, g6, g7] at hK ⊢
         refine wp_of_quiet rfl ?_
         go_big_quiet_step (fail)
         exact wpQuiet_nil (hK _ _ (by first | rfl | (simp; assumption) | (simp; omega) | simp) bR)
        ·intro _ f wq hC hd KK hK
         have g8 : f 8 = .bool true := hd 8 (by kernel_rfl)
         clear hd
         simp only [tkS, tkZ, setAll, siB, stS, stZ, Nat.zero_add, Nat.reduceAdd, g8] at hK ⊢
         refine wp_of_quiet rfl ?_
         go_big_quiet_step (fail)
         exact wpQuiet_nil (hK _ _ (rfl) bR)
        ·intro hh; cases hh
        ·intro hh; cases hh
        ·intro hh; cases hh
        ·intro hh; cases hh
        ·intro hh; cases hh
        ·intro hh; cases hh
        ·intro hh; cases hh
        ·intro hh; cases hh
        ·intro hh; cases hh
        ·intro hh; cases hh
        ·intro hh; cases hh
        ·intro hh; cases hh
        ·intro hh; cases hh
        ·intro hh; cases hh
        ·intro hh; cases hh
        ·intro hh; cases hh
        ·intro hh; cases hh
        ·intro _ f wq hC hd KK hK
         have g9 : f 9 = .bool true := hd 9 (by kernel_rfl)
         clear hd
         simp only [tkS, tkZ, setAll, siB, stS, stZ, Nat.zero_add, Nat.reduceAdd, g9] at hK ⊢
         refine wp_of_quiet rfl ?_
         go_big_quiet_step (fail)
         exact wpQuiet_nil (hK _ _ (rfl) bR)
       ·intro f wz hC hv
        have p0 : f 0 = .pointer (some ⟨w.heap.size, 2, none⟩) := hv 0 (by decide)
        have p1 : f 1 = .slice (some ⟨b, o, none⟩) n cp := hv 1 (by decide)
        have p2 : f 2 = .int .i64 (k : Int) := hv 2 (by decide)
        have p3 : f 3 = .pointer (some ⟨b, o + k * 15, none⟩) := hv 3 (by decide)
        have p4 : f 4 = .pointer (some ⟨b, o + k * 15 + 4, none⟩) := hv 4 (by decide)
        have p5 : f 5 = .int .u8 z := hv 5 (by decide)
        have p6 : f 6 = .bool false := hv 6 (by decide)
        have p7 : f 7 = .bool true := hv 7 (by decide)
        have p8 : f 8 = .bool true := hv 8 (by decide)
        have p9 : f 9 = .bool true := hv 9 (by decide)
        have p27 : f 27 = .bool true := hv 27 (by decide)
        simp only [tkS, tkZ, List.drop_succ_cons, List.drop_zero, setAll, siB, stS, stZ, Nat.zero_add, Nat.reduceAdd, p0, p1, p2, p3, p4, p5, p6, p7, p8, p9, p27]
        clear hv p0 p1 p2 p3 p4 p5 p6 p7 p8 p9 p27
        have F9 := Box'.mk hC
        clear hC
        go_wp2_with fail
        go_ret
        exact ⟨by rw [E.out]; rfl, F9.out.be⟩
     case neg =>
      have hH : hfAt cols c k = false := by unfold hfAt; rw [decide_eq_false (show ¬ (cat c (k - 1)).wd = 2 by omega)]; simp
      obtain ⟨y, hy⟩ : ∃ y : Int, ((cat c (k - 1)).wd : Int) = y := ⟨_, rfl⟩
      rw [hy] at e4 hpw
      clear hy
      have hy2 : (y == 2) = false := by simpa using hpw
      go_upto_region 9 with (fail)
      clear hy2
      clear c0 c2 e4 HEM hpi
      have F5 := F3
      clear F3
      by_cases hw0 : ((cat c k).wd : Int) = 0
      case pos =>
       have hz := hw0
       have E := Box'.mk (KF.out (by rw [okE.out, hH, decide_eq_true (show (cat c k).wd = 0 by omega)]; rfl))
       refine wp_region_growh 28 (by kernel_rfl) 100 rfl (by kernel_rfl) (fun wa wb => Below wa.heap.size wa wb) (fun wa => GrM w (gA (cols : Int) (rows : Int) (.slice (some ⟨b, o, none⟩) n cp)) wa) (fun kc wa v => match kc with
        | 0 => v = .pointer (some ⟨w.heap.size, 2, none⟩)
        | 1 => v = .slice (some ⟨b, o, none⟩) n cp
        | 2 => v = .int .i64 (k : Int)
        | 3 => v = .pointer (some ⟨b, o + k * 15, none⟩)
        | 4 => v = .pointer (some ⟨b, o + k * 15 + 4, none⟩)
        | 5 => v = .int .u8 0
        | 6 => v = .bool true
        | 7 => v = .bool false
        | 8 => v = .bool true
        | 9 => v = .bool true
        | 10 => v = undef
        | 11 => v = undef
        | 12 => v = undef
        | 13 => v = undef
        | 14 => v = undef
        | 15 => v = undef
        | 16 => v = undef
        | 17 => v = undef
        | 18 => v = undef
        | 19 => v = undef
        | 20 => v = undef
        | 21 => v = undef
        | 22 => v = undef
        | 23 => v = undef
        | 24 => v = undef
        | 25 => v = undef
        | 26 => v = undef
        | 27 => v = .bool true
        | _ => True) (fun i => !([10, 11, 12, 13, 14, 15, 16, 17, 18, 19, 20, 21, 22, 23, 24, 25, 26] : List Nat).contains i) ?_ ?_ ?_ ?_ ?_ ?_ ?_ ?_
       ·intro i o' j b' hi hg wa v hC hV
        have hlt : i < 28 := by rcases Nat.lt_or_ge i 28 with q | q; exact q; rw [List.getElem?_eq_none (by simpa using q)] at hi; cases hi
        revert hi hg hV
        rcases (show i = 0 ∨ i = 1 ∨ i = 2 ∨ i = 3 ∨ i = 4 ∨ i = 5 ∨ i = 6 ∨ i = 7 ∨ i = 8 ∨ i = 9 ∨ i = 10 ∨ i = 11 ∨ i = 12 ∨ i = 13 ∨ i = 14 ∨ i = 15 ∨ i = 16 ∨ i = 17 ∨ i = 18 ∨ i = 19 ∨ i = 20 ∨ i = 21 ∨ i = 22 ∨ i = 23 ∨ i = 24 ∨ i = 25 ∨ i = 26 ∨ i = 27 by omega) with rfl | rfl | rfl | rfl | rfl | rfl | rfl | rfl | rfl | rfl | rfl | rfl | rfl | rfl | rfl | rfl | rfl | rfl | rfl | rfl | rfl | rfl | rfl | rfl | rfl | rfl | rfl | rfl <;>
         (intro hi hg hV; simp only [tkS, List.getElem?_cons_zero, List.getElem?_cons_succ, Option.some.injEq] at hi; subst hi; first | (cases hg; first | exact hV | exact (show v ≠ _ from (by rw [hV]; intro hh; cases hh))) | (cases hg))
       ·intro i o' hi hg
        have hlt : i < 28 := by rcases Nat.lt_or_ge i 28 with q | q; exact q; rw [List.getElem?_eq_none (by simpa using q)] at hi; cases hi
        revert hi hg
        rcases (show i = 0 ∨ i = 1 ∨ i = 2 ∨ i = 3 ∨ i = 4 ∨ i = 5 ∨ i = 6 ∨ i = 7 ∨ i = 8 ∨ i = 9 ∨ i = 10 ∨ i = 11 ∨ i = 12 ∨ i = 13 ∨ i = 14 ∨ i = 15 ∨ i = 16 ∨ i = 17 ∨ i = 18 ∨ i = 19 ∨ i = 20 ∨ i = 21 ∨ i = 22 ∨ i = 23 ∨ i = 24 ∨ i = 25 ∨ i = 26 ∨ i = 27 by omega) with rfl | rfl | rfl | rfl | rfl | rfl | rfl | rfl | rfl | rfl | rfl | rfl | rfl | rfl | rfl | rfl | rfl | rfl | rfl | rfl | rfl | rfl | rfl | rfl | rfl | rfl | rfl | rfl <;>
         (intro hi hg; simp only [tkS, List.getElem?_cons_zero, List.getElem?_cons_succ, Option.some.injEq] at hi; subst hi; first | (cases hg; done) | (intro hh; cases hh))
       ·intro i hi wa
        have hi' : (!([10, 11, 12, 13, 14, 15, 16, 17, 18, 19, 20, 21, 22, 23, 24, 25, 26] : List Nat).contains i) = false := hi
        have hm : i ∈ ([10, 11, 12, 13, 14, 15, 16, 17, 18, 19, 20, 21, 22, 23, 24, 25, 26] : List Nat) := List.contains_iff_mem.1 (by cases hc : ([10, 11, 12, 13, 14, 15, 16, 17, 18, 19, 20, 21, 22, 23, 24, 25, 26] : List Nat).contains i with | true => rfl | false => rw [hc] at hi'; cases hi')
        simp only [List.mem_cons, List.not_mem_nil, or_false] at hm
        rcases hm with rfl | rfl | rfl | rfl | rfl | rfl | rfl | rfl | rfl | rfl | rfl | rfl | rfl | rfl | rfl | rfl | rfl <;> rfl
       ·intro wa wb hb q; exact q.below hb
       ·intro kc v wa wb hC1 hb h
        match kc, h with
        | 0, h => exact h
        | 1, h => exact h
        | 2, h => exact h
        | 3, h => exact h
        | 4, h => exact h
        | 5, h => exact h
        | 6, h => exact h
        | 7, h => exact h
        | 8, h => exact h
        | 9, h => exact h
        | 10, h => exact h
        | 11, h => exact h
        | 12, h => exact h
        | 13, h => exact h
        | 14, h => exact h
        | 15, h => exact h
        | 16, h => exact h
        | 17, h => exact h
        | 18, h => exact h
        | 19, h => exact h
        | 20, h => exact h
        | 21, h => exact h
        | 22, h => exact h
        | 23, h => exact h
        | 24, h => exact h
        | 25, h => exact h
        | 26, h => exact h
        | 27, h => exact h
        | kc + 28, h => trivial
       ·exact F5.out.drew
       ·refine ⟨?_, ?_, ?_, ?_, ?_, ?_, ?_, ?_, ?_, ?_, ?_, ?_, ?_, ?_, ?_, ?_, ?_, ?_, ?_, ?_, ?_, ?_, ?_, ?_, ?_, ?_, ?_, ?_, trivial⟩
        ·intro _ f wq hC hd KK hK
         clear hd
         simp only [tkS, tkZ, setAll, siB, stS, stZ, Nat.zero_add, Nat.reduceAdd] at hK ⊢
         refine wp_of_quiet rfl ?_
         go_big_quiet_step (fail)
         exact wpQuiet_nil (hK _ _ (rfl) bR)
        ·intro _ f wq hC hd KK hK
         have g0 : f 0 = .pointer (some ⟨w.heap.size, 2, none⟩) := hd 0 (by kernel_rfl)
         clear hd
         have c2 : wq.cell? ⟨w.heap.size, 2, none⟩ = some (.slice (some ⟨b, o, none⟩) n cp) := hC.rg.cell 2
         clear hC
         simp only [tkS, tkZ, setAll, siB, stS, stZ, Nat.zero_add, Nat.reduceAdd, g0] at hK ⊢
         refine wp_of_quiet rfl ?_
         go_big_quiet_step (fail)
         exact wpQuiet_nil (hK _ _ (rfl) bR)
        ·intro _ f wq hC hd KK hK
         clear hd
         simp only [tkS, tkZ, setAll, siB, stS, stZ, Nat.zero_add, Nat.reduceAdd] at hK ⊢
         refine wp_of_quiet rfl ?_
         go_big_quiet_step (fail)
         exact wpQuiet_nil (hK _ _ (rfl) bR)
        ·intro _ f wq hC hd KK hK
         have g1 : f 1 = .slice (some ⟨b, o, none⟩) n cp := hd 1 (by kernel_rfl)
         have g2 : f 2 = .int .i64 (k : Int) := hd 2 (by kernel_rfl)
         clear hd
         simp only [tkS, tkZ, setAll, siB, stS, stZ, Nat.zero_add, Nat.reduceAdd, g1, g2] at hK ⊢
         refine wp_of_quiet rfl ?_
         go_big_quiet_step (fail)
         exact wpQuiet_nil (hK _ _ (rfl) bR)
        ·intro _ f wq hC hd KK hK
         have g3 : f 3 = .pointer (some ⟨b, o + k * 15, none⟩) := hd 3 (by kernel_rfl)
         clear hd
         simp only [tkS, tkZ, setAll, siB, stS, stZ, Nat.zero_add, Nat.reduceAdd, g3] at hK ⊢
         refine wp_of_quiet rfl ?_
         go_big_quiet_step (fail)
         exact wpQuiet_nil (hK _ _ (rfl) bR)
        ·intro _ f wq hC hd KK hK
         have g4 : f 4 = .pointer (some ⟨b, o + k * 15 + 4, none⟩) := hd 4 (by kernel_rfl)
         clear hd
         have c4 : wq.cell? ⟨b, o + k * 15 + 4, none⟩ = some (.int .u8 0) := by rw [HW.out k wq hlt hC.be, hz]
         clear hC
         simp only [tkS, tkZ, setAll, siB, stS, stZ, Nat.zero_add, Nat.reduceAdd, g4] at hK ⊢
         refine wp_of_quiet rfl ?_
         go_big_quiet_step (fail)
         exact wpQuiet_nil (hK _ _ (rfl) bR)
        ·intro _ f wq hC hd KK hK
         have g5 : f 5 = .int .u8 0 := hd 5 (by kernel_rfl)
         clear hd
         simp only [tkS, tkZ, setAll, siB, stS, stZ, Nat.zero_add, Nat.reduceAdd, g5] at hK ⊢
         refine wp_of_quiet rfl ?_
         go_big_quiet_step (fail)
         exact wpQuiet_nil (hK _ _ (by first | rfl | (simp; assumption) | (simp; omega) | simp) bR)
        ·intro _ f wq hC hd KK hK
         clear hd
         simp only [tkS, tkZ, setAll, siB, stS, stZ, Nat.zero_add, Nat.reduceAdd] at hK ⊢
         refine wp_of_quiet rfl ?_
         go_big_quiet_step (fail)
         exact wpQuiet_nil (hK _ _ (rfl) bR)
        ·intro _ f wq hC hd KK hK
         have g6 : f 6 = .bool true := hd 6 (by kernel_rfl)
         have g7 : f 7 = .bool false := hd 7 (by kernel_rfl)
         clear hd
         simp only [tkS, tkZ, setAll, siB, stS, stZ, Nat.zero_add, Nat.reduceAdd, g6, g7] at hK ⊢
         refine wp_of_quiet rfl ?_
         go_big_quiet_step (fail)
         exact wpQuiet_nil (hK _ _ (by first | rfl | (simp; assumption) | (simp; omega) | simp) bR)
        ·intro _ f wq hC hd KK hK
         have g8 : f 8 = .bool true := hd 8 (by kernel_rfl)
         clear hd
         simp only [tkS, tkZ, setAll, siB, stS, stZ, Nat.zero_add, Nat.reduceAdd, g8] at hK ⊢
         refine wp_of_quiet rfl ?_
         go_big_quiet_step (fail)
         exact wpQuiet_nil (hK _ _ (rfl) bR)
        ·intro hh; cases hh
        ·intro hh; cases hh
        ·intro hh; cases hh
        ·intro hh; cases hh
        ·intro hh; cases hh
        ·intro hh; cases hh
        ·intro hh; cases hh
        ·intro hh; cases hh
        ·intro hh; cases hh
        ·intro hh; cases hh
        ·intro hh; cases hh
        ·intro hh; cases hh
        ·intro hh; cases hh
        ·intro hh; cases hh
        ·intro hh; cases hh
        ·intro hh; cases hh
        ·intro hh; cases hh
        ·intro _ f wq hC hd KK hK
         have g9 : f 9 = .bool true := hd 9 (by kernel_rfl)
         clear hd
         simp only [tkS, tkZ, setAll, siB, stS, stZ, Nat.zero_add, Nat.reduceAdd, g9] at hK ⊢
         refine wp_of_quiet rfl ?_
         go_big_quiet_step (fail)
         exact wpQuiet_nil (hK _ _ (rfl) bR)
       ·intro f wz hC hv
        have p0 : f 0 = .pointer (some ⟨w.heap.size, 2, none⟩) := hv 0 (by decide)
        have p1 : f 1 = .slice (some ⟨b, o, none⟩) n cp := hv 1 (by decide)
        have p2 : f 2 = .int .i64 (k : Int) := hv 2 (by decide)
        have p3 : f 3 = .pointer (some ⟨b, o + k * 15, none⟩) := hv 3 (by decide)
        have p4 : f 4 = .pointer (some ⟨b, o + k * 15 + 4, none⟩) := hv 4 (by decide)
        have p5 : f 5 = .int .u8 0 := hv 5 (by decide)
        have p6 : f 6 = .bool true := hv 6 (by decide)
        have p7 : f 7 = .bool false := hv 7 (by decide)
        have p8 : f 8 = .bool true := hv 8 (by decide)
        have p9 : f 9 = .bool true := hv 9 (by decide)
        have p27 : f 27 = .bool true := hv 27 (by decide)
        simp only [tkS, tkZ, List.drop_succ_cons, List.drop_zero, setAll, siB, stS, stZ, Nat.zero_add, Nat.reduceAdd, p0, p1, p2, p3, p4, p5, p6, p7, p8, p9, p27]
        clear hv p0 p1 p2 p3 p4 p5 p6 p7 p8 p9 p27
        have F9 := Box'.mk hC
        clear hC
        go_wp2_with fail
        go_ret
        exact ⟨by rw [E.out]; rfl, F9.out.be⟩
      case neg =>
       obtain ⟨z, hz⟩ : ∃ z : Int, ((cat c k).wd : Int) = z := ⟨_, rfl⟩
       rw [hz] at hw0
       refine wp_region_growh 28 (by kernel_rfl) 100 rfl (by kernel_rfl) (fun wa wb => Below wa.heap.size wa wb) (fun wa => GrM w (gA (cols : Int) (rows : Int) (.slice (some ⟨b, o, none⟩) n cp)) wa) (fun kc wa v => match kc with
        | 0 => v = .pointer (some ⟨w.heap.size, 2, none⟩)
        | 1 => v = .slice (some ⟨b, o, none⟩) n cp
        | 2 => v = .int .i64 (k : Int)
        | 3 => v = .pointer (some ⟨b, o + k * 15, none⟩)
        | 4 => v = .pointer (some ⟨b, o + k * 15 + 4, none⟩)
        | 5 => v = .int .u8 z
        | 6 => v = .bool false
        | 7 => v = .bool false
        | 8 => v = .bool false
        | 9 => v = .bool false
        | 10 => v = .bool false
        | 11 => v = .bool false
        | 12 => v = undef
        | 13 => v = undef
        | 14 => v = undef
        | 15 => v = undef
        | 16 => v = undef
        | 17 => v = undef
        | 18 => v = undef
        | 19 => v = undef
        | 20 => v = undef
        | 21 => v = undef
        | 22 => v = undef
        | 23 => v = undef
        | 24 => v = undef
        | 25 => v = undef
        | 26 => v = .bool false
        | 27 => v = .bool false
        | _ => True) (fun i => !([12, 13, 14, 15, 16, 17, 18, 19, 20, 21, 22, 23, 24, 25] : List Nat).contains i) ?_ ?_ ?_ ?_ ?_ ?_ ?_ ?_
       ·intro i o' j b' hi hg wa v hC hV
        have hlt : i < 28 := by rcases Nat.lt_or_ge i 28 with q | q; exact q; rw [List.getElem?_eq_none (by simpa using q)] at hi; cases hi
        revert hi hg hV
        rcases (show i = 0 ∨ i = 1 ∨ i = 2 ∨ i = 3 ∨ i = 4 ∨ i = 5 ∨ i = 6 ∨ i = 7 ∨ i = 8 ∨ i = 9 ∨ i = 10 ∨ i = 11 ∨ i = 12 ∨ i = 13 ∨ i = 14 ∨ i = 15 ∨ i = 16 ∨ i = 17 ∨ i = 18 ∨ i = 19 ∨ i = 20 ∨ i = 21 ∨ i = 22 ∨ i = 23 ∨ i = 24 ∨ i = 25 ∨ i = 26 ∨ i = 27 by omega) with rfl | rfl | rfl | rfl | rfl | rfl | rfl | rfl | rfl | rfl | rfl | rfl | rfl | rfl | rfl | rfl | rfl | rfl | rfl | rfl | rfl | rfl | rfl | rfl | rfl | rfl | rfl | rfl <;>
         (intro hi hg hV; simp only [tkS, List.getElem?_cons_zero, List.getElem?_cons_succ, Option.some.injEq] at hi; subst hi; first | (cases hg; first | exact hV | exact (show v ≠ _ from (by rw [hV]; intro hh; cases hh))) | (cases hg))
       ·intro i o' hi hg
        have hlt : i < 28 := by rcases Nat.lt_or_ge i 28 with q | q; exact q; rw [List.getElem?_eq_none (by simpa using q)] at hi; cases hi
        revert hi hg
        rcases (show i = 0 ∨ i = 1 ∨ i = 2 ∨ i = 3 ∨ i = 4 ∨ i = 5 ∨ i = 6 ∨ i = 7 ∨ i = 8 ∨ i = 9 ∨ i = 10 ∨ i = 11 ∨ i = 12 ∨ i = 13 ∨ i = 14 ∨ i = 15 ∨ i = 16 ∨ i = 17 ∨ i = 18 ∨ i = 19 ∨ i = 20 ∨ i = 21 ∨ i = 22 ∨ i = 23 ∨ i = 24 ∨ i = 25 ∨ i = 26 ∨ i = 27 by omega) with rfl | rfl | rfl | rfl | rfl | rfl | rfl | rfl | rfl | rfl | rfl | rfl | rfl | rfl | rfl | rfl | rfl | rfl | rfl | rfl | rfl | rfl | rfl | rfl | rfl | rfl | rfl | rfl <;>
         (intro hi hg; simp only [tkS, List.getElem?_cons_zero, List.getElem?_cons_succ, Option.some.injEq] at hi; subst hi; first | (cases hg; done) | (intro hh; cases hh))
       ·intro i hi wa
        have hi' : (!([12, 13, 14, 15, 16, 17, 18, 19, 20, 21, 22, 23, 24, 25] : List Nat).contains i) = false := hi
        have hm : i ∈ ([12, 13, 14, 15, 16, 17, 18, 19, 20, 21, 22, 23, 24, 25] : List Nat) := List.contains_iff_mem.1 (by cases hc : ([12, 13, 14, 15, 16, 17, 18, 19, 20, 21, 22, 23, 24, 25] : List Nat).contains i with | true => rfl | false => rw [hc] at hi'; cases hi')
        simp only [List.mem_cons, List.not_mem_nil, or_false] at hm
        rcases hm with rfl | rfl | rfl | rfl | rfl | rfl | rfl | rfl | rfl | rfl | rfl | rfl | rfl | rfl <;> rfl
       ·intro wa wb hb q; exact q.below hb
       ·intro kc v wa wb hC1 hb h
        match kc, h with
        | 0, h => exact h
        | 1, h => exact h
        | 2, h => exact h
        | 3, h => exact h
        | 4, h => exact h
        | 5, h => exact h
        | 6, h => exact h
        | 7, h => exact h
        | 8, h => exact h
        | 9, h => exact h
        | 10, h => exact h
        | 11, h => exact h
        | 12, h => exact h
        | 13, h => exact h
        | 14, h => exact h
        | 15, h => exact h
        | 16, h => exact h
        | 17, h => exact h
        | 18, h => exact h
        | 19, h => exact h
        | 20, h => exact h
        | 21, h => exact h
        | 22, h => exact h
        | 23, h => exact h
        | 24, h => exact h
        | 25, h => exact h
        | 26, h => exact h
        | 27, h => exact h
        | kc + 28, h => trivial
       ·exact F5.out.drew
       ·refine ⟨?_, ?_, ?_, ?_, ?_, ?_, ?_, ?_, ?_, ?_, ?_, ?_, ?_, ?_, ?_, ?_, ?_, ?_, ?_, ?_, ?_, ?_, ?_, ?_, ?_, ?_, ?_, ?_, trivial⟩
        ·intro _ f wq hC hd KK hK
         clear hd
         simp only [tkS, tkZ, setAll, siB, stS, stZ, Nat.zero_add, Nat.reduceAdd] at hK ⊢
         refine wp_of_quiet rfl ?_
         go_big_quiet_step (fail)
         exact wpQuiet_nil (hK _ _ (rfl) bR)
        ·intro _ f wq hC hd KK hK
         have g0 : f 0 = .pointer (some ⟨w.heap.size, 2, none⟩) := hd 0 (by kernel_rfl)
         clear hd
         have c2 : wq.cell? ⟨w.heap.size, 2, none⟩ = some (.slice (some ⟨b, o, none⟩) n cp) := hC.rg.cell 2
         clear hC
         simp only [tkS, tkZ, setAll, siB, stS, stZ, Nat.zero_add, Nat.reduceAdd, g0] at hK ⊢
         refine wp_of_quiet rfl ?_
         go_big_quiet_step (fail)
         exact wpQuiet_nil (hK _ _ (rfl) bR)
        ·intro _ f wq hC hd KK hK
         clear hd
         simp only [tkS, tkZ, setAll, siB, stS, stZ, Nat.zero_add, Nat.reduceAdd] at hK ⊢
         refine wp_of_quiet rfl ?_
         go_big_quiet_step (fail)
         exact wpQuiet_nil (hK _ _ (rfl) bR)
        ·intro _ f wq hC hd KK hK
         have g1 : f 1 = .slice (some ⟨b, o, none⟩) n cp := hd 1 (by kernel_rfl)
         have g2 : f 2 = .int .i64 (k : Int) := hd 2 (by kernel_rfl)
         clear hd
         simp only [tkS, tkZ, setAll, siB, stS, stZ, Nat.zero_add, Nat.reduceAdd, g1, g2] at hK ⊢
         refine wp_of_quiet rfl ?_
         go_big_quiet_step (fail)
         exact wpQuiet_nil (hK _ _ (rfl) bR)
        ·intro _ f wq hC hd KK hK
         have g3 : f 3 = .pointer (some ⟨b, o + k * 15, none⟩) := hd 3 (by kernel_rfl)
         clear hd
         simp only [tkS, tkZ, setAll, siB, stS, stZ, Nat.zero_add, Nat.reduceAdd, g3] at hK ⊢
         refine wp_of_quiet rfl ?_
         go_big_quiet_step (fail)
         exact wpQuiet_nil (hK _ _ (rfl) bR)
        ·intro _ f wq hC hd KK hK
         have g4 : f 4 = .pointer (some ⟨b, o + k * 15 + 4, none⟩) := hd 4 (by kernel_rfl)
         clear hd
         have c4 : wq.cell? ⟨b, o + k * 15 + 4, none⟩ = some (.int .u8 z) := by rw [HW.out k wq hlt hC.be, hz]
         clear hC
         simp only [tkS, tkZ, setAll, siB, stS, stZ, Nat.zero_add, Nat.reduceAdd, g4] at hK ⊢
         refine wp_of_quiet rfl ?_
         go_big_quiet_step (fail)
         exact wpQuiet_nil (hK _ _ (rfl) bR)
        ·intro _ f wq hC hd KK hK
         have g5 : f 5 = .int .u8 z := hd 5 (by kernel_rfl)
         clear hd
         simp only [tkS, tkZ, setAll, siB, stS, stZ, Nat.zero_add, Nat.reduceAdd, g5] at hK ⊢
         refine wp_of_quiet rfl ?_
         go_big_quiet_step (fail)
         exact wpQuiet_nil (hK _ _ (by first | rfl | (simp; assumption) | (simp; omega) | simp) bR)
        ·intro _ f wq hC hd KK hK
         clear hd
         simp only [tkS, tkZ, setAll, siB, stS, stZ, Nat.zero_add, Nat.reduceAdd] at hK ⊢
         refine wp_of_quiet rfl ?_
         go_big_quiet_step (fail)
         exact wpQuiet_nil (hK _ _ (rfl) bR)
        ·intro _ f wq hC hd KK hK
         have g6 : f 6 = .bool false := hd 6 (by kernel_rfl)
         have g7 : f 7 = .bool false := hd 7 (by kernel_rfl)
         clear hd
         simp only [tkS, tkZ, setAll, siB, stS, stZ, Nat.zero_add, Nat.reduceAdd, g6, g7] at hK ⊢
         refine wp_of_quiet rfl ?_
         go_big_quiet_step (fail)
         exact wpQuiet_nil (hK _ _ (by first | rfl | (simp; assumption) | (simp; omega) | simp) bR)
        ·intro _ f wq hC hd KK hK
         have g8 : f 8 = .bool false := hd 8 (by kernel_rfl)
         clear hd
         simp only [tkS, tkZ, setAll, siB, stS, stZ, Nat.zero_add, Nat.reduceAdd, g8] at hK ⊢
         refine wp_of_quiet rfl ?_
         go_big_quiet_step (fail)
         exact wpQuiet_nil (hK _ _ (rfl) bR)
        ·intro _ f wq hC hd KK hK
         clear hd
         simp only [tkS, tkZ, setAll, siB, stS, stZ, Nat.zero_add, Nat.reduceAdd] at hK ⊢
         refine wp_unguard ?_
         refine wp_of_quiet rfl ?_
         go_big_quiet_step (fail)
         exact wpQuiet_nil (hK _ _ (rfl) bR)
        ·intro _ f wq hC hd KK hK
         have g10 : f 10 = .bool false := hd 10 (by kernel_rfl)
         clear hd
         simp only [tkS, tkZ, setAll, siB, stS, stZ, Nat.zero_add, Nat.reduceAdd, g10] at hK ⊢
         refine wp_unguard ?_
         refine wp_of_quiet rfl ?_
         go_big_quiet_step (fail)
         exact wpQuiet_nil (hK _ _ (rfl) bR)
        ·intro hh; cases hh
        ·intro hh; cases hh
        ·intro hh; cases hh
        ·intro hh; cases hh
        ·intro hh; cases hh
        ·intro hh; cases hh
        ·intro hh; cases hh
        ·intro hh; cases hh
        ·intro hh; cases hh
        ·intro hh; cases hh
        ·intro hh; cases hh
        ·intro hh; cases hh
        ·intro hh; cases hh
        ·intro hh; cases hh
        ·intro _ f wq hC hd KK hK
         have g11 : f 11 = .bool false := hd 11 (by kernel_rfl)
         clear hd
         simp only [tkS, tkZ, setAll, siB, stS, stZ, Nat.zero_add, Nat.reduceAdd, g11] at hK ⊢
         refine wp_unguard ?_
         refine wp_of_quiet rfl ?_
         go_big_quiet_step (fail)
         exact wpQuiet_nil (hK _ _ (rfl) bR)
        ·intro _ f wq hC hd KK hK
         have g9 : f 9 = .bool false := hd 9 (by kernel_rfl)
         have g26 : f 26 = .bool false := hd 26 (by kernel_rfl)
         clear hd
         simp only [tkS, tkZ, setAll, siB, stS, stZ, Nat.zero_add, Nat.reduceAdd, g9, g26] at hK ⊢
         refine wp_of_quiet rfl ?_
         go_big_quiet_step (fail)
         exact wpQuiet_nil (hK _ _ (rfl) bR)
       ·intro f wz hC hv
        have p0 : f 0 = .pointer (some ⟨w.heap.size, 2, none⟩) := hv 0 (by decide)
        have p1 : f 1 = .slice (some ⟨b, o, none⟩) n cp := hv 1 (by decide)
        have p2 : f 2 = .int .i64 (k : Int) := hv 2 (by decide)
        have p3 : f 3 = .pointer (some ⟨b, o + k * 15, none⟩) := hv 3 (by decide)
        have p4 : f 4 = .pointer (some ⟨b, o + k * 15 + 4, none⟩) := hv 4 (by decide)
        have p5 : f 5 = .int .u8 z := hv 5 (by decide)
        have p6 : f 6 = .bool false := hv 6 (by decide)
        have p7 : f 7 = .bool false := hv 7 (by decide)
        have p8 : f 8 = .bool false := hv 8 (by decide)
        have p9 : f 9 = .bool false := hv 9 (by decide)
        have p10 : f 10 = .bool false := hv 10 (by decide)
        have p11 : f 11 = .bool false := hv 11 (by decide)
        have p26 : f 26 = .bool false := hv 26 (by decide)
        have p27 : f 27 = .bool false := hv 27 (by decide)
        simp only [tkS, tkZ, List.drop_succ_cons, List.drop_zero, setAll, siB, stS, stZ, Nat.zero_add, Nat.reduceAdd, p0, p1, p2, p3, p4, p5, p6, p7, p8, p9, p10, p11, p26, p27]
        clear hv p0 p1 p2 p3 p4 p5 p6 p7 p8 p9 p10 p11 p26 p27
        have F7 := Box'.mk hC
        clear hC F5
        go_wp2_with fail
        by_cases h2 : z = 2
        case neg =>
         have E : ∀ j, j < k + 1 → okAt cols c j = true := KN.out (by rw [okE.out, hH, decide_eq_false (show ¬ (cat c k).wd = 0 by omega), decide_eq_false (show ¬ (cat c k).wd = 2 by omega)]; rfl)
         refine wp_region_growh 17 (by kernel_rfl) 100 rfl (by kernel_rfl) (fun wa wb => Below wa.heap.size wa wb) (fun wa => GrM w (gA (cols : Int) (rows : Int) (.slice (some ⟨b, o, none⟩) n cp)) wa) (fun kc wa v => match kc with
          | 0 => v = .pointer (some ⟨w.heap.size, 2, none⟩)
          | 1 => v = .slice (some ⟨b, o, none⟩) n cp
          | 2 => v = .int .i64 (k : Int)
          | 3 => v = .pointer (some ⟨b, o + k * 15, none⟩)
          | 4 => v = .pointer (some ⟨b, o + k * 15 + 4, none⟩)
          | 5 => v = .int .u8 z
          | 6 => v = .bool false
          | 7 => v = .bool false
          | 8 => v = undef
          | 9 => v = undef
          | 10 => v = undef
          | 11 => v = undef
          | 12 => v = undef
          | 13 => v = undef
          | 14 => v = undef
          | 15 => v = undef
          | 16 => v = .bool false
          | _ => True) (fun i => !([8, 9, 10, 11, 12, 13, 14, 15] : List Nat).contains i) ?_ ?_ ?_ ?_ ?_ ?_ ?_ ?_
         ·intro i o' j b' hi hg wa v hC hV
          have hlt : i < 17 := by rcases Nat.lt_or_ge i 17 with q | q; exact q; rw [List.getElem?_eq_none (by simpa using q)] at hi; cases hi
          revert hi hg hV
          rcases (show i = 0 ∨ i = 1 ∨ i = 2 ∨ i = 3 ∨ i = 4 ∨ i = 5 ∨ i = 6 ∨ i = 7 ∨ i = 8 ∨ i = 9 ∨ i = 10 ∨ i = 11 ∨ i = 12 ∨ i = 13 ∨ i = 14 ∨ i = 15 ∨ i = 16 by omega) with rfl | rfl | rfl | rfl | rfl | rfl | rfl | rfl | rfl | rfl | rfl | rfl | rfl | rfl | rfl | rfl | rfl <;>
           (intro hi hg hV; simp only [tkS, List.getElem?_cons_zero, List.getElem?_cons_succ, Option.some.injEq] at hi; subst hi; first | (cases hg; first | exact hV | exact (show v ≠ _ from (by rw [hV]; intro hh; cases hh))) | (cases hg))
         ·intro i o' hi hg
          have hlt : i < 17 := by rcases Nat.lt_or_ge i 17 with q | q; exact q; rw [List.getElem?_eq_none (by simpa using q)] at hi; cases hi
          revert hi hg
          rcases (show i = 0 ∨ i = 1 ∨ i = 2 ∨ i = 3 ∨ i = 4 ∨ i = 5 ∨ i = 6 ∨ i = 7 ∨ i = 8 ∨ i = 9 ∨ i = 10 ∨ i = 11 ∨ i = 12 ∨ i = 13 ∨ i = 14 ∨ i = 15 ∨ i = 16 by omega) with rfl | rfl | rfl | rfl | rfl | rfl | rfl | rfl | rfl | rfl | rfl | rfl | rfl | rfl | rfl | rfl | rfl <;>
           (intro hi hg; simp only [tkS, List.getElem?_cons_zero, List.getElem?_cons_succ, Option.some.injEq] at hi; subst hi; first | (cases hg; done) | (intro hh; cases hh))
         ·intro i hi wa
          have hi' : (!([8, 9, 10, 11, 12, 13, 14, 15] : List Nat).contains i) = false := hi
          have hm : i ∈ ([8, 9, 10, 11, 12, 13, 14, 15] : List Nat) := List.contains_iff_mem.1 (by cases hc : ([8, 9, 10, 11, 12, 13, 14, 15] : List Nat).contains i with | true => rfl | false => rw [hc] at hi'; cases hi')
          simp only [List.mem_cons, List.not_mem_nil, or_false] at hm
          rcases hm with rfl | rfl | rfl | rfl | rfl | rfl | rfl | rfl <;> rfl
         ·intro wa wb hb q; exact q.below hb
         ·intro kc v wa wb hC1 hb h
          match kc, h with
          | 0, h => exact h
          | 1, h => exact h
          | 2, h => exact h
          | 3, h => exact h
          | 4, h => exact h
          | 5, h => exact h
          | 6, h => exact h
          | 7, h => exact h
          | 8, h => exact h
          | 9, h => exact h
          | 10, h => exact h
          | 11, h => exact h
          | 12, h => exact h
          | 13, h => exact h
          | 14, h => exact h
          | 15, h => exact h
          | 16, h => exact h
          | kc + 17, h => trivial
         ·exact F7.out.drew
         ·refine ⟨?_, ?_, ?_, ?_, ?_, ?_, ?_, ?_, ?_, ?_, ?_, ?_, ?_, ?_, ?_, ?_, ?_, trivial⟩
          ·intro _ f wq hC hd KK hK
           clear hd
           simp only [tkS, tkZ, setAll, siB, stS, stZ, Nat.zero_add, Nat.reduceAdd] at hK ⊢
           refine wp_of_quiet rfl ?_
           go_big_quiet_step (fail)
           exact wpQuiet_nil (hK _ _ (rfl) bR)
          ·intro _ f wq hC hd KK hK
           have g0 : f 0 = .pointer (some ⟨w.heap.size, 2, none⟩) := hd 0 (by kernel_rfl)
           clear hd
           have c2 : wq.cell? ⟨w.heap.size, 2, none⟩ = some (.slice (some ⟨b, o, none⟩) n cp) := hC.rg.cell 2
           clear hC
           simp only [tkS, tkZ, setAll, siB, stS, stZ, Nat.zero_add, Nat.reduceAdd, g0] at hK ⊢
           refine wp_of_quiet rfl ?_
           go_big_quiet_step (fail)
           exact wpQuiet_nil (hK _ _ (rfl) bR)
          ·intro _ f wq hC hd KK hK
           clear hd
           simp only [tkS, tkZ, setAll, siB, stS, stZ, Nat.zero_add, Nat.reduceAdd] at hK ⊢
           refine wp_of_quiet rfl ?_
           go_big_quiet_step (fail)
           exact wpQuiet_nil (hK _ _ (rfl) bR)
          ·intro _ f wq hC hd KK hK
           have g1 : f 1 = .slice (some ⟨b, o, none⟩) n cp := hd 1 (by kernel_rfl)
           have g2 : f 2 = .int .i64 (k : Int) := hd 2 (by kernel_rfl)
           clear hd
           simp only [tkS, tkZ, setAll, siB, stS, stZ, Nat.zero_add, Nat.reduceAdd, g1, g2] at hK ⊢
           refine wp_of_quiet rfl ?_
           go_big_quiet_step (fail)
           exact wpQuiet_nil (hK _ _ (rfl) bR)
          ·intro _ f wq hC hd KK hK
           have g3 : f 3 = .pointer (some ⟨b, o + k * 15, none⟩) := hd 3 (by kernel_rfl)
           clear hd
           simp only [tkS, tkZ, setAll, siB, stS, stZ, Nat.zero_add, Nat.reduceAdd, g3] at hK ⊢
           refine wp_of_quiet rfl ?_
           go_big_quiet_step (fail)
           exact wpQuiet_nil (hK _ _ (rfl) bR)
          ·intro _ f wq hC hd KK hK
           have g4 : f 4 = .pointer (some ⟨b, o + k * 15 + 4, none⟩) := hd 4 (by kernel_rfl)
           clear hd
           have c4 : wq.cell? ⟨b, o + k * 15 + 4, none⟩ = some (.int .u8 z) := by rw [HW.out k wq hlt hC.be, hz]
           clear hC
           simp only [tkS, tkZ, setAll, siB, stS, stZ, Nat.zero_add, Nat.reduceAdd, g4] at hK ⊢
           refine wp_of_quiet rfl ?_
           go_big_quiet_step (fail)
           exact wpQuiet_nil (hK _ _ (rfl) bR)
          ·intro _ f wq hC hd KK hK
           have g5 : f 5 = .int .u8 z := hd 5 (by kernel_rfl)
           clear hd
           simp only [tkS, tkZ, setAll, siB, stS, stZ, Nat.zero_add, Nat.reduceAdd, g5] at hK ⊢
           refine wp_of_quiet rfl ?_
           go_big_quiet_step (fail)
           exact wpQuiet_nil (hK _ _ (by first | rfl | (simp; assumption) | (simp; omega) | simp) bR)
          ·intro _ f wq hC hd KK hK
           have g6 : f 6 = .bool false := hd 6 (by kernel_rfl)
           clear hd
           simp only [tkS, tkZ, setAll, siB, stS, stZ, Nat.zero_add, Nat.reduceAdd, g6] at hK ⊢
           refine wp_of_quiet rfl ?_
           go_big_quiet_step (fail)
           exact wpQuiet_nil (hK _ _ (rfl) bR)
          ·intro hh; cases hh
          ·intro hh; cases hh
          ·intro hh; cases hh
          ·intro hh; cases hh
          ·intro hh; cases hh
          ·intro hh; cases hh
          ·intro hh; cases hh
          ·intro hh; cases hh
          ·intro _ f wq hC hd KK hK
           have g7 : f 7 = .bool false := hd 7 (by kernel_rfl)
           clear hd
           simp only [tkS, tkZ, setAll, siB, stS, stZ, Nat.zero_add, Nat.reduceAdd, g7] at hK ⊢
           refine wp_of_quiet rfl ?_
           go_big_quiet_step (fail)
           exact wpQuiet_nil (hK _ _ (rfl) bR)
         ·intro f wz hC hv
          have p0 : f 0 = .pointer (some ⟨w.heap.size, 2, none⟩) := hv 0 (by decide)
          have p1 : f 1 = .slice (some ⟨b, o, none⟩) n cp := hv 1 (by decide)
          have p2 : f 2 = .int .i64 (k : Int) := hv 2 (by decide)
          have p3 : f 3 = .pointer (some ⟨b, o + k * 15, none⟩) := hv 3 (by decide)
          have p4 : f 4 = .pointer (some ⟨b, o + k * 15 + 4, none⟩) := hv 4 (by decide)
          have p5 : f 5 = .int .u8 z := hv 5 (by decide)
          have p6 : f 6 = .bool false := hv 6 (by decide)
          have p7 : f 7 = .bool false := hv 7 (by decide)
          have p16 : f 16 = .bool false := hv 16 (by decide)
          simp only [tkS, tkZ, List.drop_succ_cons, List.drop_zero, setAll, siB, stS, stZ, Nat.zero_add, Nat.reduceAdd, p0, p1, p2, p3, p4, p5, p6, p7, p16]
          clear hv p0 p1 p2 p3 p4 p5 p6 p7 p16
          have F9 := Box'.mk hC
          clear hC
          go_wp2_with fail
          exact ⟨⟨k + 1, by omega, by go_num, ⟨E⟩, F9⟩, by simp [intOf]; omega⟩
        case pos =>
         subst h2
         by_cases hl : k % cols = cols - 1
         case pos =>
          have E := Box'.mk (KF.out (by rw [okE.out, decide_eq_true (show (cat c k).wd = 2 by omega), decide_eq_true hl]; simp))
          have hlast : (k : Int) % (cols : Int) = (cols : Int) - 1 := by rw [← Int.natCast_emod]; omega
          refine wp_region_growg 17 (by kernel_rfl) 100 rfl (by kernel_rfl) (fun wa wb => Below wa.heap.size wa wb) (fun wa => GrM w (gA (cols : Int) (rows : Int) (.slice (some ⟨b, o, none⟩) n cp)) wa) (fun kc wa v => match kc with
           | 0 => v = .pointer (some ⟨w.heap.size, 2, none⟩)
           | 1 => v = .slice (some ⟨b, o, none⟩) n cp
           | 2 => v = .int .i64 (k : Int)
           | 3 => v = .pointer (some ⟨b, o + k * 15, none⟩)
           | 4 => v = .pointer (some ⟨b, o + k * 15 + 4, none⟩)
           | 5 => v = .int .u8 2
           | 6 => v = .bool true
           | 7 => v = .bool true
           | 8 => v = .int .i64 (k : Int)
           | 9 => v = .pointer (some ⟨w.heap.size, 0, none⟩)
           | 10 => v = .int .i64 (cols : Int)
           | 11 => v = .int .i64 ((k : Int) % (cols : Int))
           | 12 => v = .pointer (some ⟨w.heap.size, 0, none⟩)
           | 13 => v = .int .i64 (cols : Int)
           | 14 => v = .int .i64 ((cols : Int) - 1)
           | 15 => v = .bool true
           | 16 => v = .bool true
           | _ => True) ?_ ?_ ?_ ?_ ?_ ?_
          ·intro i o' j b' hi hg wa v hC hV
           have hlt : i < 17 := by rcases Nat.lt_or_ge i 17 with q | q; exact q; rw [List.getElem?_eq_none (by simpa using q)] at hi; cases hi
           revert hi hg hV
           rcases (show i = 0 ∨ i = 1 ∨ i = 2 ∨ i = 3 ∨ i = 4 ∨ i = 5 ∨ i = 6 ∨ i = 7 ∨ i = 8 ∨ i = 9 ∨ i = 10 ∨ i = 11 ∨ i = 12 ∨ i = 13 ∨ i = 14 ∨ i = 15 ∨ i = 16 by omega) with rfl | rfl | rfl | rfl | rfl | rfl | rfl | rfl | rfl | rfl | rfl | rfl | rfl | rfl | rfl | rfl | rfl <;>
            (intro hi hg hV; simp only [tkS, List.getElem?_cons_zero, List.getElem?_cons_succ, Option.some.injEq] at hi; subst hi; first | (cases hg; exact hV) | (cases hg))
          ·intro wa wb hb q; exact q.below hb
          ·intro kc v wa wb hC1 hb h
           match kc, h with
           | 0, h => exact h
           | 1, h => exact h
           | 2, h => exact h
           | 3, h => exact h
           | 4, h => exact h
           | 5, h => exact h
           | 6, h => exact h
           | 7, h => exact h
           | 8, h => exact h
           | 9, h => exact h
           | 10, h => exact h
           | 11, h => exact h
           | 12, h => exact h
           | 13, h => exact h
           | 14, h => exact h
           | 15, h => exact h
           | 16, h => exact h
           | kc + 17, h => trivial
          ·exact F7.out.drew
          ·refine ⟨?_, ?_, ?_, ?_, ?_, ?_, ?_, ?_, ?_, ?_, ?_, ?_, ?_, ?_, ?_, ?_, ?_, trivial⟩
           ·intro f wq hC hd KK hK
            clear hd
            simp only [tkS, tkZ, setAll, siB, stS, stZ, Nat.zero_add, Nat.reduceAdd] at hK ⊢
            refine wp_of_quiet rfl ?_
            go_big_quiet_step (fail)
            exact wpQuiet_nil (hK _ _ (rfl) bR)
           ·intro f wq hC hd KK hK
            have g0 : f 0 = .pointer (some ⟨w.heap.size, 2, none⟩) := hd 0 (by kernel_rfl)
            clear hd
            have c2 : wq.cell? ⟨w.heap.size, 2, none⟩ = some (.slice (some ⟨b, o, none⟩) n cp) := hC.rg.cell 2
            clear hC
            simp only [tkS, tkZ, setAll, siB, stS, stZ, Nat.zero_add, Nat.reduceAdd, g0] at hK ⊢
            refine wp_of_quiet rfl ?_
            go_big_quiet_step (fail)
            exact wpQuiet_nil (hK _ _ (rfl) bR)
           ·intro f wq hC hd KK hK
            clear hd
            simp only [tkS, tkZ, setAll, siB, stS, stZ, Nat.zero_add, Nat.reduceAdd] at hK ⊢
            refine wp_of_quiet rfl ?_
            go_big_quiet_step (fail)
            exact wpQuiet_nil (hK _ _ (rfl) bR)
           ·intro f wq hC hd KK hK
            have g1 : f 1 = .slice (some ⟨b, o, none⟩) n cp := hd 1 (by kernel_rfl)
            have g2 : f 2 = .int .i64 (k : Int) := hd 2 (by kernel_rfl)
            clear hd
            simp only [tkS, tkZ, setAll, siB, stS, stZ, Nat.zero_add, Nat.reduceAdd, g1, g2] at hK ⊢
            refine wp_of_quiet rfl ?_
            go_big_quiet_step (fail)
            exact wpQuiet_nil (hK _ _ (rfl) bR)
           ·intro f wq hC hd KK hK
            have g3 : f 3 = .pointer (some ⟨b, o + k * 15, none⟩) := hd 3 (by kernel_rfl)
            clear hd
            simp only [tkS, tkZ, setAll, siB, stS, stZ, Nat.zero_add, Nat.reduceAdd, g3] at hK ⊢
            refine wp_of_quiet rfl ?_
            go_big_quiet_step (fail)
            exact wpQuiet_nil (hK _ _ (rfl) bR)
           ·intro f wq hC hd KK hK
            have g4 : f 4 = .pointer (some ⟨b, o + k * 15 + 4, none⟩) := hd 4 (by kernel_rfl)
            clear hd
            have c4 : wq.cell? ⟨b, o + k * 15 + 4, none⟩ = some (.int .u8 2) := by rw [HW.out k wq hlt hC.be, hz]
            clear hC
            simp only [tkS, tkZ, setAll, siB, stS, stZ, Nat.zero_add, Nat.reduceAdd, g4] at hK ⊢
            refine wp_of_quiet rfl ?_
            go_big_quiet_step (fail)
            exact wpQuiet_nil (hK _ _ (rfl) bR)
           ·intro f wq hC hd KK hK
            have g5 : f 5 = .int .u8 2 := hd 5 (by kernel_rfl)
            clear hd
            simp only [tkS, tkZ, setAll, siB, stS, stZ, Nat.zero_add, Nat.reduceAdd, g5] at hK ⊢
            refine wp_of_quiet rfl ?_
            go_big_quiet_step (fail)
            exact wpQuiet_nil (hK _ _ (by first | rfl | (simp; assumption) | (simp; omega) | simp) bR)
           ·intro f wq hC hd KK hK
            have g6 : f 6 = .bool true := hd 6 (by kernel_rfl)
            clear hd
            simp only [tkS, tkZ, setAll, siB, stS, stZ, Nat.zero_add, Nat.reduceAdd, g6] at hK ⊢
            refine wp_of_quiet rfl ?_
            go_big_quiet_step (fail)
            exact wpQuiet_nil (hK _ _ (rfl) bR)
           ·intro f wq hC hd KK hK
            clear hd
            simp only [tkS, tkZ, setAll, siB, stS, stZ, Nat.zero_add, Nat.reduceAdd] at hK ⊢
            refine wp_unguard ?_
            refine wp_of_quiet rfl ?_
            go_big_quiet_step (fail)
            exact wpQuiet_nil (hK _ _ (rfl) bR)
           ·intro f wq hC hd KK hK
            clear hd
            simp only [tkS, tkZ, setAll, siB, stS, stZ, Nat.zero_add, Nat.reduceAdd] at hK ⊢
            refine wp_unguard ?_
            refine wp_of_quiet rfl ?_
            go_big_quiet_step (fail)
            exact wpQuiet_nil (hK _ _ (rfl) bR)
           ·intro f wq hC hd KK hK
            have g9 : f 9 = .pointer (some ⟨w.heap.size, 0, none⟩) := hd 9 (by kernel_rfl)
            clear hd
            have c0 : wq.cell? ⟨w.heap.size, 0, none⟩ = some (.int .i64 (cols : Int)) := hC.rg.cell 0
            clear hC
            simp only [tkS, tkZ, setAll, siB, stS, stZ, Nat.zero_add, Nat.reduceAdd, g9] at hK ⊢
            refine wp_unguard ?_
            refine wp_of_quiet rfl ?_
            go_big_quiet_step (fail)
            exact wpQuiet_nil (hK _ _ (rfl) bR)
           ·intro f wq hC hd KK hK
            have g8 : f 8 = .int .i64 (k : Int) := hd 8 (by kernel_rfl)
            have g10 : f 10 = .int .i64 (cols : Int) := hd 10 (by kernel_rfl)
            clear hd
            simp only [tkS, tkZ, setAll, siB, stS, stZ, Nat.zero_add, Nat.reduceAdd, g8, g10] at hK ⊢
            refine wp_unguard ?_
            refine wp_of_quiet rfl ?_
            go_big_quiet_step (fail)
            exact wpQuiet_nil (hK _ _ (rfl) bR)
           ·intro f wq hC hd KK hK
            clear hd
            simp only [tkS, tkZ, setAll, siB, stS, stZ, Nat.zero_add, Nat.reduceAdd] at hK ⊢
            refine wp_unguard ?_
            refine wp_of_quiet rfl ?_
            go_big_quiet_step (fail)
            exact wpQuiet_nil (hK _ _ (rfl) bR)
           ·intro f wq hC hd KK hK
            have g12 : f 12 = .pointer (some ⟨w.heap.size, 0, none⟩) := hd 12 (by kernel_rfl)
            clear hd
            have c0 : wq.cell? ⟨w.heap.size, 0, none⟩ = some (.int .i64 (cols : Int)) := hC.rg.cell 0
            clear hC
            simp only [tkS, tkZ, setAll, siB, stS, stZ, Nat.zero_add, Nat.reduceAdd, g12] at hK ⊢
            refine wp_unguard ?_
            refine wp_of_quiet rfl ?_
            go_big_quiet_step (fail)
            exact wpQuiet_nil (hK _ _ (rfl) bR)
           ·intro f wq hC hd KK hK
            have g13 : f 13 = .int .i64 (cols : Int) := hd 13 (by kernel_rfl)
            clear hd
            simp only [tkS, tkZ, setAll, siB, stS, stZ, Nat.zero_add, Nat.reduceAdd, g13] at hK ⊢
            refine wp_unguard ?_
            refine wp_of_quiet rfl ?_
            go_big_quiet_step (fail)
            exact wpQuiet_nil (hK _ _ (rfl) bR)
           ·intro f wq hC hd KK hK
            have g11 : f 11 = .int .i64 ((k : Int) % (cols : Int)) := hd 11 (by kernel_rfl)
            have g14 : f 14 = .int .i64 ((cols : Int) - 1) := hd 14 (by kernel_rfl)
            clear hd
            simp only [tkS, tkZ, setAll, siB, stS, stZ, Nat.zero_add, Nat.reduceAdd, g11, g14] at hK ⊢
            refine wp_unguard ?_
            refine wp_of_quiet rfl ?_
            go_big_quiet_step (fail)
            exact wpQuiet_nil (hK _ _ (by first | rfl | (simp; assumption) | (simp [hlast]; done) | (simp; omega)) bR)
           ·intro f wq hC hd KK hK
            have g7 : f 7 = .bool true := hd 7 (by kernel_rfl)
            have g15 : f 15 = .bool true := hd 15 (by kernel_rfl)
            clear hd
            simp only [tkS, tkZ, setAll, siB, stS, stZ, Nat.zero_add, Nat.reduceAdd, g7, g15] at hK ⊢
            refine wp_of_quiet rfl ?_
            go_big_quiet_step (fail)
            exact wpQuiet_nil (hK _ _ (rfl) bR)
          ·intro f wz hC hv
           have p0 : f 0 = .pointer (some ⟨w.heap.size, 2, none⟩) := hv 0 (by decide)
           have p1 : f 1 = .slice (some ⟨b, o, none⟩) n cp := hv 1 (by decide)
           have p2 : f 2 = .int .i64 (k : Int) := hv 2 (by decide)
           have p3 : f 3 = .pointer (some ⟨b, o + k * 15, none⟩) := hv 3 (by decide)
           have p4 : f 4 = .pointer (some ⟨b, o + k * 15 + 4, none⟩) := hv 4 (by decide)
           have p5 : f 5 = .int .u8 2 := hv 5 (by decide)
           have p6 : f 6 = .bool true := hv 6 (by decide)
           have p7 : f 7 = .bool true := hv 7 (by decide)
           have p8 : f 8 = .int .i64 (k : Int) := hv 8 (by decide)
           have p9 : f 9 = .pointer (some ⟨w.heap.size, 0, none⟩) := hv 9 (by decide)
           have p10 : f 10 = .int .i64 (cols : Int) := hv 10 (by decide)
           have p11 : f 11 = .int .i64 ((k : Int) % (cols : Int)) := hv 11 (by decide)
           have p12 : f 12 = .pointer (some ⟨w.heap.size, 0, none⟩) := hv 12 (by decide)
           have p13 : f 13 = .int .i64 (cols : Int) := hv 13 (by decide)
           have p14 : f 14 = .int .i64 ((cols : Int) - 1) := hv 14 (by decide)
           have p15 : f 15 = .bool true := hv 15 (by decide)
           have p16 : f 16 = .bool true := hv 16 (by decide)
           simp only [tkS, tkZ, List.drop_succ_cons, List.drop_zero, setAll, siB, stS, stZ, Nat.zero_add, Nat.reduceAdd, p0, p1, p2, p3, p4, p5, p6, p7, p8, p9, p10, p11, p12, p13, p14, p15, p16]
           clear hv p0 p1 p2 p3 p4 p5 p6 p7 p8 p9 p10 p11 p12 p13 p14 p15 p16
           have F9 := Box'.mk hC
           clear hC
           go_wp2_with fail
           go_ret
           exact ⟨by rw [E.out]; rfl, F9.out.be⟩
         case neg =>
          have E : ∀ j, j < k + 1 → okAt cols c j = true := KN.out (by rw [okE.out, hH, decide_eq_false (show ¬ (cat c k).wd = 0 by omega), decide_eq_true (show (cat c k).wd = 2 by omega), decide_eq_false hl]; rfl)
          have hlast : ¬ (k : Int) % (cols : Int) = (cols : Int) - 1 := by rw [← Int.natCast_emod]; omega
          refine wp_region_growg 17 (by kernel_rfl) 100 rfl (by kernel_rfl) (fun wa wb => Below wa.heap.size wa wb) (fun wa => GrM w (gA (cols : Int) (rows : Int) (.slice (some ⟨b, o, none⟩) n cp)) wa) (fun kc wa v => match kc with
           | 0 => v = .pointer (some ⟨w.heap.size, 2, none⟩)
           | 1 => v = .slice (some ⟨b, o, none⟩) n cp
           | 2 => v = .int .i64 (k : Int)
           | 3 => v = .pointer (some ⟨b, o + k * 15, none⟩)
           | 4 => v = .pointer (some ⟨b, o + k * 15 + 4, none⟩)
           | 5 => v = .int .u8 2
           | 6 => v = .bool true
           | 7 => v = .bool true
           | 8 => v = .int .i64 (k : Int)
           | 9 => v = .pointer (some ⟨w.heap.size, 0, none⟩)
           | 10 => v = .int .i64 (cols : Int)
           | 11 => v = .int .i64 ((k : Int) % (cols : Int))
           | 12 => v = .pointer (some ⟨w.heap.size, 0, none⟩)
           | 13 => v = .int .i64 (cols : Int)
           | 14 => v = .int .i64 ((cols : Int) - 1)
           | 15 => v = .bool false
           | 16 => v = .bool false
           | _ => True) ?_ ?_ ?_ ?_ ?_ ?_
          ·intro i o' j b' hi hg wa v hC hV
           have hlt : i < 17 := by rcases Nat.lt_or_ge i 17 with q | q; exact q; rw [List.getElem?_eq_none (by simpa using q)] at hi; cases hi
           revert hi hg hV
           rcases (show i = 0 ∨ i = 1 ∨ i = 2 ∨ i = 3 ∨ i = 4 ∨ i = 5 ∨ i = 6 ∨ i = 7 ∨ i = 8 ∨ i = 9 ∨ i = 10 ∨ i = 11 ∨ i = 12 ∨ i = 13 ∨ i = 14 ∨ i = 15 ∨ i = 16 by omega) with rfl | rfl | rfl | rfl | rfl | rfl | rfl | rfl | rfl | rfl | rfl | rfl | rfl | rfl | rfl | rfl | rfl <;>
            (intro hi hg hV; simp only [tkS, List.getElem?_cons_zero, List.getElem?_cons_succ, Option.some.injEq] at hi; subst hi; first | (cases hg; exact hV) | (cases hg))
          ·intro wa wb hb q; exact q.below hb
          ·intro kc v wa wb hC1 hb h
           match kc, h with
           | 0, h => exact h
           | 1, h => exact h
           | 2, h => exact h
           | 3, h => exact h
           | 4, h => exact h
           | 5, h => exact h
           | 6, h => exact h
           | 7, h => exact h
           | 8, h => exact h
           | 9, h => exact h
           | 10, h => exact h
           | 11, h => exact h
           | 12, h => exact h
           | 13, h => exact h
           | 14, h => exact h
           | 15, h => exact h
           | 16, h => exact h
           | kc + 17, h => trivial
          ·exact F7.out.drew
          ·refine ⟨?_, ?_, ?_, ?_, ?_, ?_, ?_, ?_, ?_, ?_, ?_, ?_, ?_, ?_, ?_, ?_, ?_, trivial⟩
           ·intro f wq hC hd KK hK
            clear hd
            simp only [tkS, tkZ, setAll, siB, stS, stZ, Nat.zero_add, Nat.reduceAdd] at hK ⊢
            refine wp_of_quiet rfl ?_
            go_big_quiet_step (fail)
            exact wpQuiet_nil (hK _ _ (rfl) bR)
           ·intro f wq hC hd KK hK
            have g0 : f 0 = .pointer (some ⟨w.heap.size, 2, none⟩) := hd 0 (by kernel_rfl)
            clear hd
            have c2 : wq.cell? ⟨w.heap.size, 2, none⟩ = some (.slice (some ⟨b, o, none⟩) n cp) := hC.rg.cell 2
            clear hC
            simp only [tkS, tkZ, setAll, siB, stS, stZ, Nat.zero_add, Nat.reduceAdd, g0] at hK ⊢
            refine wp_of_quiet rfl ?_
            go_big_quiet_step (fail)
            exact wpQuiet_nil (hK _ _ (rfl) bR)
           ·intro f wq hC hd KK hK
            clear hd
            simp only [tkS, tkZ, setAll, siB, stS, stZ, Nat.zero_add, Nat.reduceAdd] at hK ⊢
            refine wp_of_quiet rfl ?_
            go_big_quiet_step (fail)
            exact wpQuiet_nil (hK _ _ (rfl) bR)
           ·intro f wq hC hd KK hK
            have g1 : f 1 = .slice (some ⟨b, o, none⟩) n cp := hd 1 (by kernel_rfl)
            have g2 : f 2 = .int .i64 (k : Int) := hd 2 (by kernel_rfl)
            clear hd
            simp only [tkS, tkZ, setAll, siB, stS, stZ, Nat.zero_add, Nat.reduceAdd, g1, g2] at hK ⊢
            refine wp_of_quiet rfl ?_
            go_big_quiet_step (fail)
            exact wpQuiet_nil (hK _ _ (rfl) bR)
           ·intro f wq hC hd KK hK
            have g3 : f 3 = .pointer (some ⟨b, o + k * 15, none⟩) := hd 3 (by kernel_rfl)
            clear hd
            simp only [tkS, tkZ, setAll, siB, stS, stZ, Nat.zero_add, Nat.reduceAdd, g3] at hK ⊢
            refine wp_of_quiet rfl ?_
            go_big_quiet_step (fail)
            exact wpQuiet_nil (hK _ _ (rfl) bR)
           ·intro f wq hC hd KK hK
            have g4 : f 4 = .pointer (some ⟨b, o + k * 15 + 4, none⟩) := hd 4 (by kernel_rfl)
            clear hd
            have c4 : wq.cell? ⟨b, o + k * 15 + 4, none⟩ = some (.int .u8 2) := by rw [HW.out k wq hlt hC.be, hz]
            clear hC
            simp only [tkS, tkZ, setAll, siB, stS, stZ, Nat.zero_add, Nat.reduceAdd, g4] at hK ⊢
            refine wp_of_quiet rfl ?_
            go_big_quiet_step (fail)
            exact wpQuiet_nil (hK _ _ (rfl) bR)
           ·intro f wq hC hd KK hK
            have g5 : f 5 = .int .u8 2 := hd 5 (by kernel_rfl)
            clear hd
            simp only [tkS, tkZ, setAll, siB, stS, stZ, Nat.zero_add, Nat.reduceAdd, g5] at hK ⊢
            refine wp_of_quiet rfl ?_
            go_big_quiet_step (fail)
            exact wpQuiet_nil (hK _ _ (by first | rfl | (simp; assumption) | (simp; omega) | simp) bR)
           ·intro f wq hC hd KK hK
            have g6 : f 6 = .bool true := hd 6 (by kernel_rfl)
            clear hd
            simp only [tkS, tkZ, setAll, siB, stS, stZ, Nat.zero_add, Nat.reduceAdd, g6] at hK ⊢
            refine wp_of_quiet rfl ?_
            go_big_quiet_step (fail)
            exact wpQuiet_nil (hK _ _ (rfl) bR)
           ·intro f wq hC hd KK hK
            clear hd
            simp only [tkS, tkZ, setAll, siB, stS, stZ, Nat.zero_add, Nat.reduceAdd] at hK ⊢
            refine wp_unguard ?_
            refine wp_of_quiet rfl ?_
            go_big_quiet_step (fail)
            exact wpQuiet_nil (hK _ _ (rfl) bR)
           ·intro f wq hC hd KK hK
            clear hd
            simp only [tkS, tkZ, setAll, siB, stS, stZ, Nat.zero_add, Nat.reduceAdd] at hK ⊢
            refine wp_unguard ?_
            refine wp_of_quiet rfl ?_
            go_big_quiet_step (fail)
            exact wpQuiet_nil (hK _ _ (rfl) bR)
           ·intro f wq hC hd KK hK
            have g9 : f 9 = .pointer (some ⟨w.heap.size, 0, none⟩) := hd 9 (by kernel_rfl)
            clear hd
            have c0 : wq.cell? ⟨w.heap.size, 0, none⟩ = some (.int .i64 (cols : Int)) := hC.rg.cell 0
            clear hC
            simp only [tkS, tkZ, setAll, siB, stS, stZ, Nat.zero_add, Nat.reduceAdd, g9] at hK ⊢
            refine wp_unguard ?_
            refine wp_of_quiet rfl ?_
            go_big_quiet_step (fail)
            exact wpQuiet_nil (hK _ _ (rfl) bR)
           ·intro f wq hC hd KK hK
            have g8 : f 8 = .int .i64 (k : Int) := hd 8 (by kernel_rfl)
            have g10 : f 10 = .int .i64 (cols : Int) := hd 10 (by kernel_rfl)
            clear hd
            simp only [tkS, tkZ, setAll, siB, stS, stZ, Nat.zero_add, Nat.reduceAdd, g8, g10] at hK ⊢
            refine wp_unguard ?_
            refine wp_of_quiet rfl ?_
            go_big_quiet_step (fail)
            exact wpQuiet_nil (hK _ _ (rfl) bR)
           ·intro f wq hC hd KK hK
            clear hd
            simp only [tkS, tkZ, setAll, siB, stS, stZ, Nat.zero_add, Nat.reduceAdd] at hK ⊢
            refine wp_unguard ?_
            refine wp_of_quiet rfl ?_
            go_big_quiet_step (fail)
            exact wpQuiet_nil (hK _ _ (rfl) bR)
           ·intro f wq hC hd KK hK
            have g12 : f 12 = .pointer (some ⟨w.heap.size, 0, none⟩) := hd 12 (by kernel_rfl)
            clear hd
            have c0 : wq.cell? ⟨w.heap.size, 0, none⟩ = some (.int .i64 (cols : Int)) := hC.rg.cell 0
            clear hC
            simp only [tkS, tkZ, setAll, siB, stS, stZ, Nat.zero_add, Nat.reduceAdd, g12] at hK ⊢
            refine wp_unguard ?_
            refine wp_of_quiet rfl ?_
            go_big_quiet_step (fail)
            exact wpQuiet_nil (hK _ _ (rfl) bR)
           ·intro f wq hC hd KK hK
            have g13 : f 13 = .int .i64 (cols : Int) := hd 13 (by kernel_rfl)
            clear hd
            simp only [tkS, tkZ, setAll, siB, stS, stZ, Nat.zero_add, Nat.reduceAdd, g13] at hK ⊢
            refine wp_unguard ?_
            refine wp_of_quiet rfl ?_
            go_big_quiet_step (fail)
            exact wpQuiet_nil (hK _ _ (rfl) bR)
           ·intro f wq hC hd KK hK
            have g11 : f 11 = .int .i64 ((k : Int) % (cols : Int)) := hd 11 (by kernel_rfl)
            have g14 : f 14 = .int .i64 ((cols : Int) - 1) := hd 14 (by kernel_rfl)
            clear hd
            simp only [tkS, tkZ, setAll, siB, stS, stZ, Nat.zero_add, Nat.reduceAdd, g11, g14] at hK ⊢
            refine wp_unguard ?_
            refine wp_of_quiet rfl ?_
            go_big_quiet_step (fail)
            exact wpQuiet_nil (hK _ _ (by first | rfl | (simp; assumption) | (simp [hlast]; done) | (simp; omega)) bR)
           ·intro f wq hC hd KK hK
            have g7 : f 7 = .bool true := hd 7 (by kernel_rfl)
            have g15 : f 15 = .bool false := hd 15 (by kernel_rfl)
            clear hd
            simp only [tkS, tkZ, setAll, siB, stS, stZ, Nat.zero_add, Nat.reduceAdd, g7, g15] at hK ⊢
            refine wp_of_quiet rfl ?_
            go_big_quiet_step (fail)
            exact wpQuiet_nil (hK _ _ (rfl) bR)
          ·intro f wz hC hv
           have p0 : f 0 = .pointer (some ⟨w.heap.size, 2, none⟩) := hv 0 (by decide)
           have p1 : f 1 = .slice (some ⟨b, o, none⟩) n cp := hv 1 (by decide)
           have p2 : f 2 = .int .i64 (k : Int) := hv 2 (by decide)
           have p3 : f 3 = .pointer (some ⟨b, o + k * 15, none⟩) := hv 3 (by decide)
           have p4 : f 4 = .pointer (some ⟨b, o + k * 15 + 4, none⟩) := hv 4 (by decide)
           have p5 : f 5 = .int .u8 2 := hv 5 (by decide)
           have p6 : f 6 = .bool true := hv 6 (by decide)
           have p7 : f 7 = .bool true := hv 7 (by decide)
           have p8 : f 8 = .int .i64 (k : Int) := hv 8 (by decide)
           have p9 : f 9 = .pointer (some ⟨w.heap.size, 0, none⟩) := hv 9 (by decide)
           have p10 : f 10 = .int .i64 (cols : Int) := hv 10 (by decide)
           have p11 : f 11 = .int .i64 ((k : Int) % (cols : Int)) := hv 11 (by decide)
           have p12 : f 12 = .pointer (some ⟨w.heap.size, 0, none⟩) := hv 12 (by decide)
           have p13 : f 13 = .int .i64 (cols : Int) := hv 13 (by decide)
           have p14 : f 14 = .int .i64 ((cols : Int) - 1) := hv 14 (by decide)
           have p15 : f 15 = .bool false := hv 15 (by decide)
           have p16 : f 16 = .bool false := hv 16 (by decide)
           simp only [tkS, tkZ, List.drop_succ_cons, List.drop_zero, setAll, siB, stS, stZ, Nat.zero_add, Nat.reduceAdd, p0, p1, p2, p3, p4, p5, p6, p7, p8, p9, p10, p11, p12, p13, p14, p15, p16]
           clear hv p0 p1 p2 p3 p4 p5 p6 p7 p8 p9 p10 p11 p12 p13 p14 p15 p16
           have F9 := Box'.mk hC
           clear hC
           go_wp2_with fail
           exact ⟨⟨k + 1, by omega, by go_num, ⟨E⟩, F9⟩, by simp [intOf]; omega⟩
    case neg =>
     have hH : hfAt cols c k = false := by unfold hfAt; rw [decide_eq_false hp]; rfl
     have hpi : (k : Int) % (cols : Int) ≤ 0 := by rw [HEM.out]; omega
     go_upto_region 9 with (fail)
     clear c0 c2 HEM hpi
     have F5 := F3
     clear F3
     by_cases hw0 : ((cat c k).wd : Int) = 0
     case pos =>
      have hz := hw0
      have E := Box'.mk (KF.out (by rw [okE.out, hH, decide_eq_true (show (cat c k).wd = 0 by omega)]; rfl))
      refine wp_region_growh 28 (by kernel_rfl) 100 rfl (by kernel_rfl) (fun wa wb => Below wa.heap.size wa wb) (fun wa => GrM w (gA (cols : Int) (rows : Int) (.slice (some ⟨b, o, none⟩) n cp)) wa) (fun kc wa v => match kc with
       | 0 => v = .pointer (some ⟨w.heap.size, 2, none⟩)
       | 1 => v = .slice (some ⟨b, o, none⟩) n cp
       | 2 => v = .int .i64 (k : Int)
       | 3 => v = .pointer (some ⟨b, o + k * 15, none⟩)
       | 4 => v = .pointer (some ⟨b, o + k * 15 + 4, none⟩)
       | 5 => v = .int .u8 0
       | 6 => v = .bool true
       | 7 => v = .bool false
       | 8 => v = .bool true
       | 9 => v = .bool true
       | 10 => v = undef
       | 11 => v = undef
       | 12 => v = undef
       | 13 => v = undef
       | 14 => v = undef
       | 15 => v = undef
       | 16 => v = undef
       | 17 => v = undef
       | 18 => v = undef
       | 19 => v = undef
       | 20 => v = undef
       | 21 => v = undef
       | 22 => v = undef
       | 23 => v = undef
       | 24 => v = undef
       | 25 => v = undef
       | 26 => v = undef
       | 27 => v = .bool true
       | _ => True) (fun i => !([10, 11, 12, 13, 14, 15, 16, 17, 18, 19, 20, 21, 22, 23, 24, 25, 26] : List Nat).contains i) ?_ ?_ ?_ ?_ ?_ ?_ ?_ ?_
      ·intro i o' j b' hi hg wa v hC hV
       have hlt : i < 28 := by rcases Nat.lt_or_ge i 28 with q | q; exact q; rw [List.getElem?_eq_none (by simpa using q)] at hi; cases hi
       revert hi hg hV
       rcases (show i = 0 ∨ i = 1 ∨ i = 2 ∨ i = 3 ∨ i = 4 ∨ i = 5 ∨ i = 6 ∨ i = 7 ∨ i = 8 ∨ i = 9 ∨ i = 10 ∨ i = 11 ∨ i = 12 ∨ i = 13 ∨ i = 14 ∨ i = 15 ∨ i = 16 ∨ i = 17 ∨ i = 18 ∨ i = 19 ∨ i = 20 ∨ i = 21 ∨ i = 22 ∨ i = 23 ∨ i = 24 ∨ i = 25 ∨ i = 26 ∨ i = 27 by omega) with rfl | rfl | rfl | rfl | rfl | rfl | rfl | rfl | rfl | rfl | rfl | rfl | rfl | rfl | rfl | rfl | rfl | rfl | rfl | rfl | rfl | rfl | rfl | rfl | rfl | rfl | rfl | rfl <;>
        (intro hi hg hV; simp only [tkS, List.getElem?_cons_zero, List.getElem?_cons_succ, Option.some.injEq] at hi; subst hi; first | (cases hg; first | exact hV | exact (show v ≠ _ from (by rw [hV]; intro hh; cases hh))) | (cases hg))
      ·intro i o' hi hg
       have hlt : i < 28 := by rcases Nat.lt_or_ge i 28 with q | q; exact q; rw [List.getElem?_eq_none (by simpa using q)] at hi; cases hi
       revert hi hg
       rcases (show i = 0 ∨ i = 1 ∨ i = 2 ∨ i = 3 ∨ i = 4 ∨ i = 5 ∨ i = 6 ∨ i = 7 ∨ i = 8 ∨ i = 9 ∨ i = 10 ∨ i = 11 ∨ i = 12 ∨ i = 13 ∨ i = 14 ∨ i = 15 ∨ i = 16 ∨ i = 17 ∨ i = 18 ∨ i = 19 ∨ i = 20 ∨ i = 21 ∨ i = 22 ∨ i = 23 ∨ i = 24 ∨ i = 25 ∨ i = 26 ∨ i = 27 by omega) with rfl | rfl | rfl | rfl | rfl | rfl | rfl | rfl | rfl | rfl | rfl | rfl | rfl | rfl | rfl | rfl | rfl | rfl | rfl | rfl | rfl | rfl | rfl | rfl | rfl | rfl | rfl | rfl <;>
        (intro hi hg; simp only [tkS, List.getElem?_cons_zero, List.getElem?_cons_succ, Option.some.injEq] at hi; subst hi; first | (cases hg; done) | (intro hh; cases hh))
      ·intro i hi wa
       have hi' : (!([10, 11, 12, 13, 14, 15, 16, 17, 18, 19, 20, 21, 22, 23, 24, 25, 26] : List Nat).contains i) = false := hi
       have hm : i ∈ ([10, 11, 12, 13, 14, 15, 16, 17, 18, 19, 20, 21, 22, 23, 24, 25, 26] : List Nat) := List.contains_iff_mem.1 (by cases hc : ([10, 11, 12, 13, 14, 15, 16, 17, 18, 19, 20, 21, 22, 23, 24, 25, 26] : List Nat).contains i with | true => rfl | false => rw [hc] at hi'; cases hi')
       simp only [List.mem_cons, List.not_mem_nil, or_false] at hm
       rcases hm with rfl | rfl | rfl | rfl | rfl | rfl | rfl | rfl | rfl | rfl | rfl | rfl | rfl | rfl | rfl | rfl | rfl <;> rfl
      ·intro wa wb hb q; exact q.below hb
      ·intro kc v wa wb hC1 hb h
       match kc, h with
       | 0, h => exact h
       | 1, h => exact h
       | 2, h => exact h
       | 3, h => exact h
       | 4, h => exact h
       | 5, h => exact h
       | 6, h => exact h
       | 7, h => exact h
       | 8, h => exact h
       | 9, h => exact h
       | 10, h => exact h
       | 11, h => exact h
       | 12, h => exact h
       | 13, h => exact h
       | 14, h => exact h
       | 15, h => exact h
       | 16, h => exact h
       | 17, h => exact h
       | 18, h => exact h
       | 19, h => exact h
       | 20, h => exact h
       | 21, h => exact h
       | 22, h => exact h
       | 23, h => exact h
       | 24, h => exact h
       | 25, h => exact h
       | 26, h => exact h
       | 27, h => exact h
       | kc + 28, h => trivial
      ·exact F5.out.drew
      ·refine ⟨?_, ?_, ?_, ?_, ?_, ?_, ?_, ?_, ?_, ?_, ?_, ?_, ?_, ?_, ?_, ?_, ?_, ?_, ?_, ?_, ?_, ?_, ?_, ?_, ?_, ?_, ?_, ?_, trivial⟩
       ·intro _ f wq hC hd KK hK
        clear hd
        simp only [tkS, tkZ, setAll, siB, stS, stZ, Nat.zero_add, Nat.reduceAdd] at hK ⊢
        refine wp_of_quiet rfl ?_
        go_big_quiet_step (fail)
        exact wpQuiet_nil (hK _ _ (rfl) bR)
       ·intro _ f wq hC hd KK hK
        have g0 : f 0 = .pointer (some ⟨w.heap.size, 2, none⟩) := hd 0 (by kernel_rfl)
        clear hd
        have c2 : wq.cell? ⟨w.heap.size, 2, none⟩ = some (.slice (some ⟨b, o, none⟩) n cp) := hC.rg.cell 2
        clear hC
        simp only [tkS, tkZ, setAll, siB, stS, stZ, Nat.zero_add, Nat.reduceAdd, g0] at hK ⊢
        refine wp_of_quiet rfl ?_
        go_big_quiet_step (fail)
        exact wpQuiet_nil (hK _ _ (rfl) bR)
       ·intro _ f wq hC hd KK hK
        clear hd
        simp only [tkS, tkZ, setAll, siB, stS, stZ, Nat.zero_add, Nat.reduceAdd] at hK ⊢
        refine wp_of_quiet rfl ?_
        go_big_quiet_step (fail)
        exact wpQuiet_nil (hK _ _ (rfl) bR)
       ·intro _ f wq hC hd KK hK
        have g1 : f 1 = .slice (some ⟨b, o, none⟩) n cp := hd 1 (by kernel_rfl)
        have g2 : f 2 = .int .i64 (k : Int) := hd 2 (by kernel_rfl)
        clear hd
        simp only [tkS, tkZ, setAll, siB, stS, stZ, Nat.zero_add, Nat.reduceAdd, g1, g2] at hK ⊢
        refine wp_of_quiet rfl ?_
        go_big_quiet_step (fail)
        exact wpQuiet_nil (hK _ _ (rfl) bR)
       ·intro _ f wq hC hd KK hK
        have g3 : f 3 = .pointer (some ⟨b, o + k * 15, none⟩) := hd 3 (by kernel_rfl)
        clear hd
        simp only [tkS, tkZ, setAll, siB, stS, stZ, Nat.zero_add, Nat.reduceAdd, g3] at hK ⊢
        refine wp_of_quiet rfl ?_
        go_big_quiet_step (fail)
        exact wpQuiet_nil (hK _ _ (rfl) bR)
       ·intro _ f wq hC hd KK hK
        have g4 : f 4 = .pointer (some ⟨b, o + k * 15 + 4, none⟩) := hd 4 (by kernel_rfl)
        clear hd
        have c4 : wq.cell? ⟨b, o + k * 15 + 4, none⟩ = some (.int .u8 0) := by rw [HW.out k wq hlt hC.be, hz]
        clear hC
        simp only [tkS, tkZ, setAll, siB, stS, stZ, Nat.zero_add, Nat.reduceAdd, g4] at hK ⊢
        refine wp_of_quiet rfl ?_
        go_big_quiet_step (fail)
        exact wpQuiet_nil (hK _ _ (rfl) bR)
       ·intro _ f wq hC hd KK hK
        have g5 : f 5 = .int .u8 0 := hd 5 (by kernel_rfl)
        clear hd
        simp only [tkS, tkZ, setAll, siB, stS, stZ, Nat.zero_add, Nat.reduceAdd, g5] at hK ⊢
        refine wp_of_quiet rfl ?_
        go_big_quiet_step (fail)
        exact wpQuiet_nil (hK _ _ (by first | rfl | (simp; assumption) | (simp; omega) | simp) bR)
       ·intro _ f wq hC hd KK hK
        clear hd
        simp only [tkS, tkZ, setAll, siB, stS, stZ, Nat.zero_add, Nat.reduceAdd] at hK ⊢
        refine wp_of_quiet rfl ?_
        go_big_quiet_step (fail)
        exact wpQuiet_nil (hK _ _ (rfl) bR)
       ·intro _ f wq hC hd KK hK
        have g6 : f 6 = .bool true := hd 6 (by kernel_rfl)
        have g7 : f 7 = .bool false := hd 7 (by kernel_rfl)
        clear hd
        simp only [tkS, tkZ, setAll, siB, stS, stZ, Nat.zero_add, Nat.reduceAdd, g6, g7] at hK ⊢
        refine wp_of_quiet rfl ?_
        go_big_quiet_step (fail)
        exact wpQuiet_nil (hK _ _ (by first | rfl | (simp; assumption) | (simp; omega) | simp) bR)
       ·intro _ f wq hC hd KK hK
        have g8 : f 8 = .bool true := hd 8 (by kernel_rfl)
        clear hd
        simp only [tkS, tkZ, setAll, siB, stS, stZ, Nat.zero_add, Nat.reduceAdd, g8] at hK ⊢
        refine wp_of_quiet rfl ?_
        go_big_quiet_step (fail)
        exact wpQuiet_nil (hK _ _ (rfl) bR)
       ·intro hh; cases hh
       ·intro hh; cases hh
       ·intro hh; cases hh
       ·intro hh; cases hh
       ·intro hh; cases hh
       ·intro hh; cases hh
       ·intro hh; cases hh
       ·intro hh; cases hh
       ·intro hh; cases hh
       ·intro hh; cases hh
       ·intro hh; cases hh
       ·intro hh; cases hh
       ·intro hh; cases hh
       ·intro hh; cases hh
       ·intro hh; cases hh
       ·intro hh; cases hh
       ·intro hh; cases hh
       ·intro _ f wq hC hd KK hK
        have g9 : f 9 = .bool true := hd 9 (by kernel_rfl)
        clear hd
        simp only [tkS, tkZ, setAll, siB, stS, stZ, Nat.zero_add, Nat.reduceAdd, g9] at hK ⊢
        refine wp_of_quiet rfl ?_
        go_big_quiet_step (fail)
        exact wpQuiet_nil (hK _ _ (rfl) bR)
      ·intro f wz hC hv
       have p0 : f 0 = .pointer (some ⟨w.heap.size, 2, none⟩) := hv 0 (by decide)
       have p1 : f 1 = .slice (some ⟨b, o, none⟩) n cp := hv 1 (by decide)
       have p2 : f 2 = .int .i64 (k : Int) := hv 2 (by decide)
       have p3 : f 3 = .pointer (some ⟨b, o + k * 15, none⟩) := hv 3 (by decide)
       have p4 : f 4 = .pointer (some ⟨b, o + k * 15 + 4, none⟩) := hv 4 (by decide)
       have p5 : f 5 = .int .u8 0 := hv 5 (by decide)
       have p6 : f 6 = .bool true := hv 6 (by decide)
       have p7 : f 7 = .bool false := hv 7 (by decide)
       have p8 : f 8 = .bool true := hv 8 (by decide)
       have p9 : f 9 = .bool true := hv 9 (by decide)
       have p27 : f 27 = .bool true := hv 27 (by decide)
       simp only [tkS, tkZ, List.drop_succ_cons, List.drop_zero, setAll, siB, stS, stZ, Nat.zero_add, Nat.reduceAdd, p0, p1, p2, p3, p4, p5, p6, p7, p8, p9, p27]
       clear hv p0 p1 p2 p3 p4 p5 p6 p7 p8 p9 p27
       have F9 := Box'.mk hC
       clear hC
       go_wp2_with fail
       go_ret
       exact ⟨by rw [E.out]; rfl, F9.out.be⟩
     case neg =>
      obtain ⟨z, hz⟩ : ∃ z : Int, ((cat c k).wd : Int) = z := ⟨_, rfl⟩
      rw [hz] at hw0
      refine wp_region_growh 28 (by kernel_rfl) 100 rfl (by kernel_rfl) (fun wa wb => Below wa.heap.size wa wb) (fun wa => GrM w (gA (cols : Int) (rows : Int) (.slice (some ⟨b, o, none⟩) n cp)) wa) (fun kc wa v => match kc with
       | 0 => v = .pointer (some ⟨w.heap.size, 2, none⟩)
       | 1 => v = .slice (some ⟨b, o, none⟩) n cp
       | 2 => v = .int .i64 (k : Int)
       | 3 => v = .pointer (some ⟨b, o + k * 15, none⟩)
       | 4 => v = .pointer (some ⟨b, o + k * 15 + 4, none⟩)
       | 5 => v = .int .u8 z
       | 6 => v = .bool false
       | 7 => v = .bool false
       | 8 => v = .bool false
       | 9 => v = .bool false
       | 10 => v = .bool false
       | 11 => v = .bool false
       | 12 => v = undef
       | 13 => v = undef
       | 14 => v = undef
       | 15 => v = undef
       | 16 => v = undef
       | 17 => v = undef
       | 18 => v = undef
       | 19 => v = undef
       | 20 => v = undef
       | 21 => v = undef
       | 22 => v = undef
       | 23 => v = undef
       | 24 => v = undef
       | 25 => v = undef
       | 26 => v = .bool false
       | 27 => v = .bool false
       | _ => True) (fun i => !([12, 13, 14, 15, 16, 17, 18, 19, 20, 21, 22, 23, 24, 25] : List Nat).contains i) ?_ ?_ ?_ ?_ ?_ ?_ ?_ ?_
      ·intro i o' j b' hi hg wa v hC hV
       have hlt : i < 28 := by rcases Nat.lt_or_ge i 28 with q | q; exact q; rw [List.getElem?_eq_none (by simpa using q)] at hi; cases hi
       revert hi hg hV
       rcases (show i = 0 ∨ i = 1 ∨ i = 2 ∨ i = 3 ∨ i = 4 ∨ i = 5 ∨ i = 6 ∨ i = 7 ∨ i = 8 ∨ i = 9 ∨ i = 10 ∨ i = 11 ∨ i = 12 ∨ i = 13 ∨ i = 14 ∨ i = 15 ∨ i = 16 ∨ i = 17 ∨ i = 18 ∨ i = 19 ∨ i = 20 ∨ i = 21 ∨ i = 22 ∨ i = 23 ∨ i = 24 ∨ i = 25 ∨ i = 26 ∨ i = 27 by omega) with rfl | rfl | rfl | rfl | rfl | rfl | rfl | rfl | rfl | rfl | rfl | rfl | rfl | rfl | rfl | rfl | rfl | rfl | rfl | rfl | rfl | rfl | rfl | rfl | rfl | rfl | rfl | rfl <;>
        (intro hi hg hV; simp only [tkS, List.getElem?_cons_zero, List.getElem?_cons_succ, Option.some.injEq] at hi; subst hi; first | (cases hg; first | exact hV | exact (show v ≠ _ from (by rw [hV]; intro hh; cases hh))) | (cases hg))
      ·intro i o' hi hg
       have hlt : i < 28 := by rcases Nat.lt_or_ge i 28 with q | q; exact q; rw [List.getElem?_eq_none (by simpa using q)] at hi; cases hi
       revert hi hg
       rcases (show i = 0 ∨ i = 1 ∨ i = 2 ∨ i = 3 ∨ i = 4 ∨ i = 5 ∨ i = 6 ∨ i = 7 ∨ i = 8 ∨ i = 9 ∨ i = 10 ∨ i = 11 ∨ i = 12 ∨ i = 13 ∨ i = 14 ∨ i = 15 ∨ i = 16 ∨ i = 17 ∨ i = 18 ∨ i = 19 ∨ i = 20 ∨ i = 21 ∨ i = 22 ∨ i = 23 ∨ i = 24 ∨ i = 25 ∨ i = 26 ∨ i = 27 by omega) with rfl | rfl | rfl | rfl | rfl | rfl | rfl | rfl | rfl | rfl | rfl | rfl | rfl | rfl | rfl | rfl | rfl | rfl | rfl | rfl | rfl | rfl | rfl | rfl | rfl | rfl | rfl | rfl <;>
        (intro hi hg; simp only [tkS, List.getElem?_cons_zero, List.getElem?_cons_succ, Option.some.injEq] at hi; subst hi; first | (cases hg; done) | (intro hh; cases hh))
      ·intro i hi wa
       have hi' : (!([12, 13, 14, 15, 16, 17, 18, 19, 20, 21, 22, 23, 24, 25] : List Nat).contains i) = false := hi
       have hm : i ∈ ([12, 13, 14, 15, 16, 17, 18, 19, 20, 21, 22, 23, 24, 25] : List Nat) := List.contains_iff_mem.1 (by cases hc : ([12, 13, 14, 15, 16, 17, 18, 19, 20, 21, 22, 23, 24, 25] : List Nat).contains i with | true => rfl | false => rw [hc] at hi'; cases hi')
       simp only [List.mem_cons, List.not_mem_nil, or_false] at hm
       rcases hm with rfl | rfl | rfl | rfl | rfl | rfl | rfl | rfl | rfl | rfl | rfl | rfl | rfl | rfl <;> rfl
      ·intro wa wb hb q; exact q.below hb
      ·intro kc v wa wb hC1 hb h
       match kc, h with
       | 0, h => exact h
       | 1, h => exact h
       | 2, h => exact h
       | 3, h => exact h
       | 4, h => exact h
       | 5, h => exact h
       | 6, h => exact h
       | 7, h => exact h
       | 8, h => exact h
       | 9, h => exact h
       | 10, h => exact h
       | 11, h => exact h
       | 12, h => exact h
       | 13, h => exact h
       | 14, h => exact h
       | 15, h => exact h
       | 16, h => exact h
       | 17, h => exact h
       | 18, h => exact h
       | 19, h => exact h
       | 20, h => exact h
       | 21, h => exact h
       | 22, h => exact h
       | 23, h => exact h
       | 24, h => exact h
       | 25, h => exact h
       | 26, h => exact h
       | 27, h => exact h
       | kc + 28, h => trivial
      ·exact F5.out.drew
      ·refine ⟨?_, ?_, ?_, ?_, ?_, ?_, ?_, ?_, ?_, ?_, ?_, ?_, ?_, ?_, ?_, ?_, ?_, ?_, ?_, ?_, ?_, ?_, ?_, ?_, ?_, ?_, ?_, ?_, trivial⟩
       ·intro _ f wq hC hd KK hK
        clear hd
        simp only [tkS, tkZ, setAll, siB, stS, stZ, Nat.zero_add, Nat.reduceAdd] at hK ⊢
        refine wp_of_quiet rfl ?_
        go_big_quiet_step (fail)
        exact wpQuiet_nil (hK _ _ (rfl) bR)
       ·intro _ f wq hC hd KK hK
        have g0 : f 0 = .pointer (some ⟨w.heap.size, 2, none⟩) := hd 0 (by kernel_rfl)
        clear hd
        have c2 : wq.cell? ⟨w.heap.size, 2, none⟩ = some (.slice (some ⟨b, o, none⟩) n cp) := hC.rg.cell 2
        clear hC
        simp only [tkS, tkZ, setAll, siB, stS, stZ, Nat.zero_add, Nat.reduceAdd, g0] at hK ⊢
        refine wp_of_quiet rfl ?_
        go_big_quiet_step (fail)
        exact wpQuiet_nil (hK _ _ (rfl) bR)
       ·intro _ f wq hC hd KK hK
        clear hd
        simp only [tkS, tkZ, setAll, siB, stS, stZ, Nat.zero_add, Nat.reduceAdd] at hK ⊢
        refine wp_of_quiet rfl ?_
        go_big_quiet_step (fail)
        exact wpQuiet_nil (hK _ _ (rfl) bR)
       ·intro _ f wq hC hd KK hK
        have g1 : f 1 = .slice (some ⟨b, o, none⟩) n cp := hd 1 (by kernel_rfl)
        have g2 : f 2 = .int .i64 (k : Int) := hd 2 (by kernel_rfl)
        clear hd
        simp only [tkS, tkZ, setAll, siB, stS, stZ, Nat.zero_add, Nat.reduceAdd, g1, g2] at hK ⊢
        refine wp_of_quiet rfl ?_
        go_big_quiet_step (fail)
        exact wpQuiet_nil (hK _ _ (rfl) bR)
       ·intro _ f wq hC hd KK hK
        have g3 : f 3 = .pointer (some ⟨b, o + k * 15, none⟩) := hd 3 (by kernel_rfl)
        clear hd
        simp only [tkS, tkZ, setAll, siB, stS, stZ, Nat.zero_add, Nat.reduceAdd, g3] at hK ⊢
        refine wp_of_quiet rfl ?_
        go_big_quiet_step (fail)
        exact wpQuiet_nil (hK _ _ (rfl) bR)
       ·intro _ f wq hC hd KK hK
        have g4 : f 4 = .pointer (some ⟨b, o + k * 15 + 4, none⟩) := hd 4 (by kernel_rfl)
        clear hd
        have c4 : wq.cell? ⟨b, o + k * 15 + 4, none⟩ = some (.int .u8 z) := by rw [HW.out k wq hlt hC.be, hz]
        clear hC
        simp only [tkS, tkZ, setAll, siB, stS, stZ, Nat.zero_add, Nat.reduceAdd, g4] at hK ⊢
        refine wp_of_quiet rfl ?_
        go_big_quiet_step (fail)
        exact wpQuiet_nil (hK _ _ (rfl) bR)
       ·intro _ f wq hC hd KK hK
        have g5 : f 5 = .int .u8 z := hd 5 (by kernel_rfl)
        clear hd
        simp only [tkS, tkZ, setAll, siB, stS, stZ, Nat.zero_add, Nat.reduceAdd, g5] at hK ⊢
        refine wp_of_quiet rfl ?_
        go_big_quiet_step (fail)
        exact wpQuiet_nil (hK _ _ (by first | rfl | (simp; assumption) | (simp; omega) | simp) bR)
       ·intro _ f wq hC hd KK hK
        clear hd
        simp only [tkS, tkZ, setAll, siB, stS, stZ, Nat.zero_add, Nat.reduceAdd] at hK ⊢
        refine wp_of_quiet rfl ?_
        go_big_quiet_step (fail)
        exact wpQuiet_nil (hK _ _ (rfl) bR)
       ·intro _ f wq hC hd KK hK
        have g6 : f 6 = .bool false := hd 6 (by kernel_rfl)
        have g7 : f 7 = .bool false := hd 7 (by kernel_rfl)
        clear hd
        simp only [tkS, tkZ, setAll, siB, stS, stZ, Nat.zero_add, Nat.reduceAdd, g6, g7] at hK ⊢
        refine wp_of_quiet rfl ?_
        go_big_quiet_step (fail)
        exact wpQuiet_nil (hK _ _ (by first | rfl | (simp; assumption) | (simp; omega) | simp) bR)
       ·intro _ f wq hC hd KK hK
        have g8 : f 8 = .bool false := hd 8 (by kernel_rfl)
        clear hd
        simp only [tkS, tkZ, setAll, siB, stS, stZ, Nat.zero_add, Nat.reduceAdd, g8] at hK ⊢
        refine wp_of_quiet rfl ?_
        go_big_quiet_step (fail)
        exact wpQuiet_nil (hK _ _ (rfl) bR)
       ·intro _ f wq hC hd KK hK
        clear hd
        simp only [tkS, tkZ, setAll, siB, stS, stZ, Nat.zero_add, Nat.reduceAdd] at hK ⊢
        refine wp_unguard ?_
        refine wp_of_quiet rfl ?_
        go_big_quiet_step (fail)
        exact wpQuiet_nil (hK _ _ (rfl) bR)
       ·intro _ f wq hC hd KK hK
        have g10 : f 10 = .bool false := hd 10 (by kernel_rfl)
        clear hd
        simp only [tkS, tkZ, setAll, siB, stS, stZ, Nat.zero_add, Nat.reduceAdd, g10] at hK ⊢
        refine wp_unguard ?_
        refine wp_of_quiet rfl ?_
        go_big_quiet_step (fail)
        exact wpQuiet_nil (hK _ _ (rfl) bR)
       ·intro hh; cases hh
       ·intro hh; cases hh
       ·intro hh; cases hh
       ·intro hh; cases hh
       ·intro hh; cases hh
       ·intro hh; cases hh
       ·intro hh; cases hh
       ·intro hh; cases hh
       ·intro hh; cases hh
       ·intro hh; cases hh
       ·intro hh; cases hh
       ·intro hh; cases hh
       ·intro hh; cases hh
       ·intro hh; cases hh
       ·intro _ f wq hC hd KK hK
        have g11 : f 11 = .bool false := hd 11 (by kernel_rfl)
        clear hd
        simp only [tkS, tkZ, setAll, siB, stS, stZ, Nat.zero_add, Nat.reduceAdd, g11] at hK ⊢
        refine wp_unguard ?_
        refine wp_of_quiet rfl ?_
        go_big_quiet_step (fail)
        exact wpQuiet_nil (hK _ _ (rfl) bR)
       ·intro _ f wq hC hd KK hK
        have g9 : f 9 = .bool false := hd 9 (by kernel_rfl)
        have g26 : f 26 = .bool false := hd 26 (by kernel_rfl)
        clear hd
        simp only [tkS, tkZ, setAll, siB, stS, stZ, Nat.zero_add, Nat.reduceAdd, g9, g26] at hK ⊢
        refine wp_of_quiet rfl ?_
        go_big_quiet_step (fail)
        exact wpQuiet_nil (hK _ _ (rfl) bR)
      ·intro f wz hC hv
       have p0 : f 0 = .pointer (some ⟨w.heap.size, 2, none⟩) := hv 0 (by decide)
       have p1 : f 1 = .slice (some ⟨b, o, none⟩) n cp := hv 1 (by decide)
       have p2 : f 2 = .int .i64 (k : Int) := hv 2 (by decide)
       have p3 : f 3 = .pointer (some ⟨b, o + k * 15, none⟩) := hv 3 (by decide)
       have p4 : f 4 = .pointer (some ⟨b, o + k * 15 + 4, none⟩) := hv 4 (by decide)
       have p5 : f 5 = .int .u8 z := hv 5 (by decide)
       have p6 : f 6 = .bool false := hv 6 (by decide)
       have p7 : f 7 = .bool false := hv 7 (by decide)
       have p8 : f 8 = .bool false := hv 8 (by decide)
       have p9 : f 9 = .bool false := hv 9 (by decide)
       have p10 : f 10 = .bool false := hv 10 (by decide)
       have p11 : f 11 = .bool false := hv 11 (by decide)
       have p26 : f 26 = .bool false := hv 26 (by decide)
       have p27 : f 27 = .bool false := hv 27 (by decide)
       simp only [tkS, tkZ, List.drop_succ_cons, List.drop_zero, setAll, siB, stS, stZ, Nat.zero_add, Nat.reduceAdd, p0, p1, p2, p3, p4, p5, p6, p7, p8, p9, p10, p11, p26, p27]
       clear hv p0 p1 p2 p3 p4 p5 p6 p7 p8 p9 p10 p11 p26 p27
       have F7 := Box'.mk hC
       clear hC F5
       go_wp2_with fail
       by_cases h2 : z = 2
       case neg =>
        have E : ∀ j, j < k + 1 → okAt cols c j = true := KN.out (by rw [okE.out, hH, decide_eq_false (show ¬ (cat c k).wd = 0 by omega), decide_eq_false (show ¬ (cat c k).wd = 2 by omega)]; rfl)
        refine wp_region_growh 17 (by kernel_rfl) 100 rfl (by kernel_rfl) (fun wa wb => Below wa.heap.size wa wb) (fun wa => GrM w (gA (cols : Int) (rows : Int) (.slice (some ⟨b, o, none⟩) n cp)) wa) (fun kc wa v => match kc with
         | 0 => v = .pointer (some ⟨w.heap.size, 2, none⟩)
         | 1 => v = .slice (some ⟨b, o, none⟩) n cp
         | 2 => v = .int .i64 (k : Int)
         | 3 => v = .pointer (some ⟨b, o + k * 15, none⟩)
         | 4 => v = .pointer (some ⟨b, o + k * 15 + 4, none⟩)
         | 5 => v = .int .u8 z
         | 6 => v = .bool false
         | 7 => v = .bool false
         | 8 => v = undef
         | 9 => v = undef
         | 10 => v = undef
         | 11 => v = undef
         | 12 => v = undef
         | 13 => v = undef
         | 14 => v = undef
         | 15 => v = undef
         | 16 => v = .bool false
         | _ => True) (fun i => !([8, 9, 10, 11, 12, 13, 14, 15] : List Nat).contains i) ?_ ?_ ?_ ?_ ?_ ?_ ?_ ?_
        ·intro i o' j b' hi hg wa v hC hV
         have hlt : i < 17 := by rcases Nat.lt_or_ge i 17 with q | q; exact q; rw [List.getElem?_eq_none (by simpa using q)] at hi; cases hi
         revert hi hg hV
         rcases (show i = 0 ∨ i = 1 ∨ i = 2 ∨ i = 3 ∨ i = 4 ∨ i = 5 ∨ i = 6 ∨ i = 7 ∨ i = 8 ∨ i = 9 ∨ i = 10 ∨ i = 11 ∨ i = 12 ∨ i = 13 ∨ i = 14 ∨ i = 15 ∨ i = 16 by omega) with rfl | rfl | rfl | rfl | rfl | rfl | rfl | rfl | rfl | rfl | rfl | rfl | rfl | rfl | rfl | rfl | rfl <;>
          (intro hi hg hV; simp only [tkS, List.getElem?_cons_zero, List.getElem?_cons_succ, Option.some.injEq] at hi; subst hi; first | (cases hg; first | exact hV | exact (show v ≠ _ from (by rw [hV]; intro hh; cases hh))) | (cases hg))
        ·intro i o' hi hg
         have hlt : i < 17 := by rcases Nat.lt_or_ge i 17 with q | q; exact q; rw [List.getElem?_eq_none (by simpa using q)] at hi; cases hi
         revert hi hg
         rcases (show i = 0 ∨ i = 1 ∨ i = 2 ∨ i = 3 ∨ i = 4 ∨ i = 5 ∨ i = 6 ∨ i = 7 ∨ i = 8 ∨ i = 9 ∨ i = 10 ∨ i = 11 ∨ i = 12 ∨ i = 13 ∨ i = 14 ∨ i = 15 ∨ i = 16 by omega) with rfl | rfl | rfl | rfl | rfl | rfl | rfl | rfl | rfl | rfl | rfl | rfl | rfl | rfl | rfl | rfl | rfl <;>
          (intro hi hg; simp only [tkS, List.getElem?_cons_zero, List.getElem?_cons_succ, Option.some.injEq] at hi; subst hi; first | (cases hg; done) | (intro hh; cases hh))
        ·intro i hi wa
         have hi' : (!([8, 9, 10, 11, 12, 13, 14, 15] : List Nat).contains i) = false := hi
         have hm : i ∈ ([8, 9, 10, 11, 12, 13, 14, 15] : List Nat) := List.contains_iff_mem.1 (by cases hc : ([8, 9, 10, 11, 12, 13, 14, 15] : List Nat).contains i with | true => rfl | false => rw [hc] at hi'; cases hi')
         simp only [List.mem_cons, List.not_mem_nil, or_false] at hm
         rcases hm with rfl | rfl | rfl | rfl | rfl | rfl | rfl | rfl <;> rfl
        ·intro wa wb hb q; exact q.below hb
        ·intro kc v wa wb hC1 hb h
         match kc, h with
         | 0, h => exact h
         | 1, h => exact h
         | 2, h => exact h
         | 3, h => exact h
         | 4, h => exact h
         | 5, h => exact h
         | 6, h => exact h
         | 7, h => exact h
         | 8, h => exact h
         | 9, h => exact h
         | 10, h => exact h
         | 11, h => exact h
         | 12, h => exact h
         | 13, h => exact h
         | 14, h => exact h
         | 15, h => exact h
         | 16, h => exact h
         | kc + 17, h => trivial
        ·exact F7.out.drew
        ·refine ⟨?_, ?_, ?_, ?_, ?_, ?_, ?_, ?_, ?_, ?_, ?_, ?_, ?_, ?_, ?_, ?_, ?_, trivial⟩
         ·intro _ f wq hC hd KK hK
          clear hd
          simp only [tkS, tkZ, setAll, siB, stS, stZ, Nat.zero_add, Nat.reduceAdd] at hK ⊢
          refine wp_of_quiet rfl ?_
          go_big_quiet_step (fail)
          exact wpQuiet_nil (hK _ _ (rfl) bR)
         ·intro _ f wq hC hd KK hK
          have g0 : f 0 = .pointer (some ⟨w.heap.size, 2, none⟩) := hd 0 (by kernel_rfl)
          clear hd
          have c2 : wq.cell? ⟨w.heap.size, 2, none⟩ = some (.slice (some ⟨b, o, none⟩) n cp) := hC.rg.cell 2
          clear hC
          simp only [tkS, tkZ, setAll, siB, stS, stZ, Nat.zero_add, Nat.reduceAdd, g0] at hK ⊢
          refine wp_of_quiet rfl ?_
          go_big_quiet_step (fail)
          exact wpQuiet_nil (hK _ _ (rfl) bR)
         ·intro _ f wq hC hd KK hK
          clear hd
          simp only [tkS, tkZ, setAll, siB, stS, stZ, Nat.zero_add, Nat.reduceAdd] at hK ⊢
          refine wp_of_quiet rfl ?_
          go_big_quiet_step (fail)
          exact wpQuiet_nil (hK _ _ (rfl) bR)
         ·intro _ f wq hC hd KK hK
          have g1 : f 1 = .slice (some ⟨b, o, none⟩) n cp := hd 1 (by kernel_rfl)
          have g2 : f 2 = .int .i64 (k : Int) := hd 2 (by kernel_rfl)
          clear hd
          simp only [tkS, tkZ, setAll, siB, stS, stZ, Nat.zero_add, Nat.reduceAdd, g1, g2] at hK ⊢
          refine wp_of_quiet rfl ?_
          go_big_quiet_step (fail)
          exact wpQuiet_nil (hK _ _ (rfl) bR)
         ·intro _ f wq hC hd KK hK
          have g3 : f 3 = .pointer (some ⟨b, o + k * 15, none⟩) := hd 3 (by kernel_rfl)
          clear hd
          simp only [tkS, tkZ, setAll, siB, stS, stZ, Nat.zero_add, Nat.reduceAdd, g3] at hK ⊢
          refine wp_of_quiet rfl ?_
          go_big_quiet_step (fail)
          exact wpQuiet_nil (hK _ _ (rfl) bR)
         ·intro _ f wq hC hd KK hK
          have g4 : f 4 = .pointer (some ⟨b, o + k * 15 + 4, none⟩) := hd 4 (by kernel_rfl)
          clear hd
          have c4 : wq.cell? ⟨b, o + k * 15 + 4, none⟩ = some (.int .u8 z) := by rw [HW.out k wq hlt hC.be, hz]
          clear hC
          simp only [tkS, tkZ, setAll, siB, stS, stZ, Nat.zero_add, Nat.reduceAdd, g4] at hK ⊢
          refine wp_of_quiet rfl ?_
          go_big_quiet_step (fail)
          exact wpQuiet_nil (hK _ _ (rfl) bR)
         ·intro _ f wq hC hd KK hK
          have g5 : f 5 = .int .u8 z := hd 5 (by kernel_rfl)
          clear hd
          simp only [tkS, tkZ, setAll, siB, stS, stZ, Nat.zero_add, Nat.reduceAdd, g5] at hK ⊢
          refine wp_of_quiet rfl ?_
          go_big_quiet_step (fail)
          exact wpQuiet_nil (hK _ _ (by first | rfl | (simp; assumption) | (simp; omega) | simp) bR)
         ·intro _ f wq hC hd KK hK
          have g6 : f 6 = .bool false := hd 6 (by kernel_rfl)
          clear hd
          simp only [tkS, tkZ, setAll, siB, stS, stZ, Nat.zero_add, Nat.reduceAdd, g6] at hK ⊢
          refine wp_of_quiet rfl ?_
          go_big_quiet_step (fail)
          exact wpQuiet_nil (hK _ _ (rfl) bR)
         ·intro hh; cases hh
         ·intro hh; cases hh
         ·intro hh; cases hh
         ·intro hh; cases hh
         ·intro hh; cases hh
         ·intro hh; cases hh
         ·intro hh; cases hh
         ·intro hh; cases hh
         ·intro _ f wq hC hd KK hK
          have g7 : f 7 = .bool false := hd 7 (by kernel_rfl)
          clear hd
          simp only [tkS, tkZ, setAll, siB, stS, stZ, Nat.zero_add, Nat.reduceAdd, g7] at hK ⊢
          refine wp_of_quiet rfl ?_
          go_big_quiet_step (fail)
          exact wpQuiet_nil (hK _ _ (rfl) bR)
        ·intro f wz hC hv
         have p0 : f 0 = .pointer (some ⟨w.heap.size, 2, none⟩) := hv 0 (by decide)
         have p1 : f 1 = .slice (some ⟨b, o, none⟩) n cp := hv 1 (by decide)
         have p2 : f 2 = .int .i64 (k : Int) := hv 2 (by decide)
         have p3 : f 3 = .pointer (some ⟨b, o + k * 15, none⟩) := hv 3 (by decide)
         have p4 : f 4 = .pointer (some ⟨b, o + k * 15 + 4, none⟩) := hv 4 (by decide)
         have p5 : f 5 = .int .u8 z := hv 5 (by decide)
         have p6 : f 6 = .bool false := hv 6 (by decide)
         have p7 : f 7 = .bool false := hv 7 (by decide)
         have p16 : f 16 = .bool false := hv 16 (by decide)
         simp only [tkS, tkZ, List.drop_succ_cons, List.drop_zero, setAll, siB, stS, stZ, Nat.zero_add, Nat.reduceAdd, p0, p1, p2, p3, p4, p5, p6, p7, p16]
         clear hv p0 p1 p2 p3 p4 p5 p6 p7 p16
         have F9 := Box'.mk hC
         clear hC
         go_wp2_with fail
         exact ⟨⟨k + 1, by omega, by go_num, ⟨E⟩, F9⟩, by simp [intOf]; omega⟩
       case pos =>
        subst h2
        by_cases hl : k % cols = cols - 1
        case pos =>
         have E := Box'.mk (KF.out (by rw [okE.out, decide_eq_true (show (cat c k).wd = 2 by omega), decide_eq_true hl]; simp))
         have hlast : (k : Int) % (cols : Int) = (cols : Int) - 1 := by rw [← Int.natCast_emod]; omega
         refine wp_region_growg 17 (by kernel_rfl) 100 rfl (by kernel_rfl) (fun wa wb => Below wa.heap.size wa wb) (fun wa => GrM w (gA (cols : Int) (rows : Int) (.slice (some ⟨b, o, none⟩) n cp)) wa) (fun kc wa v => match kc with
          | 0 => v = .pointer (some ⟨w.heap.size, 2, none⟩)
          | 1 => v = .slice (some ⟨b, o, none⟩) n cp
          | 2 => v = .int .i64 (k : Int)
          | 3 => v = .pointer (some ⟨b, o + k * 15, none⟩)
          | 4 => v = .pointer (some ⟨b, o + k * 15 + 4, none⟩)
          | 5 => v = .int .u8 2
          | 6 => v = .bool true
          | 7 => v = .bool true
          | 8 => v = .int .i64 (k : Int)
          | 9 => v = .pointer (some ⟨w.heap.size, 0, none⟩)
          | 10 => v = .int .i64 (cols : Int)
          | 11 => v = .int .i64 ((k : Int) % (cols : Int))
          | 12 => v = .pointer (some ⟨w.heap.size, 0, none⟩)
          | 13 => v = .int .i64 (cols : Int)
          | 14 => v = .int .i64 ((cols : Int) - 1)
          | 15 => v = .bool true
          | 16 => v = .bool true
          | _ => True) ?_ ?_ ?_ ?_ ?_ ?_
         ·intro i o' j b' hi hg wa v hC hV
          have hlt : i < 17 := by rcases Nat.lt_or_ge i 17 with q | q; exact q; rw [List.getElem?_eq_none (by simpa using q)] at hi; cases hi
          revert hi hg hV
          rcases (show i = 0 ∨ i = 1 ∨ i = 2 ∨ i = 3 ∨ i = 4 ∨ i = 5 ∨ i = 6 ∨ i = 7 ∨ i = 8 ∨ i = 9 ∨ i = 10 ∨ i = 11 ∨ i = 12 ∨ i = 13 ∨ i = 14 ∨ i = 15 ∨ i = 16 by omega) with rfl | rfl | rfl | rfl | rfl | rfl | rfl | rfl | rfl | rfl | rfl | rfl | rfl | rfl | rfl | rfl | rfl <;>
           (intro hi hg hV; simp only [tkS, List.getElem?_cons_zero, List.getElem?_cons_succ, Option.some.injEq] at hi; subst hi; first | (cases hg; exact hV) | (cases hg))
         ·intro wa wb hb q; exact q.below hb
         ·intro kc v wa wb hC1 hb h
          match kc, h with
          | 0, h => exact h
          | 1, h => exact h
          | 2, h => exact h
          | 3, h => exact h
          | 4, h => exact h
          | 5, h => exact h
          | 6, h => exact h
          | 7, h => exact h
          | 8, h => exact h
          | 9, h => exact h
          | 10, h => exact h
          | 11, h => exact h
          | 12, h => exact h
          | 13, h => exact h
          | 14, h => exact h
          | 15, h => exact h
          | 16, h => exact h
          | kc + 17, h => trivial
         ·exact F7.out.drew
         ·refine ⟨?_, ?_, ?_, ?_, ?_, ?_, ?_, ?_, ?_, ?_, ?_, ?_, ?_, ?_, ?_, ?_, ?_, trivial⟩
          ·intro f wq hC hd KK hK
           clear hd
           simp only [tkS, tkZ, setAll, siB, stS, stZ, Nat.zero_add, Nat.reduceAdd] at hK ⊢
           refine wp_of_quiet rfl ?_
           go_big_quiet_step (fail)
           exact wpQuiet_nil (hK _ _ (rfl) bR)
          ·intro f wq hC hd KK hK
           have g0 : f 0 = .pointer (some ⟨w.heap.size, 2, none⟩) := hd 0 (by kernel_rfl)
           clear hd
           have c2 : wq.cell? ⟨w.heap.size, 2, none⟩ = some (.slice (some ⟨b, o, none⟩) n cp) := hC.rg.cell 2
           clear hC
           simp only [tkS, tkZ, setAll, siB, stS, stZ, Nat.zero_add, Nat.reduceAdd, g0] at hK ⊢
           refine wp_of_quiet rfl ?_
           go_big_quiet_step (fail)
           exact wpQuiet_nil (hK _ _ (rfl) bR)
          ·intro f wq hC hd KK hK
           clear hd
           simp only [tkS, tkZ, setAll, siB, stS, stZ, Nat.zero_add, Nat.reduceAdd] at hK ⊢
           refine wp_of_quiet rfl ?_
           go_big_quiet_step (fail)
           exact wpQuiet_nil (hK _ _ (rfl) bR)
          ·intro f wq hC hd KK hK
           have g1 : f 1 = .slice (some ⟨b, o, none⟩) n cp := hd 1 (by kernel_rfl)
           have g2 : f 2 = .int .i64 (k : Int) := hd 2 (by kernel_rfl)
           clear hd
           simp only [tkS, tkZ, setAll, siB, stS, stZ, Nat.zero_add, Nat.reduceAdd, g1, g2] at hK ⊢
           refine wp_of_quiet rfl ?_
           go_big_quiet_step (fail)
           exact wpQuiet_nil (hK _ _ (rfl) bR)
          ·intro f wq hC hd KK hK
           have g3 : f 3 = .pointer (some ⟨b, o + k * 15, none⟩) := hd 3 (by kernel_rfl)
           clear hd
           simp only [tkS, tkZ, setAll, siB, stS, stZ, Nat.zero_add, Nat.reduceAdd, g3] at hK ⊢
           refine wp_of_quiet rfl ?_
           go_big_quiet_step (fail)
           exact wpQuiet_nil (hK _ _ (rfl) bR)
          ·intro f wq hC hd KK hK
           have g4 : f 4 = .pointer (some ⟨b, o + k * 15 + 4, none⟩) := hd 4 (by kernel_rfl)
           clear hd
           have c4 : wq.cell? ⟨b, o + k * 15 + 4, none⟩ = some (.int .u8 2) := by rw [HW.out k wq hlt hC.be, hz]
           clear hC
           simp only [tkS, tkZ, setAll, siB, stS, stZ, Nat.zero_add, Nat.reduceAdd, g4] at hK ⊢
           refine wp_of_quiet rfl ?_
           go_big_quiet_step (fail)
           exact wpQuiet_nil (hK _ _ (rfl) bR)
          ·intro f wq hC hd KK hK
           have g5 : f 5 = .int .u8 2 := hd 5 (by kernel_rfl)
           clear hd
           simp only [tkS, tkZ, setAll, siB, stS, stZ, Nat.zero_add, Nat.reduceAdd, g5] at hK ⊢
           refine wp_of_quiet rfl ?_
           go_big_quiet_step (fail)
           exact wpQuiet_nil (hK _ _ (by first | rfl | (simp; assumption) | (simp; omega) | simp) bR)
          ·intro f wq hC hd KK hK
           have g6 : f 6 = .bool true := hd 6 (by kernel_rfl)
           clear hd
           simp only [tkS, tkZ, setAll, siB, stS, stZ, Nat.zero_add, Nat.reduceAdd, g6] at hK ⊢
           refine wp_of_quiet rfl ?_
           go_big_quiet_step (fail)
           exact wpQuiet_nil (hK _ _ (rfl) bR)
          ·intro f wq hC hd KK hK
           clear hd
           simp only [tkS, tkZ, setAll, siB, stS, stZ, Nat.zero_add, Nat.reduceAdd] at hK ⊢
           refine wp_unguard ?_
           refine wp_of_quiet rfl ?_
           go_big_quiet_step (fail)
           exact wpQuiet_nil (hK _ _ (rfl) bR)
          ·intro f wq hC hd KK hK
           clear hd
           simp only [tkS, tkZ, setAll, siB, stS, stZ, Nat.zero_add, Nat.reduceAdd] at hK ⊢
           refine wp_unguard ?_
           refine wp_of_quiet rfl ?_
           go_big_quiet_step (fail)
           exact wpQuiet_nil (hK _ _ (rfl) bR)
          ·intro f wq hC hd KK hK
           have g9 : f 9 = .pointer (some ⟨w.heap.size, 0, none⟩) := hd 9 (by kernel_rfl)
           clear hd
           have c0 : wq.cell? ⟨w.heap.size, 0, none⟩ = some (.int .i64 (cols : Int)) := hC.rg.cell 0
           clear hC
           simp only [tkS, tkZ, setAll, siB, stS, stZ, Nat.zero_add, Nat.reduceAdd, g9] at hK ⊢
           refine wp_unguard ?_
           refine wp_of_quiet rfl ?_
           go_big_quiet_step (fail)
           exact wpQuiet_nil (hK _ _ (rfl) bR)
          ·intro f wq hC hd KK hK
           have g8 : f 8 = .int .i64 (k : Int) := hd 8 (by kernel_rfl)
           have g10 : f 10 = .int .i64 (cols : Int) := hd 10 (by kernel_rfl)
           clear hd
           simp only [tkS, tkZ, setAll, siB, stS, stZ, Nat.zero_add, Nat.reduceAdd, g8, g10] at hK ⊢
           refine wp_unguard ?_
           refine wp_of_quiet rfl ?_
           go_big_quiet_step (fail)
           exact wpQuiet_nil (hK _ _ (rfl) bR)
          ·intro f wq hC hd KK hK
           clear hd
           simp only [tkS, tkZ, setAll, siB, stS, stZ, Nat.zero_add, Nat.reduceAdd] at hK ⊢
           refine wp_unguard ?_
           refine wp_of_quiet rfl ?_
           go_big_quiet_step (fail)
           exact wpQuiet_nil (hK _ _ (rfl) bR)
          ·intro f wq hC hd KK hK
           have g12 : f 12 = .pointer (some ⟨w.heap.size, 0, none⟩) := hd 12 (by kernel_rfl)
           clear hd
           have c0 : wq.cell? ⟨w.heap.size, 0, none⟩ = some (.int .i64 (cols : Int)) := hC.rg.cell 0
           clear hC
           simp only [tkS, tkZ, setAll, siB, stS, stZ, Nat.zero_add, Nat.reduceAdd, g12] at hK ⊢
           refine wp_unguard ?_
           refine wp_of_quiet rfl ?_
           go_big_quiet_step (fail)
           exact wpQuiet_nil (hK _ _ (rfl) bR)
          ·intro f wq hC hd KK hK
           have g13 : f 13 = .int .i64 (cols : Int) := hd 13 (by kernel_rfl)
           clear hd
           simp only [tkS, tkZ, setAll, siB, stS, stZ, Nat.zero_add, Nat.reduceAdd, g13] at hK ⊢
           refine wp_unguard ?_
           refine wp_of_quiet rfl ?_
           go_big_quiet_step (fail)
           exact wpQuiet_nil (hK _ _ (rfl) bR)
          ·intro f wq hC hd KK hK
           have g11 : f 11 = .int .i64 ((k : Int) % (cols : Int)) := hd 11 (by kernel_rfl)
           have g14 : f 14 = .int .i64 ((cols : Int) - 1) := hd 14 (by kernel_rfl)
           clear hd
           simp only [tkS, tkZ, setAll, siB, stS, stZ, Nat.zero_add, Nat.reduceAdd, g11, g14] at hK ⊢
           refine wp_unguard ?_
           refine wp_of_quiet rfl ?_
           go_big_quiet_step (fail)
           exact wpQuiet_nil (hK _ _ (by first | rfl | (simp; assumption) | (simp [hlast]; done) | (simp; omega)) bR)
          ·intro f wq hC hd KK hK
           have g7 : f 7 = .bool true := hd 7 (by kernel_rfl)
           have g15 : f 15 = .bool true := hd 15 (by kernel_rfl)
           clear hd
           simp only [tkS, tkZ, setAll, siB, stS, stZ, Nat.zero_add, Nat.reduceAdd, g7, g15] at hK ⊢
           refine wp_of_quiet rfl ?_
           go_big_quiet_step (fail)
           exact wpQuiet_nil (hK _ _ (rfl) bR)
         ·intro f wz hC hv
          have p0 : f 0 = .pointer (some ⟨w.heap.size, 2, none⟩) := hv 0 (by decide)
          have p1 : f 1 = .slice (some ⟨b, o, none⟩) n cp := hv 1 (by decide)
          have p2 : f 2 = .int .i64 (k : Int) := hv 2 (by decide)
          have p3 : f 3 = .pointer (some ⟨b, o + k * 15, none⟩) := hv 3 (by decide)
          have p4 : f 4 = .pointer (some ⟨b, o + k * 15 + 4, none⟩) := hv 4 (by decide)
          have p5 : f 5 = .int .u8 2 := hv 5 (by decide)
          have p6 : f 6 = .bool true := hv 6 (by decide)
          have p7 : f 7 = .bool true := hv 7 (by decide)
          have p8 : f 8 = .int .i64 (k : Int) := hv 8 (by decide)
          have p9 : f 9 = .pointer (some ⟨w.heap.size, 0, none⟩) := hv 9 (by decide)
          have p10 : f 10 = .int .i64 (cols : Int) := hv 10 (by decide)
          have p11 : f 11 = .int .i64 ((k : Int) % (cols : Int)) := hv 11 (by decide)
          have p12 : f 12 = .pointer (some ⟨w.heap.size, 0, none⟩) := hv 12 (by decide)
          have p13 : f 13 = .int .i64 (cols : Int) := hv 13 (by decide)
          have p14 : f 14 = .int .i64 ((cols : Int) - 1) := hv 14 (by decide)
          have p15 : f 15 = .bool true := hv 15 (by decide)
          have p16 : f 16 = .bool true := hv 16 (by decide)
          simp only [tkS, tkZ, List.drop_succ_cons, List.drop_zero, setAll, siB, stS, stZ, Nat.zero_add, Nat.reduceAdd, p0, p1, p2, p3, p4, p5, p6, p7, p8, p9, p10, p11, p12, p13, p14, p15, p16]
          clear hv p0 p1 p2 p3 p4 p5 p6 p7 p8 p9 p10 p11 p12 p13 p14 p15 p16
          have F9 := Box'.mk hC
          clear hC
          go_wp2_with fail
          go_ret
          exact ⟨by rw [E.out]; rfl, F9.out.be⟩
        case neg =>
         have E : ∀ j, j < k + 1 → okAt cols c j = true := KN.out (by rw [okE.out, hH, decide_eq_false (show ¬ (cat c k).wd = 0 by omega), decide_eq_true (show (cat c k).wd = 2 by omega), decide_eq_false hl]; rfl)
         have hlast : ¬ (k : Int) % (cols : Int) = (cols : Int) - 1 := by rw [← Int.natCast_emod]; omega
         refine wp_region_growg 17 (by kernel_rfl) 100 rfl (by kernel_rfl) (fun wa wb => Below wa.heap.size wa wb) (fun wa => GrM w (gA (cols : Int) (rows : Int) (.slice (some ⟨b, o, none⟩) n cp)) wa) (fun kc wa v => match kc with
          | 0 => v = .pointer (some ⟨w.heap.size, 2, none⟩)
          | 1 => v = .slice (some ⟨b, o, none⟩) n cp
          | 2 => v = .int .i64 (k : Int)
          | 3 => v = .pointer (some ⟨b, o + k * 15, none⟩)
          | 4 => v = .pointer (some ⟨b, o + k * 15 + 4, none⟩)
          | 5 => v = .int .u8 2
          | 6 => v = .bool true
          | 7 => v = .bool true
          | 8 => v = .int .i64 (k : Int)
          | 9 => v = .pointer (some ⟨w.heap.size, 0, none⟩)
          | 10 => v = .int .i64 (cols : Int)
          | 11 => v = .int .i64 ((k : Int) % (cols : Int))
          | 12 => v = .pointer (some ⟨w.heap.size, 0, none⟩)
          | 13 => v = .int .i64 (cols : Int)
          | 14 => v = .int .i64 ((cols : Int) - 1)
          | 15 => v = .bool false
          | 16 => v = .bool false
          | _ => True) ?_ ?_ ?_ ?_ ?_ ?_
         ·intro i o' j b' hi hg wa v hC hV
          have hlt : i < 17 := by rcases Nat.lt_or_ge i 17 with q | q; exact q; rw [List.getElem?_eq_none (by simpa using q)] at hi; cases hi
          revert hi hg hV
          rcases (show i = 0 ∨ i = 1 ∨ i = 2 ∨ i = 3 ∨ i = 4 ∨ i = 5 ∨ i = 6 ∨ i = 7 ∨ i = 8 ∨ i = 9 ∨ i = 10 ∨ i = 11 ∨ i = 12 ∨ i = 13 ∨ i = 14 ∨ i = 15 ∨ i = 16 by omega) with rfl | rfl | rfl | rfl | rfl | rfl | rfl | rfl | rfl | rfl | rfl | rfl | rfl | rfl | rfl | rfl | rfl <;>
           (intro hi hg hV; simp only [tkS, List.getElem?_cons_zero, List.getElem?_cons_succ, Option.some.injEq] at hi; subst hi; first | (cases hg; exact hV) | (cases hg))
         ·intro wa wb hb q; exact q.below hb
         ·intro kc v wa wb hC1 hb h
          match kc, h with
          | 0, h => exact h
          | 1, h => exact h
          | 2, h => exact h
          | 3, h => exact h
          | 4, h => exact h
          | 5, h => exact h
          | 6, h => exact h
          | 7, h => exact h
          | 8, h => exact h
          | 9, h => exact h
          | 10, h => exact h
          | 11, h => exact h
          | 12, h => exact h
          | 13, h => exact h
          | 14, h => exact h
          | 15, h => exact h
          | 16, h => exact h
          | kc + 17, h => trivial
         ·exact F7.out.drew
         ·refine ⟨?_, ?_, ?_, ?_, ?_, ?_, ?_, ?_, ?_, ?_, ?_, ?_, ?_, ?_, ?_, ?_, ?_, trivial⟩
          ·intro f wq hC hd KK hK
           clear hd
           simp only [tkS, tkZ, setAll, siB, stS, stZ, Nat.zero_add, Nat.reduceAdd] at hK ⊢
           refine wp_of_quiet rfl ?_
           go_big_quiet_step (fail)
           exact wpQuiet_nil (hK _ _ (rfl) bR)
          ·intro f wq hC hd KK hK
           have g0 : f 0 = .pointer (some ⟨w.heap.size, 2, none⟩) := hd 0 (by kernel_rfl)
           clear hd
           have c2 : wq.cell? ⟨w.heap.size, 2, none⟩ = some (.slice (some ⟨b, o, none⟩) n cp) := hC.rg.cell 2
           clear hC
           simp only [tkS, tkZ, setAll, siB, stS, stZ, Nat.zero_add, Nat.reduceAdd, g0] at hK ⊢
           refine wp_of_quiet rfl ?_
           go_big_quiet_step (fail)
           exact wpQuiet_nil (hK _ _ (rfl) bR)
          ·intro f wq hC hd KK hK
           clear hd
           simp only [tkS, tkZ, setAll, siB, stS, stZ, Nat.zero_add, Nat.reduceAdd] at hK ⊢
           refine wp_of_quiet rfl ?_
           go_big_quiet_step (fail)
           exact wpQuiet_nil (hK _ _ (rfl) bR)
          ·intro f wq hC hd KK hK
           have g1 : f 1 = .slice (some ⟨b, o, none⟩) n cp := hd 1 (by kernel_rfl)
           have g2 : f 2 = .int .i64 (k : Int) := hd 2 (by kernel_rfl)
           clear hd
           simp only [tkS, tkZ, setAll, siB, stS, stZ, Nat.zero_add, Nat.reduceAdd, g1, g2] at hK ⊢
           refine wp_of_quiet rfl ?_
           go_big_quiet_step (fail)
           exact wpQuiet_nil (hK _ _ (rfl) bR)
          ·intro f wq hC hd KK hK
           have g3 : f 3 = .pointer (some ⟨b, o + k * 15, none⟩) := hd 3 (by kernel_rfl)
           clear hd
           simp only [tkS, tkZ, setAll, siB, stS, stZ, Nat.zero_add, Nat.reduceAdd, g3] at hK ⊢
           refine wp_of_quiet rfl ?_
           go_big_quiet_step (fail)
           exact wpQuiet_nil (hK _ _ (rfl) bR)
          ·intro f wq hC hd KK hK
           have g4 : f 4 = .pointer (some ⟨b, o + k * 15 + 4, none⟩) := hd 4 (by kernel_rfl)
           clear hd
           have c4 : wq.cell? ⟨b, o + k * 15 + 4, none⟩ = some (.int .u8 2) := by rw [HW.out k wq hlt hC.be, hz]
           clear hC
           simp only [tkS, tkZ, setAll, siB, stS, stZ, Nat.zero_add, Nat.reduceAdd, g4] at hK ⊢
           refine wp_of_quiet rfl ?_
           go_big_quiet_step (fail)
           exact wpQuiet_nil (hK _ _ (rfl) bR)
          ·intro f wq hC hd KK hK
           have g5 : f 5 = .int .u8 2 := hd 5 (by kernel_rfl)
           clear hd
           simp only [tkS, tkZ, setAll, siB, stS, stZ, Nat.zero_add, Nat.reduceAdd, g5] at hK ⊢
           refine wp_of_quiet rfl ?_
           go_big_quiet_step (fail)
           exact wpQuiet_nil (hK _ _ (by first | rfl | (simp; assumption) | (simp; omega) | simp) bR)
          ·intro f wq hC hd KK hK
           have g6 : f 6 = .bool true := hd 6 (by kernel_rfl)
           clear hd
           simp only [tkS, tkZ, setAll, siB, stS, stZ, Nat.zero_add, Nat.reduceAdd, g6] at hK ⊢
           refine wp_of_quiet rfl ?_
           go_big_quiet_step (fail)
           exact wpQuiet_nil (hK _ _ (rfl) bR)
          ·intro f wq hC hd KK hK
           clear hd
           simp only [tkS, tkZ, setAll, siB, stS, stZ, Nat.zero_add, Nat.reduceAdd] at hK ⊢
           refine wp_unguard ?_
           refine wp_of_quiet rfl ?_
           go_big_quiet_step (fail)
           exact wpQuiet_nil (hK _ _ (rfl) bR)
          ·intro f wq hC hd KK hK
           clear hd
           simp only [tkS, tkZ, setAll, siB, stS, stZ, Nat.zero_add, Nat.reduceAdd] at hK ⊢
           refine wp_unguard ?_
           refine wp_of_quiet rfl ?_
           go_big_quiet_step (fail)
           exact wpQuiet_nil (hK _ _ (rfl) bR)
          ·intro f wq hC hd KK hK
           have g9 : f 9 = .pointer (some ⟨w.heap.size, 0, none⟩) := hd 9 (by kernel_rfl)
           clear hd
           have c0 : wq.cell? ⟨w.heap.size, 0, none⟩ = some (.int .i64 (cols : Int)) := hC.rg.cell 0
           clear hC
           simp only [tkS, tkZ, setAll, siB, stS, stZ, Nat.zero_add, Nat.reduceAdd, g9] at hK ⊢
           refine wp_unguard ?_
           refine wp_of_quiet rfl ?_
           go_big_quiet_step (fail)
           exact wpQuiet_nil (hK _ _ (rfl) bR)
          ·intro f wq hC hd KK hK
           have g8 : f 8 = .int .i64 (k : Int) := hd 8 (by kernel_rfl)
           have g10 : f 10 = .int .i64 (cols : Int) := hd 10 (by kernel_rfl)
           clear hd
           simp only [tkS, tkZ, setAll, siB, stS, stZ, Nat.zero_add, Nat.reduceAdd, g8, g10] at hK ⊢
           refine wp_unguard ?_
           refine wp_of_quiet rfl ?_
           go_big_quiet_step (fail)
           exact wpQuiet_nil (hK _ _ (rfl) bR)
          ·intro f wq hC hd KK hK
           clear hd
           simp only [tkS, tkZ, setAll, siB, stS, stZ, Nat.zero_add, Nat.reduceAdd] at hK ⊢
           refine wp_unguard ?_
           refine wp_of_quiet rfl ?_
           go_big_quiet_step (fail)
           exact wpQuiet_nil (hK _ _ (rfl) bR)
          ·intro f wq hC hd KK hK
           have g12 : f 12 = .pointer (some ⟨w.heap.size, 0, none⟩) := hd 12 (by kernel_rfl)
           clear hd
           have c0 : wq.cell? ⟨w.heap.size, 0, none⟩ = some (.int .i64 (cols : Int)) := hC.rg.cell 0
           clear hC
           simp only [tkS, tkZ, setAll, siB, stS, stZ, Nat.zero_add, Nat.reduceAdd, g12] at hK ⊢
           refine wp_unguard ?_
           refine wp_of_quiet rfl ?_
           go_big_quiet_step (fail)
           exact wpQuiet_nil (hK _ _ (rfl) bR)
          ·intro f wq hC hd KK hK
           have g13 : f 13 = .int .i64 (cols : Int) := hd 13 (by kernel_rfl)
           clear hd
           simp only [tkS, tkZ, setAll, siB, stS, stZ, Nat.zero_add, Nat.reduceAdd, g13] at hK ⊢
           refine wp_unguard ?_
           refine wp_of_quiet rfl ?_
           go_big_quiet_step (fail)
           exact wpQuiet_nil (hK _ _ (rfl) bR)
          ·intro f wq hC hd KK hK
           have g11 : f 11 = .int .i64 ((k : Int) % (cols : Int)) := hd 11 (by kernel_rfl)
           have g14 : f 14 = .int .i64 ((cols : Int) - 1) := hd 14 (by kernel_rfl)
           clear hd
           simp only [tkS, tkZ, setAll, siB, stS, stZ, Nat.zero_add, Nat.reduceAdd, g11, g14] at hK ⊢
           refine wp_unguard ?_
           refine wp_of_quiet rfl ?_
           go_big_quiet_step (fail)
           exact wpQuiet_nil (hK _ _ (by first | rfl | (simp; assumption) | (simp [hlast]; done) | (simp; omega)) bR)
          ·intro f wq hC hd KK hK
           have g7 : f 7 = .bool true := hd 7 (by kernel_rfl)
           have g15 : f 15 = .bool false := hd 15 (by kernel_rfl)
           clear hd
           simp only [tkS, tkZ, setAll, siB, stS, stZ, Nat.zero_add, Nat.reduceAdd, g7, g15] at hK ⊢
           refine wp_of_quiet rfl ?_
           go_big_quiet_step (fail)
           exact wpQuiet_nil (hK _ _ (rfl) bR)
         ·intro f wz hC hv
          have p0 : f 0 = .pointer (some ⟨w.heap.size, 2, none⟩) := hv 0 (by decide)
          have p1 : f 1 = .slice (some ⟨b, o, none⟩) n cp := hv 1 (by decide)
          have p2 : f 2 = .int .i64 (k : Int) := hv 2 (by decide)
          have p3 : f 3 = .pointer (some ⟨b, o + k * 15, none⟩) := hv 3 (by decide)
          have p4 : f 4 = .pointer (some ⟨b, o + k * 15 + 4, none⟩) := hv 4 (by decide)
          have p5 : f 5 = .int .u8 2 := hv 5 (by decide)
          have p6 : f 6 = .bool true := hv 6 (by decide)
          have p7 : f 7 = .bool true := hv 7 (by decide)
          have p8 : f 8 = .int .i64 (k : Int) := hv 8 (by decide)
          have p9 : f 9 = .pointer (some ⟨w.heap.size, 0, none⟩) := hv 9 (by decide)
          have p10 : f 10 = .int .i64 (cols : Int) := hv 10 (by decide)
          have p11 : f 11 = .int .i64 ((k : Int) % (cols : Int)) := hv 11 (by decide)
          have p12 : f 12 = .pointer (some ⟨w.heap.size, 0, none⟩) := hv 12 (by decide)
          have p13 : f 13 = .int .i64 (cols : Int) := hv 13 (by decide)
          have p14 : f 14 = .int .i64 ((cols : Int) - 1) := hv 14 (by decide)
          have p15 : f 15 = .bool false := hv 15 (by decide)
          have p16 : f 16 = .bool false := hv 16 (by decide)
          simp only [tkS, tkZ, List.drop_succ_cons, List.drop_zero, setAll, siB, stS, stZ, Nat.zero_add, Nat.reduceAdd, p0, p1, p2, p3, p4, p5, p6, p7, p8, p9, p10, p11, p12, p13, p14, p15, p16]
          clear hv p0 p1 p2 p3 p4 p5 p6 p7 p8 p9 p10 p11 p12 p13 p14 p15 p16
          have F9 := Box'.mk hC
          clear hC
          go_wp2_with fail
          exact ⟨⟨k + 1, by omega, by go_num, ⟨E⟩, F9⟩, by simp [intOf]; omega⟩
/-- May, of every grid, as the reference asks. -/
theorem rmayg_any (co ro : Int) (v : Value) (c : List Cl) (w : World) (hv : Cls w.heap.size w v c) : Calls Try.prog 21 #[.agg (gA co ro v)] w fun e w' => e = .returned (.bool (mayG co ro c)) ∧ Below w.heap.size w w' := by
 cases h : sideF co with
 | false =>
  have e : mayG co ro c = false := by unfold mayG; rw [h]; rfl
  rw [e]
  exact rmayg_1 co ro v h w
 | true =>
  cases h2 : sideF ro with
  | false =>
   have e : mayG co ro c = false := by unfold mayG; rw [h, h2]; rfl
   rw [e]
   exact rmayg_2 co ro v h h2 w
  | true =>
   obtain ⟨rows, rfl, h3, h4⟩ := side_nat h2
   obtain ⟨cols, rfl, h1, h2'⟩ := side_nat h
   by_cases hl : c.length = cols * rows
   ·exact rmayg_4 cols rows v c h1 h2' h3 h4 hl w hv
   ·have e : mayG (cols : Int) (rows : Int) c = false := by
     unfold mayG
     rw [decide_eq_false (show ¬ (c.length : Int) = (cols : Int) * (rows : Int) by rw [← Int.natCast_mul]; omega)]
     simp
    rw [e]
    obtain ⟨a, cp, rfl, _⟩ := hv
    exact rmayg_3 cols rows a c.length cp h1 h2' h3 h4 hl w
end Go.Proofs.Ytnbonlkmadmpcaa
