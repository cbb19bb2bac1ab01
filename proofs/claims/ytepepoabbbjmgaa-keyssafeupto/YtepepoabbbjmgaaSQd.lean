/- Which grids may be, as the reference asks. -/
import Derived.Test.YtepepoabbbjmgaaSXb
import Derived.Test.YtepepoabbbjmgaaSCa
import Derived.Test.YtepepoabbbjmgaaSGw
namespace Go.Proofs.Ytepepoabbbjmgaa.Sc
open Go.RowKit Go.BigFrame
set_option linter.unusedVariables false
set_option linter.unusedSimpArgs false
set_option maxHeartbeats 16000000
set_option maxRecDepth 100000
theorem rmayg_4 (cols rows : Nat) (v : Value) (c : List Cl) (h1 : 1 ≤ cols) (h2 : cols ≤ 512) (h3 : 1 ≤ rows) (h4 : rows ≤ 512) (hl : c.length = cols * rows) (w : World) (hv : Cls w.heap.size w v c) : Calls Try.prog 30 #[.agg (gA (cols : Int) (rows : Int) v)] w fun e w' => e = .returned (.bool (mayG (cols : Int) (rows : Int) c)) ∧ Below w.heap.size w w' := by
 have MS := Box'.mk (side_any (cols : Int))
 rw [side_of h1 h2] at MS
 have MT := Box'.mk (side_any (rows : Int))
 rw [side_of h3 h4] at MT
 have hle : cols * rows ≤ 512 * 512 := Nat.mul_le_mul h2 h4
 have hpos : 1 * 1 ≤ cols * rows := Nat.mul_le_mul h1 h3
 have eG : mayG (cols : Int) (rows : Int) c = (List.range c.length).all (okAt cols c) := by
  unfold mayG
  rw [side_of h1 h2, side_of h3 h4, decide_eq_true (show (c.length : Int) = (cols : Int) * (rows : Int) by rw [hl, Int.natCast_mul])]
  simp
 have GT : Box' ((∀ i, i < c.length → okAt cols c i = true) → mayG (cols : Int) (rows : Int) c = true) := ⟨fun h => by
  rw [eG, List.all_eq_true]
  intro i hi
  exact h i (List.mem_range.1 hi)⟩
 have GF : Box' (∀ i, i < c.length → okAt cols c i = false → mayG (cols : Int) (rows : Int) c = false) := ⟨fun i hi h => by
  rw [eG, List.all_eq_false]
  exact ⟨i, List.mem_range.2 hi, by rw [h]; simp⟩⟩
 obtain ⟨b, o, cp, rfl, hb, hcp, HC0⟩ : ∃ b o cp, v = .slice (some ⟨b, o, none⟩) c.length cp ∧ b < w.heap.size ∧ c.length ≤ cp ∧ ∀ k, k < c.length → ∀ j, j < 15 → w.cell? ⟨b, o + k * 15 + j, none⟩ = (cA (cat c k))[j]? := by
  obtain ⟨a, cp, rfl, hcp, h3⟩ := hv
  rcases h3 with rfl | ⟨b, o, rfl, h5, h6⟩
  ·simp at hl; omega
  ·exact ⟨b, o, cp, rfl, h5, hcp, h6⟩
 have HR : Box' (∀ k wx, k < c.length → Below w.heap.size w wx → wx.rangeAt b (o + k * 15) (cA (cat c k)).toList) := ⟨fun k wx hk hbe j v hv => by
  have hj : j < 15 := by have := (List.getElem?_eq_some_iff.1 hv).1; rwa [cA_len] at this
  rw [hbe.cell (p := ⟨b, o + k * 15 + j, none⟩) hb, HC0 k hk j hj]
  simpa using hv⟩
 have HW : Box' (∀ k wx, k < c.length → Below w.heap.size w wx → wx.cell? ⟨b, o + k * 15 + 4, none⟩ = some (.int .u8 ((cat c k).wd : Int))) := ⟨fun k wx hk hbe => by
  rw [hbe.cell (p := ⟨b, o + k * 15 + 4, none⟩) hb]
  exact HC0 k hk 4 (by decide)⟩
 have HS : Box' (∀ k wx, k < c.length → Below w.heap.size w wx → wx.rangeAt b (o + k * 15 + 5) (sA (cat c k).st).toList) := ⟨fun k wx hk hbe j v hv => by
  have hj : j < 10 := by have := (List.getElem?_eq_some_iff.1 hv).1; exact this
  rw [hbe.cell (p := ⟨b, o + k * 15 + 5 + j, none⟩) hb, Nat.add_assoc (o + k * 15), HC0 k hk (5 + j) (by omega)]
  have e : ∀ j, j < 10 → (cA (cat c k))[5 + j]? = (sA (cat c k).st).toList[j]? := by
   intro j hj
   rcases (show j = 0 ∨ j = 1 ∨ j = 2 ∨ j = 3 ∨ j = 4 ∨ j = 5 ∨ j = 6 ∨ j = 7 ∨ j = 8 ∨ j = 9 by omega) with rfl | rfl | rfl | rfl | rfl | rfl | rfl | rfl | rfl | rfl <;> rfl
  rw [e j hj]
  exact hv⟩
 have F := Box'.mk (GrM.begin w (gA (cols : Int) (rows : Int) (.slice (some ⟨b, o, none⟩) c.length cp)))
 have RM := Box'.mk refMay_any
 have q1 : (cols : Int) * (rows : Int) ≤ 262144 := by rw [← Int.natCast_mul]; omega
 have q2 : 0 ≤ (cols : Int) * (rows : Int) := by rw [← Int.natCast_mul]; omega
 have q3 : ((c.length : Int) != (cols : Int) * (rows : Int)) = false := by rw [← Int.natCast_mul, hl]; simp
 clear HC0 eG
 generalize hn : c.length = n at *
 have hn0 : n ≤ 262144 := by omega
 clear hn hl hpos hle
 go_enter Try.func30, Try.ntmps30
 go_upto_region 1 with (fail)
 generalize (w.alloc (.cells (gA (cols : Int) (rows : Int) (.slice (some ⟨b, o, none⟩) n cp)) 39)) = w1 at *
 have c0 : w1.cell? ⟨w.heap.size, 0, none⟩ = some (.int .i64 (cols : Int)) := F.out.rg.cell 0
 have c1 : w1.cell? ⟨w.heap.size, 1, none⟩ = some (.int .i64 (rows : Int)) := F.out.rg.cell 1
 have c2 : w1.cell? ⟨w.heap.size, 2, none⟩ = some (.slice (some ⟨b, o, none⟩) n cp) := F.out.rg.cell 2
 go_wp2_with fail
 refine (MS.out _).mono ?_
 rintro e w2 ⟨rfl, rfl⟩
 go_wp2_with fail
 refine (MT.out _).mono ?_
 rintro e w2 ⟨rfl, rfl⟩
 go_wp2_with fail
 clear c0 c1 c2 MS MT q1 q2 q3
 go_loopw [3] (fun i wr => ∃ k : Nat, k ≤ n ∧ i = .int .i64 (k : Int) ∧ Box' (∀ j, j < k → okAt cols c j = true) ∧ Box' (GrM w (gA (cols : Int) (rows : Int) (.slice (some ⟨b, o, none⟩) n cp)) wr)) (fun i _ => n - (intOf i).toNat)
 case atStart => exact ⟨0, by omega, rfl, ⟨fun j hj => by omega⟩, F⟩
 case round =>
  obtain ⟨k, hk, rfl, OK, FF⟩ := hrel
  clear F
  have c2 : wr.cell? ⟨w.heap.size, 2, none⟩ = some (.slice (some ⟨b, o, none⟩) n cp) := FF.out.rg.cell 2
  by_cases hlt : k < n
  case neg =>
   obtain rfl : k = n := by omega
   have E := Box'.mk (GT.out OK.out)
   clear HR HW HS
   go_wp2_with fail
   go_ret
   exact ⟨by rw [E.out]; rfl, FF.out.be⟩
  case pos =>
   have RG := Box'.mk (HR.out k wr hlt FF.out.be)
   have RK := Box'.mk (RM.out (cat c k))
   have KF : Box' (okAt cols c k = false → mayG (cols : Int) (rows : Int) c = false) := ⟨GF.out k hlt⟩
   have KN : Box' (okAt cols c k = true → ∀ j, j < k + 1 → okAt cols c j = true) := ⟨fun h j hj => by
    rcases Nat.lt_or_ge j k with q | q
    ·exact OK.out j q
    ·rw [show j = k by omega]; exact h⟩
   clear HR RM OK GT GF
   cases hm : mayC (cat c k) with
   | false =>
    have E := Box'.mk (KF.out (by unfold okAt; rw [hm]; rfl))
    rw [hm] at RK
    clear hm
    go_wp2_with (first
     | (refine wpList_load_cell rfl (.tmp 36) rfl b (o + k * 15) (cat c k) rfl RG.out ?_))
    refine (RK.out _).mono ?_
    rintro e w3 ⟨rfl, hb3⟩
    have F3 := Box'.mk (FF.out.below hb3)
    clear hb3
    go_wp2_with fail
    go_ret
    exact ⟨by rw [E.out]; rfl, F3.out.be⟩
   | true =>
    have okE : Box' (okAt cols c k = ((decide ((cat c k).wd = 0) == hfAt cols c k) && (!hfAt cols c k || stB (cat c k).st (cat c (k - 1)).st) && !(decide ((cat c k).wd = 2) && decide (k % cols = cols - 1)))) := ⟨by unfold okAt; rw [hm, Bool.true_and]⟩
    rw [hm] at RK
    clear hm
    go_wp2_with (first
     | (refine wpList_load_cell rfl (.tmp 36) rfl b (o + k * 15) (cat c k) rfl RG.out ?_))
    refine (RK.out _).mono ?_
    rintro e w3 ⟨rfl, hb3⟩
    have F3 := Box'.mk (FF.out.below hb3)
    clear hb3 FF RG RK c2
    have c0 : w3.cell? ⟨w.heap.size, 0, none⟩ = some (.int .i64 (cols : Int)) := F3.out.rg.cell 0
    have c2 : w3.cell? ⟨w.heap.size, 2, none⟩ = some (.slice (some ⟨b, o, none⟩) n cp) := F3.out.rg.cell 2
    have HEM : Box' ((k : Int) % (cols : Int) = ((k % cols : Nat) : Int)) := ⟨(Int.natCast_emod k cols).symm⟩
    go_upto_region 8 with (fail)
    by_cases hp : 0 < k % cols
    case pos =>
     have hk0 : 0 < k := by
      rcases Nat.eq_zero_or_pos k with q | q
      ·rw [q, Nat.zero_mod] at hp; omega
      ·exact q
     have hpi : 0 < (k : Int) % (cols : Int) := by rw [HEM.out]; omega
     have e4 := HW.out (k - 1) w3 (by omega) F3.out.be
     by_cases hpw : ((cat c (k - 1)).wd : Int) = 2
     case pos =>
      rw [hpw] at e4
      have hH : hfAt cols c k = true := by unfold hfAt; rw [decide_eq_true hp, decide_eq_true (show (cat c (k - 1)).wd = 2 by omega)]; rfl
      go_upto_region 9 with (fail)
      clear c0 c2 e4 HEM hpi
      have F5 := F3
      clear F3
      by_cases hw0 : ((cat c k).wd : Int) = 0
      case pos =>
       have hz := hw0
       have HZ : Box' ((cat c k).wd = 0) := ⟨by omega⟩
       by_cases hs : (cat c k).st = (cat c (k - 1)).st
       case pos =>
        have EQ : Box' ((!stB (cat c k).st (cat c (k - 1)).st) = false) := ⟨by rw [stB_yes hs]; rfl⟩
        have EQ2 : Box' (stB (cat c k).st (cat c (k - 1)).st = true) := ⟨stB_yes hs⟩
        clear hs
        refine wp_region_lex (fun wa => GrM w (gA (cols : Int) (rows : Int) (.slice (some ⟨b, o, none⟩) n cp)) wa) (by kernel_rfl) (by kernel_rfl) (F5.out.drew) ?_
        (go_big_quiet_want; go_big_quiet_op; first | go_big_quiet_on | (refine ⟨_, fun _ _ => rfl, ?_⟩; go_big_quiet_on))
        (go_big_quiet_want; refine qC_load22 (.tmp 55) rfl (w.heap.size) (2) (.slice (some ⟨b, o, none⟩) n cp) rfl (fun wq hC => hC.rg.cell 2) ?_; simp only [Act.put, siB, stS, stZ]; go_big_quiet_on)
        iterate 3 (go_big_quiet_want; go_big_quiet_op; first | go_big_quiet_on | (refine ⟨_, fun _ _ => rfl, ?_⟩; go_big_quiet_on))
        (go_big_quiet_want; refine qC_load5 (.tmp 59) rfl (b) (o + k * 15 + 4) (.int .u8 0) rfl (fun wq hC => by rw [HW.out k wq hlt hC.be, hz]) ?_; simp only [Act.put, siB, stS, stZ]; go_big_quiet_on)
        (go_big_quiet_want; refine qC_of (.bool true) (fun wq hC => by unfold execOp; simp [go_sem] <;> first | assumption | omega) ?_; simp only [Act.put, siB, stS, stZ]; go_big_quiet_on)
        (go_big_quiet_want; go_big_quiet_op; first | go_big_quiet_on | (refine ⟨_, fun _ _ => rfl, ?_⟩; go_big_quiet_on))
        (go_big_quiet_want; refine qC_of (.bool false) (fun wq hC => by unfold execOp; simp [go_sem] <;> first | assumption | omega) ?_; simp only [Act.put, siB, stS, stZ]; go_big_quiet_on)
        iterate 4 (go_big_quiet_want; go_big_quiet_op; first | go_big_quiet_on | (refine ⟨_, fun _ _ => rfl, ?_⟩; go_big_quiet_on))
        (go_big_quiet_want; refine qC_load22 (.tmp 67) rfl (w.heap.size) (2) (.slice (some ⟨b, o, none⟩) n cp) rfl (fun wq hC => hC.rg.cell 2) ?_; simp only [Act.put, siB, stS, stZ]; go_big_quiet_on)
        iterate 3 (go_big_quiet_want; go_big_quiet_op; first | go_big_quiet_on | (refine ⟨_, fun _ _ => rfl, ?_⟩; go_big_quiet_on))
        (go_big_quiet_want; refine qC_mid 41 (.tmp 71) rfl b (o + k * 15 + 5) (sA (cat c k).st) _ Try.underlying41 rfl s24 rfl (fun wq hC => (HS.out k wq hlt hC.be)) ?_; simp only [Act.put, siB, stS, stZ]; go_big_quiet_on)
        (go_big_quiet_want; go_big_quiet_op; first | go_big_quiet_on | (refine ⟨_, fun _ _ => rfl, ?_⟩; go_big_quiet_on))
        (go_big_quiet_want; refine qC_load22 (.tmp 73) rfl (w.heap.size) (2) (.slice (some ⟨b, o, none⟩) n cp) rfl (fun wq hC => hC.rg.cell 2) ?_; simp only [Act.put, siB, stS, stZ]; go_big_quiet_on)
        iterate 2 (go_big_quiet_want; go_big_quiet_op; first | go_big_quiet_on | (refine ⟨_, fun _ _ => rfl, ?_⟩; go_big_quiet_on))
        (go_big_quiet_want; refine qC_of (.pointer (some ⟨b, o + (k - 1) * 15, none⟩)) (fun wq hC => by unfold execOp; simp [go_sem] <;> omega) ?_; simp only [Act.put, siB, stS, stZ]; go_big_quiet_on)
        (go_big_quiet_want; go_big_quiet_op; first | go_big_quiet_on | (refine ⟨_, fun _ _ => rfl, ?_⟩; go_big_quiet_on))
        (go_big_quiet_want; refine qC_mid 41 (.tmp 78) rfl b (o + (k - 1) * 15 + 5) (sA (cat c (k - 1)).st) _ Try.underlying41 rfl s24 rfl (fun wq hC => (HS.out (k - 1) wq (by omega) hC.be)) ?_; simp only [Act.put, siB, stS, stZ]; go_big_quiet_on)
        (go_big_quiet_want; refine qC_of (.bool false) (fun wq hC => (run_neq_op 41 (.tmp 72) (.tmp 79) rfl (cat c k).st (cat c (k - 1)).st rfl rfl _ EQ.out wq)) ?_; simp only [Act.put, siB, stS, stZ]; go_big_quiet_on)
        iterate 2 (go_big_quiet_want; go_big_quiet_op; first | go_big_quiet_on | (refine ⟨_, fun _ _ => rfl, ?_⟩; go_big_quiet_on))
        refine wpQuiet_nil ?_
        intro wz hC
        have F7 := Box'.mk hC
        clear hC F5
        go_wp2_with fail
        have E : ∀ j, j < k + 1 → okAt cols c j = true := KN.out (by rw [okE.out, hH, HZ.out]; simp [EQ2.out])
        refine wp_region_lex (fun wa => GrM w (gA (cols : Int) (rows : Int) (.slice (some ⟨b, o, none⟩) n cp)) wa) (by kernel_rfl) (by kernel_rfl) (F7.out.drew) ?_
        (go_big_quiet_want; go_big_quiet_op; first | go_big_quiet_on | (refine ⟨_, fun _ _ => rfl, ?_⟩; go_big_quiet_on))
        (go_big_quiet_want; refine qC_load22 (.tmp 83) rfl (w.heap.size) (2) (.slice (some ⟨b, o, none⟩) n cp) rfl (fun wq hC => hC.rg.cell 2) ?_; simp only [Act.put, siB, stS, stZ]; go_big_quiet_on)
        iterate 3 (go_big_quiet_want; go_big_quiet_op; first | go_big_quiet_on | (refine ⟨_, fun _ _ => rfl, ?_⟩; go_big_quiet_on))
        (go_big_quiet_want; refine qC_load5 (.tmp 87) rfl (b) (o + k * 15 + 4) (.int .u8 0) rfl (fun wq hC => by rw [HW.out k wq hlt hC.be, hz]) ?_; simp only [Act.put, siB, stS, stZ]; go_big_quiet_on)
        (go_big_quiet_want; refine qC_of (.bool false) (fun wq hC => by unfold execOp; simp [go_sem] <;> first | assumption | omega) ?_; simp only [Act.put, siB, stS, stZ]; go_big_quiet_on)
        (go_big_quiet_want; go_big_quiet_op; first | go_big_quiet_on | (refine ⟨_, fun _ _ => rfl, ?_⟩; go_big_quiet_on))
        iterate 8 go_big_quiet_skip
        (go_big_quiet_want; go_big_quiet_op; first | go_big_quiet_on | (refine ⟨_, fun _ _ => rfl, ?_⟩; go_big_quiet_on))
        refine wpQuiet_nil ?_
        intro wz hC
        have F9 := Box'.mk hC
        clear hC
        go_wp2_with fail
        exact ⟨⟨k + 1, by omega, by go_num, ⟨E⟩, F9⟩, by simp [intOf]; omega⟩
       case neg =>
        have EQ : Box' ((!stB (cat c k).st (cat c (k - 1)).st) = true) := ⟨by rw [stB_no hs]; rfl⟩
        have E := Box'.mk (KF.out (by rw [okE.out, hH, stB_no hs]; simp))
        clear hs
        refine wp_region_lex (fun wa => GrM w (gA (cols : Int) (rows : Int) (.slice (some ⟨b, o, none⟩) n cp)) wa) (by kernel_rfl) (by kernel_rfl) (F5.out.drew) ?_
        (go_big_quiet_want; go_big_quiet_op; first | go_big_quiet_on | (refine ⟨_, fun _ _ => rfl, ?_⟩; go_big_quiet_on))
        (go_big_quiet_want; refine qC_load22 (.tmp 55) rfl (w.heap.size) (2) (.slice (some ⟨b, o, none⟩) n cp) rfl (fun wq hC => hC.rg.cell 2) ?_; simp only [Act.put, siB, stS, stZ]; go_big_quiet_on)
        iterate 3 (go_big_quiet_want; go_big_quiet_op; first | go_big_quiet_on | (refine ⟨_, fun _ _ => rfl, ?_⟩; go_big_quiet_on))
        (go_big_quiet_want; refine qC_load5 (.tmp 59) rfl (b) (o + k * 15 + 4) (.int .u8 0) rfl (fun wq hC => by rw [HW.out k wq hlt hC.be, hz]) ?_; simp only [Act.put, siB, stS, stZ]; go_big_quiet_on)
        (go_big_quiet_want; refine qC_of (.bool true) (fun wq hC => by unfold execOp; simp [go_sem] <;> first | assumption | omega) ?_; simp only [Act.put, siB, stS, stZ]; go_big_quiet_on)
        (go_big_quiet_want; go_big_quiet_op; first | go_big_quiet_on | (refine ⟨_, fun _ _ => rfl, ?_⟩; go_big_quiet_on))
        (go_big_quiet_want; refine qC_of (.bool false) (fun wq hC => by unfold execOp; simp [go_sem] <;> first | assumption | omega) ?_; simp only [Act.put, siB, stS, stZ]; go_big_quiet_on)
        iterate 4 (go_big_quiet_want; go_big_quiet_op; first | go_big_quiet_on | (refine ⟨_, fun _ _ => rfl, ?_⟩; go_big_quiet_on))
        (go_big_quiet_want; refine qC_load22 (.tmp 67) rfl (w.heap.size) (2) (.slice (some ⟨b, o, none⟩) n cp) rfl (fun wq hC => hC.rg.cell 2) ?_; simp only [Act.put, siB, stS, stZ]; go_big_quiet_on)
        iterate 3 (go_big_quiet_want; go_big_quiet_op; first | go_big_quiet_on | (refine ⟨_, fun _ _ => rfl, ?_⟩; go_big_quiet_on))
        (go_big_quiet_want; refine qC_mid 41 (.tmp 71) rfl b (o + k * 15 + 5) (sA (cat c k).st) _ Try.underlying41 rfl s24 rfl (fun wq hC => (HS.out k wq hlt hC.be)) ?_; simp only [Act.put, siB, stS, stZ]; go_big_quiet_on)
        (go_big_quiet_want; go_big_quiet_op; first | go_big_quiet_on | (refine ⟨_, fun _ _ => rfl, ?_⟩; go_big_quiet_on))
        (go_big_quiet_want; refine qC_load22 (.tmp 73) rfl (w.heap.size) (2) (.slice (some ⟨b, o, none⟩) n cp) rfl (fun wq hC => hC.rg.cell 2) ?_; simp only [Act.put, siB, stS, stZ]; go_big_quiet_on)
        iterate 2 (go_big_quiet_want; go_big_quiet_op; first | go_big_quiet_on | (refine ⟨_, fun _ _ => rfl, ?_⟩; go_big_quiet_on))
        (go_big_quiet_want; refine qC_of (.pointer (some ⟨b, o + (k - 1) * 15, none⟩)) (fun wq hC => by unfold execOp; simp [go_sem] <;> omega) ?_; simp only [Act.put, siB, stS, stZ]; go_big_quiet_on)
        (go_big_quiet_want; go_big_quiet_op; first | go_big_quiet_on | (refine ⟨_, fun _ _ => rfl, ?_⟩; go_big_quiet_on))
        (go_big_quiet_want; refine qC_mid 41 (.tmp 78) rfl b (o + (k - 1) * 15 + 5) (sA (cat c (k - 1)).st) _ Try.underlying41 rfl s24 rfl (fun wq hC => (HS.out (k - 1) wq (by omega) hC.be)) ?_; simp only [Act.put, siB, stS, stZ]; go_big_quiet_on)
        (go_big_quiet_want; refine qC_of (.bool true) (fun wq hC => (run_neq_op 41 (.tmp 72) (.tmp 79) rfl (cat c k).st (cat c (k - 1)).st rfl rfl _ EQ.out wq)) ?_; simp only [Act.put, siB, stS, stZ]; go_big_quiet_on)
        iterate 2 (go_big_quiet_want; go_big_quiet_op; first | go_big_quiet_on | (refine ⟨_, fun _ _ => rfl, ?_⟩; go_big_quiet_on))
        refine wpQuiet_nil ?_
        intro wz hC
        have F9 := Box'.mk hC
        clear hC
        go_wp2_with fail
        go_ret
        exact ⟨by rw [E.out]; rfl, F9.out.be⟩
      case neg =>
       have E := Box'.mk (KF.out (by rw [okE.out, hH, decide_eq_false (show ¬ (cat c k).wd = 0 by omega)]; rfl))
       obtain ⟨z, hz⟩ : ∃ z : Int, ((cat c k).wd : Int) = z := ⟨_, rfl⟩
       rw [hz] at hw0
       refine wp_region_lex (fun wa => GrM w (gA (cols : Int) (rows : Int) (.slice (some ⟨b, o, none⟩) n cp)) wa) (by kernel_rfl) (by kernel_rfl) (F5.out.drew) ?_
       (go_big_quiet_want; go_big_quiet_op; first | go_big_quiet_on | (refine ⟨_, fun _ _ => rfl, ?_⟩; go_big_quiet_on))
       (go_big_quiet_want; refine qC_load22 (.tmp 55) rfl (w.heap.size) (2) (.slice (some ⟨b, o, none⟩) n cp) rfl (fun wq hC => hC.rg.cell 2) ?_; simp only [Act.put, siB, stS, stZ]; go_big_quiet_on)
       iterate 3 (go_big_quiet_want; go_big_quiet_op; first | go_big_quiet_on | (refine ⟨_, fun _ _ => rfl, ?_⟩; go_big_quiet_on))
       (go_big_quiet_want; refine qC_load5 (.tmp 59) rfl (b) (o + k * 15 + 4) (.int .u8 z) rfl (fun wq hC => by rw [HW.out k wq hlt hC.be, hz]) ?_; simp only [Act.put, siB, stS, stZ]; go_big_quiet_on)
       (go_big_quiet_want; refine qC_of (.bool false) (fun wq hC => by unfold execOp; simp [go_sem] <;> first | assumption | omega) ?_; simp only [Act.put, siB, stS, stZ]; go_big_quiet_on)
       (go_big_quiet_want; go_big_quiet_op; first | go_big_quiet_on | (refine ⟨_, fun _ _ => rfl, ?_⟩; go_big_quiet_on))
       (go_big_quiet_want; refine qC_of (.bool true) (fun wq hC => by unfold execOp; simp [go_sem] <;> first | assumption | omega) ?_; simp only [Act.put, siB, stS, stZ]; go_big_quiet_on)
       (go_big_quiet_want; go_big_quiet_op; first | go_big_quiet_on | (refine ⟨_, fun _ _ => rfl, ?_⟩; go_big_quiet_on))
       iterate 17 go_big_quiet_skip
       (go_big_quiet_want; go_big_quiet_op; first | go_big_quiet_on | (refine ⟨_, fun _ _ => rfl, ?_⟩; go_big_quiet_on))
       refine wpQuiet_nil ?_
       intro wz hC
       have F9 := Box'.mk hC
       clear hC
       go_wp2_with fail
       go_ret
       exact ⟨by rw [E.out]; rfl, F9.out.be⟩
     case neg =>
      have hH : hfAt cols c k = false := by unfold hfAt; rw [decide_eq_false (show ¬ (cat c (k - 1)).wd = 2 by omega)]; simp
      obtain ⟨y, hy⟩ : ∃ y : Int, ((cat c (k - 1)).wd : Int) = y := ⟨_, rfl⟩
      rw [hy] at e4 hpw
      clear hy
      have hy2 : (y == 2) = false := by simpa using hpw
      go_upto_region 9 with (fail)
      clear hy2
      clear c0 c2 e4 HEM hpi
      have F5 := F3
      clear F3
      by_cases hw0 : ((cat c k).wd : Int) = 0
      case pos =>
       have hz := hw0
       have E := Box'.mk (KF.out (by rw [okE.out, hH, decide_eq_true (show (cat c k).wd = 0 by omega)]; rfl))
       refine wp_region_lex (fun wa => GrM w (gA (cols : Int) (rows : Int) (.slice (some ⟨b, o, none⟩) n cp)) wa) (by kernel_rfl) (by kernel_rfl) (F5.out.drew) ?_
       (go_big_quiet_want; go_big_quiet_op; first | go_big_quiet_on | (refine ⟨_, fun _ _ => rfl, ?_⟩; go_big_quiet_on))
       (go_big_quiet_want; refine qC_load22 (.tmp 55) rfl (w.heap.size) (2) (.slice (some ⟨b, o, none⟩) n cp) rfl (fun wq hC => hC.rg.cell 2) ?_; simp only [Act.put, siB, stS, stZ]; go_big_quiet_on)
       iterate 3 (go_big_quiet_want; go_big_quiet_op; first | go_big_quiet_on | (refine ⟨_, fun _ _ => rfl, ?_⟩; go_big_quiet_on))
       (go_big_quiet_want; refine qC_load5 (.tmp 59) rfl (b) (o + k * 15 + 4) (.int .u8 0) rfl (fun wq hC => by rw [HW.out k wq hlt hC.be, hz]) ?_; simp only [Act.put, siB, stS, stZ]; go_big_quiet_on)
       (go_big_quiet_want; refine qC_of (.bool true) (fun wq hC => by unfold execOp; simp [go_sem] <;> first | assumption | omega) ?_; simp only [Act.put, siB, stS, stZ]; go_big_quiet_on)
       (go_big_quiet_want; go_big_quiet_op; first | go_big_quiet_on | (refine ⟨_, fun _ _ => rfl, ?_⟩; go_big_quiet_on))
       (go_big_quiet_want; refine qC_of (.bool true) (fun wq hC => by unfold execOp; simp [go_sem] <;> first | assumption | omega) ?_; simp only [Act.put, siB, stS, stZ]; go_big_quiet_on)
       (go_big_quiet_want; go_big_quiet_op; first | go_big_quiet_on | (refine ⟨_, fun _ _ => rfl, ?_⟩; go_big_quiet_on))
       iterate 17 go_big_quiet_skip
       (go_big_quiet_want; go_big_quiet_op; first | go_big_quiet_on | (refine ⟨_, fun _ _ => rfl, ?_⟩; go_big_quiet_on))
       refine wpQuiet_nil ?_
       intro wz hC
       have F9 := Box'.mk hC
       clear hC
       go_wp2_with fail
       go_ret
       exact ⟨by rw [E.out]; rfl, F9.out.be⟩
      case neg =>
       obtain ⟨z, hz⟩ : ∃ z : Int, ((cat c k).wd : Int) = z := ⟨_, rfl⟩
       rw [hz] at hw0
       refine wp_region_lex (fun wa => GrM w (gA (cols : Int) (rows : Int) (.slice (some ⟨b, o, none⟩) n cp)) wa) (by kernel_rfl) (by kernel_rfl) (F5.out.drew) ?_
       (go_big_quiet_want; go_big_quiet_op; first | go_big_quiet_on | (refine ⟨_, fun _ _ => rfl, ?_⟩; go_big_quiet_on))
       (go_big_quiet_want; refine qC_load22 (.tmp 55) rfl (w.heap.size) (2) (.slice (some ⟨b, o, none⟩) n cp) rfl (fun wq hC => hC.rg.cell 2) ?_; simp only [Act.put, siB, stS, stZ]; go_big_quiet_on)
       iterate 3 (go_big_quiet_want; go_big_quiet_op; first | go_big_quiet_on | (refine ⟨_, fun _ _ => rfl, ?_⟩; go_big_quiet_on))
       (go_big_quiet_want; refine qC_load5 (.tmp 59) rfl (b) (o + k * 15 + 4) (.int .u8 z) rfl (fun wq hC => by rw [HW.out k wq hlt hC.be, hz]) ?_; simp only [Act.put, siB, stS, stZ]; go_big_quiet_on)
       (go_big_quiet_want; refine qC_of (.bool false) (fun wq hC => by unfold execOp; simp [go_sem] <;> first | assumption | omega) ?_; simp only [Act.put, siB, stS, stZ]; go_big_quiet_on)
       (go_big_quiet_want; go_big_quiet_op; first | go_big_quiet_on | (refine ⟨_, fun _ _ => rfl, ?_⟩; go_big_quiet_on))
       (go_big_quiet_want; refine qC_of (.bool false) (fun wq hC => by unfold execOp; simp [go_sem] <;> first | assumption | omega) ?_; simp only [Act.put, siB, stS, stZ]; go_big_quiet_on)
       iterate 3 (go_big_quiet_want; go_big_quiet_op; first | go_big_quiet_on | (refine ⟨_, fun _ _ => rfl, ?_⟩; go_big_quiet_on))
       iterate 14 go_big_quiet_skip
       iterate 2 (go_big_quiet_want; go_big_quiet_op; first | go_big_quiet_on | (refine ⟨_, fun _ _ => rfl, ?_⟩; go_big_quiet_on))
       refine wpQuiet_nil ?_
       intro wz hC
       have F7 := Box'.mk hC
       clear hC F5
       go_wp2_with fail
       by_cases h2 : z = 2
       case neg =>
        have E : ∀ j, j < k + 1 → okAt cols c j = true := KN.out (by rw [okE.out, hH, decide_eq_false (show ¬ (cat c k).wd = 0 by omega), decide_eq_false (show ¬ (cat c k).wd = 2 by omega)]; rfl)
        refine wp_region_lex (fun wa => GrM w (gA (cols : Int) (rows : Int) (.slice (some ⟨b, o, none⟩) n cp)) wa) (by kernel_rfl) (by kernel_rfl) (F7.out.drew) ?_
        (go_big_quiet_want; go_big_quiet_op; first | go_big_quiet_on | (refine ⟨_, fun _ _ => rfl, ?_⟩; go_big_quiet_on))
        (go_big_quiet_want; refine qC_load22 (.tmp 83) rfl (w.heap.size) (2) (.slice (some ⟨b, o, none⟩) n cp) rfl (fun wq hC => hC.rg.cell 2) ?_; simp only [Act.put, siB, stS, stZ]; go_big_quiet_on)
        iterate 3 (go_big_quiet_want; go_big_quiet_op; first | go_big_quiet_on | (refine ⟨_, fun _ _ => rfl, ?_⟩; go_big_quiet_on))
        (go_big_quiet_want; refine qC_load5 (.tmp 87) rfl (b) (o + k * 15 + 4) (.int .u8 z) rfl (fun wq hC => by rw [HW.out k wq hlt hC.be, hz]) ?_; simp only [Act.put, siB, stS, stZ]; go_big_quiet_on)
        (go_big_quiet_want; refine qC_of (.bool false) (fun wq hC => by unfold execOp; simp [go_sem] <;> first | assumption | omega) ?_; simp only [Act.put, siB, stS, stZ]; go_big_quiet_on)
        (go_big_quiet_want; go_big_quiet_op; first | go_big_quiet_on | (refine ⟨_, fun _ _ => rfl, ?_⟩; go_big_quiet_on))
        iterate 8 go_big_quiet_skip
        (go_big_quiet_want; go_big_quiet_op; first | go_big_quiet_on | (refine ⟨_, fun _ _ => rfl, ?_⟩; go_big_quiet_on))
        refine wpQuiet_nil ?_
        intro wz hC
        have F9 := Box'.mk hC
        clear hC
        go_wp2_with fail
        exact ⟨⟨k + 1, by omega, by go_num, ⟨E⟩, F9⟩, by simp [intOf]; omega⟩
       case pos =>
        subst h2
        by_cases hl : k % cols = cols - 1
        case pos =>
         have E := Box'.mk (KF.out (by rw [okE.out, decide_eq_true (show (cat c k).wd = 2 by omega), decide_eq_true hl]; simp))
         have hlast : (k : Int) % (cols : Int) = (cols : Int) - 1 := by rw [← Int.natCast_emod]; omega
         refine wp_region_lex (fun wa => GrM w (gA (cols : Int) (rows : Int) (.slice (some ⟨b, o, none⟩) n cp)) wa) (by kernel_rfl) (by kernel_rfl) (F7.out.drew) ?_
         (go_big_quiet_want; go_big_quiet_op; first | go_big_quiet_on | (refine ⟨_, fun _ _ => rfl, ?_⟩; go_big_quiet_on))
         (go_big_quiet_want; refine qC_load22 (.tmp 83) rfl (w.heap.size) (2) (.slice (some ⟨b, o, none⟩) n cp) rfl (fun wq hC => hC.rg.cell 2) ?_; simp only [Act.put, siB, stS, stZ]; go_big_quiet_on)
         iterate 3 (go_big_quiet_want; go_big_quiet_op; first | go_big_quiet_on | (refine ⟨_, fun _ _ => rfl, ?_⟩; go_big_quiet_on))
         (go_big_quiet_want; refine qC_load5 (.tmp 87) rfl (b) (o + k * 15 + 4) (.int .u8 2) rfl (fun wq hC => by rw [HW.out k wq hlt hC.be, hz]) ?_; simp only [Act.put, siB, stS, stZ]; go_big_quiet_on)
         (go_big_quiet_want; refine qC_of (.bool true) (fun wq hC => by unfold execOp; simp [go_sem] <;> first | assumption | omega) ?_; simp only [Act.put, siB, stS, stZ]; go_big_quiet_on)
         iterate 3 (go_big_quiet_want; go_big_quiet_op; first | go_big_quiet_on | (refine ⟨_, fun _ _ => rfl, ?_⟩; go_big_quiet_on))
         (go_big_quiet_want; refine qC_load3 (.tmp 92) rfl (w.heap.size) (0) (.int .i64 (cols : Int)) rfl (fun wq hC => hC.rg.cell 0) ?_; simp only [Act.put, siB, stS, stZ]; go_big_quiet_on)
         iterate 2 (go_big_quiet_want; go_big_quiet_op; first | go_big_quiet_on | (refine ⟨_, fun _ _ => rfl, ?_⟩; go_big_quiet_on))
         (go_big_quiet_want; refine qC_load3 (.tmp 95) rfl (w.heap.size) (0) (.int .i64 (cols : Int)) rfl (fun wq hC => hC.rg.cell 0) ?_; simp only [Act.put, siB, stS, stZ]; go_big_quiet_on)
         (go_big_quiet_want; go_big_quiet_op; first | go_big_quiet_on | (refine ⟨_, fun _ _ => rfl, ?_⟩; go_big_quiet_on))
         (go_big_quiet_want; refine qC_of (.bool true) (fun wq hC => by unfold execOp; simp [go_sem] <;> first | assumption | omega) ?_; simp only [Act.put, siB, stS, stZ]; go_big_quiet_on)
         (go_big_quiet_want; go_big_quiet_op; first | go_big_quiet_on | (refine ⟨_, fun _ _ => rfl, ?_⟩; go_big_quiet_on))
         refine wpQuiet_nil ?_
         intro wz hC
         have F9 := Box'.mk hC
         clear hC
         go_wp2_with fail
         go_ret
         exact ⟨by rw [E.out]; rfl, F9.out.be⟩
        case neg =>
         have E : ∀ j, j < k + 1 → okAt cols c j = true := KN.out (by rw [okE.out, hH, decide_eq_false (show ¬ (cat c k).wd = 0 by omega), decide_eq_true (show (cat c k).wd = 2 by omega), decide_eq_false hl]; rfl)
         have hlast : ¬ (k : Int) % (cols : Int) = (cols : Int) - 1 := by rw [← Int.natCast_emod]; omega
         refine wp_region_lex (fun wa => GrM w (gA (cols : Int) (rows : Int) (.slice (some ⟨b, o, none⟩) n cp)) wa) (by kernel_rfl) (by kernel_rfl) (F7.out.drew) ?_
         (go_big_quiet_want; go_big_quiet_op; first | go_big_quiet_on | (refine ⟨_, fun _ _ => rfl, ?_⟩; go_big_quiet_on))
         (go_big_quiet_want; refine qC_load22 (.tmp 83) rfl (w.heap.size) (2) (.slice (some ⟨b, o, none⟩) n cp) rfl (fun wq hC => hC.rg.cell 2) ?_; simp only [Act.put, siB, stS, stZ]; go_big_quiet_on)
         iterate 3 (go_big_quiet_want; go_big_quiet_op; first | go_big_quiet_on | (refine ⟨_, fun _ _ => rfl, ?_⟩; go_big_quiet_on))
         (go_big_quiet_want; refine qC_load5 (.tmp 87) rfl (b) (o + k * 15 + 4) (.int .u8 2) rfl (fun wq hC => by rw [HW.out k wq hlt hC.be, hz]) ?_; simp only [Act.put, siB, stS, stZ]; go_big_quiet_on)
         (go_big_quiet_want; refine qC_of (.bool true) (fun wq hC => by unfold execOp; simp [go_sem] <;> first | assumption | omega) ?_; simp only [Act.put, siB, stS, stZ]; go_big_quiet_on)
         iterate 3 (go_big_quiet_want; go_big_quiet_op; first | go_big_quiet_on | (refine ⟨_, fun _ _ => rfl, ?_⟩; go_big_quiet_on))
         (go_big_quiet_want; refine qC_load3 (.tmp 92) rfl (w.heap.size) (0) (.int .i64 (cols : Int)) rfl (fun wq hC => hC.rg.cell 0) ?_; simp only [Act.put, siB, stS, stZ]; go_big_quiet_on)
         iterate 2 (go_big_quiet_want; go_big_quiet_op; first | go_big_quiet_on | (refine ⟨_, fun _ _ => rfl, ?_⟩; go_big_quiet_on))
         (go_big_quiet_want; refine qC_load3 (.tmp 95) rfl (w.heap.size) (0) (.int .i64 (cols : Int)) rfl (fun wq hC => hC.rg.cell 0) ?_; simp only [Act.put, siB, stS, stZ]; go_big_quiet_on)
         (go_big_quiet_want; go_big_quiet_op; first | go_big_quiet_on | (refine ⟨_, fun _ _ => rfl, ?_⟩; go_big_quiet_on))
         (go_big_quiet_want; refine qC_of (.bool false) (fun wq hC => by unfold execOp; simp [go_sem] <;> first | assumption | omega) ?_; simp only [Act.put, siB, stS, stZ]; go_big_quiet_on)
         (go_big_quiet_want; go_big_quiet_op; first | go_big_quiet_on | (refine ⟨_, fun _ _ => rfl, ?_⟩; go_big_quiet_on))
         refine wpQuiet_nil ?_
         intro wz hC
         have F9 := Box'.mk hC
         clear hC
         go_wp2_with fail
         exact ⟨⟨k + 1, by omega, by go_num, ⟨E⟩, F9⟩, by simp [intOf]; omega⟩
    case neg =>
     have hH : hfAt cols c k = false := by unfold hfAt; rw [decide_eq_false hp]; rfl
     have hpi : (k : Int) % (cols : Int) ≤ 0 := by rw [HEM.out]; omega
     go_upto_region 9 with (fail)
     clear c0 c2 HEM hpi
     have F5 := F3
     clear F3
     by_cases hw0 : ((cat c k).wd : Int) = 0
     case pos =>
      have hz := hw0
      have E := Box'.mk (KF.out (by rw [okE.out, hH, decide_eq_true (show (cat c k).wd = 0 by omega)]; rfl))
      refine wp_region_lex (fun wa => GrM w (gA (cols : Int) (rows : Int) (.slice (some ⟨b, o, none⟩) n cp)) wa) (by kernel_rfl) (by kernel_rfl) (F5.out.drew) ?_
      (go_big_quiet_want; go_big_quiet_op; first | go_big_quiet_on | (refine ⟨_, fun _ _ => rfl, ?_⟩; go_big_quiet_on))
      (go_big_quiet_want; refine qC_load22 (.tmp 55) rfl (w.heap.size) (2) (.slice (some ⟨b, o, none⟩) n cp) rfl (fun wq hC => hC.rg.cell 2) ?_; simp only [Act.put, siB, stS, stZ]; go_big_quiet_on)
      iterate 3 (go_big_quiet_want; go_big_quiet_op; first | go_big_quiet_on | (refine ⟨_, fun _ _ => rfl, ?_⟩; go_big_quiet_on))
      (go_big_quiet_want; refine qC_load5 (.tmp 59) rfl (b) (o + k * 15 + 4) (.int .u8 0) rfl (fun wq hC => by rw [HW.out k wq hlt hC.be, hz]) ?_; simp only [Act.put, siB, stS, stZ]; go_big_quiet_on)
      (go_big_quiet_want; refine qC_of (.bool true) (fun wq hC => by unfold execOp; simp [go_sem] <;> first | assumption | omega) ?_; simp only [Act.put, siB, stS, stZ]; go_big_quiet_on)
      (go_big_quiet_want; go_big_quiet_op; first | go_big_quiet_on | (refine ⟨_, fun _ _ => rfl, ?_⟩; go_big_quiet_on))
      (go_big_quiet_want; refine qC_of (.bool true) (fun wq hC => by unfold execOp; simp [go_sem] <;> first | assumption | omega) ?_; simp only [Act.put, siB, stS, stZ]; go_big_quiet_on)
      (go_big_quiet_want; go_big_quiet_op; first | go_big_quiet_on | (refine ⟨_, fun _ _ => rfl, ?_⟩; go_big_quiet_on))
      iterate 17 go_big_quiet_skip
      (go_big_quiet_want; go_big_quiet_op; first | go_big_quiet_on | (refine ⟨_, fun _ _ => rfl, ?_⟩; go_big_quiet_on))
      refine wpQuiet_nil ?_
      intro wz hC
      have F9 := Box'.mk hC
      clear hC
      go_wp2_with fail
      go_ret
      exact ⟨by rw [E.out]; rfl, F9.out.be⟩
     case neg =>
      obtain ⟨z, hz⟩ : ∃ z : Int, ((cat c k).wd : Int) = z := ⟨_, rfl⟩
      rw [hz] at hw0
      refine wp_region_lex (fun wa => GrM w (gA (cols : Int) (rows : Int) (.slice (some ⟨b, o, none⟩) n cp)) wa) (by kernel_rfl) (by kernel_rfl) (F5.out.drew) ?_
      (go_big_quiet_want; go_big_quiet_op; first | go_big_quiet_on | (refine ⟨_, fun _ _ => rfl, ?_⟩; go_big_quiet_on))
      (go_big_quiet_want; refine qC_load22 (.tmp 55) rfl (w.heap.size) (2) (.slice (some ⟨b, o, none⟩) n cp) rfl (fun wq hC => hC.rg.cell 2) ?_; simp only [Act.put, siB, stS, stZ]; go_big_quiet_on)
      iterate 3 (go_big_quiet_want; go_big_quiet_op; first | go_big_quiet_on | (refine ⟨_, fun _ _ => rfl, ?_⟩; go_big_quiet_on))
      (go_big_quiet_want; refine qC_load5 (.tmp 59) rfl (b) (o + k * 15 + 4) (.int .u8 z) rfl (fun wq hC => by rw [HW.out k wq hlt hC.be, hz]) ?_; simp only [Act.put, siB, stS, stZ]; go_big_quiet_on)
      (go_big_quiet_want; refine qC_of (.bool false) (fun wq hC => by unfold execOp; simp [go_sem] <;> first | assumption | omega) ?_; simp only [Act.put, siB, stS, stZ]; go_big_quiet_on)
      (go_big_quiet_want; go_big_quiet_op; first | go_big_quiet_on | (refine ⟨_, fun _ _ => rfl, ?_⟩; go_big_quiet_on))
      (go_big_quiet_want; refine qC_of (.bool false) (fun wq hC => by unfold execOp; simp [go_sem] <;> first | assumption | omega) ?_; simp only [Act.put, siB, stS, stZ]; go_big_quiet_on)
      iterate 3 (go_big_quiet_want; go_big_quiet_op; first | go_big_quiet_on | (refine ⟨_, fun _ _ => rfl, ?_⟩; go_big_quiet_on))
      iterate 14 go_big_quiet_skip
      iterate 2 (go_big_quiet_want; go_big_quiet_op; first | go_big_quiet_on | (refine ⟨_, fun _ _ => rfl, ?_⟩; go_big_quiet_on))
      refine wpQuiet_nil ?_
      intro wz hC
      have F7 := Box'.mk hC
      clear hC F5
      go_wp2_with fail
      by_cases h2 : z = 2
      case neg =>
       have E : ∀ j, j < k + 1 → okAt cols c j = true := KN.out (by rw [okE.out, hH, decide_eq_false (show ¬ (cat c k).wd = 0 by omega), decide_eq_false (show ¬ (cat c k).wd = 2 by omega)]; rfl)
       refine wp_region_lex (fun wa => GrM w (gA (cols : Int) (rows : Int) (.slice (some ⟨b, o, none⟩) n cp)) wa) (by kernel_rfl) (by kernel_rfl) (F7.out.drew) ?_
       (go_big_quiet_want; go_big_quiet_op; first | go_big_quiet_on | (refine ⟨_, fun _ _ => rfl, ?_⟩; go_big_quiet_on))
       (go_big_quiet_want; refine qC_load22 (.tmp 83) rfl (w.heap.size) (2) (.slice (some ⟨b, o, none⟩) n cp) rfl (fun wq hC => hC.rg.cell 2) ?_; simp only [Act.put, siB, stS, stZ]; go_big_quiet_on)
       iterate 3 (go_big_quiet_want; go_big_quiet_op; first | go_big_quiet_on | (refine ⟨_, fun _ _ => rfl, ?_⟩; go_big_quiet_on))
       (go_big_quiet_want; refine qC_load5 (.tmp 87) rfl (b) (o + k * 15 + 4) (.int .u8 z) rfl (fun wq hC => by rw [HW.out k wq hlt hC.be, hz]) ?_; simp only [Act.put, siB, stS, stZ]; go_big_quiet_on)
       (go_big_quiet_want; refine qC_of (.bool false) (fun wq hC => by unfold execOp; simp [go_sem] <;> first | assumption | omega) ?_; simp only [Act.put, siB, stS, stZ]; go_big_quiet_on)
       (go_big_quiet_want; go_big_quiet_op; first | go_big_quiet_on | (refine ⟨_, fun _ _ => rfl, ?_⟩; go_big_quiet_on))
       iterate 8 go_big_quiet_skip
       (go_big_quiet_want; go_big_quiet_op; first | go_big_quiet_on | (refine ⟨_, fun _ _ => rfl, ?_⟩; go_big_quiet_on))
       refine wpQuiet_nil ?_
       intro wz hC
       have F9 := Box'.mk hC
       clear hC
       go_wp2_with fail
       exact ⟨⟨k + 1, by omega, by go_num, ⟨E⟩, F9⟩, by simp [intOf]; omega⟩
      case pos =>
       subst h2
       by_cases hl : k % cols = cols - 1
       case pos =>
        have E := Box'.mk (KF.out (by rw [okE.out, decide_eq_true (show (cat c k).wd = 2 by omega), decide_eq_true hl]; simp))
        have hlast : (k : Int) % (cols : Int) = (cols : Int) - 1 := by rw [← Int.natCast_emod]; omega
        refine wp_region_lex (fun wa => GrM w (gA (cols : Int) (rows : Int) (.slice (some ⟨b, o, none⟩) n cp)) wa) (by kernel_rfl) (by kernel_rfl) (F7.out.drew) ?_
        (go_big_quiet_want; go_big_quiet_op; first | go_big_quiet_on | (refine ⟨_, fun _ _ => rfl, ?_⟩; go_big_quiet_on))
        (go_big_quiet_want; refine qC_load22 (.tmp 83) rfl (w.heap.size) (2) (.slice (some ⟨b, o, none⟩) n cp) rfl (fun wq hC => hC.rg.cell 2) ?_; simp only [Act.put, siB, stS, stZ]; go_big_quiet_on)
        iterate 3 (go_big_quiet_want; go_big_quiet_op; first | go_big_quiet_on | (refine ⟨_, fun _ _ => rfl, ?_⟩; go_big_quiet_on))
        (go_big_quiet_want; refine qC_load5 (.tmp 87) rfl (b) (o + k * 15 + 4) (.int .u8 2) rfl (fun wq hC => by rw [HW.out k wq hlt hC.be, hz]) ?_; simp only [Act.put, siB, stS, stZ]; go_big_quiet_on)
        (go_big_quiet_want; refine qC_of (.bool true) (fun wq hC => by unfold execOp; simp [go_sem] <;> first | assumption | omega) ?_; simp only [Act.put, siB, stS, stZ]; go_big_quiet_on)
        iterate 3 (go_big_quiet_want; go_big_quiet_op; first | go_big_quiet_on | (refine ⟨_, fun _ _ => rfl, ?_⟩; go_big_quiet_on))
        (go_big_quiet_want; refine qC_load3 (.tmp 92) rfl (w.heap.size) (0) (.int .i64 (cols : Int)) rfl (fun wq hC => hC.rg.cell 0) ?_; simp only [Act.put, siB, stS, stZ]; go_big_quiet_on)
        iterate 2 (go_big_quiet_want; go_big_quiet_op; first | go_big_quiet_on | (refine ⟨_, fun _ _ => rfl, ?_⟩; go_big_quiet_on))
        (go_big_quiet_want; refine qC_load3 (.tmp 95) rfl (w.heap.size) (0) (.int .i64 (cols : Int)) rfl (fun wq hC => hC.rg.cell 0) ?_; simp only [Act.put, siB, stS, stZ]; go_big_quiet_on)
        (go_big_quiet_want; go_big_quiet_op; first | go_big_quiet_on | (refine ⟨_, fun _ _ => rfl, ?_⟩; go_big_quiet_on))
        (go_big_quiet_want; refine qC_of (.bool true) (fun wq hC => by unfold execOp; simp [go_sem] <;> first | assumption | omega) ?_; simp only [Act.put, siB, stS, stZ]; go_big_quiet_on)
        (go_big_quiet_want; go_big_quiet_op; first | go_big_quiet_on | (refine ⟨_, fun _ _ => rfl, ?_⟩; go_big_quiet_on))
        refine wpQuiet_nil ?_
        intro wz hC
        have F9 := Box'.mk hC
        clear hC
        go_wp2_with fail
        go_ret
        exact ⟨by rw [E.out]; rfl, F9.out.be⟩
       case neg =>
        have E : ∀ j, j < k + 1 → okAt cols c j = true := KN.out (by rw [okE.out, hH, decide_eq_false (show ¬ (cat c k).wd = 0 by omega), decide_eq_true (show (cat c k).wd = 2 by omega), decide_eq_false hl]; rfl)
        have hlast : ¬ (k : Int) % (cols : Int) = (cols : Int) - 1 := by rw [← Int.natCast_emod]; omega
        refine wp_region_lex (fun wa => GrM w (gA (cols : Int) (rows : Int) (.slice (some ⟨b, o, none⟩) n cp)) wa) (by kernel_rfl) (by kernel_rfl) (F7.out.drew) ?_
        (go_big_quiet_want; go_big_quiet_op; first | go_big_quiet_on | (refine ⟨_, fun _ _ => rfl, ?_⟩; go_big_quiet_on))
        (go_big_quiet_want; refine qC_load22 (.tmp 83) rfl (w.heap.size) (2) (.slice (some ⟨b, o, none⟩) n cp) rfl (fun wq hC => hC.rg.cell 2) ?_; simp only [Act.put, siB, stS, stZ]; go_big_quiet_on)
        iterate 3 (go_big_quiet_want; go_big_quiet_op; first | go_big_quiet_on | (refine ⟨_, fun _ _ => rfl, ?_⟩; go_big_quiet_on))
        (go_big_quiet_want; refine qC_load5 (.tmp 87) rfl (b) (o + k * 15 + 4) (.int .u8 2) rfl (fun wq hC => by rw [HW.out k wq hlt hC.be, hz]) ?_; simp only [Act.put, siB, stS, stZ]; go_big_quiet_on)
        (go_big_quiet_want; refine qC_of (.bool true) (fun wq hC => by unfold execOp; simp [go_sem] <;> first | assumption | omega) ?_; simp only [Act.put, siB, stS, stZ]; go_big_quiet_on)
        iterate 3 (go_big_quiet_want; go_big_quiet_op; first | go_big_quiet_on | (refine ⟨_, fun _ _ => rfl, ?_⟩; go_big_quiet_on))
        (go_big_quiet_want; refine qC_load3 (.tmp 92) rfl (w.heap.size) (0) (.int .i64 (cols : Int)) rfl (fun wq hC => hC.rg.cell 0) ?_; simp only [Act.put, siB, stS, stZ]; go_big_quiet_on)
        iterate 2 (go_big_quiet_want; go_big_quiet_op; first | go_big_quiet_on | (refine ⟨_, fun _ _ => rfl, ?_⟩; go_big_quiet_on))
        (go_big_quiet_want; refine qC_load3 (.tmp 95) rfl (w.heap.size) (0) (.int .i64 (cols : Int)) rfl (fun wq hC => hC.rg.cell 0) ?_; simp only [Act.put, siB, stS, stZ]; go_big_quiet_on)
        (go_big_quiet_want; go_big_quiet_op; first | go_big_quiet_on | (refine ⟨_, fun _ _ => rfl, ?_⟩; go_big_quiet_on))
        (go_big_quiet_want; refine qC_of (.bool false) (fun wq hC => by unfold execOp; simp [go_sem] <;> first | assumption | omega) ?_; simp only [Act.put, siB, stS, stZ]; go_big_quiet_on)
        (go_big_quiet_want; go_big_quiet_op; first | go_big_quiet_on | (refine ⟨_, fun _ _ => rfl, ?_⟩; go_big_quiet_on))
        refine wpQuiet_nil ?_
        intro wz hC
        have F9 := Box'.mk hC
        clear hC
        go_wp2_with fail
        exact ⟨⟨k + 1, by omega, by go_num, ⟨E⟩, F9⟩, by simp [intOf]; omega⟩
/-- May, of every grid, as the reference asks. -/
theorem rmayg_any (co ro : Int) (v : Value) (c : List Cl) (w : World) (hv : Cls w.heap.size w v c) : Calls Try.prog 30 #[.agg (gA co ro v)] w fun e w' => e = .returned (.bool (mayG co ro c)) ∧ Below w.heap.size w w' := by
 cases h : sideF co with
 | false =>
  have e : mayG co ro c = false := by unfold mayG; rw [h]; rfl
  rw [e]
  exact rmayg_1 co ro v h w
 | true =>
  cases h2 : sideF ro with
  | false =>
   have e : mayG co ro c = false := by unfold mayG; rw [h, h2]; rfl
   rw [e]
   exact rmayg_2 co ro v h h2 w
  | true =>
   obtain ⟨rows, rfl, h3, h4⟩ := side_nat h2
   obtain ⟨cols, rfl, h1, h2'⟩ := side_nat h
   by_cases hl : c.length = cols * rows
   ·exact rmayg_4 cols rows v c h1 h2' h3 h4 hl w hv
   ·have e : mayG (cols : Int) (rows : Int) c = false := by
     unfold mayG
     rw [decide_eq_false (show ¬ (c.length : Int) = (cols : Int) * (rows : Int) by rw [← Int.natCast_mul]; omega)]
     simp
    rw [e]
    obtain ⟨a, cp, rfl, _⟩ := hv
    exact rmayg_3 cols rows a c.length cp h1 h2' h3 h4 hl w
end Go.Proofs.Ytepepoabbbjmgaa.Sc
