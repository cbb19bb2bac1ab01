/- Erase, Shift, Resize; what may be may be behind each call; GridStays, walked. -/
import Derived.Test.YtejnlogoidkloaaMl
import Derived.Test.YtejnlogoidkloaaNo
import Derived.Test.YtejnlogoidkloaaNl
import Derived.Test.YtejnlogoidkloaaNm
import Derived.Test.YtejnlogoidkloaaOk
import Derived.Test.YtejnlogoidkloaaNf
namespace Go.Proofs.Ytejnlogoidkloaa
open Go.RowKit Go.BigFrame
set_option linter.unusedVariables false
set_option linter.unusedSimpArgs false

set_option maxRecDepth 100000 in
set_option maxHeartbeats 16000000 in
theorem erase_ok (cols rows : Nat) (v : Value) (c : List Cl) (row fr to : Nat) (s : St) (w : World) (hv : Cls w.heap.size w v c) (hG : mayG (cols : Int) (rows : Int) c = true) (hS : mayS s = true) (h1 : row < rows) (h2 : fr ≤ to) (h3 : to ≤ cols) :
    Calls Try.prog 12 #[.agg (gA (cols : Int) (rows : Int) v), .int .i64 (row : Int), .int .i64 (fr : Int), .int .i64 (to : Int), .agg (sA s)] w fun e w' => ∃ b, e = .returned (gOk (cols : Int) (rows : Int) (.slice (some ⟨b, 0, none⟩) c.length c.length)) ∧ w.heap.size ≤ b ∧ RC w' b (putRow c cols row (mnd (erF (rowF c cols row) fr to s))) [] ∧ Below w.heap.size w w' := by
  obtain ⟨cols', rows', ec, er, p1, p2, p3, p4, hl⟩ := mayG_dest hG
  obtain rfl : cols = cols' := by omega
  obtain rfl : rows = rows' := by omega
  have hle : cols * rows ≤ 512 * 512 := Nat.mul_le_mul p2 p4
  have hpos : 1 * 1 ≤ cols * rows := Nat.mul_le_mul p1 p3
  have MG : Box' (∀ wx, Below w.heap.size w wx → Calls Try.prog 20 #[.agg (gA (cols : Int) (rows : Int) v)] wx fun e w' => e = .returned (.bool (mayG (cols : Int) (rows : Int) c)) ∧ Below wx.heap.size wx w') := ⟨fun wx hb => gmay_any (cols : Int) (rows : Int) v c wx ((hv.below hb (Nat.le_refl _)).up hb.size)⟩
  rw [hG] at MG
  have MS := Box'.mk (mayStyle15_any s)
  rw [hS] at MS
  have AN : Box' (∀ wx, Below w.heap.size w wx → Calls Try.prog 34 #[.agg (gA (cols : Int) (rows : Int) v)] wx fun e w' => ∃ b, e = .returned (.agg (gA (cols : Int) (rows : Int) (.slice (some ⟨b, 0, none⟩) c.length c.length))) ∧ wx.heap.size ≤ b ∧ RC w' b c [] ∧ Below wx.heap.size wx w') := ⟨fun wx hb => another_any (cols : Int) (rows : Int) v c (by omega) (by omega) wx ((hv.below hb (Nat.le_refl _)).up hb.size)⟩
  have F := Box'.mk (FrG.begin w (gA (cols : Int) (rows : Int) v) s)
  have U24 := Box'.mk Try.underlying24
  have S24 := Box'.mk s24g
  have U26 := Box'.mk Try.underlying26
  have S26 := Box'.mk s24
  have hfit : cols * row + cols ≤ cols * rows := by have := Nat.mul_le_mul_left cols (show row + 1 ≤ rows by omega); rw [Nat.mul_add, Nat.mul_one] at this; exact this
  have RO : Box' (∀ b wx, Calls Try.prog 35 #[.agg (gA (cols : Int) (rows : Int) (.slice (some ⟨b, 0, none⟩) c.length c.length)), .int .i64 (row : Int)] wx fun e w' => e = .returned (.slice (some ⟨b, cols * row * 15, none⟩) cols cols) ∧ Below wx.heap.size wx w') := ⟨fun b wx => by
    have := rowOf_any cols row b 0 c.length c.length (rows : Int) p1 p2 (by omega) (by rw [Nat.mul_add, Nat.mul_one]; omega) wx
    rwa [Nat.zero_add] at this⟩
  have hrl : (rowF c cols row).length = cols := rowF_len c cols row (by rw [Nat.mul_comm row cols]; omega)
  have hFl : (erF (rowF c cols row) fr to s).length = cols := by rw [erF_len _ _ _ _ h2 (by omega), hrl]
  have ME : Box' (∀ b wx, RC wx b (lay c (cols * row) (erF (rowF c cols row) fr to s)) [] → Calls Try.prog 36 #[.slice (some ⟨b, cols * row * 15, none⟩) cols cols] wx fun e w' => (∃ v, e = .returned v) ∧ RC w' b (putRow c cols row (mnd (erF (rowF c cols row) fr to s))) [] ∧ Tc b wx w') := ⟨fun b wx h => by
    rw [← lay_put c cols row _ (by rw [mnd_len]; exact hFl)]
    exact mend_any b (cols * row) cols cols c [] _ wx (by omega) (Nat.le_refl _) hFl (by omega) h⟩
  have IN2 := Box'.mk (isIn_any (row : Int) (rows : Int))
  rw [show inN (row : Int) (rows : Int) = true by unfold inN; simp; omega] at IN2
  have CU := Box'.mk (fun b w => run_cutLH b (cols * row * 15) cols cols fr to h2 h3 w)
  have HX : to - fr = 0 ∨ cutO (cols * row * 15) cols fr = (cols * row + fr) * 15 := by
    by_cases hz : cols = fr
    · left; omega
    · right; rw [cutO_at hz, Nat.add_mul]
  have FI : Box' (∀ b wx, RC wx b c [] → Calls Try.prog 41 #[.slice (some ⟨b, cutO (cols * row * 15) cols fr, none⟩) (to - fr) (cols - fr), .agg (sA s)] wx fun e w' => (∃ v, e = .returned v) ∧ RC w' b (lay c (cols * row) (erF (rowF c cols row) fr to s)) [] ∧ Tc b wx w') := ⟨fun b wx h => by
    rw [← erF_lay (rowF c cols row) fr to s h2, ← lay_row c cols row fr _ (by rw [List.length_replicate]; omega) (by omega), ← fiL_lay]
    exact fill_any b _ (cols * row + fr) (to - fr) (cols - fr) c [] s wx (by omega) HX (by omega) h (by omega)⟩
  generalize cutO (cols * row * 15) cols fr = x at *
  have i0 : (0 : Int) ≤ (fr : Int) := by omega
  have i1 : (fr : Int) ≤ (to : Int) := by omega
  have i2 : (to : Int) ≤ (cols : Int) := by omega
  generalize hX : putRow c cols row (mnd (erF (rowF c cols row) fr to s)) = X at *
  clear hX hG hS hv ec er hl hle hpos hrl hFl HX
  go_enter Try.func12, Try.ntmps12
  go_upto_region 1 with (fail)
  generalize (((w.alloc (.cells (gA (cols : Int) (rows : Int) v) 24)).alloc (.cells (sA s) 26)).alloc (.cells #[.int .i64 0, .int .i64 0, .slice none 0 0] 24)) = w1 at *
  go_wp2_with (first
    | (refine wpList_load_row rfl 24 (.tmp 5) rfl w.heap.size rfl 24 (gA (cols : Int) (rows : Int) v) F.out.rg _ U24.out rfl 3 S24.out rfl ?_))
  refine (MG.out _ F.out.be).mono ?_
  rintro e w2 ⟨rfl, hb⟩
  replace F := Box'.mk (F.out.below hb)
  clear hb
  have cs0 : w2.cell? ⟨w.heap.size + 1, 0, none⟩ = some (.int .i64 s.fg) := F.out.rs.cell 0
  have cs1 : w2.cell? ⟨w.heap.size + 1, 1, none⟩ = some (.int .i64 s.bg) := F.out.rs.cell 1
  have cs2 : w2.cell? ⟨w.heap.size + 1, 2, none⟩ = some (.bool s.b1) := F.out.rs.cell 2
  have cs3 : w2.cell? ⟨w.heap.size + 1, 3, none⟩ = some (.bool s.b2) := F.out.rs.cell 3
  have cs4 : w2.cell? ⟨w.heap.size + 1, 4, none⟩ = some (.bool s.b3) := F.out.rs.cell 4
  have cs5 : w2.cell? ⟨w.heap.size + 1, 5, none⟩ = some (.bool s.b4) := F.out.rs.cell 5
  have cs6 : w2.cell? ⟨w.heap.size + 1, 6, none⟩ = some (.bool s.b5) := F.out.rs.cell 6
  have cs7 : w2.cell? ⟨w.heap.size + 1, 7, none⟩ = some (.bool s.b7) := F.out.rs.cell 7
  have cs8 : w2.cell? ⟨w.heap.size + 1, 8, none⟩ = some (.bool s.b8) := F.out.rs.cell 8
  have cs9 : w2.cell? ⟨w.heap.size + 1, 9, none⟩ = some (.bool s.b9) := F.out.rs.cell 9
  have c0 : w2.cell? ⟨w.heap.size, 0, none⟩ = some (.int .i64 (cols : Int)) := F.out.rg.cell 0
  have c1 : w2.cell? ⟨w.heap.size, 1, none⟩ = some (.int .i64 (rows : Int)) := F.out.rg.cell 1
  go_wp2_with fail
  refine (MS.out _).mono ?_
  rintro e w3 ⟨rfl, hb⟩
  replace F := Box'.mk (F.out.below hb)
  clear hb
  clear c0 c1 cs0 cs1 cs2 cs3 cs4 cs5 cs6 cs7 cs8 cs9
  have cs0 : w3.cell? ⟨w.heap.size + 1, 0, none⟩ = some (.int .i64 s.fg) := F.out.rs.cell 0
  have cs1 : w3.cell? ⟨w.heap.size + 1, 1, none⟩ = some (.int .i64 s.bg) := F.out.rs.cell 1
  have cs2 : w3.cell? ⟨w.heap.size + 1, 2, none⟩ = some (.bool s.b1) := F.out.rs.cell 2
  have cs3 : w3.cell? ⟨w.heap.size + 1, 3, none⟩ = some (.bool s.b2) := F.out.rs.cell 3
  have cs4 : w3.cell? ⟨w.heap.size + 1, 4, none⟩ = some (.bool s.b3) := F.out.rs.cell 4
  have cs5 : w3.cell? ⟨w.heap.size + 1, 5, none⟩ = some (.bool s.b4) := F.out.rs.cell 5
  have cs6 : w3.cell? ⟨w.heap.size + 1, 6, none⟩ = some (.bool s.b5) := F.out.rs.cell 6
  have cs7 : w3.cell? ⟨w.heap.size + 1, 7, none⟩ = some (.bool s.b7) := F.out.rs.cell 7
  have cs8 : w3.cell? ⟨w.heap.size + 1, 8, none⟩ = some (.bool s.b8) := F.out.rs.cell 8
  have cs9 : w3.cell? ⟨w.heap.size + 1, 9, none⟩ = some (.bool s.b9) := F.out.rs.cell 9
  have c0 : w3.cell? ⟨w.heap.size, 0, none⟩ = some (.int .i64 (cols : Int)) := F.out.rg.cell 0
  have c1 : w3.cell? ⟨w.heap.size, 1, none⟩ = some (.int .i64 (rows : Int)) := F.out.rg.cell 1
  go_wp2_with fail
  refine (IN2.out _).mono ?_
  rintro e w4 ⟨rfl, rfl⟩
  go_wp2_with (first
    | (refine wpList_load_row rfl 24 (.tmp 5) rfl w.heap.size rfl 24 (gA (cols : Int) (rows : Int) v) F.out.rg _ U24.out rfl 3 S24.out rfl ?_))
  refine (AN.out _ F.out.be).mono ?_
  rintro e w7a ⟨b, rfl, hb0, hrc, hb⟩
  have hb3 : w.heap.size + 3 ≤ b := Nat.le_trans F.out.sz hb0
  replace F := Box'.mk (F.out.below hb)
  have CC := Box'.mk hrc
  have hblt := hrc.lt
  clear hb hrc hb0 AN MG MS IN2
  clear c0 c1 cs0 cs1 cs2 cs3 cs4 cs5 cs6 cs7 cs8 cs9
  generalize hn : c.length = n at *
  have HN := Box'.mk hn
  clear hn
  have RM : Box' (Room (w7a.alloc (.cells #[.int .i64 0, .int .i64 0, .slice none 0 0] 24)) w7a.heap.size 24 3) := ⟨Room.new _ _ _ _ rfl⟩
  have G4 : Box' (Row ((w7a.alloc (.cells #[.int .i64 0, .int .i64 0, .slice none 0 0] 24)).setRow w7a.heap.size (gA (cols : Int) (rows : Int) (.slice (some ⟨b, 0, none⟩) n n))) w7a.heap.size 24 (gA (cols : Int) (rows : Int) (.slice (some ⟨b, 0, none⟩) n n))) := ⟨RM.out.setRow _⟩
  have C4 : Box' (RC ((w7a.alloc (.cells #[.int .i64 0, .int .i64 0, .slice none 0 0] 24)).setRow w7a.heap.size (gA (cols : Int) (rows : Int) (.slice (some ⟨b, 0, none⟩) n n))) b c []) := ⟨Row.setRowOther (Row.alloc CC.out _) _ _ (by omega)⟩
  have F4 : Box' (FrG w (gA (cols : Int) (rows : Int) v) s ((w7a.alloc (.cells #[.int .i64 0, .int .i64 0, .slice none 0 0] 24)).setRow w7a.heap.size (gA (cols : Int) (rows : Int) (.slice (some ⟨b, 0, none⟩) n n)))) := ⟨F.out.below (below_setRow ((Below.refl _ _).alloc (Nat.le_refl _) _) (Nat.le_refl _) _)⟩
  have O := Box'.mk (gA_one (cols : Int) (rows : Int) (some ⟨b, 0, none⟩) n n)
  go_upto_region 4 with (first
    | (refine wpList_store_row rfl 24 (.tmp 12) (.tmp 46) rfl w7a.heap.size rfl (gA (cols : Int) (rows : Int) (.slice (some ⟨b, 0, none⟩) n n)) rfl 24 3 RM.out S24.out rfl O.out ?_))
  generalize ((w7a.alloc (.cells #[.int .i64 0, .int .i64 0, .slice none 0 0] 24)).setRow w7a.heap.size (gA (cols : Int) (rows : Int) (.slice (some ⟨b, 0, none⟩) n n))) = w7b at *
  clear RM CC F
  have hqb : w7a.heap.size ≠ b := by omega
  have hq3 : w.heap.size + 3 ≤ w7a.heap.size := by omega
  generalize w7a.heap.size = q at *
  go_wp2_with (first
    | (refine wpList_load_row rfl 24 (.tmp 12) rfl q rfl 24 (gA (cols : Int) (rows : Int) (.slice (some ⟨b, 0, none⟩) n n)) G4.out _ U24.out rfl 3 S24.out rfl ?_))
  refine (RO.out b _).mono ?_
  rintro e w5 ⟨rfl, hb⟩
  replace F4 := Box'.mk (F4.out.below hb)
  replace G4 := Box'.mk (G4.out.below hb G4.out.lt)
  replace C4 := Box'.mk (C4.out.below hb C4.out.lt)
  clear hb RO
  go_wp2_with fail
  refine wp_region_growg 5 (by kernel_rfl) 59 rfl (by kernel_rfl) (fun wa wb => Below wa.heap.size wa wb) (fun wa => FrG w (gA (cols : Int) (rows : Int) v) s wa ∧ Row wa q 24 (gA (cols : Int) (rows : Int) (.slice (some ⟨b, 0, none⟩) n n)) ∧ RC wa b c []) (fun kc wa v => match kc with
    | 0 => v = .slice (some ⟨b, cols * row * 15, none⟩) cols cols
    | 1 => v = .int .i64 (fr : Int)
    | 2 => v = .int .i64 (to : Int)
    | 3 => v = .slice (some ⟨b, x, none⟩) (to - fr) (cols - fr)
    | 4 => v = .agg (sA s)
    | _ => True) ?_ ?_ ?_ ?_ ?_ ?_
  · intro i o' j b' hi hg wa v hC hV
    have hlt : i < 5 := by rcases Nat.lt_or_ge i 5 with q | q; exact q; rw [List.getElem?_eq_none (by simpa using q)] at hi; cases hi
    revert hi hg hV
    rcases (show i = 0 ∨ i = 1 ∨ i = 2 ∨ i = 3 ∨ i = 4 by omega) with rfl | rfl | rfl | rfl | rfl <;>
      (intro hi hg hV; simp only [List.take_succ_cons, List.getElem?_cons_zero, List.getElem?_cons_succ, Option.some.injEq] at hi; subst hi; first | (cases hg; exact hV) | (cases hg))
  · rintro wa wb hb ⟨q1, q2, q3⟩; exact ⟨q1.below hb, q2.below hb q2.lt, q3.below hb q3.lt⟩
  · intro kc v wa wb hC1 hb h
    match kc, h with
    | 0, h => exact h
    | 1, h => exact h
    | 2, h => exact h
    | 3, h => exact h
    | 4, h => exact h
    | kc + 5, h => trivial
  · exact ⟨F4.out.drew, G4.out.drew, C4.out.drew⟩
  · refine ⟨?_, ?_, ?_, ?_, ?_, trivial⟩
    · intro f wq hC hd KK hK
      clear hd
      simp only [List.take_succ_cons, List.take_zero, setAll, List.setIfInBounds_toArray, List.set_cons_succ, List.set_cons_zero, Nat.zero_add, Nat.reduceAdd] at hK ⊢
      refine wp_of_quiet rfl ?_
      go_big_quiet_step (fail)
      exact wpQuiet_nil (hK _ _ (rfl) (Below.refl _ _))
    · intro f wq hC hd KK hK
      clear hd
      simp only [List.take_succ_cons, List.take_zero, setAll, List.setIfInBounds_toArray, List.set_cons_succ, List.set_cons_zero, Nat.zero_add, Nat.reduceAdd] at hK ⊢
      refine wp_of_quiet rfl ?_
      go_big_quiet_step (fail)
      exact wpQuiet_nil (hK _ _ (rfl) (Below.refl _ _))
    · intro f wq hC hd KK hK
      clear hd
      simp only [List.take_succ_cons, List.take_zero, setAll, List.setIfInBounds_toArray, List.set_cons_succ, List.set_cons_zero, Nat.zero_add, Nat.reduceAdd] at hK ⊢
      refine wp_of_quiet rfl ?_
      go_big_quiet_step (fail)
      exact wpQuiet_nil (hK _ _ (rfl) (Below.refl _ _))
    · intro f wq hC hd KK hK
      have g0 : f 0 = .slice (some ⟨b, cols * row * 15, none⟩) cols cols := hd 0 (by kernel_rfl)
      have g1 : f 1 = .int .i64 (fr : Int) := hd 1 (by kernel_rfl)
      have g2 : f 2 = .int .i64 (to : Int) := hd 2 (by kernel_rfl)
      clear hd
      simp only [List.take_succ_cons, List.take_zero, setAll, List.setIfInBounds_toArray, List.set_cons_succ, List.set_cons_zero, Nat.zero_add, Nat.reduceAdd, g0, g1, g2] at hK ⊢
      exact wp_val _ (slice_op 22 (.tmp 50) (some (.tmp 51)) (some (.tmp 52)) none rfl _ _ (CU.out b _)) (hK _ _ rfl (Below.refl _ _))
    · intro f wq hC hd KK hK
      clear hd
      have cs0 : wq.cell? ⟨w.heap.size + 1, 0, none⟩ = some (.int .i64 s.fg) := hC.1.rs.cell 0
      have cs1 : wq.cell? ⟨w.heap.size + 1, 1, none⟩ = some (.int .i64 s.bg) := hC.1.rs.cell 1
      have cs2 : wq.cell? ⟨w.heap.size + 1, 2, none⟩ = some (.bool s.b1) := hC.1.rs.cell 2
      have cs3 : wq.cell? ⟨w.heap.size + 1, 3, none⟩ = some (.bool s.b2) := hC.1.rs.cell 3
      have cs4 : wq.cell? ⟨w.heap.size + 1, 4, none⟩ = some (.bool s.b3) := hC.1.rs.cell 4
      have cs5 : wq.cell? ⟨w.heap.size + 1, 5, none⟩ = some (.bool s.b4) := hC.1.rs.cell 5
      have cs6 : wq.cell? ⟨w.heap.size + 1, 6, none⟩ = some (.bool s.b5) := hC.1.rs.cell 6
      have cs7 : wq.cell? ⟨w.heap.size + 1, 7, none⟩ = some (.bool s.b7) := hC.1.rs.cell 7
      have cs8 : wq.cell? ⟨w.heap.size + 1, 8, none⟩ = some (.bool s.b8) := hC.1.rs.cell 8
      have cs9 : wq.cell? ⟨w.heap.size + 1, 9, none⟩ = some (.bool s.b9) := hC.1.rs.cell 9
      clear hC
      simp only [List.take_succ_cons, List.take_zero, setAll, List.setIfInBounds_toArray, List.set_cons_succ, List.set_cons_zero, Nat.zero_add, Nat.reduceAdd] at hK ⊢
      refine wp_of_quiet rfl ?_
      go_big_quiet_step (fail)
      exact wpQuiet_nil (hK _ _ (rfl) (Below.refl _ _))
  · intro f wz hC hv
    have p0 : f 0 = .slice (some ⟨b, cols * row * 15, none⟩) cols cols := hv 0 (by decide)
    have p1 : f 1 = .int .i64 (fr : Int) := hv 1 (by decide)
    have p2 : f 2 = .int .i64 (to : Int) := hv 2 (by decide)
    have p3 : f 3 = .slice (some ⟨b, x, none⟩) (to - fr) (cols - fr) := hv 3 (by decide)
    have p4 : f 4 = .agg (sA s) := hv 4 (by decide)
    simp only [List.take_succ_cons, List.take_zero, List.drop_succ_cons, List.drop_zero, setAll, List.setIfInBounds_toArray, List.set_cons_succ, List.set_cons_zero, Nat.zero_add, Nat.reduceAdd, p0, p1, p2, p3, p4]
    clear hv p0 p1 p2 p3 p4
    have F5 := Box'.mk hC.1
    have G5 := Box'.mk hC.2.1
    have C5 := Box'.mk hC.2.2
    clear hC F4 G4 C4 CU
    go_wp2_with fail
    refine (FI.out b _ C5.out).mono ?_
    rintro e w6 ⟨⟨v6, rfl⟩, hr6, ht6⟩
    have C6 := Box'.mk hr6
    have F6 := Box'.mk (F5.out.tc ht6 hb3)
    have G6 := Box'.mk (ht6.row G5.out hqb)
    clear hr6 ht6 F5 G5 C5 FI
    go_wp2_with fail
    refine (ME.out b _ C6.out).mono ?_
    rintro e w9 ⟨⟨v9, rfl⟩, hr9, ht9⟩
    have C9 := Box'.mk hr9
    have F9 := Box'.mk (F6.out.tc ht9 hb3)
    have G9 := Box'.mk (ht9.row G6.out hqb)
    clear hr9 ht9 F6 G6 C6 ME
    go_wp2_with (first
      | (refine wpList_load_row rfl 24 (.tmp 12) rfl q rfl 24 (gA (cols : Int) (rows : Int) (.slice (some ⟨b, 0, none⟩) n n)) G9.out _ U24.out rfl 3 S24.out rfl ?_)
      | (refine wpList_store_row rfl 24 (.tmp 10) (.tmp 58) rfl (w.heap.size + 2) rfl (gA (cols : Int) (rows : Int) (.slice (some ⟨b, 0, none⟩) n n)) rfl 24 3 F9.out.rr S24.out rfl O.out ?_))
    exact bodyPost_ret (results_two rfl _ (w.heap.size + 2) rfl _ rfl _ _ (F9.out.rr.setRow _) rfl) rfl ⟨b, by rw [HN.out]; rfl, by omega, Row.setRowOther C9.out _ _ (by omega), below_setRow F9.out.be (by omega) _⟩
set_option maxRecDepth 100000 in
set_option maxHeartbeats 16000000 in
theorem shift_ok (cols rows : Nat) (v : Value) (c : List Cl) (row fr : Nat) (k : Int) (s : St) (w : World) (hv : Cls w.heap.size w v c) (hG : mayG (cols : Int) (rows : Int) c = true) (hS : mayS s = true) (h1 : row < rows) (h2 : fr < cols) :
    Calls Try.prog 14 #[.agg (gA (cols : Int) (rows : Int) v), .int .i64 (row : Int), .int .i64 (fr : Int), .int .i64 k, .agg (sA s)] w fun e w' => ∃ b, e = .returned (gOk (cols : Int) (rows : Int) (.slice (some ⟨b, 0, none⟩) c.length c.length)) ∧ w.heap.size ≤ b ∧ RC w' b (putRow c cols row (mnd (shF (rowF c cols row) fr k s))) [] ∧ Below w.heap.size w w' := by
  obtain ⟨cols', rows', ec, er, p1, p2, p3, p4, hl⟩ := mayG_dest hG
  obtain rfl : cols = cols' := by omega
  obtain rfl : rows = rows' := by omega
  have hle : cols * rows ≤ 512 * 512 := Nat.mul_le_mul p2 p4
  have hpos : 1 * 1 ≤ cols * rows := Nat.mul_le_mul p1 p3
  have MG : Box' (∀ wx, Below w.heap.size w wx → Calls Try.prog 20 #[.agg (gA (cols : Int) (rows : Int) v)] wx fun e w' => e = .returned (.bool (mayG (cols : Int) (rows : Int) c)) ∧ Below wx.heap.size wx w') := ⟨fun wx hb => gmay_any (cols : Int) (rows : Int) v c wx ((hv.below hb (Nat.le_refl _)).up hb.size)⟩
  rw [hG] at MG
  have MS := Box'.mk (mayStyle15_any s)
  rw [hS] at MS
  have AN : Box' (∀ wx, Below w.heap.size w wx → Calls Try.prog 34 #[.agg (gA (cols : Int) (rows : Int) v)] wx fun e w' => ∃ b, e = .returned (.agg (gA (cols : Int) (rows : Int) (.slice (some ⟨b, 0, none⟩) c.length c.length))) ∧ wx.heap.size ≤ b ∧ RC w' b c [] ∧ Below wx.heap.size wx w') := ⟨fun wx hb => another_any (cols : Int) (rows : Int) v c (by omega) (by omega) wx ((hv.below hb (Nat.le_refl _)).up hb.size)⟩
  have F := Box'.mk (FrG.begin w (gA (cols : Int) (rows : Int) v) s)
  have U24 := Box'.mk Try.underlying24
  have S24 := Box'.mk s24g
  have U26 := Box'.mk Try.underlying26
  have S26 := Box'.mk s24
  have hfit : cols * row + cols ≤ cols * rows := by have := Nat.mul_le_mul_left cols (show row + 1 ≤ rows by omega); rw [Nat.mul_add, Nat.mul_one] at this; exact this
  have RO : Box' (∀ b wx, Calls Try.prog 35 #[.agg (gA (cols : Int) (rows : Int) (.slice (some ⟨b, 0, none⟩) c.length c.length)), .int .i64 (row : Int)] wx fun e w' => e = .returned (.slice (some ⟨b, cols * row * 15, none⟩) cols cols) ∧ Below wx.heap.size wx w') := ⟨fun b wx => by
    have := rowOf_any cols row b 0 c.length c.length (rows : Int) p1 p2 (by omega) (by rw [Nat.mul_add, Nat.mul_one]; omega) wx
    rwa [Nat.zero_add] at this⟩
  have hrl : (rowF c cols row).length = cols := rowF_len c cols row (by rw [Nat.mul_comm row cols]; omega)
  have hFl : (shF (rowF c cols row) fr k s).length = cols := by rw [shF_len, hrl]
  have ME : Box' (∀ b wx, RC wx b (lay c (cols * row) (shF (rowF c cols row) fr k s)) [] → Calls Try.prog 36 #[.slice (some ⟨b, cols * row * 15, none⟩) cols cols] wx fun e w' => (∃ v, e = .returned v) ∧ RC w' b (putRow c cols row (mnd (shF (rowF c cols row) fr k s))) [] ∧ Tc b wx w') := ⟨fun b wx h => by
    rw [← lay_put c cols row _ (by rw [mnd_len]; exact hFl)]
    exact mend_any b (cols * row) cols cols c [] _ wx (by omega) (Nat.le_refl _) hFl (by omega) h⟩
  have IN2 := Box'.mk (isIn_any (row : Int) (rows : Int))
  rw [show inN (row : Int) (rows : Int) = true by unfold inN; simp; omega] at IN2
  have IN3 := Box'.mk (isIn_any (fr : Int) (cols : Int))
  rw [show inN (fr : Int) (cols : Int) = true by unfold inN; simp; omega] at IN3
  have CU := Box'.mk (fun b w => run_cutL b (cols * row * 15) cols cols fr (by omega) (Nat.le_refl _) w)
  rw [cutO_at (by omega), ← Nat.add_mul] at CU
  have hcf : ((cols - fr : Nat) : Int) = (cols : Int) - (fr : Int) := by omega
  have CL : Box' (∀ wx, Calls Try.prog 43 #[.int .i64 k, .int .i64 ((cols - fr : Nat) : Int)] wx fun e w' => e = .returned (.int .i64 (clF k ((cols - fr : Nat) : Int))) ∧ Below wx.heap.size wx w') := ⟨fun wx => (clamp_any k (cols - fr) (by omega) wx).mono fun e w' h => ⟨h.1, h.2 ▸ Below.refl _ _⟩⟩
  have hz1 : -((cols - fr : Nat) : Int) ≤ clF k ((cols - fr : Nat) : Int) := by unfold clF; omega
  have hz2 : clF k ((cols - fr : Nat) : Int) ≤ ((cols - fr : Nat) : Int) := by unfold clF; omega
  have PU : Box' (∀ b wx, RC wx b c [] → Calls Try.prog 42 #[.slice (some ⟨b, (cols * row + fr) * 15, none⟩) (cols - fr) (cols - fr), .int .i64 (clF k ((cols - fr : Nat) : Int)), .agg (sA s)] wx fun e w' => (∃ v, e = .returned v) ∧ RC w' b (lay c (cols * row) (shF (rowF c cols row) fr k s)) [] ∧ Tc b wx w') := ⟨fun b wx h => by
    have hdl : ((rowF c cols row).drop fr).length = cols - fr := by rw [List.length_drop, hrl]
    have := push_any b (cols * row + fr) (cols - fr) (cols - fr) _ c [] s wx hz1 hz2 (Nat.le_refl _) (by omega) h (by omega)
    rw [row_drop, lay_row c cols row fr _ (by rw [puF_len _ _ _ (by rw [hdl]; exact hz1) (by rw [hdl]; exact hz2), hdl]; omega) (by omega)] at this
    have e := shF_lay (rowF c cols row) fr k s (by omega)
    rw [hrl] at e
    rw [e] at this
    exact this⟩
  generalize clF k ((cols - fr : Nat) : Int) = z at *
  rw [hcf] at CL
  generalize hX : putRow c cols row (mnd (shF (rowF c cols row) fr k s)) = X at *
  clear hX hG hS hv ec er hl hle hpos hrl hFl hz1 hz2 hcf
  go_enter Try.func14, Try.ntmps14
  go_upto_region 1 with (fail)
  generalize (((w.alloc (.cells (gA (cols : Int) (rows : Int) v) 24)).alloc (.cells (sA s) 26)).alloc (.cells #[.int .i64 0, .int .i64 0, .slice none 0 0] 24)) = w1 at *
  go_wp2_with (first
    | (refine wpList_load_row rfl 24 (.tmp 5) rfl w.heap.size rfl 24 (gA (cols : Int) (rows : Int) v) F.out.rg _ U24.out rfl 3 S24.out rfl ?_))
  refine (MG.out _ F.out.be).mono ?_
  rintro e w2 ⟨rfl, hb⟩
  replace F := Box'.mk (F.out.below hb)
  clear hb
  have cs0 : w2.cell? ⟨w.heap.size + 1, 0, none⟩ = some (.int .i64 s.fg) := F.out.rs.cell 0
  have cs1 : w2.cell? ⟨w.heap.size + 1, 1, none⟩ = some (.int .i64 s.bg) := F.out.rs.cell 1
  have cs2 : w2.cell? ⟨w.heap.size + 1, 2, none⟩ = some (.bool s.b1) := F.out.rs.cell 2
  have cs3 : w2.cell? ⟨w.heap.size + 1, 3, none⟩ = some (.bool s.b2) := F.out.rs.cell 3
  have cs4 : w2.cell? ⟨w.heap.size + 1, 4, none⟩ = some (.bool s.b3) := F.out.rs.cell 4
  have cs5 : w2.cell? ⟨w.heap.size + 1, 5, none⟩ = some (.bool s.b4) := F.out.rs.cell 5
  have cs6 : w2.cell? ⟨w.heap.size + 1, 6, none⟩ = some (.bool s.b5) := F.out.rs.cell 6
  have cs7 : w2.cell? ⟨w.heap.size + 1, 7, none⟩ = some (.bool s.b7) := F.out.rs.cell 7
  have cs8 : w2.cell? ⟨w.heap.size + 1, 8, none⟩ = some (.bool s.b8) := F.out.rs.cell 8
  have cs9 : w2.cell? ⟨w.heap.size + 1, 9, none⟩ = some (.bool s.b9) := F.out.rs.cell 9
  have c0 : w2.cell? ⟨w.heap.size, 0, none⟩ = some (.int .i64 (cols : Int)) := F.out.rg.cell 0
  have c1 : w2.cell? ⟨w.heap.size, 1, none⟩ = some (.int .i64 (rows : Int)) := F.out.rg.cell 1
  go_wp2_with fail
  refine (MS.out _).mono ?_
  rintro e w3 ⟨rfl, hb⟩
  replace F := Box'.mk (F.out.below hb)
  clear hb
  clear c0 c1 cs0 cs1 cs2 cs3 cs4 cs5 cs6 cs7 cs8 cs9
  have cs0 : w3.cell? ⟨w.heap.size + 1, 0, none⟩ = some (.int .i64 s.fg) := F.out.rs.cell 0
  have cs1 : w3.cell? ⟨w.heap.size + 1, 1, none⟩ = some (.int .i64 s.bg) := F.out.rs.cell 1
  have cs2 : w3.cell? ⟨w.heap.size + 1, 2, none⟩ = some (.bool s.b1) := F.out.rs.cell 2
  have cs3 : w3.cell? ⟨w.heap.size + 1, 3, none⟩ = some (.bool s.b2) := F.out.rs.cell 3
  have cs4 : w3.cell? ⟨w.heap.size + 1, 4, none⟩ = some (.bool s.b3) := F.out.rs.cell 4
  have cs5 : w3.cell? ⟨w.heap.size + 1, 5, none⟩ = some (.bool s.b4) := F.out.rs.cell 5
  have cs6 : w3.cell? ⟨w.heap.size + 1, 6, none⟩ = some (.bool s.b5) := F.out.rs.cell 6
  have cs7 : w3.cell? ⟨w.heap.size + 1, 7, none⟩ = some (.bool s.b7) := F.out.rs.cell 7
  have cs8 : w3.cell? ⟨w.heap.size + 1, 8, none⟩ = some (.bool s.b8) := F.out.rs.cell 8
  have cs9 : w3.cell? ⟨w.heap.size + 1, 9, none⟩ = some (.bool s.b9) := F.out.rs.cell 9
  have c0 : w3.cell? ⟨w.heap.size, 0, none⟩ = some (.int .i64 (cols : Int)) := F.out.rg.cell 0
  have c1 : w3.cell? ⟨w.heap.size, 1, none⟩ = some (.int .i64 (rows : Int)) := F.out.rg.cell 1
  go_wp2_with fail
  refine (IN2.out _).mono ?_
  rintro e w4 ⟨rfl, rfl⟩
  go_wp2_with fail
  refine (IN3.out _).mono ?_
  rintro e w4 ⟨rfl, rfl⟩
  go_wp2_with (first
    | (refine wpList_load_row rfl 24 (.tmp 5) rfl w.heap.size rfl 24 (gA (cols : Int) (rows : Int) v) F.out.rg _ U24.out rfl 3 S24.out rfl ?_))
  refine (AN.out _ F.out.be).mono ?_
  rintro e w7a ⟨b, rfl, hb0, hrc, hb⟩
  have hb3 : w.heap.size + 3 ≤ b := Nat.le_trans F.out.sz hb0
  replace F := Box'.mk (F.out.below hb)
  have CC := Box'.mk hrc
  have hblt := hrc.lt
  clear hb hrc hb0 AN MG MS IN2 IN3
  clear c0 c1 cs0 cs1 cs2 cs3 cs4 cs5 cs6 cs7 cs8 cs9
  generalize hn : c.length = n at *
  have HN := Box'.mk hn
  clear hn
  have RM : Box' (Room (w7a.alloc (.cells #[.int .i64 0, .int .i64 0, .slice none 0 0] 24)) w7a.heap.size 24 3) := ⟨Room.new _ _ _ _ rfl⟩
  have G4 : Box' (Row ((w7a.alloc (.cells #[.int .i64 0, .int .i64 0, .slice none 0 0] 24)).setRow w7a.heap.size (gA (cols : Int) (rows : Int) (.slice (some ⟨b, 0, none⟩) n n))) w7a.heap.size 24 (gA (cols : Int) (rows : Int) (.slice (some ⟨b, 0, none⟩) n n))) := ⟨RM.out.setRow _⟩
  have C4 : Box' (RC ((w7a.alloc (.cells #[.int .i64 0, .int .i64 0, .slice none 0 0] 24)).setRow w7a.heap.size (gA (cols : Int) (rows : Int) (.slice (some ⟨b, 0, none⟩) n n))) b c []) := ⟨Row.setRowOther (Row.alloc CC.out _) _ _ (by omega)⟩
  have F4 : Box' (FrG w (gA (cols : Int) (rows : Int) v) s ((w7a.alloc (.cells #[.int .i64 0, .int .i64 0, .slice none 0 0] 24)).setRow w7a.heap.size (gA (cols : Int) (rows : Int) (.slice (some ⟨b, 0, none⟩) n n)))) := ⟨F.out.below (below_setRow ((Below.refl _ _).alloc (Nat.le_refl _) _) (Nat.le_refl _) _)⟩
  have O := Box'.mk (gA_one (cols : Int) (rows : Int) (some ⟨b, 0, none⟩) n n)
  go_upto_region 4 with (first
    | (refine wpList_store_row rfl 24 (.tmp 12) (.tmp 38) rfl w7a.heap.size rfl (gA (cols : Int) (rows : Int) (.slice (some ⟨b, 0, none⟩) n n)) rfl 24 3 RM.out S24.out rfl O.out ?_))
  generalize ((w7a.alloc (.cells #[.int .i64 0, .int .i64 0, .slice none 0 0] 24)).setRow w7a.heap.size (gA (cols : Int) (rows : Int) (.slice (some ⟨b, 0, none⟩) n n))) = w7b at *
  clear RM CC F
  have hqb : w7a.heap.size ≠ b := by omega
  have hq3 : w.heap.size + 3 ≤ w7a.heap.size := by omega
  generalize w7a.heap.size = q at *
  go_wp2_with (first
    | (refine wpList_load_row rfl 24 (.tmp 12) rfl q rfl 24 (gA (cols : Int) (rows : Int) (.slice (some ⟨b, 0, none⟩) n n)) G4.out _ U24.out rfl 3 S24.out rfl ?_))
  refine (RO.out b _).mono ?_
  rintro e w5 ⟨rfl, hb⟩
  replace F4 := Box'.mk (F4.out.below hb)
  replace G4 := Box'.mk (G4.out.below hb G4.out.lt)
  replace C4 := Box'.mk (C4.out.below hb C4.out.lt)
  clear hb RO
  go_wp2_with fail
  refine wp_region_growg 10 (by kernel_rfl) 56 rfl (by kernel_rfl) (fun wa wb => Below wa.heap.size wa wb) (fun wa => FrG w (gA (cols : Int) (rows : Int) v) s wa ∧ Row wa q 24 (gA (cols : Int) (rows : Int) (.slice (some ⟨b, 0, none⟩) n n)) ∧ RC wa b c []) (fun kc wa v => match kc with
    | 0 => v = .slice (some ⟨b, cols * row * 15, none⟩) cols cols
    | 1 => v = .int .i64 (fr : Int)
    | 2 => v = .slice (some ⟨b, (cols * row + fr) * 15, none⟩) (cols - fr) (cols - fr)
    | 3 => v = .int .i64 k
    | 4 => v = .pointer (some ⟨w.heap.size, 0, none⟩)
    | 5 => v = .int .i64 (cols : Int)
    | 6 => v = .int .i64 (fr : Int)
    | 7 => v = .int .i64 ((cols : Int) - (fr : Int))
    | 8 => v = .int .i64 z
    | 9 => v = .agg (sA s)
    | _ => True) ?_ ?_ ?_ ?_ ?_ ?_
  · intro i o' j b' hi hg wa v hC hV
    have hlt : i < 10 := by rcases Nat.lt_or_ge i 10 with q | q; exact q; rw [List.getElem?_eq_none (by simpa using q)] at hi; cases hi
    revert hi hg hV
    rcases (show i = 0 ∨ i = 1 ∨ i = 2 ∨ i = 3 ∨ i = 4 ∨ i = 5 ∨ i = 6 ∨ i = 7 ∨ i = 8 ∨ i = 9 by omega) with rfl | rfl | rfl | rfl | rfl | rfl | rfl | rfl | rfl | rfl <;>
      (intro hi hg hV; simp only [List.take_succ_cons, List.getElem?_cons_zero, List.getElem?_cons_succ, Option.some.injEq] at hi; subst hi; first | (cases hg; exact hV) | (cases hg))
  · rintro wa wb hb ⟨q1, q2, q3⟩; exact ⟨q1.below hb, q2.below hb q2.lt, q3.below hb q3.lt⟩
  · intro kc v wa wb hC1 hb h
    match kc, h with
    | 0, h => exact h
    | 1, h => exact h
    | 2, h => exact h
    | 3, h => exact h
    | 4, h => exact h
    | 5, h => exact h
    | 6, h => exact h
    | 7, h => exact h
    | 8, h => exact h
    | 9, h => exact h
    | kc + 10, h => trivial
  · exact ⟨F4.out.drew, G4.out.drew, C4.out.drew⟩
  · refine ⟨?_, ?_, ?_, ?_, ?_, ?_, ?_, ?_, ?_, ?_, trivial⟩
    · intro f wq hC hd KK hK
      clear hd
      simp only [List.take_succ_cons, List.take_zero, setAll, List.setIfInBounds_toArray, List.set_cons_succ, List.set_cons_zero, Nat.zero_add, Nat.reduceAdd] at hK ⊢
      refine wp_of_quiet rfl ?_
      go_big_quiet_step (fail)
      exact wpQuiet_nil (hK _ _ (rfl) (Below.refl _ _))
    · intro f wq hC hd KK hK
      clear hd
      simp only [List.take_succ_cons, List.take_zero, setAll, List.setIfInBounds_toArray, List.set_cons_succ, List.set_cons_zero, Nat.zero_add, Nat.reduceAdd] at hK ⊢
      refine wp_of_quiet rfl ?_
      go_big_quiet_step (fail)
      exact wpQuiet_nil (hK _ _ (rfl) (Below.refl _ _))
    · intro f wq hC hd KK hK
      have g0 : f 0 = .slice (some ⟨b, cols * row * 15, none⟩) cols cols := hd 0 (by kernel_rfl)
      have g1 : f 1 = .int .i64 (fr : Int) := hd 1 (by kernel_rfl)
      clear hd
      simp only [List.take_succ_cons, List.take_zero, setAll, List.setIfInBounds_toArray, List.set_cons_succ, List.set_cons_zero, Nat.zero_add, Nat.reduceAdd, g0, g1] at hK ⊢
      exact wp_val _ (slice_op 22 (.tmp 42) (some (.tmp 43)) none none rfl _ _ (CU.out b _)) (hK _ _ rfl (Below.refl _ _))
    · intro f wq hC hd KK hK
      clear hd
      simp only [List.take_succ_cons, List.take_zero, setAll, List.setIfInBounds_toArray, List.set_cons_succ, List.set_cons_zero, Nat.zero_add, Nat.reduceAdd] at hK ⊢
      refine wp_of_quiet rfl ?_
      go_big_quiet_step (fail)
      exact wpQuiet_nil (hK _ _ (rfl) (Below.refl _ _))
    · intro f wq hC hd KK hK
      clear hd
      simp only [List.take_succ_cons, List.take_zero, setAll, List.setIfInBounds_toArray, List.set_cons_succ, List.set_cons_zero, Nat.zero_add, Nat.reduceAdd] at hK ⊢
      refine wp_of_quiet rfl ?_
      go_big_quiet_step (fail)
      exact wpQuiet_nil (hK _ _ (rfl) (Below.refl _ _))
    · intro f wq hC hd KK hK
      have g4 : f 4 = .pointer (some ⟨w.heap.size, 0, none⟩) := hd 4 (by kernel_rfl)
      clear hd
      have c0 : wq.cell? ⟨w.heap.size, 0, none⟩ = some (.int .i64 (cols : Int)) := hC.1.rg.cell 0
      clear hC
      simp only [List.take_succ_cons, List.take_zero, setAll, List.setIfInBounds_toArray, List.set_cons_succ, List.set_cons_zero, Nat.zero_add, Nat.reduceAdd, g4] at hK ⊢
      refine wp_of_quiet rfl ?_
      go_big_quiet_step (fail)
      exact wpQuiet_nil (hK _ _ (rfl) (Below.refl _ _))
    · intro f wq hC hd KK hK
      clear hd
      simp only [List.take_succ_cons, List.take_zero, setAll, List.setIfInBounds_toArray, List.set_cons_succ, List.set_cons_zero, Nat.zero_add, Nat.reduceAdd] at hK ⊢
      refine wp_of_quiet rfl ?_
      go_big_quiet_step (fail)
      exact wpQuiet_nil (hK _ _ (rfl) (Below.refl _ _))
    · intro f wq hC hd KK hK
      have g5 : f 5 = .int .i64 (cols : Int) := hd 5 (by kernel_rfl)
      have g6 : f 6 = .int .i64 (fr : Int) := hd 6 (by kernel_rfl)
      clear hd
      simp only [List.take_succ_cons, List.take_zero, setAll, List.setIfInBounds_toArray, List.set_cons_succ, List.set_cons_zero, Nat.zero_add, Nat.reduceAdd, g5, g6] at hK ⊢
      refine wp_of_quiet rfl ?_
      go_big_quiet_step (fail)
      exact wpQuiet_nil (hK _ _ (rfl) (Below.refl _ _))
    · intro f wq hC hd KK hK
      have g3 : f 3 = .int .i64 k := hd 3 (by kernel_rfl)
      have g7 : f 7 = .int .i64 ((cols : Int) - (fr : Int)) := hd 7 (by kernel_rfl)
      clear hd
      simp only [List.take_succ_cons, List.take_zero, setAll, List.setIfInBounds_toArray, List.set_cons_succ, List.set_cons_zero, Nat.zero_add, Nat.reduceAdd, g3, g7] at hK ⊢
      exact wp_call 43 #[.int .i64 k, .int .i64 ((cols : Int) - (fr : Int))] (by simp [go_sem]) _ _ (CL.out wq) (fun w' hb => hK _ _ rfl hb)
    · intro f wq hC hd KK hK
      clear hd
      have cs0 : wq.cell? ⟨w.heap.size + 1, 0, none⟩ = some (.int .i64 s.fg) := hC.1.rs.cell 0
      have cs1 : wq.cell? ⟨w.heap.size + 1, 1, none⟩ = some (.int .i64 s.bg) := hC.1.rs.cell 1
      have cs2 : wq.cell? ⟨w.heap.size + 1, 2, none⟩ = some (.bool s.b1) := hC.1.rs.cell 2
      have cs3 : wq.cell? ⟨w.heap.size + 1, 3, none⟩ = some (.bool s.b2) := hC.1.rs.cell 3
      have cs4 : wq.cell? ⟨w.heap.size + 1, 4, none⟩ = some (.bool s.b3) := hC.1.rs.cell 4
      have cs5 : wq.cell? ⟨w.heap.size + 1, 5, none⟩ = some (.bool s.b4) := hC.1.rs.cell 5
      have cs6 : wq.cell? ⟨w.heap.size + 1, 6, none⟩ = some (.bool s.b5) := hC.1.rs.cell 6
      have cs7 : wq.cell? ⟨w.heap.size + 1, 7, none⟩ = some (.bool s.b7) := hC.1.rs.cell 7
      have cs8 : wq.cell? ⟨w.heap.size + 1, 8, none⟩ = some (.bool s.b8) := hC.1.rs.cell 8
      have cs9 : wq.cell? ⟨w.heap.size + 1, 9, none⟩ = some (.bool s.b9) := hC.1.rs.cell 9
      clear hC
      simp only [List.take_succ_cons, List.take_zero, setAll, List.setIfInBounds_toArray, List.set_cons_succ, List.set_cons_zero, Nat.zero_add, Nat.reduceAdd] at hK ⊢
      refine wp_of_quiet rfl ?_
      go_big_quiet_step (fail)
      exact wpQuiet_nil (hK _ _ (rfl) (Below.refl _ _))
  · intro f wz hC hv
    have p0 : f 0 = .slice (some ⟨b, cols * row * 15, none⟩) cols cols := hv 0 (by decide)
    have p1 : f 1 = .int .i64 (fr : Int) := hv 1 (by decide)
    have p2 : f 2 = .slice (some ⟨b, (cols * row + fr) * 15, none⟩) (cols - fr) (cols - fr) := hv 2 (by decide)
    have p3 : f 3 = .int .i64 k := hv 3 (by decide)
    have p4 : f 4 = .pointer (some ⟨w.heap.size, 0, none⟩) := hv 4 (by decide)
    have p5 : f 5 = .int .i64 (cols : Int) := hv 5 (by decide)
    have p6 : f 6 = .int .i64 (fr : Int) := hv 6 (by decide)
    have p7 : f 7 = .int .i64 ((cols : Int) - (fr : Int)) := hv 7 (by decide)
    have p8 : f 8 = .int .i64 z := hv 8 (by decide)
    have p9 : f 9 = .agg (sA s) := hv 9 (by decide)
    simp only [List.take_succ_cons, List.take_zero, List.drop_succ_cons, List.drop_zero, setAll, List.setIfInBounds_toArray, List.set_cons_succ, List.set_cons_zero, Nat.zero_add, Nat.reduceAdd, p0, p1, p2, p3, p4, p5, p6, p7, p8, p9]
    clear hv p0 p1 p2 p3 p4 p5 p6 p7 p8 p9
    have F5 := Box'.mk hC.1
    have G5 := Box'.mk hC.2.1
    have C5 := Box'.mk hC.2.2
    clear hC F4 G4 C4 CU CL
    go_wp2_with fail
    refine (PU.out b _ C5.out).mono ?_
    rintro e w6 ⟨⟨v6, rfl⟩, hr6, ht6⟩
    have C6 := Box'.mk hr6
    have F6 := Box'.mk (F5.out.tc ht6 hb3)
    have G6 := Box'.mk (ht6.row G5.out hqb)
    clear hr6 ht6 F5 G5 C5 PU
    go_wp2_with fail
    refine (ME.out b _ C6.out).mono ?_
    rintro e w9 ⟨⟨v9, rfl⟩, hr9, ht9⟩
    have C9 := Box'.mk hr9
    have F9 := Box'.mk (F6.out.tc ht9 hb3)
    have G9 := Box'.mk (ht9.row G6.out hqb)
    clear hr9 ht9 F6 G6 C6 ME
    go_wp2_with (first
      | (refine wpList_load_row rfl 24 (.tmp 12) rfl q rfl 24 (gA (cols : Int) (rows : Int) (.slice (some ⟨b, 0, none⟩) n n)) G9.out _ U24.out rfl 3 S24.out rfl ?_)
      | (refine wpList_store_row rfl 24 (.tmp 10) (.tmp 55) rfl (w.heap.size + 2) rfl (gA (cols : Int) (rows : Int) (.slice (some ⟨b, 0, none⟩) n n)) rfl 24 3 F9.out.rr S24.out rfl O.out ?_))
    exact bodyPost_ret (results_two rfl _ (w.heap.size + 2) rfl _ rfl _ _ (F9.out.rr.setRow _) rfl) rfl ⟨b, by rw [HN.out]; rfl, by omega, Row.setRowOther C9.out _ _ (by omega), below_setRow F9.out.be (by omega) _⟩
end Go.Proofs.Ytejnlogoidkloaa
namespace Go.Proofs.Ytejnlogoidkloaa
open Go.RowKit Go.BigFrame
set_option linter.unusedVariables false
set_option linter.unusedSimpArgs false

set_option maxRecDepth 100000 in
set_option maxHeartbeats 16000000 in
theorem resize_le (cols rows : Nat) (v : Value) (c : List Cl) (co ro : Nat) (s : St) (w : World) (hv : Cls w.heap.size w v c) (hG : mayG (cols : Int) (rows : Int) c = true) (hS : mayS s = true) (k1 : 1 ≤ co) (k2 : co ≤ 512) (k3 : 1 ≤ ro) (k4 : ro ≤ 512) (hmin : ro ≤ rows) :
    Calls Try.prog 18 #[.agg (gA (cols : Int) (rows : Int) v), .int .i64 (co : Int), .int .i64 (ro : Int), .agg (sA s)] w fun e w' => ∃ b, e = .returned (gOk (co : Int) (ro : Int) (.slice (some ⟨b, 0, none⟩) (co * ro) (co * ro))) ∧ w.heap.size ≤ b ∧ RC w' b (rzF c cols rows co ro s) [] ∧ Below w.heap.size w w' := by
  obtain ⟨cols', rows', ec, er, p1, p2, p3, p4, hl⟩ := mayG_dest hG
  obtain rfl : cols = cols' := by omega
  obtain rfl : rows = rows' := by omega
  have hle : cols * rows ≤ 512 * 512 := Nat.mul_le_mul p2 p4
  have hpos : 1 * 1 ≤ cols * rows := Nat.mul_le_mul p1 p3
  have hle2 : co * ro ≤ 512 * 512 := Nat.mul_le_mul k2 k4
  have MG : Box' (∀ wx, Below w.heap.size w wx → Calls Try.prog 20 #[.agg (gA (cols : Int) (rows : Int) v)] wx fun e w' => e = .returned (.bool (mayG (cols : Int) (rows : Int) c)) ∧ Below wx.heap.size wx w') := ⟨fun wx hb => gmay_any (cols : Int) (rows : Int) v c wx ((hv.below hb (Nat.le_refl _)).up hb.size)⟩
  rw [hG] at MG
  have MS := Box'.mk (mayStyle15_any s)
  rw [hS] at MS
  have IN2 := Box'.mk (maySize_any (co : Int) (ro : Int))
  rw [side_of k1 k2, side_of k3 k4] at IN2
  have BK := Box'.mk (blanks_any co ro k1 k2 k3 k4 s)
  rw [← rzK_0 c cols rows co ro s k1 hl] at BK
  have RK : Box' (∀ b k wx, k < ro → Calls Try.prog 35 #[.agg (gA (co : Int) (ro : Int) (.slice (some ⟨b, 0, none⟩) (co * ro) (co * ro))), .int .i64 (k : Int)] wx fun e w' => e = .returned (.slice (some ⟨b, co * k * 15, none⟩) co co) ∧ Below wx.heap.size wx w') := ⟨fun b k wx hk => by
    have := rowOf_any co k b 0 (co * ro) (co * ro) (ro : Int) k1 k2 (by omega) (Nat.mul_le_mul_left _ (by omega)) wx
    rwa [Nat.zero_add] at this⟩
  obtain ⟨gb, go', gc, rfl, hgb, hgc, HC0⟩ : ∃ b o cp, v = .slice (some ⟨b, o, none⟩) c.length cp ∧ b < w.heap.size ∧ c.length ≤ cp ∧ ∀ k, k < c.length → ∀ j, j < 15 → w.cell? ⟨b, o + k * 15 + j, none⟩ = (cA (cat c k))[j]? := by
    obtain ⟨a, cp, rfl, hcp, h3⟩ := hv
    rcases h3 with rfl | ⟨b, o, rfl, h5, h6⟩
    · simp at hl; omega
    · exact ⟨b, o, cp, rfl, h5, hcp, h6⟩
  have RG : Box' (∀ k wx, k < rows → Calls Try.prog 35 #[.agg (gA (cols : Int) (rows : Int) (.slice (some ⟨gb, go', none⟩) c.length gc)), .int .i64 (k : Int)] wx fun e w' => e = .returned (.slice (some ⟨gb, go' + cols * k * 15, none⟩) cols cols) ∧ Below wx.heap.size wx w') := ⟨fun k wx hk => rowOf_any cols k gb go' c.length gc (rows : Int) p1 p2 (by omega) (by have := Nat.mul_le_mul_left cols (show k + 1 ≤ rows by omega); omega) wx⟩
  have SRC : Box' (∀ k wx, k < rows → Below w.heap.size w wx → Cls w.heap.size wx (.slice (some ⟨gb, go' + cols * k * 15, none⟩) cols cols) (rowF c cols k)) := ⟨fun k wx hk hbe => by
    have hft := fits (cols := cols) hk
    have hrl := rowF_len c cols k (by omega)
    refine ⟨_, _, by rw [hrl], by omega, .inr ⟨gb, go' + cols * k * 15, rfl, hgb, fun j hj i hi => ?_⟩⟩
    rw [hrl] at hj
    have e : (rowF c cols k).getD j (hf pl) = cat c (k * cols + j) := cat_row c cols k j hj
    rw [hbe.cell (p := ⟨gb, go' + cols * k * 15 + j * 15 + i, none⟩) hgb, e, show go' + cols * k * 15 + j * 15 + i = go' + (k * cols + j) * 15 + i by rw [Nat.add_mul, Nat.mul_comm k cols]; omega]
    exact HC0 (k * cols + j) (by omega) i hi⟩
  have ML : Box' (∀ k, k < ro → k < rows → co * k + ((rowF c cols k).take co).length ≤ (rzK c cols rows co ro s k).length) := ⟨fun k h1 h2 => by
    rw [rzK_len c cols rows co ro s k hl, List.length_take]
    have := fits (cols := co) h1
    rw [Nat.mul_comm co k]
    omega⟩
  have LM : Box' (∀ k, k < ro → k < rows → lay (rzK c cols rows co ro s k) (co * k) ((rowF c cols k).take co) = lay (rzK c cols rows co ro s k) (co * k) (rzM c cols co s k)) := ⟨fun k h1 h2 => rzM_lay c cols rows co ro s k1 hl k h1 h2⟩
  have ME : Box' (∀ b k wx, k < ro → k < rows → RC wx b (lay (rzK c cols rows co ro s k) (co * k) (rzM c cols co s k)) [] → Calls Try.prog 36 #[.slice (some ⟨b, co * k * 15, none⟩) co co] wx fun e w' => (∃ v, e = .returned v) ∧ RC w' b (rzK c cols rows co ro s (k + 1)) [] ∧ Tc b wx w') := ⟨fun b k wx h1 h2 h => by
    rw [← rzK_step c cols rows co ro s k1 hl k h1]
    have e : rzR c cols rows co s k = mnd (rzM c cols co s k) := by unfold rzR; rw [if_pos h2]; rfl
    rw [e]
    have := fits (cols := co) h1
    exact mend_any b (co * k) co co _ [] _ wx (by omega) (Nat.le_refl _) (rzM_len c cols rows co s k hl h2) (by rw [rzK_len c cols rows co ro s k hl, Nat.mul_comm co k]; exact this) h⟩
  have EN := Box'.mk (rzK_end c cols rows co ro s k1 hl ro (by first | exact .inl rfl | exact .inr rfl))
  have F := Box'.mk (FrG.begin w (gA (cols : Int) (rows : Int) (.slice (some ⟨gb, go', none⟩) c.length gc)) s)
  have U24 := Box'.mk Try.underlying24
  have S24 := Box'.mk s24g
  have U26 := Box'.mk Try.underlying26
  have S26 := Box'.mk s24
  generalize hRZ : rzK c cols rows co ro s = rz at *
  generalize rzF c cols rows co ro s = X at *
  generalize rzM c cols co s = rm at *
  generalize hRF : rowF c cols = rf at *
  generalize c.length = n at *
  clear hG hS hv ec er hl hle hpos HC0 hRZ hRF hgc
  have hmin2 : (ro : Int) ≤ (rows : Int) := by omega
  go_enter Try.func18, Try.ntmps18
  go_upto_region 1 with (fail)
  generalize (((w.alloc (.cells (gA (cols : Int) (rows : Int) (.slice (some ⟨gb, go', none⟩) n gc)) 24)).alloc (.cells (sA s) 26)).alloc (.cells #[.int .i64 0, .int .i64 0, .slice none 0 0] 24)) = w1 at *
  go_wp2_with (first
    | (refine wpList_load_row rfl 24 (.tmp 4) rfl w.heap.size rfl 24 (gA (cols : Int) (rows : Int) (.slice (some ⟨gb, go', none⟩) n gc)) F.out.rg _ U24.out rfl 3 S24.out rfl ?_))
  refine (MG.out _ F.out.be).mono ?_
  rintro e w2 ⟨rfl, hb⟩
  replace F := Box'.mk (F.out.below hb)
  clear hb
  have cs0 : w2.cell? ⟨w.heap.size + 1, 0, none⟩ = some (.int .i64 s.fg) := F.out.rs.cell 0
  have cs1 : w2.cell? ⟨w.heap.size + 1, 1, none⟩ = some (.int .i64 s.bg) := F.out.rs.cell 1
  have cs2 : w2.cell? ⟨w.heap.size + 1, 2, none⟩ = some (.bool s.b1) := F.out.rs.cell 2
  have cs3 : w2.cell? ⟨w.heap.size + 1, 3, none⟩ = some (.bool s.b2) := F.out.rs.cell 3
  have cs4 : w2.cell? ⟨w.heap.size + 1, 4, none⟩ = some (.bool s.b3) := F.out.rs.cell 4
  have cs5 : w2.cell? ⟨w.heap.size + 1, 5, none⟩ = some (.bool s.b4) := F.out.rs.cell 5
  have cs6 : w2.cell? ⟨w.heap.size + 1, 6, none⟩ = some (.bool s.b5) := F.out.rs.cell 6
  have cs7 : w2.cell? ⟨w.heap.size + 1, 7, none⟩ = some (.bool s.b7) := F.out.rs.cell 7
  have cs8 : w2.cell? ⟨w.heap.size + 1, 8, none⟩ = some (.bool s.b8) := F.out.rs.cell 8
  have cs9 : w2.cell? ⟨w.heap.size + 1, 9, none⟩ = some (.bool s.b9) := F.out.rs.cell 9
  have c0 : w2.cell? ⟨w.heap.size, 0, none⟩ = some (.int .i64 (cols : Int)) := F.out.rg.cell 0
  have c1 : w2.cell? ⟨w.heap.size, 1, none⟩ = some (.int .i64 (rows : Int)) := F.out.rg.cell 1
  go_wp2_with fail
  refine (MS.out _).mono ?_
  rintro e w3 ⟨rfl, hb⟩
  replace F := Box'.mk (F.out.below hb)
  clear hb
  clear c0 c1 cs0 cs1 cs2 cs3 cs4 cs5 cs6 cs7 cs8 cs9
  have cs0 : w3.cell? ⟨w.heap.size + 1, 0, none⟩ = some (.int .i64 s.fg) := F.out.rs.cell 0
  have cs1 : w3.cell? ⟨w.heap.size + 1, 1, none⟩ = some (.int .i64 s.bg) := F.out.rs.cell 1
  have cs2 : w3.cell? ⟨w.heap.size + 1, 2, none⟩ = some (.bool s.b1) := F.out.rs.cell 2
  have cs3 : w3.cell? ⟨w.heap.size + 1, 3, none⟩ = some (.bool s.b2) := F.out.rs.cell 3
  have cs4 : w3.cell? ⟨w.heap.size + 1, 4, none⟩ = some (.bool s.b3) := F.out.rs.cell 4
  have cs5 : w3.cell? ⟨w.heap.size + 1, 5, none⟩ = some (.bool s.b4) := F.out.rs.cell 5
  have cs6 : w3.cell? ⟨w.heap.size + 1, 6, none⟩ = some (.bool s.b5) := F.out.rs.cell 6
  have cs7 : w3.cell? ⟨w.heap.size + 1, 7, none⟩ = some (.bool s.b7) := F.out.rs.cell 7
  have cs8 : w3.cell? ⟨w.heap.size + 1, 8, none⟩ = some (.bool s.b8) := F.out.rs.cell 8
  have cs9 : w3.cell? ⟨w.heap.size + 1, 9, none⟩ = some (.bool s.b9) := F.out.rs.cell 9
  have c0 : w3.cell? ⟨w.heap.size, 0, none⟩ = some (.int .i64 (cols : Int)) := F.out.rg.cell 0
  have c1 : w3.cell? ⟨w.heap.size, 1, none⟩ = some (.int .i64 (rows : Int)) := F.out.rg.cell 1
  go_wp2_with fail
  refine (IN2.out _).mono ?_
  rintro e w4 ⟨rfl, rfl⟩
  clear c0 c1 cs0 cs1 cs2 cs3 cs4 cs5 cs6 cs7 cs8 cs9
  go_wp2_with (first
    | (refine wpList_load_row rfl 26 (.tmp 7) rfl (w.heap.size + 1) rfl 26 (sA s) F.out.rs _ U26.out rfl 10 S26.out rfl ?_))
  refine (BK.out _).mono ?_
  rintro e w4 ⟨b, rfl, hb0, hrc, hb⟩
  have hb3 : w.heap.size + 3 ≤ b := Nat.le_trans F.out.sz hb0
  replace F := Box'.mk (F.out.below hb)
  have CC := Box'.mk hrc
  have hblt := hrc.lt
  clear hb hrc hb0 MG MS BK IN2
  have RM : Box' (Room (w4.alloc (.cells #[.int .i64 0, .int .i64 0, .slice none 0 0] 24)) w4.heap.size 24 3) := ⟨Room.new _ _ _ _ rfl⟩
  have G4 : Box' (Row ((w4.alloc (.cells #[.int .i64 0, .int .i64 0, .slice none 0 0] 24)).setRow w4.heap.size (gA (co : Int) (ro : Int) (.slice (some ⟨b, 0, none⟩) (co * ro) (co * ro)))) w4.heap.size 24 (gA (co : Int) (ro : Int) (.slice (some ⟨b, 0, none⟩) (co * ro) (co * ro)))) := ⟨RM.out.setRow _⟩
  have C4 : Box' (RC ((w4.alloc (.cells #[.int .i64 0, .int .i64 0, .slice none 0 0] 24)).setRow w4.heap.size (gA (co : Int) (ro : Int) (.slice (some ⟨b, 0, none⟩) (co * ro) (co * ro)))) b (rz 0) []) := ⟨Row.setRowOther (Row.alloc CC.out _) _ _ (by omega)⟩
  have F4 : Box' (FrG w (gA (cols : Int) (rows : Int) (.slice (some ⟨gb, go', none⟩) n gc)) s ((w4.alloc (.cells #[.int .i64 0, .int .i64 0, .slice none 0 0] 24)).setRow w4.heap.size (gA (co : Int) (ro : Int) (.slice (some ⟨b, 0, none⟩) (co * ro) (co * ro))))) := ⟨F.out.below (below_setRow ((Below.refl _ _).alloc (Nat.le_refl _) _) (Nat.le_refl _) _)⟩
  have O := Box'.mk (gA_one (co : Int) (ro : Int) (some ⟨b, 0, none⟩) (co * ro) (co * ro))
  go_upto_region 4 with (first
    | (refine wpList_store_row rfl 24 (.tmp 10) (.tmp 31) rfl w4.heap.size rfl (gA (co : Int) (ro : Int) (.slice (some ⟨b, 0, none⟩) (co * ro) (co * ro))) rfl 24 3 RM.out S24.out rfl O.out ?_))
  generalize ((w4.alloc (.cells #[.int .i64 0, .int .i64 0, .slice none 0 0] 24)).setRow w4.heap.size (gA (co : Int) (ro : Int) (.slice (some ⟨b, 0, none⟩) (co * ro) (co * ro)))) = w5 at *
  clear RM CC F
  have hqb : w4.heap.size ≠ b := by omega
  have hq3 : w.heap.size + 3 ≤ w4.heap.size := by omega
  generalize w4.heap.size = q at *
  have c1 : w5.cell? ⟨w.heap.size, 1, none⟩ = some (.int .i64 (rows : Int)) := F4.out.rg.cell 1
  generalize hNN : co * ro = N at *
  have HNN := Box'.mk hNN
  clear hNN
  go_wp2_with fail
  clear c1
  go_loopw [36] (fun i wr => ∃ k : Nat, k ≤ ro ∧ i = .int .i64 (k : Int) ∧ Box' (FrG w (gA (cols : Int) (rows : Int) (.slice (some ⟨gb, go', none⟩) n gc)) s wr) ∧ Box' (Row wr q 24 (gA (co : Int) (ro : Int) (.slice (some ⟨b, 0, none⟩) N N))) ∧ Box' (RC wr b (rz k) [])) (fun i _ => ro - (intOf i).toNat)
  case atStart => exact ⟨0, by omega, rfl, F4, G4, C4⟩
  case round =>
    obtain ⟨k, hk, rfl, FF, GG, CC⟩ := hrel
    clear F4 G4 C4
    by_cases hlt : k < ro
    case neg =>
      rw [show k = ro by omega, EN.out] at CC
      clear RK RG SRC ML LM ME
      go_wp2_with (first
        | (refine wpList_load_row rfl 24 (.tmp 10) rfl q rfl 24 (gA (co : Int) (ro : Int) (.slice (some ⟨b, 0, none⟩) N N)) GG.out _ U24.out rfl 3 S24.out rfl ?_)
        | (refine wpList_store_row rfl 24 (.tmp 8) (.tmp 50) rfl (w.heap.size + 2) rfl (gA (co : Int) (ro : Int) (.slice (some ⟨b, 0, none⟩) N N)) rfl 24 3 FF.out.rr S24.out rfl O.out ?_))
      exact bodyPost_ret (results_two rfl _ (w.heap.size + 2) rfl _ rfl _ _ (FF.out.rr.setRow _) rfl) rfl ⟨b, by rw [HNN.out]; rfl, by omega, Row.setRowOther CC.out _ _ (by omega), below_setRow FF.out.be (by omega) _⟩
    case pos =>
      have hkr : k < ro := by omega
      have hks : k < rows := by omega
      have RK1 := Box'.mk (fun wx => RK.out b k wx hkr)
      have RG1 := Box'.mk (fun wx => RG.out k wx hks)
      have ME1 := Box'.mk (fun wx => ME.out b k wx hkr hks)
      have SR1 := Box'.mk (fun wx => SRC.out k wx hks)
      have ML1 := Box'.mk (ML.out k hkr hks)
      have LM1 := Box'.mk (LM.out k hkr hks)
      clear RK RG ME SRC ML LM
      go_wp2_with (first
        | (refine wpList_load_row rfl 24 (.tmp 10) rfl q rfl 24 (gA (co : Int) (ro : Int) (.slice (some ⟨b, 0, none⟩) N N)) GG.out _ U24.out rfl 3 S24.out rfl ?_))
      refine (RK1.out _).mono ?_
      rintro e w6 ⟨rfl, hb⟩
      replace FF := Box'.mk (FF.out.below hb)
      replace GG := Box'.mk (GG.out.below hb GG.out.lt)
      replace CC := Box'.mk (CC.out.below hb CC.out.lt)
      clear hb RK1
      go_wp2_with (first
        | (refine wpList_load_row rfl 24 (.tmp 4) rfl w.heap.size rfl 24 (gA (cols : Int) (rows : Int) (.slice (some ⟨gb, go', none⟩) n gc)) FF.out.rg _ U24.out rfl 3 S24.out rfl ?_))
      refine (RG1.out _).mono ?_
      rintro e w7 ⟨rfl, hb⟩
      replace FF := Box'.mk (FF.out.below hb)
      replace GG := Box'.mk (GG.out.below hb GG.out.lt)
      replace CC := Box'.mk (CC.out.below hb CC.out.lt)
      clear hb RG1
      have SR2 := Box'.mk (SR1.out _ FF.out.be)
      go_upto_region 9 with (first
        | (refine wpList_copyA rfl (.tmp 42) (.tmp 45) rfl b (co * k * 15) (co * k) co co (.slice (some ⟨gb, go' + cols * k * 15, none⟩) cols cols) w.heap.size (rz k) (rf k) ((rf k).take co) [] rfl rfl SR2.out CC.out rfl (.inr rfl) ML1.out ?_; intro u8 w8 W8))
      rw [LM1.out] at W8
      have C8 := Box'.mk W8.out.1
      have F8 := Box'.mk (FF.out.tc W8.out.2 hb3)
      have G8 := Box'.mk (W8.out.2.row GG.out hqb)
      clear W8 CC FF GG SR2 SR1 ML1 LM1
      go_wp2_with fail
      refine (ME1.out _ C8.out).mono ?_
      rintro e w9 ⟨⟨v9, rfl⟩, hr9, ht9⟩
      have C9 := Box'.mk hr9
      have F9 := Box'.mk (F8.out.tc ht9 hb3)
      have G9 := Box'.mk (ht9.row G8.out hqb)
      clear hr9 ht9 F8 G8 C8 ME1
      go_wp2_with fail
      exact ⟨⟨k + 1, by omega, by go_num, F9, G9, C9⟩, by simp [intOf]; omega⟩
set_option maxRecDepth 100000 in
set_option maxHeartbeats 16000000 in
theorem resize_gt (cols rows : Nat) (v : Value) (c : List Cl) (co ro : Nat) (s : St) (w : World) (hv : Cls w.heap.size w v c) (hG : mayG (cols : Int) (rows : Int) c = true) (hS : mayS s = true) (k1 : 1 ≤ co) (k2 : co ≤ 512) (k3 : 1 ≤ ro) (k4 : ro ≤ 512) (hmin : rows < ro) :
    Calls Try.prog 18 #[.agg (gA (cols : Int) (rows : Int) v), .int .i64 (co : Int), .int .i64 (ro : Int), .agg (sA s)] w fun e w' => ∃ b, e = .returned (gOk (co : Int) (ro : Int) (.slice (some ⟨b, 0, none⟩) (co * ro) (co * ro))) ∧ w.heap.size ≤ b ∧ RC w' b (rzF c cols rows co ro s) [] ∧ Below w.heap.size w w' := by
  obtain ⟨cols', rows', ec, er, p1, p2, p3, p4, hl⟩ := mayG_dest hG
  obtain rfl : cols = cols' := by omega
  obtain rfl : rows = rows' := by omega
  have hle : cols * rows ≤ 512 * 512 := Nat.mul_le_mul p2 p4
  have hpos : 1 * 1 ≤ cols * rows := Nat.mul_le_mul p1 p3
  have hle2 : co * ro ≤ 512 * 512 := Nat.mul_le_mul k2 k4
  have MG : Box' (∀ wx, Below w.heap.size w wx → Calls Try.prog 20 #[.agg (gA (cols : Int) (rows : Int) v)] wx fun e w' => e = .returned (.bool (mayG (cols : Int) (rows : Int) c)) ∧ Below wx.heap.size wx w') := ⟨fun wx hb => gmay_any (cols : Int) (rows : Int) v c wx ((hv.below hb (Nat.le_refl _)).up hb.size)⟩
  rw [hG] at MG
  have MS := Box'.mk (mayStyle15_any s)
  rw [hS] at MS
  have IN2 := Box'.mk (maySize_any (co : Int) (ro : Int))
  rw [side_of k1 k2, side_of k3 k4] at IN2
  have BK := Box'.mk (blanks_any co ro k1 k2 k3 k4 s)
  rw [← rzK_0 c cols rows co ro s k1 hl] at BK
  have RK : Box' (∀ b k wx, k < ro → Calls Try.prog 35 #[.agg (gA (co : Int) (ro : Int) (.slice (some ⟨b, 0, none⟩) (co * ro) (co * ro))), .int .i64 (k : Int)] wx fun e w' => e = .returned (.slice (some ⟨b, co * k * 15, none⟩) co co) ∧ Below wx.heap.size wx w') := ⟨fun b k wx hk => by
    have := rowOf_any co k b 0 (co * ro) (co * ro) (ro : Int) k1 k2 (by omega) (Nat.mul_le_mul_left _ (by omega)) wx
    rwa [Nat.zero_add] at this⟩
  obtain ⟨gb, go', gc, rfl, hgb, hgc, HC0⟩ : ∃ b o cp, v = .slice (some ⟨b, o, none⟩) c.length cp ∧ b < w.heap.size ∧ c.length ≤ cp ∧ ∀ k, k < c.length → ∀ j, j < 15 → w.cell? ⟨b, o + k * 15 + j, none⟩ = (cA (cat c k))[j]? := by
    obtain ⟨a, cp, rfl, hcp, h3⟩ := hv
    rcases h3 with rfl | ⟨b, o, rfl, h5, h6⟩
    · simp at hl; omega
    · exact ⟨b, o, cp, rfl, h5, hcp, h6⟩
  have RG : Box' (∀ k wx, k < rows → Calls Try.prog 35 #[.agg (gA (cols : Int) (rows : Int) (.slice (some ⟨gb, go', none⟩) c.length gc)), .int .i64 (k : Int)] wx fun e w' => e = .returned (.slice (some ⟨gb, go' + cols * k * 15, none⟩) cols cols) ∧ Below wx.heap.size wx w') := ⟨fun k wx hk => rowOf_any cols k gb go' c.length gc (rows : Int) p1 p2 (by omega) (by have := Nat.mul_le_mul_left cols (show k + 1 ≤ rows by omega); omega) wx⟩
  have SRC : Box' (∀ k wx, k < rows → Below w.heap.size w wx → Cls w.heap.size wx (.slice (some ⟨gb, go' + cols * k * 15, none⟩) cols cols) (rowF c cols k)) := ⟨fun k wx hk hbe => by
    have hft := fits (cols := cols) hk
    have hrl := rowF_len c cols k (by omega)
    refine ⟨_, _, by rw [hrl], by omega, .inr ⟨gb, go' + cols * k * 15, rfl, hgb, fun j hj i hi => ?_⟩⟩
    rw [hrl] at hj
    have e : (rowF c cols k).getD j (hf pl) = cat c (k * cols + j) := cat_row c cols k j hj
    rw [hbe.cell (p := ⟨gb, go' + cols * k * 15 + j * 15 + i, none⟩) hgb, e, show go' + cols * k * 15 + j * 15 + i = go' + (k * cols + j) * 15 + i by rw [Nat.add_mul, Nat.mul_comm k cols]; omega]
    exact HC0 (k * cols + j) (by omega) i hi⟩
  have ML : Box' (∀ k, k < ro → k < rows → co * k + ((rowF c cols k).take co).length ≤ (rzK c cols rows co ro s k).length) := ⟨fun k h1 h2 => by
    rw [rzK_len c cols rows co ro s k hl, List.length_take]
    have := fits (cols := co) h1
    rw [Nat.mul_comm co k]
    omega⟩
  have LM : Box' (∀ k, k < ro → k < rows → lay (rzK c cols rows co ro s k) (co * k) ((rowF c cols k).take co) = lay (rzK c cols rows co ro s k) (co * k) (rzM c cols co s k)) := ⟨fun k h1 h2 => rzM_lay c cols rows co ro s k1 hl k h1 h2⟩
  have ME : Box' (∀ b k wx, k < ro → k < rows → RC wx b (lay (rzK c cols rows co ro s k) (co * k) (rzM c cols co s k)) [] → Calls Try.prog 36 #[.slice (some ⟨b, co * k * 15, none⟩) co co] wx fun e w' => (∃ v, e = .returned v) ∧ RC w' b (rzK c cols rows co ro s (k + 1)) [] ∧ Tc b wx w') := ⟨fun b k wx h1 h2 h => by
    rw [← rzK_step c cols rows co ro s k1 hl k h1]
    have e : rzR c cols rows co s k = mnd (rzM c cols co s k) := by unfold rzR; rw [if_pos h2]; rfl
    rw [e]
    have := fits (cols := co) h1
    exact mend_any b (co * k) co co _ [] _ wx (by omega) (Nat.le_refl _) (rzM_len c cols rows co s k hl h2) (by rw [rzK_len c cols rows co ro s k hl, Nat.mul_comm co k]; exact this) h⟩
  have EN := Box'.mk (rzK_end c cols rows co ro s k1 hl rows (by first | exact .inl rfl | exact .inr rfl))
  have F := Box'.mk (FrG.begin w (gA (cols : Int) (rows : Int) (.slice (some ⟨gb, go', none⟩) c.length gc)) s)
  have U24 := Box'.mk Try.underlying24
  have S24 := Box'.mk s24g
  have U26 := Box'.mk Try.underlying26
  have S26 := Box'.mk s24
  generalize hRZ : rzK c cols rows co ro s = rz at *
  generalize rzF c cols rows co ro s = X at *
  generalize rzM c cols co s = rm at *
  generalize hRF : rowF c cols = rf at *
  generalize c.length = n at *
  clear hG hS hv ec er hl hle hpos HC0 hRZ hRF hgc
  have hmin2 : (rows : Int) < (ro : Int) := by omega
  go_enter Try.func18, Try.ntmps18
  go_upto_region 1 with (fail)
  generalize (((w.alloc (.cells (gA (cols : Int) (rows : Int) (.slice (some ⟨gb, go', none⟩) n gc)) 24)).alloc (.cells (sA s) 26)).alloc (.cells #[.int .i64 0, .int .i64 0, .slice none 0 0] 24)) = w1 at *
  go_wp2_with (first
    | (refine wpList_load_row rfl 24 (.tmp 4) rfl w.heap.size rfl 24 (gA (cols : Int) (rows : Int) (.slice (some ⟨gb, go', none⟩) n gc)) F.out.rg _ U24.out rfl 3 S24.out rfl ?_))
  refine (MG.out _ F.out.be).mono ?_
  rintro e w2 ⟨rfl, hb⟩
  replace F := Box'.mk (F.out.below hb)
  clear hb
  have cs0 : w2.cell? ⟨w.heap.size + 1, 0, none⟩ = some (.int .i64 s.fg) := F.out.rs.cell 0
  have cs1 : w2.cell? ⟨w.heap.size + 1, 1, none⟩ = some (.int .i64 s.bg) := F.out.rs.cell 1
  have cs2 : w2.cell? ⟨w.heap.size + 1, 2, none⟩ = some (.bool s.b1) := F.out.rs.cell 2
  have cs3 : w2.cell? ⟨w.heap.size + 1, 3, none⟩ = some (.bool s.b2) := F.out.rs.cell 3
  have cs4 : w2.cell? ⟨w.heap.size + 1, 4, none⟩ = some (.bool s.b3) := F.out.rs.cell 4
  have cs5 : w2.cell? ⟨w.heap.size + 1, 5, none⟩ = some (.bool s.b4) := F.out.rs.cell 5
  have cs6 : w2.cell? ⟨w.heap.size + 1, 6, none⟩ = some (.bool s.b5) := F.out.rs.cell 6
  have cs7 : w2.cell? ⟨w.heap.size + 1, 7, none⟩ = some (.bool s.b7) := F.out.rs.cell 7
  have cs8 : w2.cell? ⟨w.heap.size + 1, 8, none⟩ = some (.bool s.b8) := F.out.rs.cell 8
  have cs9 : w2.cell? ⟨w.heap.size + 1, 9, none⟩ = some (.bool s.b9) := F.out.rs.cell 9
  have c0 : w2.cell? ⟨w.heap.size, 0, none⟩ = some (.int .i64 (cols : Int)) := F.out.rg.cell 0
  have c1 : w2.cell? ⟨w.heap.size, 1, none⟩ = some (.int .i64 (rows : Int)) := F.out.rg.cell 1
  go_wp2_with fail
  refine (MS.out _).mono ?_
  rintro e w3 ⟨rfl, hb⟩
  replace F := Box'.mk (F.out.below hb)
  clear hb
  clear c0 c1 cs0 cs1 cs2 cs3 cs4 cs5 cs6 cs7 cs8 cs9
  have cs0 : w3.cell? ⟨w.heap.size + 1, 0, none⟩ = some (.int .i64 s.fg) := F.out.rs.cell 0
  have cs1 : w3.cell? ⟨w.heap.size + 1, 1, none⟩ = some (.int .i64 s.bg) := F.out.rs.cell 1
  have cs2 : w3.cell? ⟨w.heap.size + 1, 2, none⟩ = some (.bool s.b1) := F.out.rs.cell 2
  have cs3 : w3.cell? ⟨w.heap.size + 1, 3, none⟩ = some (.bool s.b2) := F.out.rs.cell 3
  have cs4 : w3.cell? ⟨w.heap.size + 1, 4, none⟩ = some (.bool s.b3) := F.out.rs.cell 4
  have cs5 : w3.cell? ⟨w.heap.size + 1, 5, none⟩ = some (.bool s.b4) := F.out.rs.cell 5
  have cs6 : w3.cell? ⟨w.heap.size + 1, 6, none⟩ = some (.bool s.b5) := F.out.rs.cell 6
  have cs7 : w3.cell? ⟨w.heap.size + 1, 7, none⟩ = some (.bool s.b7) := F.out.rs.cell 7
  have cs8 : w3.cell? ⟨w.heap.size + 1, 8, none⟩ = some (.bool s.b8) := F.out.rs.cell 8
  have cs9 : w3.cell? ⟨w.heap.size + 1, 9, none⟩ = some (.bool s.b9) := F.out.rs.cell 9
  have c0 : w3.cell? ⟨w.heap.size, 0, none⟩ = some (.int .i64 (cols : Int)) := F.out.rg.cell 0
  have c1 : w3.cell? ⟨w.heap.size, 1, none⟩ = some (.int .i64 (rows : Int)) := F.out.rg.cell 1
  go_wp2_with fail
  refine (IN2.out _).mono ?_
  rintro e w4 ⟨rfl, rfl⟩
  clear c0 c1 cs0 cs1 cs2 cs3 cs4 cs5 cs6 cs7 cs8 cs9
  go_wp2_with (first
    | (refine wpList_load_row rfl 26 (.tmp 7) rfl (w.heap.size + 1) rfl 26 (sA s) F.out.rs _ U26.out rfl 10 S26.out rfl ?_))
  refine (BK.out _).mono ?_
  rintro e w4 ⟨b, rfl, hb0, hrc, hb⟩
  have hb3 : w.heap.size + 3 ≤ b := Nat.le_trans F.out.sz hb0
  replace F := Box'.mk (F.out.below hb)
  have CC := Box'.mk hrc
  have hblt := hrc.lt
  clear hb hrc hb0 MG MS BK IN2
  have RM : Box' (Room (w4.alloc (.cells #[.int .i64 0, .int .i64 0, .slice none 0 0] 24)) w4.heap.size 24 3) := ⟨Room.new _ _ _ _ rfl⟩
  have G4 : Box' (Row ((w4.alloc (.cells #[.int .i64 0, .int .i64 0, .slice none 0 0] 24)).setRow w4.heap.size (gA (co : Int) (ro : Int) (.slice (some ⟨b, 0, none⟩) (co * ro) (co * ro)))) w4.heap.size 24 (gA (co : Int) (ro : Int) (.slice (some ⟨b, 0, none⟩) (co * ro) (co * ro)))) := ⟨RM.out.setRow _⟩
  have C4 : Box' (RC ((w4.alloc (.cells #[.int .i64 0, .int .i64 0, .slice none 0 0] 24)).setRow w4.heap.size (gA (co : Int) (ro : Int) (.slice (some ⟨b, 0, none⟩) (co * ro) (co * ro)))) b (rz 0) []) := ⟨Row.setRowOther (Row.alloc CC.out _) _ _ (by omega)⟩
  have F4 : Box' (FrG w (gA (cols : Int) (rows : Int) (.slice (some ⟨gb, go', none⟩) n gc)) s ((w4.alloc (.cells #[.int .i64 0, .int .i64 0, .slice none 0 0] 24)).setRow w4.heap.size (gA (co : Int) (ro : Int) (.slice (some ⟨b, 0, none⟩) (co * ro) (co * ro))))) := ⟨F.out.below (below_setRow ((Below.refl _ _).alloc (Nat.le_refl _) _) (Nat.le_refl _) _)⟩
  have O := Box'.mk (gA_one (co : Int) (ro : Int) (some ⟨b, 0, none⟩) (co * ro) (co * ro))
  go_upto_region 4 with (first
    | (refine wpList_store_row rfl 24 (.tmp 10) (.tmp 31) rfl w4.heap.size rfl (gA (co : Int) (ro : Int) (.slice (some ⟨b, 0, none⟩) (co * ro) (co * ro))) rfl 24 3 RM.out S24.out rfl O.out ?_))
  generalize ((w4.alloc (.cells #[.int .i64 0, .int .i64 0, .slice none 0 0] 24)).setRow w4.heap.size (gA (co : Int) (ro : Int) (.slice (some ⟨b, 0, none⟩) (co * ro) (co * ro)))) = w5 at *
  clear RM CC F
  have hqb : w4.heap.size ≠ b := by omega
  have hq3 : w.heap.size + 3 ≤ w4.heap.size := by omega
  generalize w4.heap.size = q at *
  have c1 : w5.cell? ⟨w.heap.size, 1, none⟩ = some (.int .i64 (rows : Int)) := F4.out.rg.cell 1
  generalize hNN : co * ro = N at *
  have HNN := Box'.mk hNN
  clear hNN
  go_wp2_with fail
  clear c1
  go_loopw [36] (fun i wr => ∃ k : Nat, k ≤ rows ∧ i = .int .i64 (k : Int) ∧ Box' (FrG w (gA (cols : Int) (rows : Int) (.slice (some ⟨gb, go', none⟩) n gc)) s wr) ∧ Box' (Row wr q 24 (gA (co : Int) (ro : Int) (.slice (some ⟨b, 0, none⟩) N N))) ∧ Box' (RC wr b (rz k) [])) (fun i _ => rows - (intOf i).toNat)
  case atStart => exact ⟨0, by omega, rfl, F4, G4, C4⟩
  case round =>
    obtain ⟨k, hk, rfl, FF, GG, CC⟩ := hrel
    clear F4 G4 C4
    by_cases hlt : k < rows
    case neg =>
      rw [show k = rows by omega, EN.out] at CC
      clear RK RG SRC ML LM ME
      go_wp2_with (first
        | (refine wpList_load_row rfl 24 (.tmp 10) rfl q rfl 24 (gA (co : Int) (ro : Int) (.slice (some ⟨b, 0, none⟩) N N)) GG.out _ U24.out rfl 3 S24.out rfl ?_)
        | (refine wpList_store_row rfl 24 (.tmp 8) (.tmp 50) rfl (w.heap.size + 2) rfl (gA (co : Int) (ro : Int) (.slice (some ⟨b, 0, none⟩) N N)) rfl 24 3 FF.out.rr S24.out rfl O.out ?_))
      exact bodyPost_ret (results_two rfl _ (w.heap.size + 2) rfl _ rfl _ _ (FF.out.rr.setRow _) rfl) rfl ⟨b, by rw [HNN.out]; rfl, by omega, Row.setRowOther CC.out _ _ (by omega), below_setRow FF.out.be (by omega) _⟩
    case pos =>
      have hkr : k < ro := by omega
      have hks : k < rows := by omega
      have RK1 := Box'.mk (fun wx => RK.out b k wx hkr)
      have RG1 := Box'.mk (fun wx => RG.out k wx hks)
      have ME1 := Box'.mk (fun wx => ME.out b k wx hkr hks)
      have SR1 := Box'.mk (fun wx => SRC.out k wx hks)
      have ML1 := Box'.mk (ML.out k hkr hks)
      have LM1 := Box'.mk (LM.out k hkr hks)
      clear RK RG ME SRC ML LM
      go_wp2_with (first
        | (refine wpList_load_row rfl 24 (.tmp 10) rfl q rfl 24 (gA (co : Int) (ro : Int) (.slice (some ⟨b, 0, none⟩) N N)) GG.out _ U24.out rfl 3 S24.out rfl ?_))
      refine (RK1.out _).mono ?_
      rintro e w6 ⟨rfl, hb⟩
      replace FF := Box'.mk (FF.out.below hb)
      replace GG := Box'.mk (GG.out.below hb GG.out.lt)
      replace CC := Box'.mk (CC.out.below hb CC.out.lt)
      clear hb RK1
      go_wp2_with (first
        | (refine wpList_load_row rfl 24 (.tmp 4) rfl w.heap.size rfl 24 (gA (cols : Int) (rows : Int) (.slice (some ⟨gb, go', none⟩) n gc)) FF.out.rg _ U24.out rfl 3 S24.out rfl ?_))
      refine (RG1.out _).mono ?_
      rintro e w7 ⟨rfl, hb⟩
      replace FF := Box'.mk (FF.out.below hb)
      replace GG := Box'.mk (GG.out.below hb GG.out.lt)
      replace CC := Box'.mk (CC.out.below hb CC.out.lt)
      clear hb RG1
      have SR2 := Box'.mk (SR1.out _ FF.out.be)
      go_upto_region 9 with (first
        | (refine wpList_copyA rfl (.tmp 42) (.tmp 45) rfl b (co * k * 15) (co * k) co co (.slice (some ⟨gb, go' + cols * k * 15, none⟩) cols cols) w.heap.size (rz k) (rf k) ((rf k).take co) [] rfl rfl SR2.out CC.out rfl (.inr rfl) ML1.out ?_; intro u8 w8 W8))
      rw [LM1.out] at W8
      have C8 := Box'.mk W8.out.1
      have F8 := Box'.mk (FF.out.tc W8.out.2 hb3)
      have G8 := Box'.mk (W8.out.2.row GG.out hqb)
      clear W8 CC FF GG SR2 SR1 ML1 LM1
      go_wp2_with fail
      refine (ME1.out _ C8.out).mono ?_
      rintro e w9 ⟨⟨v9, rfl⟩, hr9, ht9⟩
      have C9 := Box'.mk hr9
      have F9 := Box'.mk (F8.out.tc ht9 hb3)
      have G9 := Box'.mk (ht9.row G8.out hqb)
      clear hr9 ht9 F8 G8 C8 ME1
      go_wp2_with fail
      exact ⟨⟨k + 1, by omega, by go_num, F9, G9, C9⟩, by simp [intOf]; omega⟩
theorem resize_ok (cols rows : Nat) (v : Value) (c : List Cl) (co ro : Nat) (s : St) (w : World) (hv : Cls w.heap.size w v c) (hG : mayG (cols : Int) (rows : Int) c = true) (hS : mayS s = true) (k1 : 1 ≤ co) (k2 : co ≤ 512) (k3 : 1 ≤ ro) (k4 : ro ≤ 512) :
    Calls Try.prog 18 #[.agg (gA (cols : Int) (rows : Int) v), .int .i64 (co : Int), .int .i64 (ro : Int), .agg (sA s)] w fun e w' => ∃ b, e = .returned (gOk (co : Int) (ro : Int) (.slice (some ⟨b, 0, none⟩) (co * ro) (co * ro))) ∧ w.heap.size ≤ b ∧ RC w' b (rzF c cols rows co ro s) [] ∧ Below w.heap.size w w' := by
  rcases Nat.lt_or_ge rows ro with h | h
  · exact resize_gt cols rows v c co ro s w hv hG hS k1 k2 k3 k4 h
  · exact resize_le cols rows v c co ro s w hv hG hS k1 k2 k3 k4 h
end Go.Proofs.Ytejnlogoidkloaa
namespace Go.Proofs.Ytejnlogoidkloaa
open Go.RowKit Go.BigFrame
set_option linter.unusedVariables false
set_option linter.unusedSimpArgs false

/-- An error, or a grid that may be. -/
def Out (w : World) (e : Ending) : Prop := e = .returned gErr ∨ ∃ (co ro : Int) (b n : Nat) (c : List Cl), e = .returned (gOk co ro (.slice (some ⟨b, 0, none⟩) n n)) ∧ mayG co ro c = true ∧ Cls w.heap.size w (.slice (some ⟨b, 0, none⟩) n n) c
theorem rc_whole' {w : World} {g : Nat} {l : List Cl} {sp : List Value} (h : RC w g l sp) (n : Nat) (hn : l.length = n) : Cls w.heap.size w (.slice (some ⟨g, 0, none⟩) n n) l := by
  have := h.cls 0 n n (by omega) (Nat.le_refl _)
  rw [List.drop_zero, List.take_of_length_le (by omega), Nat.zero_mul] at this
  exact this
theorem out_no {P : Program} {f : FuncId} {args : Array Value} {w : World} (h : Calls P f args w fun e w' => e = .returned gErr ∧ Below w.heap.size w w') : Calls P f args w fun e w' => Below w.heap.size w w' ∧ Out w' e :=
  h.mono fun e w' hh => ⟨hh.2, .inl hh.1⟩
theorem out_ok {P : Program} {f : FuncId} {args : Array Value} {w : World} {co ro : Int} {n : Nat} {c : List Cl} (hn : c.length = n) (hG : mayG co ro c = true) (h : Calls P f args w fun e w' => ∃ b, e = .returned (gOk co ro (.slice (some ⟨b, 0, none⟩) n n)) ∧ w.heap.size ≤ b ∧ RC w' b c [] ∧ Below w.heap.size w w') : Calls P f args w fun e w' => Below w.heap.size w w' ∧ Out w' e :=
  h.mono fun e w' hh => by
    obtain ⟨b, h1, h2, h3, h4⟩ := hh
    exact ⟨h4, .inr ⟨co, ro, b, n, c, h1, hG, rc_whole' h3 n hn⟩⟩
theorem in_nat {n c : Int} (h : inN n c = true) : ∃ k : Nat, n = (k : Int) ∧ (k : Int) < c := by
  unfold inN at h
  simp only [decide_eq_true_eq] at h
  exact ⟨n.toNat, by omega, by omega⟩
theorem write_stays (co ro : Int) (v : Value) (c : List Cl) (row col : Int) (s : St) (vl : Value) (l : List Cl) (w : World) (hv : Cls w.heap.size w v c) (hl : l.length ≤ 140737488355328) (hvl : Cls w.heap.size w vl l) (hG : mayG co ro c = true) :
    Calls Try.prog 10 #[.agg (gA co ro v), .int .i64 row, .int .i64 col, .agg (sA s), vl] w fun e w' => Below w.heap.size w w' ∧ Out w' e := by
  cases hS : mayS s with
  | false => exact out_no (write_no1 co ro v c row col s vl l w hv hl hvl hG hS)
  | true =>
    cases hL : l.all mayC with
    | false => exact out_no (write_no2 co ro v c row col s vl l w hv hl hvl hG hS hL)
    | true =>
      cases h3 : inN row ro with
      | false => exact out_no (write_no3 co ro v c row col s vl l w hv hl hvl hG hS hL h3)
      | true =>
        cases h4 : inN col co with
        | false => exact out_no (write_no4 co ro v c row col s vl l w hv hl hvl hG hS hL h3 h4)
        | true =>
          obtain ⟨cols, rows, rfl, rfl, p1, p2, p3, p4, hcl⟩ := mayG_dest hG
          obtain ⟨r, rfl, hr⟩ := in_nat h3
          obtain ⟨k, rfl, hk⟩ := in_nat h4
          have hrl : (rowF c cols r).length = cols := rowF_len c cols r (by rw [hcl]; exact fits (by omega))
          have hwl : (wrF (rowF c cols r) k l).length = cols := by rw [wrF_len _ _ _ (by omega), hrl]
          refine out_ok ?_ ?_ (write_ok cols rows v c r k s vl l w hv hG hS hl hvl hL (by omega) (by omega))
          · rw [putRow_len c cols r _ (by rw [mnd_len]; exact hwl) (by rw [hcl]; exact fits (by omega))]
          · exact mayG_put cols rows r c _ p1 p2 p3 p4 hcl hG (by omega) hwl (wrF_may _ _ _ (row_may cols rows c p1 p2 p3 p4 hcl hG r (by omega)) (List.all_eq_true.1 hL))
theorem erase_stays (co ro : Int) (v : Value) (c : List Cl) (row fr to : Int) (s : St) (w : World) (hv : Cls w.heap.size w v c) (hG : mayG co ro c = true) :
    Calls Try.prog 12 #[.agg (gA co ro v), .int .i64 row, .int .i64 fr, .int .i64 to, .agg (sA s)] w fun e w' => Below w.heap.size w w' ∧ Out w' e := by
  cases hS : mayS s with
  | false => exact out_no (erase_no1 co ro v c row fr to s w hv hG hS)
  | true =>
    cases h2 : inN row ro with
    | false => exact out_no (erase_no2 co ro v c row fr to s w hv hG hS h2)
    | true =>
      by_cases h3 : 0 ≤ fr
      · by_cases h4 : fr ≤ to
        · by_cases h5 : to ≤ co
          · obtain ⟨cols, rows, rfl, rfl, p1, p2, p3, p4, hcl⟩ := mayG_dest hG
            obtain ⟨r, rfl, hr⟩ := in_nat h2
            obtain ⟨a, rfl⟩ : ∃ a : Nat, fr = (a : Int) := ⟨fr.toNat, by omega⟩
            obtain ⟨b, rfl⟩ : ∃ b : Nat, to = (b : Int) := ⟨to.toNat, by omega⟩
            have hrl : (rowF c cols r).length = cols := rowF_len c cols r (by rw [hcl]; exact fits (by omega))
            have hwl : (erF (rowF c cols r) a b s).length = cols := by rw [erF_len _ _ _ _ (by omega) (by omega), hrl]
            refine out_ok ?_ ?_ (erase_ok cols rows v c r a b s w hv hG hS (by omega) (by omega) (by omega))
            · rw [putRow_len c cols r _ (by rw [mnd_len]; exact hwl) (by rw [hcl]; exact fits (by omega))]
            · exact mayG_put cols rows r c _ p1 p2 p3 p4 hcl hG (by omega) hwl (erF_may _ _ _ _ (row_may cols rows c p1 p2 p3 p4 hcl hG r (by omega)) hS)
          · exact out_no (erase_no5 co ro v c row fr to s w hv hG hS h2 h3 h4 (by omega))
        · exact out_no (erase_no4 co ro v c row fr to s w hv hG hS h2 h3 (by omega))
      · exact out_no (erase_no3 co ro v c row fr to s w hv hG hS h2 (by omega))
theorem shift_stays (co ro : Int) (v : Value) (c : List Cl) (row fr k : Int) (s : St) (w : World) (hv : Cls w.heap.size w v c) (hG : mayG co ro c = true) :
    Calls Try.prog 14 #[.agg (gA co ro v), .int .i64 row, .int .i64 fr, .int .i64 k, .agg (sA s)] w fun e w' => Below w.heap.size w w' ∧ Out w' e := by
  cases hS : mayS s with
  | false => exact out_no (shift_no1 co ro v c row fr k s w hv hG hS)
  | true =>
    cases h2 : inN row ro with
    | false => exact out_no (shift_no2 co ro v c row fr k s w hv hG hS h2)
    | true =>
      cases h3 : inN fr co with
      | false => exact out_no (shift_no3 co ro v c row fr k s w hv hG hS h2 h3)
      | true =>
        obtain ⟨cols, rows, rfl, rfl, p1, p2, p3, p4, hcl⟩ := mayG_dest hG
        obtain ⟨r, rfl, hr⟩ := in_nat h2
        obtain ⟨a, rfl, ha⟩ := in_nat h3
        have hrl : (rowF c cols r).length = cols := rowF_len c cols r (by rw [hcl]; exact fits (by omega))
        have hwl : (shF (rowF c cols r) a k s).length = cols := by rw [shF_len, hrl]
        refine out_ok ?_ ?_ (shift_ok cols rows v c r a k s w hv hG hS (by omega) (by omega))
        · rw [putRow_len c cols r _ (by rw [mnd_len]; exact hwl) (by rw [hcl]; exact fits (by omega))]
        · exact mayG_put cols rows r c _ p1 p2 p3 p4 hcl hG (by omega) hwl (shF_may _ _ _ _ (row_may cols rows c p1 p2 p3 p4 hcl hG r (by omega)) hS)
theorem scroll_stays (co ro : Int) (v : Value) (c : List Cl) (top bot k : Int) (s : St) (w : World) (hv : Cls w.heap.size w v c) (hG : mayG co ro c = true) :
    Calls Try.prog 16 #[.agg (gA co ro v), .int .i64 top, .int .i64 bot, .int .i64 k, .agg (sA s)] w fun e w' => Below w.heap.size w w' ∧ Out w' e := by
  cases hS : mayS s with
  | false => exact out_no (scroll_no1 co ro v c top bot k s w hv hG hS)
  | true =>
    by_cases h3 : 0 ≤ top
    · by_cases h4 : top ≤ bot
      · by_cases h5 : bot < ro
        · obtain ⟨cols, rows, rfl, rfl, p1, p2, p3, p4, hcl⟩ := mayG_dest hG
          obtain ⟨a, rfl⟩ : ∃ a : Nat, top = (a : Int) := ⟨top.toNat, by omega⟩
          obtain ⟨b, rfl⟩ : ∃ b : Nat, bot = (b : Int) := ⟨bot.toNat, by omega⟩
          refine out_ok ?_ ?_ (scroll_ok cols rows v c a b k s w hv hG hS (by omega) (by omega))
          · rw [scF_len c cols rows a b k s hcl (by omega), hcl]
          · exact mayG_scroll cols rows a b k s c p1 p2 p3 p4 hcl hG hS (by omega)
        · exact out_no (scroll_no4 co ro v c top bot k s w hv hG hS h3 h4 (by omega))
      · exact out_no (scroll_no3 co ro v c top bot k s w hv hG hS h3 (by omega))
    · exact out_no (scroll_no2 co ro v c top bot k s w hv hG hS (by omega))
theorem resize_stays (co ro : Int) (v : Value) (c : List Cl) (cols' rows' : Int) (s : St) (w : World) (hv : Cls w.heap.size w v c) (hG : mayG co ro c = true) :
    Calls Try.prog 18 #[.agg (gA co ro v), .int .i64 cols', .int .i64 rows', .agg (sA s)] w fun e w' => Below w.heap.size w w' ∧ Out w' e := by
  cases hS : mayS s with
  | false => exact out_no (resize_no1 co ro v c cols' rows' s w hv hG hS)
  | true =>
    cases h2 : (sideF cols' && sideF rows') with
    | false => exact out_no (resize_no2 co ro v c cols' rows' s w hv hG hS h2)
    | true =>
      obtain ⟨cols, rows, rfl, rfl, p1, p2, p3, p4, hcl⟩ := mayG_dest hG
      rw [Bool.and_eq_true] at h2
      obtain ⟨a, rfl, a1, a2⟩ := side_nat h2.1
      obtain ⟨b, rfl, b1, b2⟩ := side_nat h2.2
      refine out_ok ?_ ?_ (resize_ok cols rows v c a b s w hv hG hS a1 a2 b1 b2)
      · rw [rzF, joinR_len _ a b (fun k _ => rzR_len c cols rows a s k hcl), Nat.mul_comm]
      · exact mayG_resize cols rows a b s c p1 p2 p3 p4 hcl hG hS a1 a2 b1 b2
end Go.Proofs.Ytejnlogoidkloaa
namespace Go.Proofs.Ytejnlogoidkloaa
open Go.ChangeShapes Go.WideShapes Go.ChangeAt Go.RowKit Go.BigFrame
set_option linter.unusedVariables false
set_option linter.unusedSimpArgs false

set_option maxRecDepth 100000 in
theorem open_cellsF {H : Type} {enc : TypeId × Value → H} {W : World} {R : Nat} {v : Value} {fuel : Nat} {x : DataW H × List MemPlace} (h : DataW.trod enc Try.prog W 0 (fun _ => true) true fuel 22 [v] = some x)
    (hw : ∀ y ∈ DataW.weights Try.prog 22 x.1, y ≤ R) : ∃ l, Cls W.heap.size W v l ∧ 48 * l.length ≤ R ∧ ∀ y ∈ l, y.wd < 256 := by
  rcases Deep.open_slice Try.underlying22 h with ⟨e, _⟩ | ⟨a, len, cap, m, n, D, Pl, e, hb, hl, hm, hmm, hx, hc⟩
  · simp only [List.cons.injEq, and_true] at e
    subst e
    exact ⟨[], ⟨none, 0, rfl, Nat.le_refl _, .inl rfl⟩, Nat.zero_le _, by simp⟩
  · simp only [List.cons.injEq, and_true] at e
    subst e
    simp only [if_true] at hmm
    subst hmm
    by_cases hz : len = 0
    · subst hz
      exact ⟨[], ⟨some a, _, rfl, Nat.zero_le _, .inl rfl⟩, Nat.zero_le _, by simp⟩
    have hsp : a.spot = none := by
      obtain ⟨cs', h1, _⟩ := hc 0 (by omega)
      rw [Try.cells49] at h1
      obtain ⟨_, hln, hcell⟩ := World.cells?_some h1
      have h2 := hcell 0 (by decide)
      have e0 : (a.add (0 * 15)).add 0 = a := by simp [Addr.add]
      rw [e0] at h2
      unfold World.cell? at h2
      cases hs : a.spot with
      | none => rfl
      | some q => rw [hs] at h2; split at h2 <;> (simp at h2; rw [h2] at hln; simp at hln)
    obtain ⟨b, o, sp⟩ := a
    simp only at hsp
    subst hsp
    have each : ∀ i, i < len → ∃ q : Cl, (∀ j, j < 15 → W.cell? ⟨b, o + i * 15 + j, none⟩ = (cA q)[j]?) ∧ q.wd < 256 := by
      intro i hi
      obtain ⟨cs', h1, h2⟩ := hc i (by omega)
      rw [Try.cells49] at h1
      obtain ⟨_, hlen, hcell⟩ := World.cells?_some h1
      obtain ⟨q, hq, hq2⟩ := read_cell h2
      refine ⟨q, fun j hj => ?_, hq2⟩
      have f0 := hcell j hj
      rw [Deep.add_add, Addr.add_mid] at f0
      rw [← Nat.add_assoc] at f0
      rw [f0, hq]
      simp
    obtain ⟨q, hq⟩ : ∃ q : Nat → Cl, ∀ i, i < len → (∀ j, j < 15 → W.cell? ⟨b, o + i * 15 + j, none⟩ = (cA (q i))[j]?) ∧ (q i).wd < 256 := by
      classical
      exact ⟨fun i => if hi : i < len then Classical.choose (each i hi) else hf pl, fun i hi => by simp only [hi, dif_pos]; exact Classical.choose_spec (each i hi)⟩
    have hlen : ((List.range len).map q).length = len := by simp
    refine ⟨(List.range len).map q, ⟨_, _, by rw [hlen], by rw [hlen]; exact hl, ?_⟩, ?_, ?_⟩
    · by_cases h0 : len = 0
      · left; apply List.eq_nil_of_length_eq_zero; rw [hlen]; exact h0
      · right
        have c0 := (hq 0 (by omega)).1 0 (by decide)
        refine ⟨b, o, rfl, World.block_lt_of_cell? W _ c0, fun k hk j hj => ?_⟩
        rw [hlen] at hk
        have e : ((List.range len).map q).getD k (hf pl) = q k := by simp [hk]
        rw [e]
        exact (hq k hk).1 j hj
    · subst hx
      rw [hlen]
      have := hw _ (by simp only [DataW.weights, Try.underlying22]; exact List.mem_cons_self)
      rw [Try.bytes49] at this
      simp at this
      omega
    · intro y hy
      obtain ⟨i, hi, rfl⟩ := List.mem_map.1 hy
      exact (hq i (List.mem_range.1 hi)).2
set_option maxRecDepth 100000 in
theorem read_askF {H : Type} {enc : TypeId × Value → H} {W : World} {R : Nat} {fuel : Nat} {cs : List Value} {x : DataW H × List MemPlace} (h : DataW.trod enc Try.prog W 0 (fun _ => true) true fuel 28 cs = some x)
    (hw : ∀ y ∈ DataW.weights Try.prog 28 x.1, y ≤ R) : ∃ (row col to k : Int) (s : St) (vl : Value) (l : List Cl), cs = (kA row col to k s vl).toList ∧ (IB row ∧ IB col ∧ IB to ∧ IB k) ∧ Cls W.heap.size W vl l ∧ 48 * l.length ≤ R ∧ ∀ y ∈ l, y.wd < 256 := by
  obtain ⟨xs, k, hk, hxy, hcl, hxl, hf⟩ := DataW.trod_struct Try.underlying28 h
  rw [Try.cells28] at hcl
  have hl2 : xs.length = 6 := hxl
  match cs, hcl with
  | [v0, v1, v2, v3, v4, v5, v6, v7, v8, v9, v10, v11, v12, v13, v14], _ =>
    have g0 : DataW.trod enc Try.prog W 0 (fun _ => true) true k 3 (([v0, v1, v2, v3, v4, v5, v6, v7, v8, v9, v10, v11, v12, v13, v14].drop 0).take (Try.prog.cellsOf 3)) = xs[0]? := hf 0 _ rfl
    have g1 : DataW.trod enc Try.prog W 0 (fun _ => true) true k 3 (([v0, v1, v2, v3, v4, v5, v6, v7, v8, v9, v10, v11, v12, v13, v14].drop 1).take (Try.prog.cellsOf 3)) = xs[1]? := hf 1 _ rfl
    have g2 : DataW.trod enc Try.prog W 0 (fun _ => true) true k 3 (([v0, v1, v2, v3, v4, v5, v6, v7, v8, v9, v10, v11, v12, v13, v14].drop 2).take (Try.prog.cellsOf 3)) = xs[2]? := hf 2 _ rfl
    have g3 : DataW.trod enc Try.prog W 0 (fun _ => true) true k 3 (([v0, v1, v2, v3, v4, v5, v6, v7, v8, v9, v10, v11, v12, v13, v14].drop 3).take (Try.prog.cellsOf 3)) = xs[3]? := hf 3 _ rfl
    have g4 : DataW.trod enc Try.prog W 0 (fun _ => true) true k 26 (([v0, v1, v2, v3, v4, v5, v6, v7, v8, v9, v10, v11, v12, v13, v14].drop 4).take (Try.prog.cellsOf 26)) = xs[4]? := hf 4 _ rfl
    have g5 : DataW.trod enc Try.prog W 0 (fun _ => true) true k 22 (([v0, v1, v2, v3, v4, v5, v6, v7, v8, v9, v10, v11, v12, v13, v14].drop 14).take (Try.prog.cellsOf 22)) = xs[5]? := hf 5 _ rfl
    rw [Try.cells3, List.getElem?_eq_getElem (by omega)] at g0 g1 g2 g3
    rw [Try.cells26, List.getElem?_eq_getElem (by omega)] at g4
    rw [Try.cells22', List.getElem?_eq_getElem (by omega)] at g5
    obtain ⟨n0, e0, _, w0⟩ := DataW.trod_int Try.underlying3 g0
    obtain ⟨n1, e1, _, w1⟩ := DataW.trod_int Try.underlying3 g1
    obtain ⟨n2, e2, _, w2⟩ := DataW.trod_int Try.underlying3 g2
    obtain ⟨n3, e3, _, w3⟩ := DataW.trod_int Try.underlying3 g3
    obtain ⟨s, e4⟩ := read_style g4
    simp only [List.drop_zero, List.drop_succ_cons, List.take_succ_cons, List.take_zero, List.cons.injEq, and_true] at e0 e1 e2 e3
    simp only [List.drop_zero, List.drop_succ_cons, List.take_succ_cons, List.take_zero, sA, List.cons.injEq, and_true] at e4
    simp only [List.drop_succ_cons, List.drop_zero, List.take_succ_cons, List.take_zero] at g5
    obtain ⟨h4, h5, h6, h7, h8, h9, h10, h11, h12, h13⟩ := e4
    obtain ⟨d, hd, hn, h256⟩ := open_cellsF (R := R) g5 (fun y hy => hw y (by rw [hxy]; simp only [DataW.weights, Try.underlying28]; exact each5 _ _ _ _ _ _ xs hl2 y hy))
    have b0 := wf_i64 w0
    have b1 := wf_i64 w1
    have b2 := wf_i64 w2
    have b3 := wf_i64 w3
    refine ⟨n0, n1, n2, n3, s, v14, d, ?_, ⟨⟨b0.1, b0.2⟩, ⟨b1.1, b1.2⟩, ⟨b2.1, b2.2⟩, ⟨b3.1, b3.2⟩⟩, hd, hn, h256⟩
    rw [e0, e1, e2, e3, h4, h5, h6, h7, h8, h9, h10, h11, h12, h13]
    rfl
/-- What a grid is asked. -/
structure Ak where
  row : Int
  col : Int
  to : Int
  k : Int
  s : St
  vl : Value
  l : List Cl
def akA (x : Ak) : Array Value := kA x.row x.col x.to x.k x.s x.vl
structure Ak.ok (N : Nat) (w : World) (x : Ak) : Prop where
  cl : Cls N w x.vl x.l
  le : 48 * x.l.length ≤ 140737488351232
theorem mem_all {H : Type} (e : TypeId) (y : Nat) (d : DataW H) : ∀ l : List (DataW H), d ∈ l → y ∈ DataW.weights Try.prog e d → y ∈ DataW.weightsAll Try.prog e l
  | [], h, _ => by simp at h
  | x :: r, h, hy => by
    rw [DataW.weightsAll, List.mem_append]
    rcases List.mem_cons.1 h with rfl | h
    · exact .inl hy
    · exact .inr (mem_all e y d r h hy)
theorem Try.bytes28 : Try.prog.bytesOf 28 = 80 := by kernel_rfl
set_option maxRecDepth 100000 in
/-- Askings that came in. -/
theorem open_asks {H : Type} {enc : TypeId × Value → H} {W : World} {base : Nat} {v : Value} {fuel : Nat} {x : DataW H × List MemPlace} (hok : Value.okWide Try.prog W .any base 44 v) (h0 : DataW.trod enc Try.prog W 0 (fun _ => true) true fuel 44 v.cells.toList = some x)
    (hw : ∀ y ∈ DataW.weights Try.prog 44 x.1, y ≤ 140737488351232) : ∃ (a : Option Addr) (n c : Nat) (q : Nat → Ak), v = .slice a n c ∧ n ≤ c ∧ 80 * n ≤ 140737488351232 ∧ ∀ i, i < n → (q i).ok W.heap.size W ∧ ∃ b o, a = some ⟨b, o, none⟩ ∧ b < W.heap.size ∧ W.rangeAt b (o + i * 15) (akA (q i)).toList := by
  unfold Value.okWide at hok
  rw [Try.underlying44] at hok
  have hc1 : v.cells.toList = [v] := by
    unfold Cell.okWide at hok
    rw [Try.underlying44] at hok
    cases v <;> first | rfl | (simp only [Cell.ok, Try.underlying44] at hok)
  have h : DataW.trod enc Try.prog W 0 (fun _ => true) true fuel 44 [v] = some x := hc1 ▸ h0
  rcases Deep.open_slice Try.underlying44 h with ⟨e, _⟩ | ⟨a, len, cap, m, n, D, Pl, e, hb, hl, hm, hmm, hx, hc⟩
  · simp only [List.cons.injEq, and_true] at e
    subst e
    exact ⟨none, 0, 0, fun _ => ⟨0, 0, 0, 0, pl, .slice none 0 0, []⟩, rfl, Nat.le_refl _, Nat.zero_le _, fun i hi => by omega⟩
  · simp only [List.cons.injEq, and_true] at e
    subst e
    simp only [if_true] at hmm
    subst hmm
    have each : ∀ i, i < len → ∃ q : Ak, q.ok W.heap.size W ∧ ∃ b o, (some a : Option Addr) = some ⟨b, o, none⟩ ∧ b < W.heap.size ∧ W.rangeAt b (o + i * 15) (akA q).toList := by
      intro i hi
      obtain ⟨cs', h1, h2⟩ := hc i (by omega)
      rw [Try.cells28] at h1
      obtain ⟨_, hlen, hcell⟩ := World.cells?_some h1
      obtain ⟨row, col, to, k, s, vl, l, e1, _, hcl, hn, _⟩ := read_askF (R := 140737488351232) h2 (fun y hy => hw y (by
        subst hx
        simp only [DataW.weights, Try.underlying44]
        refine List.mem_cons_of_mem _ (List.mem_append_left _ (mem_all _ y (D i) _ ?_ hy))
        exact List.mem_map.2 ⟨i, List.mem_range.2 hi, rfl⟩))
      obtain ⟨cs0, h10, _⟩ := hc 0 (by omega)
      rw [Try.cells28] at h10
      obtain ⟨_, hln, hcell0⟩ := World.cells?_some h10
      have h20 := hcell0 0 (by decide)
      have e0 : (a.add (0 * 15)).add 0 = a := by simp [Addr.add]
      rw [e0] at h20
      have hsp : a.spot = none := by
        unfold World.cell? at h20
        cases hs : a.spot with
        | none => rfl
        | some q => rw [hs] at h20; split at h20 <;> (simp at h20; rw [h20] at hln; simp at hln)
      obtain ⟨b, o, sp⟩ := a
      simp only at hsp
      subst hsp
      refine ⟨⟨row, col, to, k, s, vl, l⟩, ⟨hcl, hn⟩, b, o, rfl, by have h21 := h20; rw [List.getElem?_eq_getElem (by omega)] at h21; exact World.block_lt_of_cell? W _ h21, fun j u hu => ?_⟩
      have hj : j < 15 := by have := (List.getElem?_eq_some_iff.1 hu).1; exact this
      have f0 := hcell j hj
      rw [Deep.add_add, Addr.add_mid, ← Nat.add_assoc] at f0
      rw [f0, e1]
      exact hu
    obtain ⟨q, hq⟩ : ∃ q : Nat → Ak, ∀ i, i < len → (q i).ok W.heap.size W ∧ ∃ b o, (some a : Option Addr) = some ⟨b, o, none⟩ ∧ b < W.heap.size ∧ W.rangeAt b (o + i * 15) (akA (q i)).toList := by
      classical
      exact ⟨fun i => if hi : i < len then Classical.choose (each i hi) else ⟨0, 0, 0, 0, pl, .slice none 0 0, []⟩, fun i hi => by simp only [hi, dif_pos]; exact Classical.choose_spec (each i hi)⟩
    refine ⟨some a, len, _, q, rfl, hl, ?_, hq⟩
    subst hx
    have := hw _ (by simp only [DataW.weights, Try.underlying44]; exact List.mem_cons_self)
    rw [Try.bytes28] at this
    simp at this
    omega
end Go.Proofs.Ytejnlogoidkloaa
namespace Go.Proofs.Ytejnlogoidkloaa
open Go.RowKit Go.BigFrame
set_option linter.unusedVariables false
set_option linter.unusedSimpArgs false

set_option maxRecDepth 100000 in
theorem s28 : (Try.prog.info? 28).map (·.size) = some 15 := by kernel_rfl
theorem wpList_load_ask {ops : Array Oper} {rest : List Oper} {op : Oper} {a : Act} {w : World} {Q : Exit → Act → World → Prop} (hgd : op.guard = none) (x : Operand) (ho : op.op = .load 28 x) (b o : Nat) (y : Ak) (hx : a.eval x = .pointer (some ⟨b, o, none⟩)) (hc : w.rangeAt b o (akA y).toList)
    (h : wpList Try.prog ops Q rest (a.put op.dst (.agg (akA y))) w) : wpList Try.prog ops Q (op :: rest) a w :=
  wpList_plain hgd fun K hK => wp_load_mid 28 x ho b o hx (akA y).toList _ hc Try.underlying28 rfl s28 (hK _ _ h)
theorem ak_one (y : Ak) (a : Option Addr) (n c : Nat) (h : y.vl = .slice a n c) : (akA y).all (·.oneCell') = true := by simp [akA, kA, h, Value.oneCell']
theorem ak_style {w : World} {g : Nat} {y : Ak} (h : Row w g 28 (akA y)) : w.rangeAt g 4 (sA y.s).toList := fun j v hv => by
  have hj : j < 10 := by have := (List.getElem?_eq_some_iff.1 hv).1; exact this
  rw [h.cell]
  have e : ∀ j, j < 10 → (akA y)[4 + j]? = (sA y.s).toList[j]? := by
    intro j hj
    rcases (show j = 0 ∨ j = 1 ∨ j = 2 ∨ j = 3 ∨ j = 4 ∨ j = 5 ∨ j = 6 ∨ j = 7 ∨ j = 8 ∨ j = 9 by omega) with rfl | rfl | rfl | rfl | rfl | rfl | rfl | rfl | rfl | rfl <;> rfl
  rw [e j hj]
  exact hv
/-- What stands while a grid is asked: the grid in its box, and its cells. -/
structure SyM (w : World) (co ro : Int) (a : Option Addr) (n p : Nat) (c : List Cl) (wr : World) : Prop where
  rg : Row wr w.heap.size 24 (gA co ro (.slice a n p))
  cl : Cls wr.heap.size wr (.slice a n p) c
  may : mayG co ro c = true
  be : Below w.heap.size w wr
theorem SyM.below {w : World} {co ro : Int} {a : Option Addr} {n p : Nat} {c : List Cl} {wr w' : World} (h : SyM w co ro a n p c wr) (hb : Below wr.heap.size wr w') : SyM w co ro a n p c w' := ⟨h.rg.below hb h.rg.lt, (h.cl.below hb (Nat.le_refl _)).up hb.size, h.may, h.be.trans (hb.mono h.be.size)⟩
set_option maxRecDepth 100000 in
set_option maxHeartbeats 8000000 in
theorem gstays_no (AN : ∀ w, Calls Try.prog 23 #[] w fun e w' => e = .returned (.bool true) ∧ Below w.heap.size w w') (RM : ∀ (co ro : Int) (v : Value) (c : List Cl) (w : World), Cls w.heap.size w v c → Calls Try.prog 21 #[.agg (gA co ro v)] w fun e w' => e = .returned (.bool (mayG co ro c)) ∧ Below w.heap.size w w')
    (co ro : Int) (v : Value) (c : List Cl) (va : Value) (w : World) (hv : Cls w.heap.size w v c) (hG : mayG co ro c = false) : Calls Try.prog 4 #[.agg (gA co ro v), va] w fun e w' => e = .returned (.bool true) ∧ Below w.heap.size w w' := by
  have A := Box'.mk AN
  have M : Box' (∀ wx, Below w.heap.size w wx → Calls Try.prog 21 #[.agg (gA co ro v)] wx fun e w' => e = .returned (.bool (mayG co ro c)) ∧ Below wx.heap.size wx w') := ⟨fun wx hb => RM co ro v c wx ((hv.below hb (Nat.le_refl _)).up hb.size)⟩
  have M2 : Box' (∀ wx, Below w.heap.size w wx → Calls Try.prog 20 #[.agg (gA co ro v)] wx fun e w' => e = .returned (.bool (mayG co ro c)) ∧ Below wx.heap.size wx w') := ⟨fun wx hb => gmay_any co ro v c wx ((hv.below hb (Nat.le_refl _)).up hb.size)⟩
  rw [hG] at M M2
  obtain ⟨a, p, rfl, _⟩ := hv
  have R1 := Box'.mk (Row.new w 24 (gA co ro (.slice a c.length p)))
  have B1 := Box'.mk ((Below.refl w.heap.size w).alloc (Nat.le_refl _) (.cells (gA co ro (.slice a c.length p)) 24))
  have U24 := Box'.mk Try.underlying24
  have S24 := Box'.mk s24g
  clear AN RM hG
  go_enter Try.func4, Try.ntmps4
  go_upto_region 1 with (fail)
  generalize (w.alloc (.cells (gA co ro (.slice a c.length p)) 24)) = w1 at *
  go_wp2_with (first
    | (refine wpList_load_row rfl 24 (.tmp 2) rfl w.heap.size rfl 24 (gA co ro (.slice a c.length p)) R1.out _ U24.out rfl 3 S24.out rfl ?_))
  refine (M.out _ B1.out).mono ?_
  rintro e w2 ⟨rfl, hb⟩
  have B2 := Box'.mk (B1.out.trans (hb.mono B1.out.size))
  have R2 := Box'.mk (R1.out.below hb R1.out.lt)
  clear hb B1 R1
  go_wp2_with fail
  refine (A.out _).mono ?_
  rintro e w3 ⟨rfl, hb⟩
  have B3 := Box'.mk (B2.out.trans (hb.mono B2.out.size))
  have R3 := Box'.mk (R2.out.below hb R2.out.lt)
  clear hb B2 R2
  have c0 : w3.cell? ⟨w.heap.size, 0, none⟩ = some (.int .i64 co) := R3.out.cell 0
  have c1 : w3.cell? ⟨w.heap.size, 1, none⟩ = some (.int .i64 ro) := R3.out.cell 1
  have c2 : w3.cell? ⟨w.heap.size, 2, none⟩ = some (.slice a c.length p) := R3.out.cell 2
  go_wp2_with fail
  refine (M2.out _ B3.out).mono ?_
  rintro e w4 ⟨rfl, hb⟩
  have B4 := Box'.mk (B3.out.trans (hb.mono B3.out.size))
  clear hb
  go_wp2_with fail
  go_ret
  exact ⟨rfl, B4.out⟩
end Go.Proofs.Ytejnlogoidkloaa
namespace Go.Proofs.Ytejnlogoidkloaa
open Go.RowKit Go.BigFrame
set_option linter.unusedVariables false
set_option linter.unusedSimpArgs false

theorem cls_setRow {w : World} {v : Value} {c : List Cl} {r : Nat} (h : Cls w.heap.size w v c) (hr : Room w r 24 3) (d : Array Value) : Cls (w.setRow r d).heap.size (w.setRow r d) v c := by
  obtain ⟨a, cp, e, hc, h3⟩ := h
  refine ⟨a, cp, e, hc, ?_⟩
  rcases h3 with h3 | ⟨b, o, e2, hb, hcl⟩
  · exact .inl h3
  · by_cases hl : c.length = 0
    · exact .inl (List.eq_nil_of_length_eq_zero hl)
    · right
      have hne : b ≠ r := by
        intro e3
        subst e3
        obtain ⟨d0, hd, hs⟩ := hr
        have h14 := hcl 0 (by omega) 14 (by decide)
        rw [hd.cell, Array.getElem?_eq_none (by omega)] at h14
        exact absurd h14 (by simp [cA])
      refine ⟨b, o, e2, by rw [setRow_size]; exact hb, fun k hk j hj => ?_⟩
      rw [← hcl k hk j hj]
      unfold World.cell?
      simp only
      rw [setRow_other _ _ _ _ hne]
set_option maxRecDepth 100000 in
set_option maxHeartbeats 32000000 in
theorem gstays_yes (AN : ∀ w, Calls Try.prog 23 #[] w fun e w' => e = .returned (.bool true) ∧ Below w.heap.size w w') (RM : ∀ (co ro : Int) (v : Value) (c : List Cl) (w : World), Cls w.heap.size w v c → Calls Try.prog 21 #[.agg (gA co ro v)] w fun e w' => e = .returned (.bool (mayG co ro c)) ∧ Below w.heap.size w w')
    (co ro : Int) (v : Value) (c : List Cl) (aa : Option Addr) (m cp : Nat) (q : Nat → Ak) (hmc : m ≤ cp) (hm : 80 * m ≤ 140737488351232) (w : World) (hq : ∀ i, i < m → (q i).ok w.heap.size w ∧ ∃ b o, aa = some ⟨b, o, none⟩ ∧ b < w.heap.size ∧ w.rangeAt b (o + i * 15) (akA (q i)).toList)
    (hv : Cls w.heap.size w v c) (hG : mayG co ro c = true) : Calls Try.prog 4 #[.agg (gA co ro v), .slice aa m cp] w fun e w' => e = .returned (.bool true) ∧ Below w.heap.size w w' := by
  have A := Box'.mk AN
  have M : Box' (∀ wx (co ro : Int) (v : Value) (c : List Cl), Cls wx.heap.size wx v c → mayG co ro c = true → Calls Try.prog 21 #[.agg (gA co ro v)] wx fun e w' => e = .returned (.bool true) ∧ Below wx.heap.size wx w') := ⟨fun wx co ro v c hb hG => by have := RM co ro v c wx hb; rw [hG] at this; exact this⟩
  have M2 : Box' (∀ wx (co ro : Int) (v : Value) (c : List Cl), Cls wx.heap.size wx v c → mayG co ro c = true → Calls Try.prog 20 #[.agg (gA co ro v)] wx fun e w' => e = .returned (.bool true) ∧ Below wx.heap.size wx w') := ⟨fun wx co ro v c hb hG => by have := gmay_any co ro v c wx hb; rw [hG] at this; exact this⟩
  have HQ := Box'.mk hq
  have CV := Box'.mk hv
  obtain ⟨a, p, rfl, _⟩ := hv
  have F1 : Box' (SyM w co ro a c.length p c (w.alloc (.cells (gA co ro (.slice a c.length p)) 24))) := ⟨⟨Row.new _ _ _, (CV.out.below ((Below.refl w.heap.size w).alloc (Nat.le_refl _) _) (Nat.le_refl _)).up (by simp), hG, (Below.refl w.heap.size w).alloc (Nat.le_refl _) _⟩⟩
  have U24 := Box'.mk Try.underlying24
  have S24 := Box'.mk s24g
  have S28 := Box'.mk s28
  clear AN RM hG hq CV
  generalize c.length = n at *
  go_enter Try.func4, Try.ntmps4
  go_upto_region 1 with (fail)
  generalize (w.alloc (.cells (gA co ro (.slice a n p)) 24)) = w1 at *
  go_wp2_with (first
    | (refine wpList_load_row rfl 24 (.tmp 2) rfl w.heap.size rfl 24 (gA co ro (.slice a n p)) F1.out.rg _ U24.out rfl 3 S24.out rfl ?_))
  refine (M.out _ co ro _ c F1.out.cl F1.out.may).mono ?_
  rintro e w2 ⟨rfl, hb⟩
  have F2 := Box'.mk (F1.out.below hb)
  clear hb F1
  go_wp2_with fail
  go_loopw [5] (fun i wr => ∃ (k : Nat) (co ro : Int) (a : Option Addr) (n p : Nat) (c : List Cl), k ≤ m ∧ i = .int .i64 (k : Int) ∧ Box' (SyM w co ro a n p c wr)) (fun i _ => m - (intOf i).toNat)
  case atStart => exact ⟨0, co, ro, a, n, p, c, by omega, rfl, F2⟩
  case round =>
    clear F2
    obtain ⟨k, co, ro, a, n, p, c, hk, rfl, FF⟩ := hrel
    by_cases hlt : k < m
    case neg =>
      clear HQ M M2
      go_wp2_with fail
      refine (A.out _).mono ?_
      rintro e w9 ⟨rfl, hb⟩
      have B9 := Box'.mk (FF.out.be.trans (hb.mono FF.out.be.size))
      clear hb
      go_wp2_with fail
      go_ret
      exact ⟨rfl, B9.out⟩
    case pos =>
      obtain ⟨hok, b, o, rfl, hbw, hrg⟩ := HQ.out k hlt
      have VL : Box' (∀ wx, Below w.heap.size w wx → Cls wx.heap.size wx (q k).vl (q k).l) := ⟨fun wx hb => (hok.cl.below hb (Nat.le_refl _)).up hb.size⟩
      have hle : (q k).l.length ≤ 140737488355328 := by have := hok.le; omega
      have RG : Box' (wr.rangeAt b (o + k * 15) (akA (q k)).toList) := ⟨fun j u hu => by
        rw [FF.out.be.cell (p := ⟨b, o + k * 15 + j, none⟩) hbw]
        exact hrg j u hu⟩
      obtain ⟨al, cl, hvl, _⟩ := hok.cl
      have O1 := Box'.mk (ak_one (q k) _ _ _ hvl)
      have VS := Box'.mk hvl
      clear hrg hok hvl HQ
      generalize q k = y at *
      have RM1 : Box' (Room (wr.alloc (.cells #[.int .i64 0, .int .i64 0, .int .i64 0, .int .i64 0, .int .i64 0, .int .i64 0, .bool false, .bool false, .bool false, .bool false, .bool false, .bool false, .bool false, .bool false, .slice none 0 0] 28)) wr.heap.size 28 15) := ⟨Room.new _ _ _ _ rfl⟩
      have F3 : Box' (SyM w co ro a n p c ((wr.alloc (.cells #[.int .i64 0, .int .i64 0, .int .i64 0, .int .i64 0, .int .i64 0, .int .i64 0, .bool false, .bool false, .bool false, .bool false, .bool false, .bool false, .bool false, .bool false, .slice none 0 0] 28)).setRow wr.heap.size (akA y))) := ⟨FF.out.below (below_setRow ((Below.refl _ _).alloc (Nat.le_refl _) _) (Nat.le_refl _) _)⟩
      have K3 : Box' (Row ((wr.alloc (.cells #[.int .i64 0, .int .i64 0, .int .i64 0, .int .i64 0, .int .i64 0, .int .i64 0, .bool false, .bool false, .bool false, .bool false, .bool false, .bool false, .bool false, .bool false, .slice none 0 0] 28)).setRow wr.heap.size (akA y)) wr.heap.size 28 (akA y)) := ⟨RM1.out.setRow _⟩
      have hsz := FF.out.be.size
      go_upto_region 7 with (first
        | (refine wpList_load_ask rfl (.tmp 26) rfl b (o + k * 15) y rfl RG.out ?_)
        | (refine wpList_store_row rfl 28 (.tmp 6) (.tmp 27) rfl wr.heap.size rfl (akA y) rfl 28 15 RM1.out S28.out rfl O1.out ?_))
      generalize ((wr.alloc (.cells #[.int .i64 0, .int .i64 0, .int .i64 0, .int .i64 0, .int .i64 0, .int .i64 0, .bool false, .bool false, .bool false, .bool false, .bool false, .bool false, .bool false, .bool false, .slice none 0 0] 28)).setRow wr.heap.size (akA y)) = w3 at *
      clear RM1 RG FF
      generalize wr.heap.size = t at *
      have RM2 : Box' (Room (w3.alloc (.cells #[.int .i64 0, .int .i64 0, .slice none 0 0] 24)) w3.heap.size 24 3) := ⟨Room.new _ _ _ _ rfl⟩
      have F4 : Box' (SyM w co ro a n p c ((w3.alloc (.cells #[.int .i64 0, .int .i64 0, .slice none 0 0] 24)).setRow w3.heap.size (gA co ro (.slice a n p)))) := ⟨F3.out.below (below_setRow ((Below.refl _ _).alloc (Nat.le_refl _) _) (Nat.le_refl _) _)⟩
      have K4 : Box' (Row ((w3.alloc (.cells #[.int .i64 0, .int .i64 0, .slice none 0 0] 24)).setRow w3.heap.size (gA co ro (.slice a n p))) t 28 (akA y)) := ⟨Row.setRowOther (K3.out.alloc _) _ _ (by have := K3.out.lt; omega)⟩
      have H4 : Box' (Room ((w3.alloc (.cells #[.int .i64 0, .int .i64 0, .slice none 0 0] 24)).setRow w3.heap.size (gA co ro (.slice a n p))) w3.heap.size 24 3) := ⟨(RM2.out.setRow _).room rfl⟩
      have O2 := Box'.mk (gA_one co ro a n p)
      have hr1 : w.heap.size < w3.heap.size := F3.out.rg.lt
      have hr2 : t < w3.heap.size := K3.out.lt
      go_upto_region 8 with (first
        | (refine wpList_load_row rfl 24 (.tmp 2) rfl w.heap.size rfl 24 (gA co ro (.slice a n p)) F3.out.rg _ U24.out rfl 3 S24.out rfl ?_)
        | (refine wpList_store_row rfl 24 (.tmp 7) (.tmp 28) rfl w3.heap.size rfl (gA co ro (.slice a n p)) rfl 24 3 RM2.out S24.out rfl O2.out ?_))
      generalize ((w3.alloc (.cells #[.int .i64 0, .int .i64 0, .slice none 0 0] 24)).setRow w3.heap.size (gA co ro (.slice a n p))) = w4 at *
      clear RM2 F3 K3
      generalize w3.heap.size = r at *
      have hm5 : (k : Int) % 5 = 0 ∨ (k : Int) % 5 = 1 ∨ (k : Int) % 5 = 2 ∨ (k : Int) % 5 = 3 ∨ (k : Int) % 5 = 4 := by omega
      have k0 : w4.cell? ⟨t, 0, none⟩ = some (.int .i64 y.row) := K4.out.cell 0
      have k1 : w4.cell? ⟨t, 1, none⟩ = some (.int .i64 y.col) := K4.out.cell 1
      have k2 : w4.cell? ⟨t, 2, none⟩ = some (.int .i64 y.to) := K4.out.cell 2
      have k3 : w4.cell? ⟨t, 3, none⟩ = some (.int .i64 y.k) := K4.out.cell 3
      have k14 : w4.cell? ⟨t, 14, none⟩ = some y.vl := K4.out.cell 14
      have KS := Box'.mk (ak_style K4.out)
      rcases hm5 with h5 | h5 | h5 | h5 | h5
      · have CA := Box'.mk (write_stays co ro _ c y.row y.col y.s y.vl y.l w4 F4.out.cl hle (VL.out _ F4.out.be) F4.out.may)
        rw [VS.out] at CA k14
        go_wp2_with (first
          | (refine wpList_load_row rfl 24 (.tmp 2) rfl w.heap.size rfl 24 (gA co ro (.slice a n p)) F4.out.rg _ U24.out rfl 3 S24.out rfl ?_)
          | (refine wpList_load_style rfl (.tmp 39) rfl t 4 y.s rfl KS.out ?_))
        refine CA.out.mono ?_
        rintro e w5 ⟨hb, hout⟩
        have F5 := Box'.mk (F4.out.below hb)
        have H5 := Box'.mk (H4.out.below hb (by have := F4.out.be; obtain ⟨d, hd, _⟩ := H4.out; exact hd.lt))
        clear hb CA F4 H4 K4 KS k0 k1 k2 k3 VL
        rcases hout with rfl | ⟨co2, ro2, b2, n2, c2, rfl, hmay, hcl⟩
        · have F6 : Box' (SyM w co ro a n p c (w5.setRow r (gA 0 0 (.slice none 0 0)))) := ⟨⟨Row.setRowOther F5.out.rg _ _ (by omega), cls_setRow F5.out.cl H5.out _, F5.out.may, below_setRow F5.out.be (by omega) _⟩⟩
          have O3 := Box'.mk (gA_one 0 0 none 0 0)
          unfold gErr
          go_wp2_with (first
            | (refine wpList_store_row rfl 24 (.tmp 7) (.tmp 44) rfl r rfl (gA 0 0 (.slice none 0 0)) rfl 24 3 H5.out S24.out rfl O3.out ?_))
          exact ⟨⟨k + 1, co, ro, a, n, p, c, by omega, by go_num, F6⟩, by simp [intOf]; omega⟩
        · have H6 : Box' (Row (w5.setRow r (gA co2 ro2 (.slice (some ⟨b2, 0, none⟩) n2 n2))) r 24 (gA co2 ro2 (.slice (some ⟨b2, 0, none⟩) n2 n2))) := ⟨H5.out.setRow _⟩
          have C6 : Box' (Cls (w5.setRow r (gA co2 ro2 (.slice (some ⟨b2, 0, none⟩) n2 n2))).heap.size (w5.setRow r (gA co2 ro2 (.slice (some ⟨b2, 0, none⟩) n2 n2))) (.slice (some ⟨b2, 0, none⟩) n2 n2) c2) := ⟨cls_setRow hcl H5.out _⟩
          have W6 : Box' (Room (w5.setRow r (gA co2 ro2 (.slice (some ⟨b2, 0, none⟩) n2 n2))) w.heap.size 24 3) := ⟨(Row.setRowOther F5.out.rg _ _ (by omega)).room rfl⟩
          have B6 : Box' (Below w.heap.size w (w5.setRow r (gA co2 ro2 (.slice (some ⟨b2, 0, none⟩) n2 n2)))) := ⟨below_setRow F5.out.be (by omega) _⟩
          have O3 := Box'.mk (gA_one co2 ro2 (some ⟨b2, 0, none⟩) n2 n2)
          have MY := Box'.mk hmay
          clear F5 hcl hmay
          unfold gOk
          go_upto_region 20 with (first
            | (refine wpList_store_row rfl 24 (.tmp 7) (.tmp 44) rfl r rfl (gA co2 ro2 (.slice (some ⟨b2, 0, none⟩) n2 n2)) rfl 24 3 H5.out S24.out rfl O3.out ?_))
          generalize (w5.setRow r (gA co2 ro2 (.slice (some ⟨b2, 0, none⟩) n2 n2))) = w6 at *
          clear H5
          go_wp2_with (first
            | (refine wpList_load_row rfl 24 (.tmp 7) rfl r rfl 24 (gA co2 ro2 (.slice (some ⟨b2, 0, none⟩) n2 n2)) H6.out _ U24.out rfl 3 S24.out rfl ?_))
          refine (M2.out _ co2 ro2 _ c2 C6.out MY.out).mono ?_
          rintro e w7 ⟨rfl, hb⟩
          have H7 := Box'.mk (H6.out.below hb H6.out.lt)
          have C7 := Box'.mk ((C6.out.below hb (Nat.le_refl _)).up hb.size)
          have W7 := Box'.mk (W6.out.below hb (by obtain ⟨d, hd, _⟩ := W6.out; exact hd.lt))
          have B7 := Box'.mk (B6.out.trans (hb.mono B6.out.size))
          clear hb H6 C6 W6 B6
          have d0 : w7.cell? ⟨r, 0, none⟩ = some (.int .i64 co2) := H7.out.cell 0
          have d1 : w7.cell? ⟨r, 1, none⟩ = some (.int .i64 ro2) := H7.out.cell 1
          have d2 : w7.cell? ⟨r, 2, none⟩ = some (.slice (some ⟨b2, 0, none⟩) n2 n2) := H7.out.cell 2
          go_wp2_with fail
          refine (M.out _ co2 ro2 _ c2 C7.out MY.out).mono ?_
          rintro e w8 ⟨rfl, hb⟩
          have H8 := Box'.mk (H7.out.below hb H7.out.lt)
          have C8 := Box'.mk ((C7.out.below hb (Nat.le_refl _)).up hb.size)
          have W8 := Box'.mk (W7.out.below hb (by obtain ⟨d, hd, _⟩ := W7.out; exact hd.lt))
          have B8 := Box'.mk (B7.out.trans (hb.mono B7.out.size))
          clear hb H7 C7 W7 B7 d0 d1 d2
          have F9 : Box' (SyM w co2 ro2 (some ⟨b2, 0, none⟩) n2 n2 c2 (w8.setRow w.heap.size (gA co2 ro2 (.slice (some ⟨b2, 0, none⟩) n2 n2)))) := ⟨⟨W8.out.setRow _, cls_setRow C8.out W8.out _, MY.out, below_setRow B8.out (Nat.le_refl _) _⟩⟩
          go_wp2_with (first
            | (refine wpList_load_row rfl 24 (.tmp 7) rfl r rfl 24 (gA co2 ro2 (.slice (some ⟨b2, 0, none⟩) n2 n2)) H8.out _ U24.out rfl 3 S24.out rfl ?_)
            | (refine wpList_store_row rfl 24 (.tmp 2) (.tmp 114) rfl w.heap.size rfl (gA co2 ro2 (.slice (some ⟨b2, 0, none⟩) n2 n2)) rfl 24 3 W8.out S24.out rfl O3.out ?_))
          exact ⟨⟨k + 1, co2, ro2, _, n2, n2, c2, by omega, by go_num, F9⟩, by simp [intOf]; omega⟩
      · have CA := Box'.mk (erase_stays co ro _ c y.row y.col y.to y.s w4 F4.out.cl F4.out.may)
        clear k14
        go_wp2_with (first
          | (refine wpList_load_row rfl 24 (.tmp 2) rfl w.heap.size rfl 24 (gA co ro (.slice a n p)) F4.out.rg _ U24.out rfl 3 S24.out rfl ?_)
          | (refine wpList_load_style rfl (.tmp 56) rfl t 4 y.s rfl KS.out ?_))
        refine CA.out.mono ?_
        rintro e w5 ⟨hb, hout⟩
        have F5 := Box'.mk (F4.out.below hb)
        have H5 := Box'.mk (H4.out.below hb (by have := F4.out.be; obtain ⟨d, hd, _⟩ := H4.out; exact hd.lt))
        clear hb CA F4 H4 K4 KS k0 k1 k2 k3 VL
        rcases hout with rfl | ⟨co2, ro2, b2, n2, c2, rfl, hmay, hcl⟩
        · have F6 : Box' (SyM w co ro a n p c (w5.setRow r (gA 0 0 (.slice none 0 0)))) := ⟨⟨Row.setRowOther F5.out.rg _ _ (by omega), cls_setRow F5.out.cl H5.out _, F5.out.may, below_setRow F5.out.be (by omega) _⟩⟩
          have O3 := Box'.mk (gA_one 0 0 none 0 0)
          unfold gErr
          go_wp2_with (first
            | (refine wpList_store_row rfl 24 (.tmp 7) (.tmp 59) rfl r rfl (gA 0 0 (.slice none 0 0)) rfl 24 3 H5.out S24.out rfl O3.out ?_))
          exact ⟨⟨k + 1, co, ro, a, n, p, c, by omega, by go_num, F6⟩, by simp [intOf]; omega⟩
        · have H6 : Box' (Row (w5.setRow r (gA co2 ro2 (.slice (some ⟨b2, 0, none⟩) n2 n2))) r 24 (gA co2 ro2 (.slice (some ⟨b2, 0, none⟩) n2 n2))) := ⟨H5.out.setRow _⟩
          have C6 : Box' (Cls (w5.setRow r (gA co2 ro2 (.slice (some ⟨b2, 0, none⟩) n2 n2))).heap.size (w5.setRow r (gA co2 ro2 (.slice (some ⟨b2, 0, none⟩) n2 n2))) (.slice (some ⟨b2, 0, none⟩) n2 n2) c2) := ⟨cls_setRow hcl H5.out _⟩
          have W6 : Box' (Room (w5.setRow r (gA co2 ro2 (.slice (some ⟨b2, 0, none⟩) n2 n2))) w.heap.size 24 3) := ⟨(Row.setRowOther F5.out.rg _ _ (by omega)).room rfl⟩
          have B6 : Box' (Below w.heap.size w (w5.setRow r (gA co2 ro2 (.slice (some ⟨b2, 0, none⟩) n2 n2)))) := ⟨below_setRow F5.out.be (by omega) _⟩
          have O3 := Box'.mk (gA_one co2 ro2 (some ⟨b2, 0, none⟩) n2 n2)
          have MY := Box'.mk hmay
          clear F5 hcl hmay
          unfold gOk
          go_upto_region 20 with (first
            | (refine wpList_store_row rfl 24 (.tmp 7) (.tmp 59) rfl r rfl (gA co2 ro2 (.slice (some ⟨b2, 0, none⟩) n2 n2)) rfl 24 3 H5.out S24.out rfl O3.out ?_))
          generalize (w5.setRow r (gA co2 ro2 (.slice (some ⟨b2, 0, none⟩) n2 n2))) = w6 at *
          clear H5
          go_wp2_with (first
            | (refine wpList_load_row rfl 24 (.tmp 7) rfl r rfl 24 (gA co2 ro2 (.slice (some ⟨b2, 0, none⟩) n2 n2)) H6.out _ U24.out rfl 3 S24.out rfl ?_))
          refine (M2.out _ co2 ro2 _ c2 C6.out MY.out).mono ?_
          rintro e w7 ⟨rfl, hb⟩
          have H7 := Box'.mk (H6.out.below hb H6.out.lt)
          have C7 := Box'.mk ((C6.out.below hb (Nat.le_refl _)).up hb.size)
          have W7 := Box'.mk (W6.out.below hb (by obtain ⟨d, hd, _⟩ := W6.out; exact hd.lt))
          have B7 := Box'.mk (B6.out.trans (hb.mono B6.out.size))
          clear hb H6 C6 W6 B6
          have d0 : w7.cell? ⟨r, 0, none⟩ = some (.int .i64 co2) := H7.out.cell 0
          have d1 : w7.cell? ⟨r, 1, none⟩ = some (.int .i64 ro2) := H7.out.cell 1
          have d2 : w7.cell? ⟨r, 2, none⟩ = some (.slice (some ⟨b2, 0, none⟩) n2 n2) := H7.out.cell 2
          go_wp2_with fail
          refine (M.out _ co2 ro2 _ c2 C7.out MY.out).mono ?_
          rintro e w8 ⟨rfl, hb⟩
          have H8 := Box'.mk (H7.out.below hb H7.out.lt)
          have C8 := Box'.mk ((C7.out.below hb (Nat.le_refl _)).up hb.size)
          have W8 := Box'.mk (W7.out.below hb (by obtain ⟨d, hd, _⟩ := W7.out; exact hd.lt))
          have B8 := Box'.mk (B7.out.trans (hb.mono B7.out.size))
          clear hb H7 C7 W7 B7 d0 d1 d2
          have F9 : Box' (SyM w co2 ro2 (some ⟨b2, 0, none⟩) n2 n2 c2 (w8.setRow w.heap.size (gA co2 ro2 (.slice (some ⟨b2, 0, none⟩) n2 n2)))) := ⟨⟨W8.out.setRow _, cls_setRow C8.out W8.out _, MY.out, below_setRow B8.out (Nat.le_refl _) _⟩⟩
          go_wp2_with (first
            | (refine wpList_load_row rfl 24 (.tmp 7) rfl r rfl 24 (gA co2 ro2 (.slice (some ⟨b2, 0, none⟩) n2 n2)) H8.out _ U24.out rfl 3 S24.out rfl ?_)
            | (refine wpList_store_row rfl 24 (.tmp 2) (.tmp 114) rfl w.heap.size rfl (gA co2 ro2 (.slice (some ⟨b2, 0, none⟩) n2 n2)) rfl 24 3 W8.out S24.out rfl O3.out ?_))
          exact ⟨⟨k + 1, co2, ro2, _, n2, n2, c2, by omega, by go_num, F9⟩, by simp [intOf]; omega⟩
      · have CA := Box'.mk (shift_stays co ro _ c y.row y.col y.k y.s w4 F4.out.cl F4.out.may)
        clear k14
        go_wp2_with (first
          | (refine wpList_load_row rfl 24 (.tmp 2) rfl w.heap.size rfl 24 (gA co ro (.slice a n p)) F4.out.rg _ U24.out rfl 3 S24.out rfl ?_)
          | (refine wpList_load_style rfl (.tmp 71) rfl t 4 y.s rfl KS.out ?_))
        refine CA.out.mono ?_
        rintro e w5 ⟨hb, hout⟩
        have F5 := Box'.mk (F4.out.below hb)
        have H5 := Box'.mk (H4.out.below hb (by have := F4.out.be; obtain ⟨d, hd, _⟩ := H4.out; exact hd.lt))
        clear hb CA F4 H4 K4 KS k0 k1 k2 k3 VL
        rcases hout with rfl | ⟨co2, ro2, b2, n2, c2, rfl, hmay, hcl⟩
        · have F6 : Box' (SyM w co ro a n p c (w5.setRow r (gA 0 0 (.slice none 0 0)))) := ⟨⟨Row.setRowOther F5.out.rg _ _ (by omega), cls_setRow F5.out.cl H5.out _, F5.out.may, below_setRow F5.out.be (by omega) _⟩⟩
          have O3 := Box'.mk (gA_one 0 0 none 0 0)
          unfold gErr
          go_wp2_with (first
            | (refine wpList_store_row rfl 24 (.tmp 7) (.tmp 74) rfl r rfl (gA 0 0 (.slice none 0 0)) rfl 24 3 H5.out S24.out rfl O3.out ?_))
          exact ⟨⟨k + 1, co, ro, a, n, p, c, by omega, by go_num, F6⟩, by simp [intOf]; omega⟩
        · have H6 : Box' (Row (w5.setRow r (gA co2 ro2 (.slice (some ⟨b2, 0, none⟩) n2 n2))) r 24 (gA co2 ro2 (.slice (some ⟨b2, 0, none⟩) n2 n2))) := ⟨H5.out.setRow _⟩
          have C6 : Box' (Cls (w5.setRow r (gA co2 ro2 (.slice (some ⟨b2, 0, none⟩) n2 n2))).heap.size (w5.setRow r (gA co2 ro2 (.slice (some ⟨b2, 0, none⟩) n2 n2))) (.slice (some ⟨b2, 0, none⟩) n2 n2) c2) := ⟨cls_setRow hcl H5.out _⟩
          have W6 : Box' (Room (w5.setRow r (gA co2 ro2 (.slice (some ⟨b2, 0, none⟩) n2 n2))) w.heap.size 24 3) := ⟨(Row.setRowOther F5.out.rg _ _ (by omega)).room rfl⟩
          have B6 : Box' (Below w.heap.size w (w5.setRow r (gA co2 ro2 (.slice (some ⟨b2, 0, none⟩) n2 n2)))) := ⟨below_setRow F5.out.be (by omega) _⟩
          have O3 := Box'.mk (gA_one co2 ro2 (some ⟨b2, 0, none⟩) n2 n2)
          have MY := Box'.mk hmay
          clear F5 hcl hmay
          unfold gOk
          go_upto_region 20 with (first
            | (refine wpList_store_row rfl 24 (.tmp 7) (.tmp 74) rfl r rfl (gA co2 ro2 (.slice (some ⟨b2, 0, none⟩) n2 n2)) rfl 24 3 H5.out S24.out rfl O3.out ?_))
          generalize (w5.setRow r (gA co2 ro2 (.slice (some ⟨b2, 0, none⟩) n2 n2))) = w6 at *
          clear H5
          go_wp2_with (first
            | (refine wpList_load_row rfl 24 (.tmp 7) rfl r rfl 24 (gA co2 ro2 (.slice (some ⟨b2, 0, none⟩) n2 n2)) H6.out _ U24.out rfl 3 S24.out rfl ?_))
          refine (M2.out _ co2 ro2 _ c2 C6.out MY.out).mono ?_
          rintro e w7 ⟨rfl, hb⟩
          have H7 := Box'.mk (H6.out.below hb H6.out.lt)
          have C7 := Box'.mk ((C6.out.below hb (Nat.le_refl _)).up hb.size)
          have W7 := Box'.mk (W6.out.below hb (by obtain ⟨d, hd, _⟩ := W6.out; exact hd.lt))
          have B7 := Box'.mk (B6.out.trans (hb.mono B6.out.size))
          clear hb H6 C6 W6 B6
          have d0 : w7.cell? ⟨r, 0, none⟩ = some (.int .i64 co2) := H7.out.cell 0
          have d1 : w7.cell? ⟨r, 1, none⟩ = some (.int .i64 ro2) := H7.out.cell 1
          have d2 : w7.cell? ⟨r, 2, none⟩ = some (.slice (some ⟨b2, 0, none⟩) n2 n2) := H7.out.cell 2
          go_wp2_with fail
          refine (M.out _ co2 ro2 _ c2 C7.out MY.out).mono ?_
          rintro e w8 ⟨rfl, hb⟩
          have H8 := Box'.mk (H7.out.below hb H7.out.lt)
          have C8 := Box'.mk ((C7.out.below hb (Nat.le_refl _)).up hb.size)
          have W8 := Box'.mk (W7.out.below hb (by obtain ⟨d, hd, _⟩ := W7.out; exact hd.lt))
          have B8 := Box'.mk (B7.out.trans (hb.mono B7.out.size))
          clear hb H7 C7 W7 B7 d0 d1 d2
          have F9 : Box' (SyM w co2 ro2 (some ⟨b2, 0, none⟩) n2 n2 c2 (w8.setRow w.heap.size (gA co2 ro2 (.slice (some ⟨b2, 0, none⟩) n2 n2)))) := ⟨⟨W8.out.setRow _, cls_setRow C8.out W8.out _, MY.out, below_setRow B8.out (Nat.le_refl _) _⟩⟩
          go_wp2_with (first
            | (refine wpList_load_row rfl 24 (.tmp 7) rfl r rfl 24 (gA co2 ro2 (.slice (some ⟨b2, 0, none⟩) n2 n2)) H8.out _ U24.out rfl 3 S24.out rfl ?_)
            | (refine wpList_store_row rfl 24 (.tmp 2) (.tmp 114) rfl w.heap.size rfl (gA co2 ro2 (.slice (some ⟨b2, 0, none⟩) n2 n2)) rfl 24 3 W8.out S24.out rfl O3.out ?_))
          exact ⟨⟨k + 1, co2, ro2, _, n2, n2, c2, by omega, by go_num, F9⟩, by simp [intOf]; omega⟩
      · have CA := Box'.mk (scroll_stays co ro _ c y.row y.to y.k y.s w4 F4.out.cl F4.out.may)
        clear k14
        go_wp2_with (first
          | (refine wpList_load_row rfl 24 (.tmp 2) rfl w.heap.size rfl 24 (gA co ro (.slice a n p)) F4.out.rg _ U24.out rfl 3 S24.out rfl ?_)
          | (refine wpList_load_style rfl (.tmp 86) rfl t 4 y.s rfl KS.out ?_))
        refine CA.out.mono ?_
        rintro e w5 ⟨hb, hout⟩
        have F5 := Box'.mk (F4.out.below hb)
        have H5 := Box'.mk (H4.out.below hb (by have := F4.out.be; obtain ⟨d, hd, _⟩ := H4.out; exact hd.lt))
        clear hb CA F4 H4 K4 KS k0 k1 k2 k3 VL
        rcases hout with rfl | ⟨co2, ro2, b2, n2, c2, rfl, hmay, hcl⟩
        · have F6 : Box' (SyM w co ro a n p c (w5.setRow r (gA 0 0 (.slice none 0 0)))) := ⟨⟨Row.setRowOther F5.out.rg _ _ (by omega), cls_setRow F5.out.cl H5.out _, F5.out.may, below_setRow F5.out.be (by omega) _⟩⟩
          have O3 := Box'.mk (gA_one 0 0 none 0 0)
          unfold gErr
          go_wp2_with (first
            | (refine wpList_store_row rfl 24 (.tmp 7) (.tmp 89) rfl r rfl (gA 0 0 (.slice none 0 0)) rfl 24 3 H5.out S24.out rfl O3.out ?_))
          exact ⟨⟨k + 1, co, ro, a, n, p, c, by omega, by go_num, F6⟩, by simp [intOf]; omega⟩
        · have H6 : Box' (Row (w5.setRow r (gA co2 ro2 (.slice (some ⟨b2, 0, none⟩) n2 n2))) r 24 (gA co2 ro2 (.slice (some ⟨b2, 0, none⟩) n2 n2))) := ⟨H5.out.setRow _⟩
          have C6 : Box' (Cls (w5.setRow r (gA co2 ro2 (.slice (some ⟨b2, 0, none⟩) n2 n2))).heap.size (w5.setRow r (gA co2 ro2 (.slice (some ⟨b2, 0, none⟩) n2 n2))) (.slice (some ⟨b2, 0, none⟩) n2 n2) c2) := ⟨cls_setRow hcl H5.out _⟩
          have W6 : Box' (Room (w5.setRow r (gA co2 ro2 (.slice (some ⟨b2, 0, none⟩) n2 n2))) w.heap.size 24 3) := ⟨(Row.setRowOther F5.out.rg _ _ (by omega)).room rfl⟩
          have B6 : Box' (Below w.heap.size w (w5.setRow r (gA co2 ro2 (.slice (some ⟨b2, 0, none⟩) n2 n2)))) := ⟨below_setRow F5.out.be (by omega) _⟩
          have O3 := Box'.mk (gA_one co2 ro2 (some ⟨b2, 0, none⟩) n2 n2)
          have MY := Box'.mk hmay
          clear F5 hcl hmay
          unfold gOk
          go_upto_region 20 with (first
            | (refine wpList_store_row rfl 24 (.tmp 7) (.tmp 89) rfl r rfl (gA co2 ro2 (.slice (some ⟨b2, 0, none⟩) n2 n2)) rfl 24 3 H5.out S24.out rfl O3.out ?_))
          generalize (w5.setRow r (gA co2 ro2 (.slice (some ⟨b2, 0, none⟩) n2 n2))) = w6 at *
          clear H5
          go_wp2_with (first
            | (refine wpList_load_row rfl 24 (.tmp 7) rfl r rfl 24 (gA co2 ro2 (.slice (some ⟨b2, 0, none⟩) n2 n2)) H6.out _ U24.out rfl 3 S24.out rfl ?_))
          refine (M2.out _ co2 ro2 _ c2 C6.out MY.out).mono ?_
          rintro e w7 ⟨rfl, hb⟩
          have H7 := Box'.mk (H6.out.below hb H6.out.lt)
          have C7 := Box'.mk ((C6.out.below hb (Nat.le_refl _)).up hb.size)
          have W7 := Box'.mk (W6.out.below hb (by obtain ⟨d, hd, _⟩ := W6.out; exact hd.lt))
          have B7 := Box'.mk (B6.out.trans (hb.mono B6.out.size))
          clear hb H6 C6 W6 B6
          have d0 : w7.cell? ⟨r, 0, none⟩ = some (.int .i64 co2) := H7.out.cell 0
          have d1 : w7.cell? ⟨r, 1, none⟩ = some (.int .i64 ro2) := H7.out.cell 1
          have d2 : w7.cell? ⟨r, 2, none⟩ = some (.slice (some ⟨b2, 0, none⟩) n2 n2) := H7.out.cell 2
          go_wp2_with fail
          refine (M.out _ co2 ro2 _ c2 C7.out MY.out).mono ?_
          rintro e w8 ⟨rfl, hb⟩
          have H8 := Box'.mk (H7.out.below hb H7.out.lt)
          have C8 := Box'.mk ((C7.out.below hb (Nat.le_refl _)).up hb.size)
          have W8 := Box'.mk (W7.out.below hb (by obtain ⟨d, hd, _⟩ := W7.out; exact hd.lt))
          have B8 := Box'.mk (B7.out.trans (hb.mono B7.out.size))
          clear hb H7 C7 W7 B7 d0 d1 d2
          have F9 : Box' (SyM w co2 ro2 (some ⟨b2, 0, none⟩) n2 n2 c2 (w8.setRow w.heap.size (gA co2 ro2 (.slice (some ⟨b2, 0, none⟩) n2 n2)))) := ⟨⟨W8.out.setRow _, cls_setRow C8.out W8.out _, MY.out, below_setRow B8.out (Nat.le_refl _) _⟩⟩
          go_wp2_with (first
            | (refine wpList_load_row rfl 24 (.tmp 7) rfl r rfl 24 (gA co2 ro2 (.slice (some ⟨b2, 0, none⟩) n2 n2)) H8.out _ U24.out rfl 3 S24.out rfl ?_)
            | (refine wpList_store_row rfl 24 (.tmp 2) (.tmp 114) rfl w.heap.size rfl (gA co2 ro2 (.slice (some ⟨b2, 0, none⟩) n2 n2)) rfl 24 3 W8.out S24.out rfl O3.out ?_))
          exact ⟨⟨k + 1, co2, ro2, _, n2, n2, c2, by omega, by go_num, F9⟩, by simp [intOf]; omega⟩
      · have CA := Box'.mk (resize_stays co ro _ c y.to y.col y.s w4 F4.out.cl F4.out.may)
        clear k14
        go_wp2_with (first
          | (refine wpList_load_row rfl 24 (.tmp 2) rfl w.heap.size rfl 24 (gA co ro (.slice a n p)) F4.out.rg _ U24.out rfl 3 S24.out rfl ?_)
          | (refine wpList_load_style rfl (.tmp 99) rfl t 4 y.s rfl KS.out ?_))
        refine CA.out.mono ?_
        rintro e w5 ⟨hb, hout⟩
        have F5 := Box'.mk (F4.out.below hb)
        have H5 := Box'.mk (H4.out.below hb (by have := F4.out.be; obtain ⟨d, hd, _⟩ := H4.out; exact hd.lt))
        clear hb CA F4 H4 K4 KS k0 k1 k2 k3 VL
        rcases hout with rfl | ⟨co2, ro2, b2, n2, c2, rfl, hmay, hcl⟩
        · have F6 : Box' (SyM w co ro a n p c (w5.setRow r (gA 0 0 (.slice none 0 0)))) := ⟨⟨Row.setRowOther F5.out.rg _ _ (by omega), cls_setRow F5.out.cl H5.out _, F5.out.may, below_setRow F5.out.be (by omega) _⟩⟩
          have O3 := Box'.mk (gA_one 0 0 none 0 0)
          unfold gErr
          go_wp2_with (first
            | (refine wpList_store_row rfl 24 (.tmp 7) (.tmp 102) rfl r rfl (gA 0 0 (.slice none 0 0)) rfl 24 3 H5.out S24.out rfl O3.out ?_))
          exact ⟨⟨k + 1, co, ro, a, n, p, c, by omega, by go_num, F6⟩, by simp [intOf]; omega⟩
        · have H6 : Box' (Row (w5.setRow r (gA co2 ro2 (.slice (some ⟨b2, 0, none⟩) n2 n2))) r 24 (gA co2 ro2 (.slice (some ⟨b2, 0, none⟩) n2 n2))) := ⟨H5.out.setRow _⟩
          have C6 : Box' (Cls (w5.setRow r (gA co2 ro2 (.slice (some ⟨b2, 0, none⟩) n2 n2))).heap.size (w5.setRow r (gA co2 ro2 (.slice (some ⟨b2, 0, none⟩) n2 n2))) (.slice (some ⟨b2, 0, none⟩) n2 n2) c2) := ⟨cls_setRow hcl H5.out _⟩
          have W6 : Box' (Room (w5.setRow r (gA co2 ro2 (.slice (some ⟨b2, 0, none⟩) n2 n2))) w.heap.size 24 3) := ⟨(Row.setRowOther F5.out.rg _ _ (by omega)).room rfl⟩
          have B6 : Box' (Below w.heap.size w (w5.setRow r (gA co2 ro2 (.slice (some ⟨b2, 0, none⟩) n2 n2)))) := ⟨below_setRow F5.out.be (by omega) _⟩
          have O3 := Box'.mk (gA_one co2 ro2 (some ⟨b2, 0, none⟩) n2 n2)
          have MY := Box'.mk hmay
          clear F5 hcl hmay
          unfold gOk
          go_upto_region 20 with (first
            | (refine wpList_store_row rfl 24 (.tmp 7) (.tmp 102) rfl r rfl (gA co2 ro2 (.slice (some ⟨b2, 0, none⟩) n2 n2)) rfl 24 3 H5.out S24.out rfl O3.out ?_))
          generalize (w5.setRow r (gA co2 ro2 (.slice (some ⟨b2, 0, none⟩) n2 n2))) = w6 at *
          clear H5
          go_wp2_with (first
            | (refine wpList_load_row rfl 24 (.tmp 7) rfl r rfl 24 (gA co2 ro2 (.slice (some ⟨b2, 0, none⟩) n2 n2)) H6.out _ U24.out rfl 3 S24.out rfl ?_))
          refine (M2.out _ co2 ro2 _ c2 C6.out MY.out).mono ?_
          rintro e w7 ⟨rfl, hb⟩
          have H7 := Box'.mk (H6.out.below hb H6.out.lt)
          have C7 := Box'.mk ((C6.out.below hb (Nat.le_refl _)).up hb.size)
          have W7 := Box'.mk (W6.out.below hb (by obtain ⟨d, hd, _⟩ := W6.out; exact hd.lt))
          have B7 := Box'.mk (B6.out.trans (hb.mono B6.out.size))
          clear hb H6 C6 W6 B6
          have d0 : w7.cell? ⟨r, 0, none⟩ = some (.int .i64 co2) := H7.out.cell 0
          have d1 : w7.cell? ⟨r, 1, none⟩ = some (.int .i64 ro2) := H7.out.cell 1
          have d2 : w7.cell? ⟨r, 2, none⟩ = some (.slice (some ⟨b2, 0, none⟩) n2 n2) := H7.out.cell 2
          go_wp2_with fail
          refine (M.out _ co2 ro2 _ c2 C7.out MY.out).mono ?_
          rintro e w8 ⟨rfl, hb⟩
          have H8 := Box'.mk (H7.out.below hb H7.out.lt)
          have C8 := Box'.mk ((C7.out.below hb (Nat.le_refl _)).up hb.size)
          have W8 := Box'.mk (W7.out.below hb (by obtain ⟨d, hd, _⟩ := W7.out; exact hd.lt))
          have B8 := Box'.mk (B7.out.trans (hb.mono B7.out.size))
          clear hb H7 C7 W7 B7 d0 d1 d2
          have F9 : Box' (SyM w co2 ro2 (some ⟨b2, 0, none⟩) n2 n2 c2 (w8.setRow w.heap.size (gA co2 ro2 (.slice (some ⟨b2, 0, none⟩) n2 n2)))) := ⟨⟨W8.out.setRow _, cls_setRow C8.out W8.out _, MY.out, below_setRow B8.out (Nat.le_refl _) _⟩⟩
          go_wp2_with (first
            | (refine wpList_load_row rfl 24 (.tmp 7) rfl r rfl 24 (gA co2 ro2 (.slice (some ⟨b2, 0, none⟩) n2 n2)) H8.out _ U24.out rfl 3 S24.out rfl ?_)
            | (refine wpList_store_row rfl 24 (.tmp 2) (.tmp 114) rfl w.heap.size rfl (gA co2 ro2 (.slice (some ⟨b2, 0, none⟩) n2 n2)) rfl 24 3 W8.out S24.out rfl O3.out ?_))
          exact ⟨⟨k + 1, co2, ro2, _, n2, n2, c2, by omega, by go_num, F9⟩, by simp [intOf]; omega⟩
theorem gstays_any (AN : ∀ w, Calls Try.prog 23 #[] w fun e w' => e = .returned (.bool true) ∧ Below w.heap.size w w') (RM : ∀ (co ro : Int) (v : Value) (c : List Cl) (w : World), Cls w.heap.size w v c → Calls Try.prog 21 #[.agg (gA co ro v)] w fun e w' => e = .returned (.bool (mayG co ro c)) ∧ Below w.heap.size w w')
    (co ro : Int) (v : Value) (c : List Cl) (aa : Option Addr) (m cp : Nat) (q : Nat → Ak) (hmc : m ≤ cp) (hm : 80 * m ≤ 140737488351232) (w : World) (hq : ∀ i, i < m → (q i).ok w.heap.size w ∧ ∃ b o, aa = some ⟨b, o, none⟩ ∧ b < w.heap.size ∧ w.rangeAt b (o + i * 15) (akA (q i)).toList)
    (hv : Cls w.heap.size w v c) : Calls Try.prog 4 #[.agg (gA co ro v), .slice aa m cp] w fun e w' => e = .returned (.bool true) ∧ Below w.heap.size w w' := by
  cases hG : mayG co ro c with
  | false => exact gstays_no AN RM co ro v c (.slice aa m cp) w hv hG
  | true => exact gstays_yes AN RM co ro v c aa m cp q hmc hm w hq hv hG
end Go.Proofs.Ytejnlogoidkloaa
