/- Erase, Shift. Resize. -/
import Derived.Test.YtnbonlkmadmpcaaMz
import Derived.Test.YtnbonlkmadmpcaaNo
namespace Go.Proofs.Ytnbonlkmadmpcaa
open Go.RowKit Go.BigFrame
set_option linter.unusedVariables false
set_option linter.unusedSimpArgs false
set_option maxRecDepth 100000 in
set_option maxHeartbeats 16000000 in
theorem erase_ok (cols rows : Nat) (v : Value) (c : List Cl) (row fr to : Nat) (s : St) (w : World) (hv : Cls w.heap.size w v c) (hG : mayG (cols : Int) (rows : Int) c = true) (hS : mayS s = true) (h1 : row < rows) (h2 : fr ≤ to) (h3 : to ≤ cols) :
  Calls Try.prog 12 #[.agg (gA (cols : Int) (rows : Int) v), .int .i64 (row : Int), .int .i64 (fr : Int), .int .i64 (to : Int), .agg (sA s)] w fun e w' => ∃ b, e = .returned (gOk (cols : Int) (rows : Int) (.slice (some ⟨b, 0, none⟩) c.length c.length)) ∧ w.heap.size ≤ b ∧ RC w' b (putRow c cols row (mnd (erF (rowF c cols row) fr to s))) [] ∧ Below w.heap.size w w' := by
 obtain ⟨cols', rows', ec, er, p1, p2, p3, p4, hl⟩ := mayG_dest hG
 obtain rfl : cols = cols' := by omega
 obtain rfl : rows = rows' := by omega
 have hle : cols * rows ≤ 512 * 512 := Nat.mul_le_mul p2 p4
 have hpos : 1 * 1 ≤ cols * rows := Nat.mul_le_mul p1 p3
 have MG : Box' (∀ wx, Below w.heap.size w wx → Calls Try.prog 20 #[.agg (gA (cols : Int) (rows : Int) v)] wx fun e w' => e = .returned (.bool (mayG (cols : Int) (rows : Int) c)) ∧ Below wx.heap.size wx w') := ⟨fun wx hb => gmay_any (cols : Int) (rows : Int) v c wx ((hv.below hb (Nat.le_refl _)).up hb.size)⟩
 rw [hG] at MG
 have MS := Box'.mk (mayStyle15_any s)
 rw [hS] at MS
 have AN : Box' (∀ wx, Below w.heap.size w wx → Calls Try.prog 34 #[.agg (gA (cols : Int) (rows : Int) v)] wx fun e w' => ∃ b, e = .returned (.agg (gA (cols : Int) (rows : Int) (.slice (some ⟨b, 0, none⟩) c.length c.length))) ∧ wx.heap.size ≤ b ∧ RC w' b c [] ∧ Below wx.heap.size wx w') := ⟨fun wx hb => another_any (cols : Int) (rows : Int) v c (by omega) (by omega) wx ((hv.below hb (Nat.le_refl _)).up hb.size)⟩
 have F := Box'.mk (FrG.begin w (gA (cols : Int) (rows : Int) v) s)
 have U24 := Box'.mk Try.underlying24
 have S24 := Box'.mk s24g
 have U26 := Box'.mk Try.underlying26
 have S26 := Box'.mk s24
 have hfit : cols * row + cols ≤ cols * rows := by have := Nat.mul_le_mul_left cols (show row + 1 ≤ rows by omega); rw [Nat.mul_add, Nat.mul_one] at this; exact this
 have RO : Box' (∀ b wx, Calls Try.prog 35 #[.agg (gA (cols : Int) (rows : Int) (.slice (some ⟨b, 0, none⟩) c.length c.length)), .int .i64 (row : Int)] wx fun e w' => e = .returned (.slice (some ⟨b, cols * row * 15, none⟩) cols cols) ∧ Below wx.heap.size wx w') := ⟨fun b wx => by
  have := rowOf_any cols row b 0 c.length c.length (rows : Int) p1 p2 (by omega) (by rw [Nat.mul_add, Nat.mul_one]; omega) wx
  rwa [Nat.zero_add] at this⟩
 have hrl : (rowF c cols row).length = cols := rowF_len c cols row (by rw [Nat.mul_comm row cols]; omega)
 have hFl : (erF (rowF c cols row) fr to s).length = cols := by rw [erF_len _ _ _ _ h2 (by omega), hrl]
 have ME : Box' (∀ b wx, RC wx b (lay c (cols * row) (erF (rowF c cols row) fr to s)) [] → Calls Try.prog 36 #[.slice (some ⟨b, cols * row * 15, none⟩) cols cols] wx fun e w' => (∃ v, e = .returned v) ∧ RC w' b (putRow c cols row (mnd (erF (rowF c cols row) fr to s))) [] ∧ Tc b wx w') := ⟨fun b wx h => by
  rw [← lay_put c cols row _ (by rw [mnd_len]; exact hFl)]
  exact mend_any b (cols * row) cols cols c [] _ wx (by omega) (Nat.le_refl _) hFl (by omega) h⟩
 have IN2 := Box'.mk (isIn_any (row : Int) (rows : Int))
 rw [show inN (row : Int) (rows : Int) = true by unfold inN; simp; omega] at IN2
 have CU := Box'.mk (fun b w => run_cutLH b (cols * row * 15) cols cols fr to h2 h3 w)
 have HX : to - fr = 0 ∨ cutO (cols * row * 15) cols fr = (cols * row + fr) * 15 := by
  by_cases hz : cols = fr
  ·left; omega
  ·right; rw [cutO_at hz, Nat.add_mul]
 have FI : Box' (∀ b wx, RC wx b c [] → Calls Try.prog 41 #[.slice (some ⟨b, cutO (cols * row * 15) cols fr, none⟩) (to - fr) (cols - fr), .agg (sA s)] wx fun e w' => (∃ v, e = .returned v) ∧ RC w' b (lay c (cols * row) (erF (rowF c cols row) fr to s)) [] ∧ Tc b wx w') := ⟨fun b wx h => by
  rw [← erF_lay (rowF c cols row) fr to s h2, ← lay_row c cols row fr _ (by rw [List.length_replicate]; omega) (by omega), ← fiL_lay]
  exact fill_any b _ (cols * row + fr) (to - fr) (cols - fr) c [] s wx (by omega) HX (by omega) h (by omega)⟩
 generalize cutO (cols * row * 15) cols fr = x at *
 have i0 : (0 : Int) ≤ (fr : Int) := by omega
 have i1 : (fr : Int) ≤ (to : Int) := by omega
 have i2 : (to : Int) ≤ (cols : Int) := by omega
 generalize hX : putRow c cols row (mnd (erF (rowF c cols row) fr to s)) = X at *
 clear hX hG hS hv ec er hl hle hpos hrl hFl HX
 go_enter Try.func12, Try.ntmps12
 go_upto_region 1 with (fail)
 generalize (((w.alloc (.cells (gA (cols : Int) (rows : Int) v) 24)).alloc (.cells (sA s) 26)).alloc (.cells #[.int .i64 0, .int .i64 0, .slice none 0 0] 24)) = w1 at *
 go_wp2_with (first
  | (refine wpList_load_row rfl 24 (.tmp 5) rfl w.heap.size rfl 24 (gA (cols : Int) (rows : Int) v) F.out.rg _ U24.out rfl 3 S24.out rfl ?_))
 refine (MG.out _ F.out.be).mono ?_
 rintro e w2 ⟨rfl, hb⟩
 replace F := Box'.mk (F.out.below hb)
 clear hb
 have cs0 : w2.cell? ⟨w.heap.size + 1, 0, none⟩ = some (.int .i64 s.fg) := F.out.rs.cell 0
 have cs1 : w2.cell? ⟨w.heap.size + 1, 1, none⟩ = some (.int .i64 s.bg) := F.out.rs.cell 1
 have cs2 : w2.cell? ⟨w.heap.size + 1, 2, none⟩ = some (.bool s.b1) := F.out.rs.cell 2
 have cs3 : w2.cell? ⟨w.heap.size + 1, 3, none⟩ = some (.bool s.b2) := F.out.rs.cell 3
 have cs4 : w2.cell? ⟨w.heap.size + 1, 4, none⟩ = some (.bool s.b3) := F.out.rs.cell 4
 have cs5 : w2.cell? ⟨w.heap.size + 1, 5, none⟩ = some (.bool s.b4) := F.out.rs.cell 5
 have cs6 : w2.cell? ⟨w.heap.size + 1, 6, none⟩ = some (.bool s.b5) := F.out.rs.cell 6
 have cs7 : w2.cell? ⟨w.heap.size + 1, 7, none⟩ = some (.bool s.b7) := F.out.rs.cell 7
 have cs8 : w2.cell? ⟨w.heap.size + 1, 8, none⟩ = some (.bool s.b8) := F.out.rs.cell 8
 have cs9 : w2.cell? ⟨w.heap.size + 1, 9, none⟩ = some (.bool s.b9) := F.out.rs.cell 9
 have c0 : w2.cell? ⟨w.heap.size, 0, none⟩ = some (.int .i64 (cols : Int)) := F.out.rg.cell 0
 have c1 : w2.cell? ⟨w.heap.size, 1, none⟩ = some (.int .i64 (rows : Int)) := F.out.rg.cell 1
 go_wp2_with fail
 refine (MS.out _).mono ?_
 rintro e w3 ⟨rfl, hb⟩
 replace F := Box'.mk (F.out.below hb)
 clear hb
 clear c0 c1 cs0 cs1 cs2 cs3 cs4 cs5 cs6 cs7 cs8 cs9
 have cs0 : w3.cell? ⟨w.heap.size + 1, 0, none⟩ = some (.int .i64 s.fg) := F.out.rs.cell 0
 have cs1 : w3.cell? ⟨w.heap.size + 1, 1, none⟩ = some (.int .i64 s.bg) := F.out.rs.cell 1
 have cs2 : w3.cell? ⟨w.heap.size + 1, 2, none⟩ = some (.bool s.b1) := F.out.rs.cell 2
 have cs3 : w3.cell? ⟨w.heap.size + 1, 3, none⟩ = some (.bool s.b2) := F.out.rs.cell 3
 have cs4 : w3.cell? ⟨w.heap.size + 1, 4, none⟩ = some (.bool s.b3) := F.out.rs.cell 4
 have cs5 : w3.cell? ⟨w.heap.size + 1, 5, none⟩ = some (.bool s.b4) := F.out.rs.cell 5
 have cs6 : w3.cell? ⟨w.heap.size + 1, 6, none⟩ = some (.bool s.b5) := F.out.rs.cell 6
 have cs7 : w3.cell? ⟨w.heap.size + 1, 7, none⟩ = some (.bool s.b7) := F.out.rs.cell 7
 have cs8 : w3.cell? ⟨w.heap.size + 1, 8, none⟩ = some (.bool s.b8) := F.out.rs.cell 8
 have cs9 : w3.cell? ⟨w.heap.size + 1, 9, none⟩ = some (.bool s.b9) := F.out.rs.cell 9
 have c0 : w3.cell? ⟨w.heap.size, 0, none⟩ = some (.int .i64 (cols : Int)) := F.out.rg.cell 0
 have c1 : w3.cell? ⟨w.heap.size, 1, none⟩ = some (.int .i64 (rows : Int)) := F.out.rg.cell 1
 go_wp2_with fail
 refine (IN2.out _).mono ?_
 rintro e w4 ⟨rfl, rfl⟩
 go_wp2_with (first
  | (refine wpList_load_row rfl 24 (.tmp 5) rfl w.heap.size rfl 24 (gA (cols : Int) (rows : Int) v) F.out.rg _ U24.out rfl 3 S24.out rfl ?_))
 refine (AN.out _ F.out.be).mono ?_
 rintro e w7a ⟨b, rfl, hb0, hrc, hb⟩
 have hb3 : w.heap.size + 3 ≤ b := Nat.le_trans F.out.sz hb0
 replace F := Box'.mk (F.out.below hb)
 have CC := Box'.mk hrc
 have hblt := hrc.lt
 clear hb hrc hb0 AN MG MS IN2
 clear c0 c1 cs0 cs1 cs2 cs3 cs4 cs5 cs6 cs7 cs8 cs9
 generalize hn : c.length = n at *
 have HN := Box'.mk hn
 clear hn
 have RM : Box' (Room (w7a.alloc (.cells #[.int .i64 0, .int .i64 0, .slice none 0 0] 24)) w7a.heap.size 24 3) := ⟨Room.new _ _ _ _ rfl⟩
 have G4 : Box' (Row ((w7a.alloc (.cells #[.int .i64 0, .int .i64 0, .slice none 0 0] 24)).setRow w7a.heap.size (gA (cols : Int) (rows : Int) (.slice (some ⟨b, 0, none⟩) n n))) w7a.heap.size 24 (gA (cols : Int) (rows : Int) (.slice (some ⟨b, 0, none⟩) n n))) := ⟨RM.out.setRow _⟩
 have C4 : Box' (RC ((w7a.alloc (.cells #[.int .i64 0, .int .i64 0, .slice none 0 0] 24)).setRow w7a.heap.size (gA (cols : Int) (rows : Int) (.slice (some ⟨b, 0, none⟩) n n))) b c []) := ⟨Row.setRowOther (Row.alloc CC.out _) _ _ (by omega)⟩
 have F4 : Box' (FrG w (gA (cols : Int) (rows : Int) v) s ((w7a.alloc (.cells #[.int .i64 0, .int .i64 0, .slice none 0 0] 24)).setRow w7a.heap.size (gA (cols : Int) (rows : Int) (.slice (some ⟨b, 0, none⟩) n n)))) := ⟨F.out.below (below_setRow (bR.alloc (Nat.le_refl _) _) (Nat.le_refl _) _)⟩
 have O := Box'.mk (gA_one (cols : Int) (rows : Int) (some ⟨b, 0, none⟩) n n)
 go_upto_region 4 with (first
  | (refine wpList_store_row rfl 24 (.tmp 12) (.tmp 46) rfl w7a.heap.size rfl (gA (cols : Int) (rows : Int) (.slice (some ⟨b, 0, none⟩) n n)) rfl 24 3 RM.out S24.out rfl O.out ?_))
 generalize ((w7a.alloc (.cells #[.int .i64 0, .int .i64 0, .slice none 0 0] 24)).setRow w7a.heap.size (gA (cols : Int) (rows : Int) (.slice (some ⟨b, 0, none⟩) n n))) = w7b at *
 clear RM CC F
 have hqb : w7a.heap.size ≠ b := by omega
 have hq3 : w.heap.size + 3 ≤ w7a.heap.size := by omega
 generalize w7a.heap.size = q at *
 go_wp2_with (first
  | (refine wpList_load_row rfl 24 (.tmp 12) rfl q rfl 24 (gA (cols : Int) (rows : Int) (.slice (some ⟨b, 0, none⟩) n n)) G4.out _ U24.out rfl 3 S24.out rfl ?_))
 refine (RO.out b _).mono ?_
 rintro e w5 ⟨rfl, hb⟩
 replace F4 := Box'.mk (F4.out.below hb)
 replace G4 := Box'.mk (G4.out.below hb G4.out.lt)
 replace C4 := Box'.mk (C4.out.below hb C4.out.lt)
 clear hb RO
 go_wp2_with fail
 refine wp_region_growg 5 (by kernel_rfl) 59 rfl (by kernel_rfl) (fun wa wb => Below wa.heap.size wa wb) (fun wa => FrG w (gA (cols : Int) (rows : Int) v) s wa ∧ Row wa q 24 (gA (cols : Int) (rows : Int) (.slice (some ⟨b, 0, none⟩) n n)) ∧ RC wa b c []) (fun kc wa v => match kc with
  | 0 => v = .slice (some ⟨b, cols * row * 15, none⟩) cols cols
  | 1 => v = .int .i64 (fr : Int)
  | 2 => v = .int .i64 (to : Int)
  | 3 => v = .slice (some ⟨b, x, none⟩) (to - fr) (cols - fr)
  | 4 => v = .agg (sA s)
  | _ => True) ?_ ?_ ?_ ?_ ?_ ?_
 ·intro i o' j b' hi hg wa v hC hV
  have hlt : i < 5 := by rcases Nat.lt_or_ge i 5 with q | q; exact q; rw [List.getElem?_eq_none (by simpa using q)] at hi; cases hi
  revert hi hg hV
  rcases (show i = 0 ∨ i = 1 ∨ i = 2 ∨ i = 3 ∨ i = 4 by omega) with rfl | rfl | rfl | rfl | rfl <;>
   (intro hi hg hV; simp only [tkS, List.getElem?_cons_zero, List.getElem?_cons_succ, Option.some.injEq] at hi; subst hi; first | (cases hg; exact hV) | (cases hg))
 ·rintro wa wb hb ⟨q1, q2, q3⟩; exact ⟨q1.below hb, q2.below hb q2.lt, q3.below hb q3.lt⟩
 ·intro kc v wa wb hC1 hb h
  match kc, h with
  | 0, h => exact h
  | 1, h => exact h
  | 2, h => exact h
  | 3, h => exact h
  | 4, h => exact h
  | kc + 5, h => trivial
 ·exact ⟨F4.out.drew, G4.out.drew, C4.out.drew⟩
 ·refine ⟨?_, ?_, ?_, ?_, ?_, trivial⟩
  ·intro f wq hC hd KK hK
   clear hd
   simp only [tkS, tkZ, setAll, siB, stS, stZ, Nat.zero_add, Nat.reduceAdd] at hK ⊢
   refine wp_of_quiet rfl ?_
   go_big_quiet_step (fail)
   exact wpQuiet_nil (hK _ _ (rfl) bR)
  ·intro f wq hC hd KK hK
   clear hd
   simp only [tkS, tkZ, setAll, siB, stS, stZ, Nat.zero_add, Nat.reduceAdd] at hK ⊢
   refine wp_of_quiet rfl ?_
   go_big_quiet_step (fail)
   exact wpQuiet_nil (hK _ _ (rfl) bR)
  ·intro f wq hC hd KK hK
   clear hd
   simp only [tkS, tkZ, setAll, siB, stS, stZ, Nat.zero_add, Nat.reduceAdd] at hK ⊢
   refine wp_of_quiet rfl ?_
   go_big_quiet_step (fail)
   exact wpQuiet_nil (hK _ _ (rfl) bR)
  ·intro f wq hC hd KK hK
   have g0 : f 0 = .slice (some ⟨b, cols * row * 15, none⟩) cols cols := hd 0 (by kernel_rfl)
   have g1 : f 1 = .int .i64 (fr : Int) := hd 1 (by kernel_rfl)
   have g2 : f 2 = .int .i64 (to : Int) := hd 2 (by kernel_rfl)
   clear hd
   simp only [tkS, tkZ, setAll, siB, stS, stZ, Nat.zero_add, Nat.reduceAdd, g0, g1, g2] at hK ⊢
   exact wp_val _ (slice_op 22 (.tmp 50) (some (.tmp 51)) (some (.tmp 52)) none rfl _ _ (CU.out b _)) (hK _ _ rfl bR)
  ·intro f wq hC hd KK hK
   clear hd
   have cs0 : wq.cell? ⟨w.heap.size + 1, 0, none⟩ = some (.int .i64 s.fg) := hC.1.rs.cell 0
   have cs1 : wq.cell? ⟨w.heap.size + 1, 1, none⟩ = some (.int .i64 s.bg) := hC.1.rs.cell 1
   have cs2 : wq.cell? ⟨w.heap.size + 1, 2, none⟩ = some (.bool s.b1) := hC.1.rs.cell 2
   have cs3 : wq.cell? ⟨w.heap.size + 1, 3, none⟩ = some (.bool s.b2) := hC.1.rs.cell 3
   have cs4 : wq.cell? ⟨w.heap.size + 1, 4, none⟩ = some (.bool s.b3) := hC.1.rs.cell 4
   have cs5 : wq.cell? ⟨w.heap.size + 1, 5, none⟩ = some (.bool s.b4) := hC.1.rs.cell 5
   have cs6 : wq.cell? ⟨w.heap.size + 1, 6, none⟩ = some (.bool s.b5) := hC.1.rs.cell 6
   have cs7 : wq.cell? ⟨w.heap.size + 1, 7, none⟩ = some (.bool s.b7) := hC.1.rs.cell 7
   have cs8 : wq.cell? ⟨w.heap.size + 1, 8, none⟩ = some (.bool s.b8) := hC.1.rs.cell 8
   have cs9 : wq.cell? ⟨w.heap.size + 1, 9, none⟩ = some (.bool s.b9) := hC.1.rs.cell 9
   clear hC
   simp only [tkS, tkZ, setAll, siB, stS, stZ, Nat.zero_add, Nat.reduceAdd] at hK ⊢
   refine wp_of_quiet rfl ?_
   go_big_quiet_step (fail)
   exact wpQuiet_nil (hK _ _ (rfl) bR)
 ·intro f wz hC hv
  have p0 : f 0 = .slice (some ⟨b, cols * row * 15, none⟩) cols cols := hv 0 (by decide)
  have p1 : f 1 = .int .i64 (fr : Int) := hv 1 (by decide)
  have p2 : f 2 = .int .i64 (to : Int) := hv 2 (by decide)
  have p3 : f 3 = .slice (some ⟨b, x, none⟩) (to - fr) (cols - fr) := hv 3 (by decide)
  have p4 : f 4 = .agg (sA s) := hv 4 (by decide)
  simp only [tkS, tkZ, List.drop_succ_cons, List.drop_zero, setAll, siB, stS, stZ, Nat.zero_add, Nat.reduceAdd, p0, p1, p2, p3, p4]
  clear hv p0 p1 p2 p3 p4
  have F5 := Box'.mk hC.1
  have G5 := Box'.mk hC.2.1
  have C5 := Box'.mk hC.2.2
  clear hC F4 G4 C4 CU
  go_wp2_with fail
  refine (FI.out b _ C5.out).mono ?_
  rintro e w6 ⟨⟨v6, rfl⟩, hr6, ht6⟩
  have C6 := Box'.mk hr6
  have F6 := Box'.mk (F5.out.tc ht6 hb3)
  have G6 := Box'.mk (ht6.row G5.out hqb)
  clear hr6 ht6 F5 G5 C5 FI
  go_wp2_with fail
  refine (ME.out b _ C6.out).mono ?_
  rintro e w9 ⟨⟨v9, rfl⟩, hr9, ht9⟩
  have C9 := Box'.mk hr9
  have F9 := Box'.mk (F6.out.tc ht9 hb3)
  have G9 := Box'.mk (ht9.row G6.out hqb)
  clear hr9 ht9 F6 G6 C6 ME
  go_wp2_with (first
   | (refine wpList_load_row rfl 24 (.tmp 12) rfl q rfl 24 (gA (cols : Int) (rows : Int) (.slice (some ⟨b, 0, none⟩) n n)) G9.out _ U24.out rfl 3 S24.out rfl ?_)
   | (refine wpList_store_row rfl 24 (.tmp 10) (.tmp 58) rfl (w.heap.size + 2) rfl (gA (cols : Int) (rows : Int) (.slice (some ⟨b, 0, none⟩) n n)) rfl 24 3 F9.out.rr S24.out rfl O.out ?_))
  exact bodyPost_ret (results_two rfl _ (w.heap.size + 2) rfl _ rfl _ _ (F9.out.rr.setRow _) rfl) rfl ⟨b, by rw [HN.out]; rfl, by omega, Row.setRowOther C9.out _ _ (by omega), below_setRow F9.out.be (by omega) _⟩
set_option maxRecDepth 100000 in
set_option maxHeartbeats 16000000 in
theorem shift_ok (cols rows : Nat) (v : Value) (c : List Cl) (row fr : Nat) (k : Int) (s : St) (w : World) (hv : Cls w.heap.size w v c) (hG : mayG (cols : Int) (rows : Int) c = true) (hS : mayS s = true) (h1 : row < rows) (h2 : fr < cols) :
  Calls Try.prog 14 #[.agg (gA (cols : Int) (rows : Int) v), .int .i64 (row : Int), .int .i64 (fr : Int), .int .i64 k, .agg (sA s)] w fun e w' => ∃ b, e = .returned (gOk (cols : Int) (rows : Int) (.slice (some ⟨b, 0, none⟩) c.length c.length)) ∧ w.heap.size ≤ b ∧ RC w' b (putRow c cols row (mnd (shF (rowF c cols row) fr k s))) [] ∧ Below w.heap.size w w' := by
 obtain ⟨cols', rows', ec, er, p1, p2, p3, p4, hl⟩ := mayG_dest hG
 obtain rfl : cols = cols' := by omega
 obtain rfl : rows = rows' := by omega
 have hle : cols * rows ≤ 512 * 512 := Nat.mul_le_mul p2 p4
 have hpos : 1 * 1 ≤ cols * rows := Nat.mul_le_mul p1 p3
 have MG : Box' (∀ wx, Below w.heap.size w wx → Calls Try.prog 20 #[.agg (gA (cols : Int) (rows : Int) v)] wx fun e w' => e = .returned (.bool (mayG (cols : Int) (rows : Int) c)) ∧ Below wx.heap.size wx w') := ⟨fun wx hb => gmay_any (cols : Int) (rows : Int) v c wx ((hv.below hb (Nat.le_refl _)).up hb.size)⟩
 rw [hG] at MG
 have MS := Box'.mk (mayStyle15_any s)
 rw [hS] at MS
 have AN : Box' (∀ wx, Below w.heap.size w wx → Calls Try.prog 34 #[.agg (gA (cols : Int) (rows : Int) v)] wx fun e w' => ∃ b, e = .returned (.agg (gA (cols : Int) (rows : Int) (.slice (some ⟨b, 0, none⟩) c.length c.length))) ∧ wx.heap.size ≤ b ∧ RC w' b c [] ∧ Below wx.heap.size wx w') := ⟨fun wx hb => another_any (cols : Int) (rows : Int) v c (by omega) (by omega) wx ((hv.below hb (Nat.le_refl _)).up hb.size)⟩
 have F := Box'.mk (FrG.begin w (gA (cols : Int) (rows : Int) v) s)
 have U24 := Box'.mk Try.underlying24
 have S24 := Box'.mk s24g
 have U26 := Box'.mk Try.underlying26
 have S26 := Box'.mk s24
 have hfit : cols * row + cols ≤ cols * rows := by have := Nat.mul_le_mul_left cols (show row + 1 ≤ rows by omega); rw [Nat.mul_add, Nat.mul_one] at this; exact this
 have RO : Box' (∀ b wx, Calls Try.prog 35 #[.agg (gA (cols : Int) (rows : Int) (.slice (some ⟨b, 0, none⟩) c.length c.length)), .int .i64 (row : Int)] wx fun e w' => e = .returned (.slice (some ⟨b, cols * row * 15, none⟩) cols cols) ∧ Below wx.heap.size wx w') := ⟨fun b wx => by
  have := rowOf_any cols row b 0 c.length c.length (rows : Int) p1 p2 (by omega) (by rw [Nat.mul_add, Nat.mul_one]; omega) wx
  rwa [Nat.zero_add] at this⟩
 have hrl : (rowF c cols row).length = cols := rowF_len c cols row (by rw [Nat.mul_comm row cols]; omega)
 have hFl : (shF (rowF c cols row) fr k s).length = cols := by rw [shF_len, hrl]
 have ME : Box' (∀ b wx, RC wx b (lay c (cols * row) (shF (rowF c cols row) fr k s)) [] → Calls Try.prog 36 #[.slice (some ⟨b, cols * row * 15, none⟩) cols cols] wx fun e w' => (∃ v, e = .returned v) ∧ RC w' b (putRow c cols row (mnd (shF (rowF c cols row) fr k s))) [] ∧ Tc b wx w') := ⟨fun b wx h => by
  rw [← lay_put c cols row _ (by rw [mnd_len]; exact hFl)]
  exact mend_any b (cols * row) cols cols c [] _ wx (by omega) (Nat.le_refl _) hFl (by omega) h⟩
 have IN2 := Box'.mk (isIn_any (row : Int) (rows : Int))
 rw [show inN (row : Int) (rows : Int) = true by unfold inN; simp; omega] at IN2
 have IN3 := Box'.mk (isIn_any (fr : Int) (cols : Int))
 rw [show inN (fr : Int) (cols : Int) = true by unfold inN; simp; omega] at IN3
 have CU := Box'.mk (fun b w => run_cutL b (cols * row * 15) cols cols fr (by omega) (Nat.le_refl _) w)
 rw [cutO_at (by omega), ← Nat.add_mul] at CU
 have hcf : ((cols - fr : Nat) : Int) = (cols : Int) - (fr : Int) := by omega
 have CL : Box' (∀ wx, Calls Try.prog 43 #[.int .i64 k, .int .i64 ((cols - fr : Nat) : Int)] wx fun e w' => e = .returned (.int .i64 (clF k ((cols - fr : Nat) : Int))) ∧ Below wx.heap.size wx w') := ⟨fun wx => (clamp_any k (cols - fr) (by omega) wx).mono fun e w' h => ⟨h.1, h.2 ▸ Below.refl _ _⟩⟩
 have hz1 : -((cols - fr : Nat) : Int) ≤ clF k ((cols - fr : Nat) : Int) := by unfold clF; omega
 have hz2 : clF k ((cols - fr : Nat) : Int) ≤ ((cols - fr : Nat) : Int) := by unfold clF; omega
 have PU : Box' (∀ b wx, RC wx b c [] → Calls Try.prog 42 #[.slice (some ⟨b, (cols * row + fr) * 15, none⟩) (cols - fr) (cols - fr), .int .i64 (clF k ((cols - fr : Nat) : Int)), .agg (sA s)] wx fun e w' => (∃ v, e = .returned v) ∧ RC w' b (lay c (cols * row) (shF (rowF c cols row) fr k s)) [] ∧ Tc b wx w') := ⟨fun b wx h => by
  have hdl : ((rowF c cols row).drop fr).length = cols - fr := by rw [List.length_drop, hrl]
  have := push_any b (cols * row + fr) (cols - fr) (cols - fr) _ c [] s wx hz1 hz2 (Nat.le_refl _) (by omega) h (by omega)
  rw [row_drop, lay_row c cols row fr _ (by rw [puF_len _ _ _ (by rw [hdl]; exact hz1) (by rw [hdl]; exact hz2), hdl]; omega) (by omega)] at this
  have e := shF_lay (rowF c cols row) fr k s (by omega)
  rw [hrl] at e
  rw [e] at this
  exact this⟩
 generalize clF k ((cols - fr : Nat) : Int) = z at *
 rw [hcf] at CL
 generalize hX : putRow c cols row (mnd (shF (rowF c cols row) fr k s)) = X at *
 clear hX hG hS hv ec er hl hle hpos hrl hFl hz1 hz2 hcf
 go_enter Try.func14, Try.ntmps14
 go_upto_region 1 with (fail)
 generalize (((w.alloc (.cells (gA (cols : Int) (rows : Int) v) 24)).alloc (.cells (sA s) 26)).alloc (.cells #[.int .i64 0, .int .i64 0, .slice none 0 0] 24)) = w1 at *
 go_wp2_with (first
  | (refine wpList_load_row rfl 24 (.tmp 5) rfl w.heap.size rfl 24 (gA (cols : Int) (rows : Int) v) F.out.rg _ U24.out rfl 3 S24.out rfl ?_))
 refine (MG.out _ F.out.be).mono ?_
 rintro e w2 ⟨rfl, hb⟩
 replace F := Box'.mk (F.out.below hb)
 clear hb
 have cs0 : w2.cell? ⟨w.heap.size + 1, 0, none⟩ = some (.int .i64 s.fg) := F.out.rs.cell 0
 have cs1 : w2.cell? ⟨w.heap.size + 1, 1, none⟩ = some (.int .i64 s.bg) := F.out.rs.cell 1
 have cs2 : w2.cell? ⟨w.heap.size + 1, 2, none⟩ = some (.bool s.b1) := F.out.rs.cell 2
 have cs3 : w2.cell? ⟨w.heap.size + 1, 3, none⟩ = some (.bool s.b2) := F.out.rs.cell 3
 have cs4 : w2.cell? ⟨w.heap.size + 1, 4, none⟩ = some (.bool s.b3) := F.out.rs.cell 4
 have cs5 : w2.cell? ⟨w.heap.size + 1, 5, none⟩ = some (.bool s.b4) := F.out.rs.cell 5
 have cs6 : w2.cell? ⟨w.heap.size + 1, 6, none⟩ = some (.bool s.b5) := F.out.rs.cell 6
 have cs7 : w2.cell? ⟨w.heap.size + 1, 7, none⟩ = some (.bool s.b7) := F.out.rs.cell 7
 have cs8 : w2.cell? ⟨w.heap.size + 1, 8, none⟩ = some (.bool s.b8) := F.out.rs.cell 8
 have cs9 : w2.cell? ⟨w.heap.size + 1, 9, none⟩ = some (.bool s.b9) := F.out.rs.cell 9
 have c0 : w2.cell? ⟨w.heap.size, 0, none⟩ = some (.int .i64 (cols : Int)) := F.out.rg.cell 0
 have c1 : w2.cell? ⟨w.heap.size, 1, none⟩ = some (.int .i64 (rows : Int)) := F.out.rg.cell 1
 go_wp2_with fail
 refine (MS.out _).mono ?_
 rintro e w3 ⟨rfl, hb⟩
 replace F := Box'.mk (F.out.below hb)
 clear hb
 clear c0 c1 cs0 cs1 cs2 cs3 cs4 cs5 cs6 cs7 cs8 cs9
 have cs0 : w3.cell? ⟨w.heap.size + 1, 0, none⟩ = some (.int .i64 s.fg) := F.out.rs.cell 0
 have cs1 : w3.cell? ⟨w.heap.size + 1, 1, none⟩ = some (.int .i64 s.bg) := F.out.rs.cell 1
 have cs2 : w3.cell? ⟨w.heap.size + 1, 2, none⟩ = some (.bool s.b1) := F.out.rs.cell 2
 have cs3 : w3.cell? ⟨w.heap.size + 1, 3, none⟩ = some (.bool s.b2) := F.out.rs.cell 3
 have cs4 : w3.cell? ⟨w.heap.size + 1, 4, none⟩ = some (.bool s.b3) := F.out.rs.cell 4
 have cs5 : w3.cell? ⟨w.heap.size + 1, 5, none⟩ = some (.bool s.b4) := F.out.rs.cell 5
 have cs6 : w3.cell? ⟨w.heap.size + 1, 6, none⟩ = some (.bool s.b5) := F.out.rs.cell 6
 have cs7 : w3.cell? ⟨w.heap.size + 1, 7, none⟩ = some (.bool s.b7) := F.out.rs.cell 7
 have cs8 : w3.cell? ⟨w.heap.size + 1, 8, none⟩ = some (.bool s.b8) := F.out.rs.cell 8
 have cs9 : w3.cell? ⟨w.heap.size + 1, 9, none⟩ = some (.bool s.b9) := F.out.rs.cell 9
 have c0 : w3.cell? ⟨w.heap.size, 0, none⟩ = some (.int .i64 (cols : Int)) := F.out.rg.cell 0
 have c1 : w3.cell? ⟨w.heap.size, 1, none⟩ = some (.int .i64 (rows : Int)) := F.out.rg.cell 1
 go_wp2_with fail
 refine (IN2.out _).mono ?_
 rintro e w4 ⟨rfl, rfl⟩
 go_wp2_with fail
 refine (IN3.out _).mono ?_
 rintro e w4 ⟨rfl, rfl⟩
 go_wp2_with (first
  | (refine wpList_load_row rfl 24 (.tmp 5) rfl w.heap.size rfl 24 (gA (cols : Int) (rows : Int) v) F.out.rg _ U24.out rfl 3 S24.out rfl ?_))
 refine (AN.out _ F.out.be).mono ?_
 rintro e w7a ⟨b, rfl, hb0, hrc, hb⟩
 have hb3 : w.heap.size + 3 ≤ b := Nat.le_trans F.out.sz hb0
 replace F := Box'.mk (F.out.below hb)
 have CC := Box'.mk hrc
 have hblt := hrc.lt
 clear hb hrc hb0 AN MG MS IN2 IN3
 clear c0 c1 cs0 cs1 cs2 cs3 cs4 cs5 cs6 cs7 cs8 cs9
 generalize hn : c.length = n at *
 have HN := Box'.mk hn
 clear hn
 have RM : Box' (Room (w7a.alloc (.cells #[.int .i64 0, .int .i64 0, .slice none 0 0] 24)) w7a.heap.size 24 3) := ⟨Room.new _ _ _ _ rfl⟩
 have G4 : Box' (Row ((w7a.alloc (.cells #[.int .i64 0, .int .i64 0, .slice none 0 0] 24)).setRow w7a.heap.size (gA (cols : Int) (rows : Int) (.slice (some ⟨b, 0, none⟩) n n))) w7a.heap.size 24 (gA (cols : Int) (rows : Int) (.slice (some ⟨b, 0, none⟩) n n))) := ⟨RM.out.setRow _⟩
 have C4 : Box' (RC ((w7a.alloc (.cells #[.int .i64 0, .int .i64 0, .slice none 0 0] 24)).setRow w7a.heap.size (gA (cols : Int) (rows : Int) (.slice (some ⟨b, 0, none⟩) n n))) b c []) := ⟨Row.setRowOther (Row.alloc CC.out _) _ _ (by omega)⟩
 have F4 : Box' (FrG w (gA (cols : Int) (rows : Int) v) s ((w7a.alloc (.cells #[.int .i64 0, .int .i64 0, .slice none 0 0] 24)).setRow w7a.heap.size (gA (cols : Int) (rows : Int) (.slice (some ⟨b, 0, none⟩) n n)))) := ⟨F.out.below (below_setRow (bR.alloc (Nat.le_refl _) _) (Nat.le_refl _) _)⟩
 have O := Box'.mk (gA_one (cols : Int) (rows : Int) (some ⟨b, 0, none⟩) n n)
 go_upto_region 4 with (first
  | (refine wpList_store_row rfl 24 (.tmp 12) (.tmp 38) rfl w7a.heap.size rfl (gA (cols : Int) (rows : Int) (.slice (some ⟨b, 0, none⟩) n n)) rfl 24 3 RM.out S24.out rfl O.out ?_))
 generalize ((w7a.alloc (.cells #[.int .i64 0, .int .i64 0, .slice none 0 0] 24)).setRow w7a.heap.size (gA (cols : Int) (rows : Int) (.slice (some ⟨b, 0, none⟩) n n))) = w7b at *
 clear RM CC F
 have hqb : w7a.heap.size ≠ b := by omega
 have hq3 : w.heap.size + 3 ≤ w7a.heap.size := by omega
 generalize w7a.heap.size = q at *
 go_wp2_with (first
  | (refine wpList_load_row rfl 24 (.tmp 12) rfl q rfl 24 (gA (cols : Int) (rows : Int) (.slice (some ⟨b, 0, none⟩) n n)) G4.out _ U24.out rfl 3 S24.out rfl ?_))
 refine (RO.out b _).mono ?_
 rintro e w5 ⟨rfl, hb⟩
 replace F4 := Box'.mk (F4.out.below hb)
 replace G4 := Box'.mk (G4.out.below hb G4.out.lt)
 replace C4 := Box'.mk (C4.out.below hb C4.out.lt)
 clear hb RO
 go_wp2_with fail
 refine wp_region_growg 10 (by kernel_rfl) 56 rfl (by kernel_rfl) (fun wa wb => Below wa.heap.size wa wb) (fun wa => FrG w (gA (cols : Int) (rows : Int) v) s wa ∧ Row wa q 24 (gA (cols : Int) (rows : Int) (.slice (some ⟨b, 0, none⟩) n n)) ∧ RC wa b c []) (fun kc wa v => match kc with
  | 0 => v = .slice (some ⟨b, cols * row * 15, none⟩) cols cols
  | 1 => v = .int .i64 (fr : Int)
  | 2 => v = .slice (some ⟨b, (cols * row + fr) * 15, none⟩) (cols - fr) (cols - fr)
  | 3 => v = .int .i64 k
  | 4 => v = .pointer (some ⟨w.heap.size, 0, none⟩)
  | 5 => v = .int .i64 (cols : Int)
  | 6 => v = .int .i64 (fr : Int)
  | 7 => v = .int .i64 ((cols : Int) - (fr : Int))
  | 8 => v = .int .i64 z
  | 9 => v = .agg (sA s)
  | _ => True) ?_ ?_ ?_ ?_ ?_ ?_
 ·intro i o' j b' hi hg wa v hC hV
  have hlt : i < 10 := by rcases Nat.lt_or_ge i 10 with q | q; exact q; rw [List.getElem?_eq_none (by simpa using q)] at hi; cases hi
  revert hi hg hV
  rcases (show i = 0 ∨ i = 1 ∨ i = 2 ∨ i = 3 ∨ i = 4 ∨ i = 5 ∨ i = 6 ∨ i = 7 ∨ i = 8 ∨ i = 9 by omega) with rfl | rfl | rfl | rfl | rfl | rfl | rfl | rfl | rfl | rfl <;>
   (intro hi hg hV; simp only [tkS, List.getElem?_cons_zero, List.getElem?_cons_succ, Option.some.injEq] at hi; subst hi; first | (cases hg; exact hV) | (cases hg))
 ·rintro wa wb hb ⟨q1, q2, q3⟩; exact ⟨q1.below hb, q2.below hb q2.lt, q3.below hb q3.lt⟩
 ·intro kc v wa wb hC1 hb h
  match kc, h with
  | 0, h => exact h
  | 1, h => exact h
  | 2, h => exact h
  | 3, h => exact h
  | 4, h => exact h
  | 5, h => exact h
  | 6, h => exact h
  | 7, h => exact h
  | 8, h => exact h
  | 9, h => exact h
  | kc + 10, h => trivial
 ·exact ⟨F4.out.drew, G4.out.drew, C4.out.drew⟩
 ·refine ⟨?_, ?_, ?_, ?_, ?_, ?_, ?_, ?_, ?_, ?_, trivial⟩
  ·intro f wq hC hd KK hK
   clear hd
   simp only [tkS, tkZ, setAll, siB, stS, stZ, Nat.zero_add, Nat.reduceAdd] at hK ⊢
   refine wp_of_quiet rfl ?_
   go_big_quiet_step (fail)
   exact wpQuiet_nil (hK _ _ (rfl) bR)
  ·intro f wq hC hd KK hK
   clear hd
   simp only [tkS, tkZ, setAll, siB, stS, stZ, Nat.zero_add, Nat.reduceAdd] at hK ⊢
   refine wp_of_quiet rfl ?_
   go_big_quiet_step (fail)
   exact wpQuiet_nil (hK _ _ (rfl) bR)
  ·intro f wq hC hd KK hK
   have g0 : f 0 = .slice (some ⟨b, cols * row * 15, none⟩) cols cols := hd 0 (by kernel_rfl)
   have g1 : f 1 = .int .i64 (fr : Int) := hd 1 (by kernel_rfl)
   clear hd
   simp only [tkS, tkZ, setAll, siB, stS, stZ, Nat.zero_add, Nat.reduceAdd, g0, g1] at hK ⊢
   exact wp_val _ (slice_op 22 (.tmp 42) (some (.tmp 43)) none none rfl _ _ (CU.out b _)) (hK _ _ rfl bR)
  ·intro f wq hC hd KK hK
   clear hd
   simp only [tkS, tkZ, setAll, siB, stS, stZ, Nat.zero_add, Nat.reduceAdd] at hK ⊢
   refine wp_of_quiet rfl ?_
   go_big_quiet_step (fail)
   exact wpQuiet_nil (hK _ _ (rfl) bR)
  ·intro f wq hC hd KK hK
   clear hd
   simp only [tkS, tkZ, setAll, siB, stS, stZ, Nat.zero_add, Nat.reduceAdd] at hK ⊢
   refine wp_of_quiet rfl ?_
   go_big_quiet_step (fail)
   exact wpQuiet_nil (hK _ _ (rfl) bR)
  ·intro f wq hC hd KK hK
   have g4 : f 4 = .pointer (some ⟨w.heap.size, 0, none⟩) := hd 4 (by kernel_rfl)
   clear hd
   have c0 : wq.cell? ⟨w.heap.size, 0, none⟩ = some (.int .i64 (cols : Int)) := hC.1.rg.cell 0
   clear hC
   simp only [tkS, tkZ, setAll, siB, stS, stZ, Nat.zero_add, Nat.reduceAdd, g4] at hK ⊢
   refine wp_of_quiet rfl ?_
   go_big_quiet_step (fail)
   exact wpQuiet_nil (hK _ _ (rfl) bR)
  ·intro f wq hC hd KK hK
   clear hd
   simp only [tkS, tkZ, setAll, siB, stS, stZ, Nat.zero_add, Nat.reduceAdd] at hK ⊢
   refine wp_of_quiet rfl ?_
   go_big_quiet_step (fail)
   exact wpQuiet_nil (hK _ _ (rfl) bR)
  ·intro f wq hC hd KK hK
   have g5 : f 5 = .int .i64 (cols : Int) := hd 5 (by kernel_rfl)
   have g6 : f 6 = .int .i64 (fr : Int) := hd 6 (by kernel_rfl)
   clear hd
   simp only [tkS, tkZ, setAll, siB, stS, stZ, Nat.zero_add, Nat.reduceAdd, g5, g6] at hK ⊢
   refine wp_of_quiet rfl ?_
   go_big_quiet_step (fail)
   exact wpQuiet_nil (hK _ _ (rfl) bR)
  ·intro f wq hC hd KK hK
   have g3 : f 3 = .int .i64 k := hd 3 (by kernel_rfl)
   have g7 : f 7 = .int .i64 ((cols : Int) - (fr : Int)) := hd 7 (by kernel_rfl)
   clear hd
   simp only [tkS, tkZ, setAll, siB, stS, stZ, Nat.zero_add, Nat.reduceAdd, g3, g7] at hK ⊢
   exact wp_call 43 #[.int .i64 k, .int .i64 ((cols : Int) - (fr : Int))] (by simp [go_sem]) _ _ (CL.out wq) (fun w' hb => hK _ _ rfl hb)
  ·intro f wq hC hd KK hK
   clear hd
   have cs0 : wq.cell? ⟨w.heap.size + 1, 0, none⟩ = some (.int .i64 s.fg) := hC.1.rs.cell 0
   have cs1 : wq.cell? ⟨w.heap.size + 1, 1, none⟩ = some (.int .i64 s.bg) := hC.1.rs.cell 1
   have cs2 : wq.cell? ⟨w.heap.size + 1, 2, none⟩ = some (.bool s.b1) := hC.1.rs.cell 2
   have cs3 : wq.cell? ⟨w.heap.size + 1, 3, none⟩ = some (.bool s.b2) := hC.1.rs.cell 3
   have cs4 : wq.cell? ⟨w.heap.size + 1, 4, none⟩ = some (.bool s.b3) := hC.1.rs.cell 4
   have cs5 : wq.cell? ⟨w.heap.size + 1, 5, none⟩ = some (.bool s.b4) := hC.1.rs.cell 5
   have cs6 : wq.cell? ⟨w.heap.size + 1, 6, none⟩ = some (.bool s.b5) := hC.1.rs.cell 6
   have cs7 : wq.cell? ⟨w.heap.size + 1, 7, none⟩ = some (.bool s.b7) := hC.1.rs.cell 7
   have cs8 : wq.cell? ⟨w.heap.size + 1, 8, none⟩ = some (.bool s.b8) := hC.1.rs.cell 8
   have cs9 : wq.cell? ⟨w.heap.size + 1, 9, none⟩ = some (.bool s.b9) := hC.1.rs.cell 9
   clear hC
   simp only [tkS, tkZ, setAll, siB, stS, stZ, Nat.zero_add, Nat.reduceAdd] at hK ⊢
   refine wp_of_quiet rfl ?_
   go_big_quiet_step (fail)
   exact wpQuiet_nil (hK _ _ (rfl) bR)
 ·intro f wz hC hv
  have p0 : f 0 = .slice (some ⟨b, cols * row * 15, none⟩) cols cols := hv 0 (by decide)
  have p1 : f 1 = .int .i64 (fr : Int) := hv 1 (by decide)
  have p2 : f 2 = .slice (some ⟨b, (cols * row + fr) * 15, none⟩) (cols - fr) (cols - fr) := hv 2 (by decide)
  have p3 : f 3 = .int .i64 k := hv 3 (by decide)
  have p4 : f 4 = .pointer (some ⟨w.heap.size, 0, none⟩) := hv 4 (by decide)
  have p5 : f 5 = .int .i64 (cols : Int) := hv 5 (by decide)
  have p6 : f 6 = .int .i64 (fr : Int) := hv 6 (by decide)
  have p7 : f 7 = .int .i64 ((cols : Int) - (fr : Int)) := hv 7 (by decide)
  have p8 : f 8 = .int .i64 z := hv 8 (by decide)
  have p9 : f 9 = .agg (sA s) := hv 9 (by decide)
  simp only [tkS, tkZ, List.drop_succ_cons, List.drop_zero, setAll, siB, stS, stZ, Nat.zero_add, Nat.reduceAdd, p0, p1, p2, p3, p4, p5, p6, p7, p8, p9]
  clear hv p0 p1 p2 p3 p4 p5 p6 p7 p8 p9
  have F5 := Box'.mk hC.1
  have G5 := Box'.mk hC.2.1
  have C5 := Box'.mk hC.2.2
  clear hC F4 G4 C4 CU CL
  go_wp2_with fail
  refine (PU.out b _ C5.out).mono ?_
  rintro e w6 ⟨⟨v6, rfl⟩, hr6, ht6⟩
  have C6 := Box'.mk hr6
  have F6 := Box'.mk (F5.out.tc ht6 hb3)
  have G6 := Box'.mk (ht6.row G5.out hqb)
  clear hr6 ht6 F5 G5 C5 PU
  go_wp2_with fail
  refine (ME.out b _ C6.out).mono ?_
  rintro e w9 ⟨⟨v9, rfl⟩, hr9, ht9⟩
  have C9 := Box'.mk hr9
  have F9 := Box'.mk (F6.out.tc ht9 hb3)
  have G9 := Box'.mk (ht9.row G6.out hqb)
  clear hr9 ht9 F6 G6 C6 ME
  go_wp2_with (first
   | (refine wpList_load_row rfl 24 (.tmp 12) rfl q rfl 24 (gA (cols : Int) (rows : Int) (.slice (some ⟨b, 0, none⟩) n n)) G9.out _ U24.out rfl 3 S24.out rfl ?_)
   | (refine wpList_store_row rfl 24 (.tmp 10) (.tmp 55) rfl (w.heap.size + 2) rfl (gA (cols : Int) (rows : Int) (.slice (some ⟨b, 0, none⟩) n n)) rfl 24 3 F9.out.rr S24.out rfl O.out ?_))
  exact bodyPost_ret (results_two rfl _ (w.heap.size + 2) rfl _ rfl _ _ (F9.out.rr.setRow _) rfl) rfl ⟨b, by rw [HN.out]; rfl, by omega, Row.setRowOther C9.out _ _ (by omega), below_setRow F9.out.be (by omega) _⟩
end Go.Proofs.Ytnbonlkmadmpcaa
namespace Go.Proofs.Ytnbonlkmadmpcaa
open Go.RowKit Go.BigFrame
set_option linter.unusedVariables false
set_option linter.unusedSimpArgs false
set_option maxRecDepth 100000 in
set_option maxHeartbeats 16000000 in
theorem resize_le (cols rows : Nat) (v : Value) (c : List Cl) (co ro : Nat) (s : St) (w : World) (hv : Cls w.heap.size w v c) (hG : mayG (cols : Int) (rows : Int) c = true) (hS : mayS s = true) (k1 : 1 ≤ co) (k2 : co ≤ 512) (k3 : 1 ≤ ro) (k4 : ro ≤ 512) (hmin : ro ≤ rows) :
  Calls Try.prog 18 #[.agg (gA (cols : Int) (rows : Int) v), .int .i64 (co : Int), .int .i64 (ro : Int), .agg (sA s)] w fun e w' => ∃ b, e = .returned (gOk (co : Int) (ro : Int) (.slice (some ⟨b, 0, none⟩) (co * ro) (co * ro))) ∧ w.heap.size ≤ b ∧ RC w' b (rzF c cols rows co ro s) [] ∧ Below w.heap.size w w' := by
 obtain ⟨cols', rows', ec, er, p1, p2, p3, p4, hl⟩ := mayG_dest hG
 obtain rfl : cols = cols' := by omega
 obtain rfl : rows = rows' := by omega
 have hle : cols * rows ≤ 512 * 512 := Nat.mul_le_mul p2 p4
 have hpos : 1 * 1 ≤ cols * rows := Nat.mul_le_mul p1 p3
 have hle2 : co * ro ≤ 512 * 512 := Nat.mul_le_mul k2 k4
 have MG : Box' (∀ wx, Below w.heap.size w wx → Calls Try.prog 20 #[.agg (gA (cols : Int) (rows : Int) v)] wx fun e w' => e = .returned (.bool (mayG (cols : Int) (rows : Int) c)) ∧ Below wx.heap.size wx w') := ⟨fun wx hb => gmay_any (cols : Int) (rows : Int) v c wx ((hv.below hb (Nat.le_refl _)).up hb.size)⟩
 rw [hG] at MG
 have MS := Box'.mk (mayStyle15_any s)
 rw [hS] at MS
 have IN2 := Box'.mk (maySize_any (co : Int) (ro : Int))
 rw [side_of k1 k2, side_of k3 k4] at IN2
 have BK := Box'.mk (blanks_any co ro k1 k2 k3 k4 s)
 rw [← rzK_0 c cols rows co ro s k1 hl] at BK
 have RK : Box' (∀ b k wx, k < ro → Calls Try.prog 35 #[.agg (gA (co : Int) (ro : Int) (.slice (some ⟨b, 0, none⟩) (co * ro) (co * ro))), .int .i64 (k : Int)] wx fun e w' => e = .returned (.slice (some ⟨b, co * k * 15, none⟩) co co) ∧ Below wx.heap.size wx w') := ⟨fun b k wx hk => by
  have := rowOf_any co k b 0 (co * ro) (co * ro) (ro : Int) k1 k2 (by omega) (Nat.mul_le_mul_left _ (by omega)) wx
  rwa [Nat.zero_add] at this⟩
 obtain ⟨gb, go', gc, rfl, hgb, hgc, HC0⟩ : ∃ b o cp, v = .slice (some ⟨b, o, none⟩) c.length cp ∧ b < w.heap.size ∧ c.length ≤ cp ∧ ∀ k, k < c.length → ∀ j, j < 15 → w.cell? ⟨b, o + k * 15 + j, none⟩ = (cA (cat c k))[j]? := by
  obtain ⟨a, cp, rfl, hcp, h3⟩ := hv
  rcases h3 with rfl | ⟨b, o, rfl, h5, h6⟩
  ·simp at hl; omega
  ·exact ⟨b, o, cp, rfl, h5, hcp, h6⟩
 have RG : Box' (∀ k wx, k < rows → Calls Try.prog 35 #[.agg (gA (cols : Int) (rows : Int) (.slice (some ⟨gb, go', none⟩) c.length gc)), .int .i64 (k : Int)] wx fun e w' => e = .returned (.slice (some ⟨gb, go' + cols * k * 15, none⟩) cols cols) ∧ Below wx.heap.size wx w') := ⟨fun k wx hk => rowOf_any cols k gb go' c.length gc (rows : Int) p1 p2 (by omega) (by have := Nat.mul_le_mul_left cols (show k + 1 ≤ rows by omega); omega) wx⟩
 have SRC : Box' (∀ k wx, k < rows → Below w.heap.size w wx → Cls w.heap.size wx (.slice (some ⟨gb, go' + cols * k * 15, none⟩) cols cols) (rowF c cols k)) := ⟨fun k wx hk hbe => by
  have hft := fits (cols := cols) hk
  have hrl := rowF_len c cols k (by omega)
  refine ⟨_, _, by rw [hrl], by omega, .inr ⟨gb, go' + cols * k * 15, rfl, hgb, fun j hj i hi => ?_⟩⟩
  rw [hrl] at hj
  have e : (rowF c cols k).getD j (hf pl) = cat c (k * cols + j) := cat_row c cols k j hj
  rw [hbe.cell (p := ⟨gb, go' + cols * k * 15 + j * 15 + i, none⟩) hgb, e, show go' + cols * k * 15 + j * 15 + i = go' + (k * cols + j) * 15 + i by rw [Nat.add_mul, Nat.mul_comm k cols]; omega]
  exact HC0 (k * cols + j) (by omega) i hi⟩
 have ML : Box' (∀ k, k < ro → k < rows → co * k + ((rowF c cols k).take co).length ≤ (rzK c cols rows co ro s k).length) := ⟨fun k h1 h2 => by
  rw [rzK_len c cols rows co ro s k hl, List.length_take]
  have := fits (cols := co) h1
  rw [Nat.mul_comm co k]
  omega⟩
 have LM : Box' (∀ k, k < ro → k < rows → lay (rzK c cols rows co ro s k) (co * k) ((rowF c cols k).take co) = lay (rzK c cols rows co ro s k) (co * k) (rzM c cols co s k)) := ⟨fun k h1 h2 => rzM_lay c cols rows co ro s k1 hl k h1 h2⟩
 have ME : Box' (∀ b k wx, k < ro → k < rows → RC wx b (lay (rzK c cols rows co ro s k) (co * k) (rzM c cols co s k)) [] → Calls Try.prog 36 #[.slice (some ⟨b, co * k * 15, none⟩) co co] wx fun e w' => (∃ v, e = .returned v) ∧ RC w' b (rzK c cols rows co ro s (k + 1)) [] ∧ Tc b wx w') := ⟨fun b k wx h1 h2 h => by
  rw [← rzK_step c cols rows co ro s k1 hl k h1]
  have e : rzR c cols rows co s k = mnd (rzM c cols co s k) := by unfold rzR; rw [if_pos h2]; rfl
  rw [e]
  have := fits (cols := co) h1
  exact mend_any b (co * k) co co _ [] _ wx (by omega) (Nat.le_refl _) (rzM_len c cols rows co s k hl h2) (by rw [rzK_len c cols rows co ro s k hl, Nat.mul_comm co k]; exact this) h⟩
 have EN := Box'.mk (rzK_end c cols rows co ro s k1 hl ro (by first | exact .inl rfl | exact .inr rfl))
 have F := Box'.mk (FrG.begin w (gA (cols : Int) (rows : Int) (.slice (some ⟨gb, go', none⟩) c.length gc)) s)
 have U24 := Box'.mk Try.underlying24
 have S24 := Box'.mk s24g
 have U26 := Box'.mk Try.underlying26
 have S26 := Box'.mk s24
 generalize hRZ : rzK c cols rows co ro s = rz at *
 generalize rzF c cols rows co ro s = X at *
 generalize rzM c cols co s = rm at *
 generalize hRF : rowF c cols = rf at *
 generalize c.length = n at *
 clear hG hS hv ec er hl hle hpos HC0 hRZ hRF hgc
 have hmin2 : (ro : Int) ≤ (rows : Int) := by omega
 go_enter Try.func18, Try.ntmps18
 go_upto_region 1 with (fail)
 generalize (((w.alloc (.cells (gA (cols : Int) (rows : Int) (.slice (some ⟨gb, go', none⟩) n gc)) 24)).alloc (.cells (sA s) 26)).alloc (.cells #[.int .i64 0, .int .i64 0, .slice none 0 0] 24)) = w1 at *
 go_wp2_with (first
  | (refine wpList_load_row rfl 24 (.tmp 4) rfl w.heap.size rfl 24 (gA (cols : Int) (rows : Int) (.slice (some ⟨gb, go', none⟩) n gc)) F.out.rg _ U24.out rfl 3 S24.out rfl ?_))
 refine (MG.out _ F.out.be).mono ?_
 rintro e w2 ⟨rfl, hb⟩
 replace F := Box'.mk (F.out.below hb)
 clear hb
 have cs0 : w2.cell? ⟨w.heap.size + 1, 0, none⟩ = some (.int .i64 s.fg) := F.out.rs.cell 0
 have cs1 : w2.cell? ⟨w.heap.size + 1, 1, none⟩ = some (.int .i64 s.bg) := F.out.rs.cell 1
 have cs2 : w2.cell? ⟨w.heap.size + 1, 2, none⟩ = some (.bool s.b1) := F.out.rs.cell 2
 have cs3 : w2.cell? ⟨w.heap.size + 1, 3, none⟩ = some (.bool s.b2) := F.out.rs.cell 3
 have cs4 : w2.cell? ⟨w.heap.size + 1, 4, none⟩ = some (.bool s.b3) := F.out.rs.cell 4
 have cs5 : w2.cell? ⟨w.heap.size + 1, 5, none⟩ = some (.bool s.b4) := F.out.rs.cell 5
 have cs6 : w2.cell? ⟨w.heap.size + 1, 6, none⟩ = some (.bool s.b5) := F.out.rs.cell 6
 have cs7 : w2.cell? ⟨w.heap.size + 1, 7, none⟩ = some (.bool s.b7) := F.out.rs.cell 7
 have cs8 : w2.cell? ⟨w.heap.size + 1, 8, none⟩ = some (.bool s.b8) := F.out.rs.cell 8
 have cs9 : w2.cell? ⟨w.heap.size + 1, 9, none⟩ = some (.bool s.b9) := F.out.rs.cell 9
 have c0 : w2.cell? ⟨w.heap.size, 0, none⟩ = some (.int .i64 (cols : Int)) := F.out.rg.cell 0
 have c1 : w2.cell? ⟨w.heap.size, 1, none⟩ = some (.int .i64 (rows : Int)) := F.out.rg.cell 1
 go_wp2_with fail
 refine (MS.out _).mono ?_
 rintro e w3 ⟨rfl, hb⟩
 replace F := Box'.mk (F.out.below hb)
 clear hb
 clear c0 c1 cs0 cs1 cs2 cs3 cs4 cs5 cs6 cs7 cs8 cs9
 have cs0 : w3.cell? ⟨w.heap.size + 1, 0, none⟩ = some (.int .i64 s.fg) := F.out.rs.cell 0
 have cs1 : w3.cell? ⟨w.heap.size + 1, 1, none⟩ = some (.int .i64 s.bg) := F.out.rs.cell 1
 have cs2 : w3.cell? ⟨w.heap.size + 1, 2, none⟩ = some (.bool s.b1) := F.out.rs.cell 2
 have cs3 : w3.cell? ⟨w.heap.size + 1, 3, none⟩ = some (.bool s.b2) := F.out.rs.cell 3
 have cs4 : w3.cell? ⟨w.heap.size + 1, 4, none⟩ = some (.bool s.b3) := F.out.rs.cell 4
 have cs5 : w3.cell? ⟨w.heap.size + 1, 5, none⟩ = some (.bool s.b4) := F.out.rs.cell 5
 have cs6 : w3.cell? ⟨w.heap.size + 1, 6, none⟩ = some (.bool s.b5) := F.out.rs.cell 6
 have cs7 : w3.cell? ⟨w.heap.size + 1, 7, none⟩ = some (.bool s.b7) := F.out.rs.cell 7
 have cs8 : w3.cell? ⟨w.heap.size + 1, 8, none⟩ = some (.bool s.b8) := F.out.rs.cell 8
 have cs9 : w3.cell? ⟨w.heap.size + 1, 9, none⟩ = some (.bool s.b9) := F.out.rs.cell 9
 have c0 : w3.cell? ⟨w.heap.size, 0, none⟩ = some (.int .i64 (cols : Int)) := F.out.rg.cell 0
 have c1 : w3.cell? ⟨w.heap.size, 1, none⟩ = some (.int .i64 (rows : Int)) := F.out.rg.cell 1
 go_wp2_with fail
 refine (IN2.out _).mono ?_
 rintro e w4 ⟨rfl, rfl⟩
 clear c0 c1 cs0 cs1 cs2 cs3 cs4 cs5 cs6 cs7 cs8 cs9
 go_wp2_with (first
  | (refine wpList_load_row rfl 26 (.tmp 7) rfl (w.heap.size + 1) rfl 26 (sA s) F.out.rs _ U26.out rfl 10 S26.out rfl ?_))
 refine (BK.out _).mono ?_
 rintro e w4 ⟨b, rfl, hb0, hrc, hb⟩
 have hb3 : w.heap.size + 3 ≤ b := Nat.le_trans F.out.sz hb0
 replace F := Box'.mk (F.out.below hb)
 have CC := Box'.mk hrc
 have hblt := hrc.lt
 clear hb hrc hb0 MG MS BK IN2
 have RM : Box' (Room (w4.alloc (.cells #[.int .i64 0, .int .i64 0, .slice none 0 0] 24)) w4.heap.size 24 3) := ⟨Room.new _ _ _ _ rfl⟩
 have G4 : Box' (Row ((w4.alloc (.cells #[.int .i64 0, .int .i64 0, .slice none 0 0] 24)).setRow w4.heap.size (gA (co : Int) (ro : Int) (.slice (some ⟨b, 0, none⟩) (co * ro) (co * ro)))) w4.heap.size 24 (gA (co : Int) (ro : Int) (.slice (some ⟨b, 0, none⟩) (co * ro) (co * ro)))) := ⟨RM.out.setRow _⟩
 have C4 : Box' (RC ((w4.alloc (.cells #[.int .i64 0, .int .i64 0, .slice none 0 0] 24)).setRow w4.heap.size (gA (co : Int) (ro : Int) (.slice (some ⟨b, 0, none⟩) (co * ro) (co * ro)))) b (rz 0) []) := ⟨Row.setRowOther (Row.alloc CC.out _) _ _ (by omega)⟩
 have F4 : Box' (FrG w (gA (cols : Int) (rows : Int) (.slice (some ⟨gb, go', none⟩) n gc)) s ((w4.alloc (.cells #[.int .i64 0, .int .i64 0, .slice none 0 0] 24)).setRow w4.heap.size (gA (co : Int) (ro : Int) (.slice (some ⟨b, 0, none⟩) (co * ro) (co * ro))))) := ⟨F.out.below (below_setRow (bR.alloc (Nat.le_refl _) _) (Nat.le_refl _) _)⟩
 have O := Box'.mk (gA_one (co : Int) (ro : Int) (some ⟨b, 0, none⟩) (co * ro) (co * ro))
 go_upto_region 4 with (first
  | (refine wpList_store_row rfl 24 (.tmp 10) (.tmp 31) rfl w4.heap.size rfl (gA (co : Int) (ro : Int) (.slice (some ⟨b, 0, none⟩) (co * ro) (co * ro))) rfl 24 3 RM.out S24.out rfl O.out ?_))
 generalize ((w4.alloc (.cells #[.int .i64 0, .int .i64 0, .slice none 0 0] 24)).setRow w4.heap.size (gA (co : Int) (ro : Int) (.slice (some ⟨b, 0, none⟩) (co * ro) (co * ro)))) = w5 at *
 clear RM CC F
 have hqb : w4.heap.size ≠ b := by omega
 have hq3 : w.heap.size + 3 ≤ w4.heap.size := by omega
 generalize w4.heap.size = q at *
 have c1 : w5.cell? ⟨w.heap.size, 1, none⟩ = some (.int .i64 (rows : Int)) := F4.out.rg.cell 1
 generalize hNN : co * ro = N at *
 have HNN := Box'.mk hNN
 clear hNN
 go_wp2_with fail
 clear c1
 go_loopw [36] (fun i wr => ∃ k : Nat, k ≤ ro ∧ i = .int .i64 (k : Int) ∧ Box' (FrG w (gA (cols : Int) (rows : Int) (.slice (some ⟨gb, go', none⟩) n gc)) s wr) ∧ Box' (Row wr q 24 (gA (co : Int) (ro : Int) (.slice (some ⟨b, 0, none⟩) N N))) ∧ Box' (RC wr b (rz k) [])) (fun i _ => ro - (intOf i).toNat)
 case atStart => exact ⟨0, by omega, rfl, F4, G4, C4⟩
 case round =>
  obtain ⟨k, hk, rfl, FF, GG, CC⟩ := hrel
  clear F4 G4 C4
  by_cases hlt : k < ro
  case neg =>
   rw [show k = ro by omega, EN.out] at CC
   clear RK RG SRC ML LM ME
   go_wp2_with (first
    | (refine wpList_load_row rfl 24 (.tmp 10) rfl q rfl 24 (gA (co : Int) (ro : Int) (.slice (some ⟨b, 0, none⟩) N N)) GG.out _ U24.out rfl 3 S24.out rfl ?_)
    | (refine wpList_store_row rfl 24 (.tmp 8) (.tmp 50) rfl (w.heap.size + 2) rfl (gA (co : Int) (ro : Int) (.slice (some ⟨b, 0, none⟩) N N)) rfl 24 3 FF.out.rr S24.out rfl O.out ?_))
   exact bodyPost_ret (results_two rfl _ (w.heap.size + 2) rfl _ rfl _ _ (FF.out.rr.setRow _) rfl) rfl ⟨b, by rw [HNN.out]; rfl, by omega, Row.setRowOther CC.out _ _ (by omega), below_setRow FF.out.be (by omega) _⟩
  case pos =>
   have hkr : k < ro := by omega
   have hks : k < rows := by omega
   have RK1 := Box'.mk (fun wx => RK.out b k wx hkr)
   have RG1 := Box'.mk (fun wx => RG.out k wx hks)
   have ME1 := Box'.mk (fun wx => ME.out b k wx hkr hks)
   have SR1 := Box'.mk (fun wx => SRC.out k wx hks)
   have ML1 := Box'.mk (ML.out k hkr hks)
   have LM1 := Box'.mk (LM.out k hkr hks)
   clear RK RG ME SRC ML LM
   go_wp2_with (first
    | (refine wpList_load_row rfl 24 (.tmp 10) rfl q rfl 24 (gA (co : Int) (ro : Int) (.slice (some ⟨b, 0, none⟩) N N)) GG.out _ U24.out rfl 3 S24.out rfl ?_))
   refine (RK1.out _).mono ?_
   rintro e w6 ⟨rfl, hb⟩
   replace FF := Box'.mk (FF.out.below hb)
   replace GG := Box'.mk (GG.out.below hb GG.out.lt)
   replace CC := Box'.mk (CC.out.below hb CC.out.lt)
   clear hb RK1
   go_wp2_with (first
    | (refine wpList_load_row rfl 24 (.tmp 4) rfl w.heap.size rfl 24 (gA (cols : Int) (rows : Int) (.slice (some ⟨gb, go', none⟩) n gc)) FF.out.rg _ U24.out rfl 3 S24.out rfl ?_))
   refine (RG1.out _).mono ?_
   rintro e w7 ⟨rfl, hb⟩
   replace FF := Box'.mk (FF.out.below hb)
   replace GG := Box'.mk (GG.out.below hb GG.out.lt)
   replace CC := Box'.mk (CC.out.below hb CC.out.lt)
   clear hb RG1
   have SR2 := Box'.mk (SR1.out _ FF.out.be)
   go_upto_region 9 with (first
    | (refine wpList_copyA rfl (.tmp 42) (.tmp 45) rfl b (co * k * 15) (co * k) co co (.slice (some ⟨gb, go' + cols * k * 15, none⟩) cols cols) w.heap.size (rz k) (rf k) ((rf k).take co) [] rfl rfl SR2.out CC.out rfl (.inr rfl) ML1.out ?_; intro u8 w8 W8))
   rw [LM1.out] at W8
   have C8 := Box'.mk W8.out.1
   have F8 := Box'.mk (FF.out.tc W8.out.2 hb3)
   have G8 := Box'.mk (W8.out.2.row GG.out hqb)
   clear W8 CC FF GG SR2 SR1 ML1 LM1
   go_wp2_with fail
   refine (ME1.out _ C8.out).mono ?_
   rintro e w9 ⟨⟨v9, rfl⟩, hr9, ht9⟩
   have C9 := Box'.mk hr9
   have F9 := Box'.mk (F8.out.tc ht9 hb3)
   have G9 := Box'.mk (ht9.row G8.out hqb)
   clear hr9 ht9 F8 G8 C8 ME1
   go_wp2_with fail
   exact ⟨⟨k + 1, by omega, by go_num, F9, G9, C9⟩, by simp [intOf]; omega⟩
set_option maxRecDepth 100000 in
set_option maxHeartbeats 16000000 in
theorem resize_gt (cols rows : Nat) (v : Value) (c : List Cl) (co ro : Nat) (s : St) (w : World) (hv : Cls w.heap.size w v c) (hG : mayG (cols : Int) (rows : Int) c = true) (hS : mayS s = true) (k1 : 1 ≤ co) (k2 : co ≤ 512) (k3 : 1 ≤ ro) (k4 : ro ≤ 512) (hmin : rows < ro) :
  Calls Try.prog 18 #[.agg (gA (cols : Int) (rows : Int) v), .int .i64 (co : Int), .int .i64 (ro : Int), .agg (sA s)] w fun e w' => ∃ b, e = .returned (gOk (co : Int) (ro : Int) (.slice (some ⟨b, 0, none⟩) (co * ro) (co * ro))) ∧ w.heap.size ≤ b ∧ RC w' b (rzF c cols rows co ro s) [] ∧ Below w.heap.size w w' := by
 obtain ⟨cols', rows', ec, er, p1, p2, p3, p4, hl⟩ := mayG_dest hG
 obtain rfl : cols = cols' := by omega
 obtain rfl : rows = rows' := by omega
 have hle : cols * rows ≤ 512 * 512 := Nat.mul_le_mul p2 p4
 have hpos : 1 * 1 ≤ cols * rows := Nat.mul_le_mul p1 p3
 have hle2 : co * ro ≤ 512 * 512 := Nat.mul_le_mul k2 k4
 have MG : Box' (∀ wx, Below w.heap.size w wx → Calls Try.prog 20 #[.agg (gA (cols : Int) (rows : Int) v)] wx fun e w' => e = .returned (.bool (mayG (cols : Int) (rows : Int) c)) ∧ Below wx.heap.size wx w') := ⟨fun wx hb => gmay_any (cols : Int) (rows : Int) v c wx ((hv.below hb (Nat.le_refl _)).up hb.size)⟩
 rw [hG] at MG
 have MS := Box'.mk (mayStyle15_any s)
 rw [hS] at MS
 have IN2 := Box'.mk (maySize_any (co : Int) (ro : Int))
 rw [side_of k1 k2, side_of k3 k4] at IN2
 have BK := Box'.mk (blanks_any co ro k1 k2 k3 k4 s)
 rw [← rzK_0 c cols rows co ro s k1 hl] at BK
 have RK : Box' (∀ b k wx, k < ro → Calls Try.prog 35 #[.agg (gA (co : Int) (ro : Int) (.slice (some ⟨b, 0, none⟩) (co * ro) (co * ro))), .int .i64 (k : Int)] wx fun e w' => e = .returned (.slice (some ⟨b, co * k * 15, none⟩) co co) ∧ Below wx.heap.size wx w') := ⟨fun b k wx hk => by
  have := rowOf_any co k b 0 (co * ro) (co * ro) (ro : Int) k1 k2 (by omega) (Nat.mul_le_mul_left _ (by omega)) wx
  rwa [Nat.zero_add] at this⟩
 obtain ⟨gb, go', gc, rfl, hgb, hgc, HC0⟩ : ∃ b o cp, v = .slice (some ⟨b, o, none⟩) c.length cp ∧ b < w.heap.size ∧ c.length ≤ cp ∧ ∀ k, k < c.length → ∀ j, j < 15 → w.cell? ⟨b, o + k * 15 + j, none⟩ = (cA (cat c k))[j]? := by
  obtain ⟨a, cp, rfl, hcp, h3⟩ := hv
  rcases h3 with rfl | ⟨b, o, rfl, h5, h6⟩
  ·simp at hl; omega
  ·exact ⟨b, o, cp, rfl, h5, hcp, h6⟩
 have RG : Box' (∀ k wx, k < rows → Calls Try.prog 35 #[.agg (gA (cols : Int) (rows : Int) (.slice (some ⟨gb, go', none⟩) c.length gc)), .int .i64 (k : Int)] wx fun e w' => e = .returned (.slice (some ⟨gb, go' + cols * k * 15, none⟩) cols cols) ∧ Below wx.heap.size wx w') := ⟨fun k wx hk => rowOf_any cols k gb go' c.length gc (rows : Int) p1 p2 (by omega) (by have := Nat.mul_le_mul_left cols (show k + 1 ≤ rows by omega); omega) wx⟩
 have SRC : Box' (∀ k wx, k < rows → Below w.heap.size w wx → Cls w.heap.size wx (.slice (some ⟨gb, go' + cols * k * 15, none⟩) cols cols) (rowF c cols k)) := ⟨fun k wx hk hbe => by
  have hft := fits (cols := cols) hk
  have hrl := rowF_len c cols k (by omega)
  refine ⟨_, _, by rw [hrl], by omega, .inr ⟨gb, go' + cols * k * 15, rfl, hgb, fun j hj i hi => ?_⟩⟩
  rw [hrl] at hj
  have e : (rowF c cols k).getD j (hf pl) = cat c (k * cols + j) := cat_row c cols k j hj
  rw [hbe.cell (p := ⟨gb, go' + cols * k * 15 + j * 15 + i, none⟩) hgb, e, show go' + cols * k * 15 + j * 15 + i = go' + (k * cols + j) * 15 + i by rw [Nat.add_mul, Nat.mul_comm k cols]; omega]
  exact HC0 (k * cols + j) (by omega) i hi⟩
 have ML : Box' (∀ k, k < ro → k < rows → co * k + ((rowF c cols k).take co).length ≤ (rzK c cols rows co ro s k).length) := ⟨fun k h1 h2 => by
  rw [rzK_len c cols rows co ro s k hl, List.length_take]
  have := fits (cols := co) h1
  rw [Nat.mul_comm co k]
  omega⟩
 have LM : Box' (∀ k, k < ro → k < rows → lay (rzK c cols rows co ro s k) (co * k) ((rowF c cols k).take co) = lay (rzK c cols rows co ro s k) (co * k) (rzM c cols co s k)) := ⟨fun k h1 h2 => rzM_lay c cols rows co ro s k1 hl k h1 h2⟩
 have ME : Box' (∀ b k wx, k < ro → k < rows → RC wx b (lay (rzK c cols rows co ro s k) (co * k) (rzM c cols co s k)) [] → Calls Try.prog 36 #[.slice (some ⟨b, co * k * 15, none⟩) co co] wx fun e w' => (∃ v, e = .returned v) ∧ RC w' b (rzK c cols rows co ro s (k + 1)) [] ∧ Tc b wx w') := ⟨fun b k wx h1 h2 h => by
  rw [← rzK_step c cols rows co ro s k1 hl k h1]
  have e : rzR c cols rows co s k = mnd (rzM c cols co s k) := by unfold rzR; rw [if_pos h2]; rfl
  rw [e]
  have := fits (cols := co) h1
  exact mend_any b (co * k) co co _ [] _ wx (by omega) (Nat.le_refl _) (rzM_len c cols rows co s k hl h2) (by rw [rzK_len c cols rows co ro s k hl, Nat.mul_comm co k]; exact this) h⟩
 have EN := Box'.mk (rzK_end c cols rows co ro s k1 hl rows (by first | exact .inl rfl | exact .inr rfl))
 have F := Box'.mk (FrG.begin w (gA (cols : Int) (rows : Int) (.slice (some ⟨gb, go', none⟩) c.length gc)) s)
 have U24 := Box'.mk Try.underlying24
 have S24 := Box'.mk s24g
 have U26 := Box'.mk Try.underlying26
 have S26 := Box'.mk s24
 generalize hRZ : rzK c cols rows co ro s = rz at *
 generalize rzF c cols rows co ro s = X at *
 generalize rzM c cols co s = rm at *
 generalize hRF : rowF c cols = rf at *
 generalize c.length = n at *
 clear hG hS hv ec er hl hle hpos HC0 hRZ hRF hgc
 have hmin2 : (rows : Int) < (ro : Int) := by omega
 go_enter Try.func18, Try.ntmps18
 go_upto_region 1 with (fail)
 generalize (((w.alloc (.cells (gA (cols : Int) (rows : Int) (.slice (some ⟨gb, go', none⟩) n gc)) 24)).alloc (.cells (sA s) 26)).alloc (.cells #[.int .i64 0, .int .i64 0, .slice none 0 0] 24)) = w1 at *
 go_wp2_with (first
  | (refine wpList_load_row rfl 24 (.tmp 4) rfl w.heap.size rfl 24 (gA (cols : Int) (rows : Int) (.slice (some ⟨gb, go', none⟩) n gc)) F.out.rg _ U24.out rfl 3 S24.out rfl ?_))
 refine (MG.out _ F.out.be).mono ?_
 rintro e w2 ⟨rfl, hb⟩
 replace F := Box'.mk (F.out.below hb)
 clear hb
 have cs0 : w2.cell? ⟨w.heap.size + 1, 0, none⟩ = some (.int .i64 s.fg) := F.out.rs.cell 0
 have cs1 : w2.cell? ⟨w.heap.size + 1, 1, none⟩ = some (.int .i64 s.bg) := F.out.rs.cell 1
 have cs2 : w2.cell? ⟨w.heap.size + 1, 2, none⟩ = some (.bool s.b1) := F.out.rs.cell 2
 have cs3 : w2.cell? ⟨w.heap.size + 1, 3, none⟩ = some (.bool s.b2) := F.out.rs.cell 3
 have cs4 : w2.cell? ⟨w.heap.size + 1, 4, none⟩ = some (.bool s.b3) := F.out.rs.cell 4
 have cs5 : w2.cell? ⟨w.heap.size + 1, 5, none⟩ = some (.bool s.b4) := F.out.rs.cell 5
 have cs6 : w2.cell? ⟨w.heap.size + 1, 6, none⟩ = some (.bool s.b5) := F.out.rs.cell 6
 have cs7 : w2.cell? ⟨w.heap.size + 1, 7, none⟩ = some (.bool s.b7) := F.out.rs.cell 7
 have cs8 : w2.cell? ⟨w.heap.size + 1, 8, none⟩ = some (.bool s.b8) := F.out.rs.cell 8
 have cs9 : w2.cell? ⟨w.heap.size + 1, 9, none⟩ = some (.bool s.b9) := F.out.rs.cell 9
 have c0 : w2.cell? ⟨w.heap.size, 0, none⟩ = some (.int .i64 (cols : Int)) := F.out.rg.cell 0
 have c1 : w2.cell? ⟨w.heap.size, 1, none⟩ = some (.int .i64 (rows : Int)) := F.out.rg.cell 1
 go_wp2_with fail
 refine (MS.out _).mono ?_
 rintro e w3 ⟨rfl, hb⟩
 replace F := Box'.mk (F.out.below hb)
 clear hb
 clear c0 c1 cs0 cs1 cs2 cs3 cs4 cs5 cs6 cs7 cs8 cs9
 have cs0 : w3.cell? ⟨w.heap.size + 1, 0, none⟩ = some (.int .i64 s.fg) := F.out.rs.cell 0
 have cs1 : w3.cell? ⟨w.heap.size + 1, 1, none⟩ = some (.int .i64 s.bg) := F.out.rs.cell 1
 have cs2 : w3.cell? ⟨w.heap.size + 1, 2, none⟩ = some (.bool s.b1) := F.out.rs.cell 2
 have cs3 : w3.cell? ⟨w.heap.size + 1, 3, none⟩ = some (.bool s.b2) := F.out.rs.cell 3
 have cs4 : w3.cell? ⟨w.heap.size + 1, 4, none⟩ = some (.bool s.b3) := F.out.rs.cell 4
 have cs5 : w3.cell? ⟨w.heap.size + 1, 5, none⟩ = some (.bool s.b4) := F.out.rs.cell 5
 have cs6 : w3.cell? ⟨w.heap.size + 1, 6, none⟩ = some (.bool s.b5) := F.out.rs.cell 6
 have cs7 : w3.cell? ⟨w.heap.size + 1, 7, none⟩ = some (.bool s.b7) := F.out.rs.cell 7
 have cs8 : w3.cell? ⟨w.heap.size + 1, 8, none⟩ = some (.bool s.b8) := F.out.rs.cell 8
 have cs9 : w3.cell? ⟨w.heap.size + 1, 9, none⟩ = some (.bool s.b9) := F.out.rs.cell 9
 have c0 : w3.cell? ⟨w.heap.size, 0, none⟩ = some (.int .i64 (cols : Int)) := F.out.rg.cell 0
 have c1 : w3.cell? ⟨w.heap.size, 1, none⟩ = some (.int .i64 (rows : Int)) := F.out.rg.cell 1
 go_wp2_with fail
 refine (IN2.out _).mono ?_
 rintro e w4 ⟨rfl, rfl⟩
 clear c0 c1 cs0 cs1 cs2 cs3 cs4 cs5 cs6 cs7 cs8 cs9
 go_wp2_with (first
  | (refine wpList_load_row rfl 26 (.tmp 7) rfl (w.heap.size + 1) rfl 26 (sA s) F.out.rs _ U26.out rfl 10 S26.out rfl ?_))
 refine (BK.out _).mono ?_
 rintro e w4 ⟨b, rfl, hb0, hrc, hb⟩
 have hb3 : w.heap.size + 3 ≤ b := Nat.le_trans F.out.sz hb0
 replace F := Box'.mk (F.out.below hb)
 have CC := Box'.mk hrc
 have hblt := hrc.lt
 clear hb hrc hb0 MG MS BK IN2
 have RM : Box' (Room (w4.alloc (.cells #[.int .i64 0, .int .i64 0, .slice none 0 0] 24)) w4.heap.size 24 3) := ⟨Room.new _ _ _ _ rfl⟩
 have G4 : Box' (Row ((w4.alloc (.cells #[.int .i64 0, .int .i64 0, .slice none 0 0] 24)).setRow w4.heap.size (gA (co : Int) (ro : Int) (.slice (some ⟨b, 0, none⟩) (co * ro) (co * ro)))) w4.heap.size 24 (gA (co : Int) (ro : Int) (.slice (some ⟨b, 0, none⟩) (co * ro) (co * ro)))) := ⟨RM.out.setRow _⟩
 have C4 : Box' (RC ((w4.alloc (.cells #[.int .i64 0, .int .i64 0, .slice none 0 0] 24)).setRow w4.heap.size (gA (co : Int) (ro : Int) (.slice (some ⟨b, 0, none⟩) (co * ro) (co * ro)))) b (rz 0) []) := ⟨Row.setRowOther (Row.alloc CC.out _) _ _ (by omega)⟩
 have F4 : Box' (FrG w (gA (cols : Int) (rows : Int) (.slice (some ⟨gb, go', none⟩) n gc)) s ((w4.alloc (.cells #[.int .i64 0, .int .i64 0, .slice none 0 0] 24)).setRow w4.heap.size (gA (co : Int) (ro : Int) (.slice (some ⟨b, 0, none⟩) (co * ro) (co * ro))))) := ⟨F.out.below (below_setRow (bR.alloc (Nat.le_refl _) _) (Nat.le_refl _) _)⟩
 have O := Box'.mk (gA_one (co : Int) (ro : Int) (some ⟨b, 0, none⟩) (co * ro) (co * ro))
 go_upto_region 4 with (first
  | (refine wpList_store_row rfl 24 (.tmp 10) (.tmp 31) rfl w4.heap.size rfl (gA (co : Int) (ro : Int) (.slice (some ⟨b, 0, none⟩) (co * ro) (co * ro))) rfl 24 3 RM.out S24.out rfl O.out ?_))
 generalize ((w4.alloc (.cells #[.int .i64 0, .int .i64 0, .slice none 0 0] 24)).setRow w4.heap.size (gA (co : Int) (ro : Int) (.slice (some ⟨b, 0, none⟩) (co * ro) (co * ro)))) = w5 at *
 clear RM CC F
 have hqb : w4.heap.size ≠ b := by omega
 have hq3 : w.heap.size + 3 ≤ w4.heap.size := by omega
 generalize w4.heap.size = q at *
 have c1 : w5.cell? ⟨w.heap.size, 1, none⟩ = some (.int .i64 (rows : Int)) := F4.out.rg.cell 1
 generalize hNN : co * ro = N at *
 have HNN := Box'.mk hNN
 clear hNN
 go_wp2_with fail
 clear c1
 go_loopw [36] (fun i wr => ∃ k : Nat, k ≤ rows ∧ i = .int .i64 (k : Int) ∧ Box' (FrG w (gA (cols : Int) (rows : Int) (.slice (some ⟨gb, go', none⟩) n gc)) s wr) ∧ Box' (Row wr q 24 (gA (co : Int) (ro : Int) (.slice (some ⟨b, 0, none⟩) N N))) ∧ Box' (RC wr b (rz k) [])) (fun i _ => rows - (intOf i).toNat)
 case atStart => exact ⟨0, by omega, rfl, F4, G4, C4⟩
 case round =>
  obtain ⟨k, hk, rfl, FF, GG, CC⟩ := hrel
  clear F4 G4 C4
  by_cases hlt : k < rows
  case neg =>
   rw [show k = rows by omega, EN.out] at CC
   clear RK RG SRC ML LM ME
   go_wp2_with (first
    | (refine wpList_load_row rfl 24 (.tmp 10) rfl q rfl 24 (gA (co : Int) (ro : Int) (.slice (some ⟨b, 0, none⟩) N N)) GG.out _ U24.out rfl 3 S24.out rfl ?_)
    | (refine wpList_store_row rfl 24 (.tmp 8) (.tmp 50) rfl (w.heap.size + 2) rfl (gA (co : Int) (ro : Int) (.slice (some ⟨b, 0, none⟩) N N)) rfl 24 3 FF.out.rr S24.out rfl O.out ?_))
   exact bodyPost_ret (results_two rfl _ (w.heap.size + 2) rfl _ rfl _ _ (FF.out.rr.setRow _) rfl) rfl ⟨b, by rw [HNN.out]; rfl, by omega, Row.setRowOther CC.out _ _ (by omega), below_setRow FF.out.be (by omega) _⟩
  case pos =>
   have hkr : k < ro := by omega
   have hks : k < rows := by omega
   have RK1 := Box'.mk (fun wx => RK.out b k wx hkr)
   have RG1 := Box'.mk (fun wx => RG.out k wx hks)
   have ME1 := Box'.mk (fun wx => ME.out b k wx hkr hks)
   have SR1 := Box'.mk (fun wx => SRC.out k wx hks)
   have ML1 := Box'.mk (ML.out k hkr hks)
   have LM1 := Box'.mk (LM.out k hkr hks)
   clear RK RG ME SRC ML LM
   go_wp2_with (first
    | (refine wpList_load_row rfl 24 (.tmp 10) rfl q rfl 24 (gA (co : Int) (ro : Int) (.slice (some ⟨b, 0, none⟩) N N)) GG.out _ U24.out rfl 3 S24.out rfl ?_))
   refine (RK1.out _).mono ?_
   rintro e w6 ⟨rfl, hb⟩
   replace FF := Box'.mk (FF.out.below hb)
   replace GG := Box'.mk (GG.out.below hb GG.out.lt)
   replace CC := Box'.mk (CC.out.below hb CC.out.lt)
   clear hb RK1
   go_wp2_with (first
    | (refine wpList_load_row rfl 24 (.tmp 4) rfl w.heap.size rfl 24 (gA (cols : Int) (rows : Int) (.slice (some ⟨gb, go', none⟩) n gc)) FF.out.rg _ U24.out rfl 3 S24.out rfl ?_))
   refine (RG1.out _).mono ?_
   rintro e w7 ⟨rfl, hb⟩
   replace FF := Box'.mk (FF.out.below hb)
   replace GG := Box'.mk (GG.out.below hb GG.out.lt)
   replace CC := Box'.mk (CC.out.below hb CC.out.lt)
   clear hb RG1
   have SR2 := Box'.mk (SR1.out _ FF.out.be)
   go_upto_region 9 with (first
    | (refine wpList_copyA rfl (.tmp 42) (.tmp 45) rfl b (co * k * 15) (co * k) co co (.slice (some ⟨gb, go' + cols * k * 15, none⟩) cols cols) w.heap.size (rz k) (rf k) ((rf k).take co) [] rfl rfl SR2.out CC.out rfl (.inr rfl) ML1.out ?_; intro u8 w8 W8))
   rw [LM1.out] at W8
   have C8 := Box'.mk W8.out.1
   have F8 := Box'.mk (FF.out.tc W8.out.2 hb3)
   have G8 := Box'.mk (W8.out.2.row GG.out hqb)
   clear W8 CC FF GG SR2 SR1 ML1 LM1
   go_wp2_with fail
   refine (ME1.out _ C8.out).mono ?_
   rintro e w9 ⟨⟨v9, rfl⟩, hr9, ht9⟩
   have C9 := Box'.mk hr9
   have F9 := Box'.mk (F8.out.tc ht9 hb3)
   have G9 := Box'.mk (ht9.row G8.out hqb)
   clear hr9 ht9 F8 G8 C8 ME1
   go_wp2_with fail
   exact ⟨⟨k + 1, by omega, by go_num, F9, G9, C9⟩, by simp [intOf]; omega⟩
theorem resize_ok (cols rows : Nat) (v : Value) (c : List Cl) (co ro : Nat) (s : St) (w : World) (hv : Cls w.heap.size w v c) (hG : mayG (cols : Int) (rows : Int) c = true) (hS : mayS s = true) (k1 : 1 ≤ co) (k2 : co ≤ 512) (k3 : 1 ≤ ro) (k4 : ro ≤ 512) :
  Calls Try.prog 18 #[.agg (gA (cols : Int) (rows : Int) v), .int .i64 (co : Int), .int .i64 (ro : Int), .agg (sA s)] w fun e w' => ∃ b, e = .returned (gOk (co : Int) (ro : Int) (.slice (some ⟨b, 0, none⟩) (co * ro) (co * ro))) ∧ w.heap.size ≤ b ∧ RC w' b (rzF c cols rows co ro s) [] ∧ Below w.heap.size w w' := by
 rcases Nat.lt_or_ge rows ro with h | h
 ·exact resize_gt cols rows v c co ro s w hv hG hS k1 k2 k3 k4 h
 ·exact resize_le cols rows v c co ro s w hv hG hS k1 k2 k3 k4 h
end Go.Proofs.Ytnbonlkmadmpcaa
