/- Erase, Shift. What the reference's Scroll refuses. A region that draws its order, of which one operation writes into what is one's own. Two lists, the one up to a place, the other from there: how the reference's Scroll goes on. The reference's board. -/
import Derived.Test.YtlekleeckcdcgaaGreatNk
import Derived.Test.YtlekleeckcdcgaaGreatEq
import Derived.Test.YtlekleeckcdcgaaGreatXd
import Derived.Test.YtlekleeckcdcgaaGreatNp
import Derived.Test.YtlekleeckcdcgaaGreatGw
import Derived.Test.YtlekleeckcdcgaaGreatXh
import Derived.Test.YtlekleeckcdcgaaGreatXb
import Derived.Laws.AppendOwn
namespace Go.Proofs.YtlekleeckcdcgaaGreat
open Go.RowKit Go.BigFrame
set_option linter.unusedVariables false
set_option linter.unusedSimpArgs false
set_option maxRecDepth 100000
set_option maxHeartbeats 16000000
theorem erase_ok (cols rows : Nat) (v : Value) (c : List Cl) (row fr to : Nat) (s : St) (w : World) (hv : Cls w.heap.size w v c) (hG : mayG (cols : Int) (rows : Int) c = true) (hS : mayS s = true) (h1 : row < rows) (h2 : fr ≤ to) (h3 : to ≤ cols) :
  Calls Tryz.prog 171 #[.agg (gA (cols : Int) (rows : Int) v), .int .i64 (row : Int), .int .i64 (fr : Int), .int .i64 (to : Int), .agg (sA s)] w fun e w' => ∃ b, e = .returned (gOk (cols : Int) (rows : Int) (.slice (some ⟨b, 0, none⟩) c.length c.length)) ∧ w.heap.size ≤ b ∧ RC w' b (putRow c cols row (mnd (erF (rowF c cols row) fr to s))) [] ∧ Below w.heap.size w w' := by
 obtain ⟨cols', rows', ec, er, p1, p2, p3, p4, hl⟩ := mayG_dest hG
 obtain rfl : cols = cols' := by omega
 obtain rfl : rows = rows' := by omega
 have hle : cols * rows ≤ 512 * 512 := Nat.mul_le_mul p2 p4
 have hpos : 1 * 1 ≤ cols * rows := Nat.mul_le_mul p1 p3
 have MG : Box' (∀ wx, Below w.heap.size w wx → Calls Tryz.prog 53 #[.agg (gA (cols : Int) (rows : Int) v)] wx fun e w' => e = .returned (.bool (mayG (cols : Int) (rows : Int) c)) ∧ Below wx.heap.size wx w') := ⟨fun wx hb => gmay_any (cols : Int) (rows : Int) v c wx ((hv.below hb (Nat.le_refl _)).up hb.size)⟩
 rw [hG] at MG
 have MS := Box'.mk (mayStyle15_any s)
 rw [hS] at MS
 have AN : Box' (∀ wx, Below w.heap.size w wx → Calls Tryz.prog 186 #[.agg (gA (cols : Int) (rows : Int) v)] wx fun e w' => ∃ b, e = .returned (.agg (gA (cols : Int) (rows : Int) (.slice (some ⟨b, 0, none⟩) c.length c.length))) ∧ wx.heap.size ≤ b ∧ RC w' b c [] ∧ Below wx.heap.size wx w') := ⟨fun wx hb => another_any (cols : Int) (rows : Int) v c (by omega) (by omega) wx ((hv.below hb (Nat.le_refl _)).up hb.size)⟩
 have F := Box'.mk (FrG.begin w (gA (cols : Int) (rows : Int) v) s)
 have U24 := Box'.mk Tryz.underlying24
 have S24 := Box'.mk s24g
 have U26 := Box'.mk Tryz.underlying26
 have S26 := Box'.mk s24
 have hfit : cols * row + cols ≤ cols * rows := by have := Nat.mul_le_mul_left cols (show row + 1 ≤ rows by omega); rw [Nat.mul_add, Nat.mul_one] at this; exact this
 have RO : Box' (∀ b wx, Calls Tryz.prog 117 #[.agg (gA (cols : Int) (rows : Int) (.slice (some ⟨b, 0, none⟩) c.length c.length)), .int .i64 (row : Int)] wx fun e w' => e = .returned (.slice (some ⟨b, cols * row * 15, none⟩) cols cols) ∧ Below wx.heap.size wx w') := ⟨fun b wx => by
  have := rowOf_any cols row b 0 c.length c.length (rows : Int) p1 p2 (by omega) (by rw [Nat.mul_add, Nat.mul_one]; omega) wx
  rwa [Nat.zero_add] at this⟩
 have hrl : (rowF c cols row).length = cols := rowF_len c cols row (by rw [Nat.mul_comm row cols]; omega)
 have hFl : (erF (rowF c cols row) fr to s).length = cols := by rw [erF_len _ _ _ _ h2 (by omega), hrl]
 have ME : Box' (∀ b wx, RC wx b (lay c (cols * row) (erF (rowF c cols row) fr to s)) [] → Calls Tryz.prog 144 #[.slice (some ⟨b, cols * row * 15, none⟩) cols cols] wx fun e w' => (∃ v, e = .returned v) ∧ RC w' b (putRow c cols row (mnd (erF (rowF c cols row) fr to s))) [] ∧ Tc b wx w') := ⟨fun b wx h => by
  rw [← lay_put c cols row _ (by rw [mnd_len]; exact hFl)]
  exact mend_any b (cols * row) cols cols c [] _ wx (by omega) (Nat.le_refl _) hFl (by omega) h⟩
 have IN2 := Box'.mk (isIn_any (row : Int) (rows : Int))
 rw [show inN (row : Int) (rows : Int) = true by unfold inN; simp; omega] at IN2
 have CU := Box'.mk (fun b w => run_cutLH b (cols * row * 15) cols cols fr to h2 h3 w)
 have HX : to - fr = 0 ∨ cutO (cols * row * 15) cols fr = (cols * row + fr) * 15 := by
  by_cases hz : cols = fr
  ·left; omega
  ·right; rw [cutO_at hz, Nat.add_mul]
 have FI : Box' (∀ b wx, RC wx b c [] → Calls Tryz.prog 158 #[.slice (some ⟨b, cutO (cols * row * 15) cols fr, none⟩) (to - fr) (cols - fr), .agg (sA s)] wx fun e w' => (∃ v, e = .returned v) ∧ RC w' b (lay c (cols * row) (erF (rowF c cols row) fr to s)) [] ∧ Tc b wx w') := ⟨fun b wx h => by
  rw [← erF_lay (rowF c cols row) fr to s h2, ← lay_row c cols row fr _ (by rw [List.length_replicate]; omega) (by omega), ← fiL_lay]
  exact fill_any b _ (cols * row + fr) (to - fr) (cols - fr) c [] s wx (by omega) HX (by omega) h (by omega)⟩
 generalize cutO (cols * row * 15) cols fr = x at *
 have i0 : (0 : Int) ≤ (fr : Int) := by omega
 have i1 : (fr : Int) ≤ (to : Int) := by omega
 have i2 : (to : Int) ≤ (cols : Int) := by omega
 generalize hX : putRow c cols row (mnd (erF (rowF c cols row) fr to s)) = X at *
 clear hX hG hS hv ec er hl hle hpos hrl hFl HX
 go_enter Tryz.func171, Tryz.ntmps171
 go_upto_region 1 with (fail)
 generalize (((w.alloc (.cells (gA (cols : Int) (rows : Int) v) 24)).alloc (.cells (sA s) 26)).alloc (.cells #[.int .i64 0, .int .i64 0, .slice none 0 0] 24)) = w1 at *
 go_wp2_with (first
  | (refine wpList_load_row rfl 24 (.tmp 5) rfl w.heap.size rfl 24 (gA (cols : Int) (rows : Int) v) F.out.rg _ U24.out rfl 3 S24.out rfl ?_))
 refine (MG.out _ F.out.be).mono ?_
 rintro e w2 ⟨rfl, hb⟩
 replace F := Box'.mk (F.out.below hb)
 clear hb
 obtain ⟨cs0, cs1, cs2, cs3, cs4, cs5, cs6, cs7, cs8, cs9⟩ := F.out.rs.s10
 have c0 : w2.cell? ⟨w.heap.size, 0, none⟩ = some (.int .i64 (cols : Int)) := F.out.rg.cell 0
 have c1 : w2.cell? ⟨w.heap.size, 1, none⟩ = some (.int .i64 (rows : Int)) := F.out.rg.cell 1
 go_wp2_with fail
 refine (MS.out _).mono ?_
 rintro e w3 ⟨rfl, hb⟩
 replace F := Box'.mk (F.out.below hb)
 clear hb
 clear c0 c1 cs0 cs1 cs2 cs3 cs4 cs5 cs6 cs7 cs8 cs9
 obtain ⟨cs0, cs1, cs2, cs3, cs4, cs5, cs6, cs7, cs8, cs9⟩ := F.out.rs.s10
 have c0 : w3.cell? ⟨w.heap.size, 0, none⟩ = some (.int .i64 (cols : Int)) := F.out.rg.cell 0
 have c1 : w3.cell? ⟨w.heap.size, 1, none⟩ = some (.int .i64 (rows : Int)) := F.out.rg.cell 1
 go_wp2_with fail
 refine (IN2.out _).mono ?_
 rintro e w4 ⟨rfl, rfl⟩
 go_wp2_with (first
  | (refine wpList_load_row rfl 24 (.tmp 5) rfl w.heap.size rfl 24 (gA (cols : Int) (rows : Int) v) F.out.rg _ U24.out rfl 3 S24.out rfl ?_))
 refine (AN.out _ F.out.be).mono ?_
 rintro e w7a ⟨b, rfl, hb0, hrc, hb⟩
 have hb3 : w.heap.size + 3 ≤ b := Nat.le_trans F.out.sz hb0
 replace F := Box'.mk (F.out.below hb)
 have CC := Box'.mk hrc
 have hblt := hrc.lt
 clear hb hrc hb0 AN MG MS IN2
 clear c0 c1 cs0 cs1 cs2 cs3 cs4 cs5 cs6 cs7 cs8 cs9
 generalize hn : c.length = n at *
 have HN := Box'.mk hn
 clear hn
 have RM : Box' (Room (w7a.alloc (.cells #[.int .i64 0, .int .i64 0, .slice none 0 0] 24)) w7a.heap.size 24 3) := ⟨Room.new _ _ _ _ rfl⟩
 have G4 : Box' (Row ((w7a.alloc (.cells #[.int .i64 0, .int .i64 0, .slice none 0 0] 24)).setRow w7a.heap.size (gA (cols : Int) (rows : Int) (.slice (some ⟨b, 0, none⟩) n n))) w7a.heap.size 24 (gA (cols : Int) (rows : Int) (.slice (some ⟨b, 0, none⟩) n n))) := ⟨RM.out.setRow _⟩
 have C4 : Box' (RC ((w7a.alloc (.cells #[.int .i64 0, .int .i64 0, .slice none 0 0] 24)).setRow w7a.heap.size (gA (cols : Int) (rows : Int) (.slice (some ⟨b, 0, none⟩) n n))) b c []) := ⟨Row.setRowOther (Row.alloc CC.out _) _ _ (by omega)⟩
 have F4 : Box' (FrG w (gA (cols : Int) (rows : Int) v) s ((w7a.alloc (.cells #[.int .i64 0, .int .i64 0, .slice none 0 0] 24)).setRow w7a.heap.size (gA (cols : Int) (rows : Int) (.slice (some ⟨b, 0, none⟩) n n)))) := ⟨F.out.below (below_setRow (bR.alloc (Nat.le_refl _) _) (Nat.le_refl _) _)⟩
 have O := Box'.mk (gA_one (cols : Int) (rows : Int) (some ⟨b, 0, none⟩) n n)
 go_upto_region 4 with (first
  | (refine wpList_store_row rfl 24 (.tmp 12) (.tmp 46) rfl w7a.heap.size rfl (gA (cols : Int) (rows : Int) (.slice (some ⟨b, 0, none⟩) n n)) rfl 24 3 RM.out S24.out rfl O.out ?_))
 generalize ((w7a.alloc (.cells #[.int .i64 0, .int .i64 0, .slice none 0 0] 24)).setRow w7a.heap.size (gA (cols : Int) (rows : Int) (.slice (some ⟨b, 0, none⟩) n n))) = w7b at *
 clear RM CC F
 have hqb : w7a.heap.size ≠ b := by omega
 have hq3 : w.heap.size + 3 ≤ w7a.heap.size := by omega
 generalize w7a.heap.size = q at *
 go_wp2_with (first
  | (refine wpList_load_row rfl 24 (.tmp 12) rfl q rfl 24 (gA (cols : Int) (rows : Int) (.slice (some ⟨b, 0, none⟩) n n)) G4.out _ U24.out rfl 3 S24.out rfl ?_))
 refine (RO.out b _).mono ?_
 rintro e w5 ⟨rfl, hb⟩
 replace F4 := Box'.mk (F4.out.below hb)
 replace G4 := Box'.mk (G4.out.below hb G4.out.lt)
 replace C4 := Box'.mk (C4.out.below hb C4.out.lt)
 clear hb RO
 go_wp2_with fail
 refine wp_region_growg 5 (by kernel_rfl) 59 rfl (by kernel_rfl) (fun wa wb => Below wa.heap.size wa wb) (fun wa => FrG w (gA (cols : Int) (rows : Int) v) s wa ∧ Row wa q 24 (gA (cols : Int) (rows : Int) (.slice (some ⟨b, 0, none⟩) n n)) ∧ RC wa b c []) (fun kc wa v => v = (match kc with
  | 0 => .slice (some ⟨b, cols * row * 15, none⟩) cols cols
  | 1 => .int .i64 (fr : Int)
  | 2 => .int .i64 (to : Int)
  | 3 => .slice (some ⟨b, x, none⟩) (to - fr) (cols - fr)
  | 4 => .agg (sA s)
  | _ => undef)) ?_ ?_ ?_ ?_ ?_ ?_
 ·intro i o' j b' hi hg wa v hC hV
  have hlt : i < 5 := by rcases Nat.lt_or_ge i 5 with q | q; exact q; rw [List.getElem?_eq_none (by simpa using q)] at hi; cases hi
  revert hi hg hV
  rcases (show i = 0 ∨ i = 1 ∨ i = 2 ∨ i = 3 ∨ i = 4 by omega) with rfl | rfl | rfl | rfl | rfl <;>
   (intro hi hg hV; simp only [tkS, List.getElem?_cons_zero, List.getElem?_cons_succ, Option.some.injEq] at hi; subst hi; first | (cases hg; exact hV) | (cases hg))
 ·rintro wa wb hb ⟨q1, q2, q3⟩; exact ⟨q1.below hb, q2.below hb q2.lt, q3.below hb q3.lt⟩
 ·exact fun kc v wa wb hC1 hb h => h
 ·exact ⟨F4.out.drew, G4.out.drew, C4.out.drew⟩
 ·refine ⟨?a0, ?a1, ?a2, ?a3, ?a4, trivial⟩
  all_goals intro f wq hC hd KK hK
  all_goals have cq0 : wq.cell? ⟨w.heap.size + 1, 0, none⟩ = some (.int .i64 s.fg) := hC.1.rs.cell 0
  all_goals have cq1 : wq.cell? ⟨w.heap.size + 1, 1, none⟩ = some (.int .i64 s.bg) := hC.1.rs.cell 1
  all_goals have cq2 : wq.cell? ⟨w.heap.size + 1, 2, none⟩ = some (.bool s.b1) := hC.1.rs.cell 2
  all_goals have cq3 : wq.cell? ⟨w.heap.size + 1, 3, none⟩ = some (.bool s.b2) := hC.1.rs.cell 3
  all_goals have cq4 : wq.cell? ⟨w.heap.size + 1, 4, none⟩ = some (.bool s.b3) := hC.1.rs.cell 4
  all_goals have cq5 : wq.cell? ⟨w.heap.size + 1, 5, none⟩ = some (.bool s.b4) := hC.1.rs.cell 5
  all_goals have cq6 : wq.cell? ⟨w.heap.size + 1, 6, none⟩ = some (.bool s.b5) := hC.1.rs.cell 6
  all_goals have cq7 : wq.cell? ⟨w.heap.size + 1, 7, none⟩ = some (.bool s.b7) := hC.1.rs.cell 7
  all_goals have cq8 : wq.cell? ⟨w.heap.size + 1, 8, none⟩ = some (.bool s.b8) := hC.1.rs.cell 8
  all_goals have cq9 : wq.cell? ⟨w.heap.size + 1, 9, none⟩ = some (.bool s.b9) := hC.1.rs.cell 9
  all_goals simp (disch := decide +kernel) only [tkS, tkZ, setAll, siB, stS, stZ, Nat.zero_add, Nat.reduceAdd, hd] at hK ⊢
  case a3 =>
   exact wp_val _ (slice_op 22 (.tmp 50) (some (.tmp 51)) (some (.tmp 52)) none rfl _ _ (CU.out b _)) (hK _ _ rfl bR)
  all_goals (skip; refine wp_of_quiet rfl ?_; go_big_quiet_step (fail); exact wpQuiet_nil (hK _ _ (rfl) bR))
 ·intro f wz hC hv
  simp (disch := decide) only [tkS, tkZ, List.drop_succ_cons, List.drop_zero, setAll, siB, stS, stZ, Nat.zero_add, Nat.reduceAdd, hv]
  clear hv
  have F5 := Box'.mk hC.1
  have G5 := Box'.mk hC.2.1
  have C5 := Box'.mk hC.2.2
  clear hC F4 G4 C4 CU
  go_wp2_with fail
  refine (FI.out b _ C5.out).mono ?_
  rintro e w6 ⟨⟨v6, rfl⟩, hr6, ht6⟩
  have C6 := Box'.mk hr6
  have F6 := Box'.mk (F5.out.tc ht6 hb3)
  have G6 := Box'.mk (ht6.row G5.out hqb)
  clear hr6 ht6 F5 G5 C5 FI
  go_wp2_with fail
  refine (ME.out b _ C6.out).mono ?_
  rintro e w9 ⟨⟨v9, rfl⟩, hr9, ht9⟩
  have C9 := Box'.mk hr9
  have F9 := Box'.mk (F6.out.tc ht9 hb3)
  have G9 := Box'.mk (ht9.row G6.out hqb)
  clear hr9 ht9 F6 G6 C6 ME
  go_wp2_with (first
   | (refine wpList_load_row rfl 24 (.tmp 12) rfl q rfl 24 (gA (cols : Int) (rows : Int) (.slice (some ⟨b, 0, none⟩) n n)) G9.out _ U24.out rfl 3 S24.out rfl ?_)
   | (refine wpList_store_row rfl 24 (.tmp 10) (.tmp 58) rfl (w.heap.size + 2) rfl (gA (cols : Int) (rows : Int) (.slice (some ⟨b, 0, none⟩) n n)) rfl 24 3 F9.out.rr S24.out rfl O.out ?_))
  exact bodyPost_ret (results_two rfl _ (w.heap.size + 2) rfl _ rfl _ _ (F9.out.rr.setRow _) rfl) rfl ⟨b, by rw [HN.out]; rfl, by omega, Row.setRowOther C9.out _ _ (by omega), below_setRow F9.out.be (by omega) _⟩
theorem shift_ok (cols rows : Nat) (v : Value) (c : List Cl) (row fr : Nat) (k : Int) (s : St) (w : World) (hv : Cls w.heap.size w v c) (hG : mayG (cols : Int) (rows : Int) c = true) (hS : mayS s = true) (h1 : row < rows) (h2 : fr < cols) :
  Calls Tryz.prog 174 #[.agg (gA (cols : Int) (rows : Int) v), .int .i64 (row : Int), .int .i64 (fr : Int), .int .i64 k, .agg (sA s)] w fun e w' => ∃ b, e = .returned (gOk (cols : Int) (rows : Int) (.slice (some ⟨b, 0, none⟩) c.length c.length)) ∧ w.heap.size ≤ b ∧ RC w' b (putRow c cols row (mnd (shF (rowF c cols row) fr k s))) [] ∧ Below w.heap.size w w' := by
 obtain ⟨cols', rows', ec, er, p1, p2, p3, p4, hl⟩ := mayG_dest hG
 obtain rfl : cols = cols' := by omega
 obtain rfl : rows = rows' := by omega
 have hle : cols * rows ≤ 512 * 512 := Nat.mul_le_mul p2 p4
 have hpos : 1 * 1 ≤ cols * rows := Nat.mul_le_mul p1 p3
 have MG : Box' (∀ wx, Below w.heap.size w wx → Calls Tryz.prog 53 #[.agg (gA (cols : Int) (rows : Int) v)] wx fun e w' => e = .returned (.bool (mayG (cols : Int) (rows : Int) c)) ∧ Below wx.heap.size wx w') := ⟨fun wx hb => gmay_any (cols : Int) (rows : Int) v c wx ((hv.below hb (Nat.le_refl _)).up hb.size)⟩
 rw [hG] at MG
 have MS := Box'.mk (mayStyle15_any s)
 rw [hS] at MS
 have AN : Box' (∀ wx, Below w.heap.size w wx → Calls Tryz.prog 186 #[.agg (gA (cols : Int) (rows : Int) v)] wx fun e w' => ∃ b, e = .returned (.agg (gA (cols : Int) (rows : Int) (.slice (some ⟨b, 0, none⟩) c.length c.length))) ∧ wx.heap.size ≤ b ∧ RC w' b c [] ∧ Below wx.heap.size wx w') := ⟨fun wx hb => another_any (cols : Int) (rows : Int) v c (by omega) (by omega) wx ((hv.below hb (Nat.le_refl _)).up hb.size)⟩
 have F := Box'.mk (FrG.begin w (gA (cols : Int) (rows : Int) v) s)
 have U24 := Box'.mk Tryz.underlying24
 have S24 := Box'.mk s24g
 have U26 := Box'.mk Tryz.underlying26
 have S26 := Box'.mk s24
 have hfit : cols * row + cols ≤ cols * rows := by have := Nat.mul_le_mul_left cols (show row + 1 ≤ rows by omega); rw [Nat.mul_add, Nat.mul_one] at this; exact this
 have RO : Box' (∀ b wx, Calls Tryz.prog 117 #[.agg (gA (cols : Int) (rows : Int) (.slice (some ⟨b, 0, none⟩) c.length c.length)), .int .i64 (row : Int)] wx fun e w' => e = .returned (.slice (some ⟨b, cols * row * 15, none⟩) cols cols) ∧ Below wx.heap.size wx w') := ⟨fun b wx => by
  have := rowOf_any cols row b 0 c.length c.length (rows : Int) p1 p2 (by omega) (by rw [Nat.mul_add, Nat.mul_one]; omega) wx
  rwa [Nat.zero_add] at this⟩
 have hrl : (rowF c cols row).length = cols := rowF_len c cols row (by rw [Nat.mul_comm row cols]; omega)
 have hFl : (shF (rowF c cols row) fr k s).length = cols := by rw [shF_len, hrl]
 have ME : Box' (∀ b wx, RC wx b (lay c (cols * row) (shF (rowF c cols row) fr k s)) [] → Calls Tryz.prog 144 #[.slice (some ⟨b, cols * row * 15, none⟩) cols cols] wx fun e w' => (∃ v, e = .returned v) ∧ RC w' b (putRow c cols row (mnd (shF (rowF c cols row) fr k s))) [] ∧ Tc b wx w') := ⟨fun b wx h => by
  rw [← lay_put c cols row _ (by rw [mnd_len]; exact hFl)]
  exact mend_any b (cols * row) cols cols c [] _ wx (by omega) (Nat.le_refl _) hFl (by omega) h⟩
 have IN2 := Box'.mk (isIn_any (row : Int) (rows : Int))
 rw [show inN (row : Int) (rows : Int) = true by unfold inN; simp; omega] at IN2
 have IN3 := Box'.mk (isIn_any (fr : Int) (cols : Int))
 rw [show inN (fr : Int) (cols : Int) = true by unfold inN; simp; omega] at IN3
 have CU := Box'.mk (fun b w => run_cutL b (cols * row * 15) cols cols fr (by omega) (Nat.le_refl _) w)
 rw [cutO_at (by omega), ← Nat.add_mul] at CU
 have hcf : ((cols - fr : Nat) : Int) = (cols : Int) - (fr : Int) := by omega
 have CL : Box' (∀ wx, Calls Tryz.prog 188 #[.int .i64 k, .int .i64 ((cols - fr : Nat) : Int)] wx fun e w' => e = .returned (.int .i64 (clF k ((cols - fr : Nat) : Int))) ∧ Below wx.heap.size wx w') := ⟨fun wx => (clamp_any k (cols - fr) (by omega) wx).mono fun e w' h => ⟨h.1, h.2 ▸ Below.refl _ _⟩⟩
 have hz1 : -((cols - fr : Nat) : Int) ≤ clF k ((cols - fr : Nat) : Int) := by unfold clF; omega
 have hz2 : clF k ((cols - fr : Nat) : Int) ≤ ((cols - fr : Nat) : Int) := by unfold clF; omega
 have PU : Box' (∀ b wx, RC wx b c [] → Calls Tryz.prog 187 #[.slice (some ⟨b, (cols * row + fr) * 15, none⟩) (cols - fr) (cols - fr), .int .i64 (clF k ((cols - fr : Nat) : Int)), .agg (sA s)] wx fun e w' => (∃ v, e = .returned v) ∧ RC w' b (lay c (cols * row) (shF (rowF c cols row) fr k s)) [] ∧ Tc b wx w') := ⟨fun b wx h => by
  have hdl : ((rowF c cols row).drop fr).length = cols - fr := by rw [List.length_drop, hrl]
  have := push_any b (cols * row + fr) (cols - fr) (cols - fr) _ c [] s wx hz1 hz2 (Nat.le_refl _) (by omega) h (by omega)
  rw [row_drop, lay_row c cols row fr _ (by rw [puF_len _ _ _ (by rw [hdl]; exact hz1) (by rw [hdl]; exact hz2), hdl]; omega) (by omega)] at this
  have e := shF_lay (rowF c cols row) fr k s (by omega)
  rw [hrl] at e
  rw [e] at this
  exact this⟩
 generalize clF k ((cols - fr : Nat) : Int) = z at *
 rw [hcf] at CL
 generalize hX : putRow c cols row (mnd (shF (rowF c cols row) fr k s)) = X at *
 clear hX hG hS hv ec er hl hle hpos hrl hFl hz1 hz2 hcf
 go_enter Tryz.func174, Tryz.ntmps174
 go_upto_region 1 with (fail)
 generalize (((w.alloc (.cells (gA (cols : Int) (rows : Int) v) 24)).alloc (.cells (sA s) 26)).alloc (.cells #[.int .i64 0, .int .i64 0, .slice none 0 0] 24)) = w1 at *
 go_wp2_with (first
  | (refine wpList_load_row rfl 24 (.tmp 5) rfl w.heap.size rfl 24 (gA (cols : Int) (rows : Int) v) F.out.rg _ U24.out rfl 3 S24.out rfl ?_))
 refine (MG.out _ F.out.be).mono ?_
 rintro e w2 ⟨rfl, hb⟩
 replace F := Box'.mk (F.out.below hb)
 clear hb
 obtain ⟨cs0, cs1, cs2, cs3, cs4, cs5, cs6, cs7, cs8, cs9⟩ := F.out.rs.s10
 have c0 : w2.cell? ⟨w.heap.size, 0, none⟩ = some (.int .i64 (cols : Int)) := F.out.rg.cell 0
 have c1 : w2.cell? ⟨w.heap.size, 1, none⟩ = some (.int .i64 (rows : Int)) := F.out.rg.cell 1
 go_wp2_with fail
 refine (MS.out _).mono ?_
 rintro e w3 ⟨rfl, hb⟩
 replace F := Box'.mk (F.out.below hb)
 clear hb
 clear c0 c1 cs0 cs1 cs2 cs3 cs4 cs5 cs6 cs7 cs8 cs9
 obtain ⟨cs0, cs1, cs2, cs3, cs4, cs5, cs6, cs7, cs8, cs9⟩ := F.out.rs.s10
 have c0 : w3.cell? ⟨w.heap.size, 0, none⟩ = some (.int .i64 (cols : Int)) := F.out.rg.cell 0
 have c1 : w3.cell? ⟨w.heap.size, 1, none⟩ = some (.int .i64 (rows : Int)) := F.out.rg.cell 1
 go_wp2_with fail
 refine (IN2.out _).mono ?_
 rintro e w4 ⟨rfl, rfl⟩
 go_wp2_with fail
 refine (IN3.out _).mono ?_
 rintro e w4 ⟨rfl, rfl⟩
 go_wp2_with (first
  | (refine wpList_load_row rfl 24 (.tmp 5) rfl w.heap.size rfl 24 (gA (cols : Int) (rows : Int) v) F.out.rg _ U24.out rfl 3 S24.out rfl ?_))
 refine (AN.out _ F.out.be).mono ?_
 rintro e w7a ⟨b, rfl, hb0, hrc, hb⟩
 have hb3 : w.heap.size + 3 ≤ b := Nat.le_trans F.out.sz hb0
 replace F := Box'.mk (F.out.below hb)
 have CC := Box'.mk hrc
 have hblt := hrc.lt
 clear hb hrc hb0 AN MG MS IN2 IN3
 clear c0 c1 cs0 cs1 cs2 cs3 cs4 cs5 cs6 cs7 cs8 cs9
 generalize hn : c.length = n at *
 have HN := Box'.mk hn
 clear hn
 have RM : Box' (Room (w7a.alloc (.cells #[.int .i64 0, .int .i64 0, .slice none 0 0] 24)) w7a.heap.size 24 3) := ⟨Room.new _ _ _ _ rfl⟩
 have G4 : Box' (Row ((w7a.alloc (.cells #[.int .i64 0, .int .i64 0, .slice none 0 0] 24)).setRow w7a.heap.size (gA (cols : Int) (rows : Int) (.slice (some ⟨b, 0, none⟩) n n))) w7a.heap.size 24 (gA (cols : Int) (rows : Int) (.slice (some ⟨b, 0, none⟩) n n))) := ⟨RM.out.setRow _⟩
 have C4 : Box' (RC ((w7a.alloc (.cells #[.int .i64 0, .int .i64 0, .slice none 0 0] 24)).setRow w7a.heap.size (gA (cols : Int) (rows : Int) (.slice (some ⟨b, 0, none⟩) n n))) b c []) := ⟨Row.setRowOther (Row.alloc CC.out _) _ _ (by omega)⟩
 have F4 : Box' (FrG w (gA (cols : Int) (rows : Int) v) s ((w7a.alloc (.cells #[.int .i64 0, .int .i64 0, .slice none 0 0] 24)).setRow w7a.heap.size (gA (cols : Int) (rows : Int) (.slice (some ⟨b, 0, none⟩) n n)))) := ⟨F.out.below (below_setRow (bR.alloc (Nat.le_refl _) _) (Nat.le_refl _) _)⟩
 have O := Box'.mk (gA_one (cols : Int) (rows : Int) (some ⟨b, 0, none⟩) n n)
 go_upto_region 4 with (first
  | (refine wpList_store_row rfl 24 (.tmp 12) (.tmp 38) rfl w7a.heap.size rfl (gA (cols : Int) (rows : Int) (.slice (some ⟨b, 0, none⟩) n n)) rfl 24 3 RM.out S24.out rfl O.out ?_))
 generalize ((w7a.alloc (.cells #[.int .i64 0, .int .i64 0, .slice none 0 0] 24)).setRow w7a.heap.size (gA (cols : Int) (rows : Int) (.slice (some ⟨b, 0, none⟩) n n))) = w7b at *
 clear RM CC F
 have hqb : w7a.heap.size ≠ b := by omega
 have hq3 : w.heap.size + 3 ≤ w7a.heap.size := by omega
 generalize w7a.heap.size = q at *
 go_wp2_with (first
  | (refine wpList_load_row rfl 24 (.tmp 12) rfl q rfl 24 (gA (cols : Int) (rows : Int) (.slice (some ⟨b, 0, none⟩) n n)) G4.out _ U24.out rfl 3 S24.out rfl ?_))
 refine (RO.out b _).mono ?_
 rintro e w5 ⟨rfl, hb⟩
 replace F4 := Box'.mk (F4.out.below hb)
 replace G4 := Box'.mk (G4.out.below hb G4.out.lt)
 replace C4 := Box'.mk (C4.out.below hb C4.out.lt)
 clear hb RO
 go_wp2_with fail
 refine wp_region_growg 10 (by kernel_rfl) 56 rfl (by kernel_rfl) (fun wa wb => Below wa.heap.size wa wb) (fun wa => FrG w (gA (cols : Int) (rows : Int) v) s wa ∧ Row wa q 24 (gA (cols : Int) (rows : Int) (.slice (some ⟨b, 0, none⟩) n n)) ∧ RC wa b c []) (fun kc wa v => v = (match kc with
  | 0 => .slice (some ⟨b, cols * row * 15, none⟩) cols cols
  | 1 => .int .i64 (fr : Int)
  | 2 => .slice (some ⟨b, (cols * row + fr) * 15, none⟩) (cols - fr) (cols - fr)
  | 3 => .int .i64 k
  | 4 => .pointer (some ⟨w.heap.size, 0, none⟩)
  | 5 => .int .i64 (cols : Int)
  | 6 => .int .i64 (fr : Int)
  | 7 => .int .i64 ((cols : Int) - (fr : Int))
  | 8 => .int .i64 z
  | 9 => .agg (sA s)
  | _ => undef)) ?_ ?_ ?_ ?_ ?_ ?_
 ·intro i o' j b' hi hg wa v hC hV
  have hlt : i < 10 := by rcases Nat.lt_or_ge i 10 with q | q; exact q; rw [List.getElem?_eq_none (by simpa using q)] at hi; cases hi
  revert hi hg hV
  rcases (show i = 0 ∨ i = 1 ∨ i = 2 ∨ i = 3 ∨ i = 4 ∨ i = 5 ∨ i = 6 ∨ i = 7 ∨ i = 8 ∨ i = 9 by omega) with rfl | rfl | rfl | rfl | rfl | rfl | rfl | rfl | rfl | rfl <;>
   (intro hi hg hV; simp only [tkS, List.getElem?_cons_zero, List.getElem?_cons_succ, Option.some.injEq] at hi; subst hi; first | (cases hg; exact hV) | (cases hg))
 ·rintro wa wb hb ⟨q1, q2, q3⟩; exact ⟨q1.below hb, q2.below hb q2.lt, q3.below hb q3.lt⟩
 ·exact fun kc v wa wb hC1 hb h => h
 ·exact ⟨F4.out.drew, G4.out.drew, C4.out.drew⟩
 ·refine ⟨?b0, ?b1, ?b2, ?b3, ?b4, ?b5, ?b6, ?b7, ?b8, ?b9, trivial⟩
  all_goals intro f wq hC hd KK hK
  all_goals have cq0 : wq.cell? ⟨w.heap.size, 0, none⟩ = some (.int .i64 (cols : Int)) := hC.1.rg.cell 0
  all_goals have cq1 : wq.cell? ⟨w.heap.size + 1, 0, none⟩ = some (.int .i64 s.fg) := hC.1.rs.cell 0
  all_goals have cq2 : wq.cell? ⟨w.heap.size + 1, 1, none⟩ = some (.int .i64 s.bg) := hC.1.rs.cell 1
  all_goals have cq3 : wq.cell? ⟨w.heap.size + 1, 2, none⟩ = some (.bool s.b1) := hC.1.rs.cell 2
  all_goals have cq4 : wq.cell? ⟨w.heap.size + 1, 3, none⟩ = some (.bool s.b2) := hC.1.rs.cell 3
  all_goals have cq5 : wq.cell? ⟨w.heap.size + 1, 4, none⟩ = some (.bool s.b3) := hC.1.rs.cell 4
  all_goals have cq6 : wq.cell? ⟨w.heap.size + 1, 5, none⟩ = some (.bool s.b4) := hC.1.rs.cell 5
  all_goals have cq7 : wq.cell? ⟨w.heap.size + 1, 6, none⟩ = some (.bool s.b5) := hC.1.rs.cell 6
  all_goals have cq8 : wq.cell? ⟨w.heap.size + 1, 7, none⟩ = some (.bool s.b7) := hC.1.rs.cell 7
  all_goals have cq9 : wq.cell? ⟨w.heap.size + 1, 8, none⟩ = some (.bool s.b8) := hC.1.rs.cell 8
  all_goals have cq10 : wq.cell? ⟨w.heap.size + 1, 9, none⟩ = some (.bool s.b9) := hC.1.rs.cell 9
  all_goals simp (disch := decide +kernel) only [tkS, tkZ, setAll, siB, stS, stZ, Nat.zero_add, Nat.reduceAdd, hd] at hK ⊢
  case b2 =>
   exact wp_val _ (slice_op 22 (.tmp 42) (some (.tmp 43)) none none rfl _ _ (CU.out b _)) (hK _ _ rfl bR)
  case b8 =>
   exact wp_call 188 #[.int .i64 k, .int .i64 ((cols : Int) - (fr : Int))] (by simp [go_sem]) _ _ (CL.out wq) (fun w' hb => hK _ _ rfl hb)
  all_goals (skip; refine wp_of_quiet rfl ?_; go_big_quiet_step (fail); exact wpQuiet_nil (hK _ _ (rfl) bR))
 ·intro f wz hC hv
  simp (disch := decide) only [tkS, tkZ, List.drop_succ_cons, List.drop_zero, setAll, siB, stS, stZ, Nat.zero_add, Nat.reduceAdd, hv]
  clear hv
  have F5 := Box'.mk hC.1
  have G5 := Box'.mk hC.2.1
  have C5 := Box'.mk hC.2.2
  clear hC F4 G4 C4 CU CL
  go_wp2_with fail
  refine (PU.out b _ C5.out).mono ?_
  rintro e w6 ⟨⟨v6, rfl⟩, hr6, ht6⟩
  have C6 := Box'.mk hr6
  have F6 := Box'.mk (F5.out.tc ht6 hb3)
  have G6 := Box'.mk (ht6.row G5.out hqb)
  clear hr6 ht6 F5 G5 C5 PU
  go_wp2_with fail
  refine (ME.out b _ C6.out).mono ?_
  rintro e w9 ⟨⟨v9, rfl⟩, hr9, ht9⟩
  have C9 := Box'.mk hr9
  have F9 := Box'.mk (F6.out.tc ht9 hb3)
  have G9 := Box'.mk (ht9.row G6.out hqb)
  clear hr9 ht9 F6 G6 C6 ME
  go_wp2_with (first
   | (refine wpList_load_row rfl 24 (.tmp 12) rfl q rfl 24 (gA (cols : Int) (rows : Int) (.slice (some ⟨b, 0, none⟩) n n)) G9.out _ U24.out rfl 3 S24.out rfl ?_)
   | (refine wpList_store_row rfl 24 (.tmp 10) (.tmp 55) rfl (w.heap.size + 2) rfl (gA (cols : Int) (rows : Int) (.slice (some ⟨b, 0, none⟩) n n)) rfl 24 3 F9.out.rr S24.out rfl O.out ?_))
  exact bodyPost_ret (results_two rfl _ (w.heap.size + 2) rfl _ rfl _ _ (F9.out.rr.setRow _) rfl) rfl ⟨b, by rw [HN.out]; rfl, by omega, Row.setRowOther C9.out _ _ (by omega), below_setRow F9.out.be (by omega) _⟩
section
variable {P : Program} {Q : Exit → Act → World → Prop}
end
/-- The lists are no longer than a machine can copy. -/
structure Bw (x : Sn) : Prop where
 g : x.g.c.length * 48 ≤ 140737488355328
 m : x.mn.c.length * 48 ≤ 140737488355328
 t : x.tabs.length ≤ 17592186044416
 l : x.title.length ≤ 35184372088832
/-- Where a list is empty its slice is nil or has a place. -/
structure Nl (x : Sn) (vt vm vl : Value) : Prop where
 m : x.mn.c = [] → vm = .slice none 0 0 ∨ ∃ ad k, vm = .slice (some ad) 0 k
 t : x.tabs = [] → vt = .slice none 0 0 ∨ ∃ ad k, vt = .slice (some ad) 0 k
 l : x.title = [] → vl = .slice none 0 0 ∨ ∃ ad k, vl = .slice (some ad) 0 k
end Go.Proofs.YtlekleeckcdcgaaGreat
