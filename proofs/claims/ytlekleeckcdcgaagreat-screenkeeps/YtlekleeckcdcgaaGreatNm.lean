/- Write. -/
import Derived.Test.YtlekleeckcdcgaaGreatNk
import Derived.Test.YtlekleeckcdcgaaGreatEq
namespace Go.Proofs.YtlekleeckcdcgaaGreat
open Go.RowKit Go.BigFrame
set_option linter.unusedVariables false
set_option linter.unusedSimpArgs false
set_option maxHeartbeats 16000000
set_option maxRecDepth 100000
theorem write_ok (cols rows : Nat) (v : Value) (c : List Cl) (row col : Nat) (s : St) (vl : Value) (l : List Cl) (w : World) (hv : Cls w.heap.size w v c) (hG : mayG (cols : Int) (rows : Int) c = true) (hS : mayS s = true) (hl0 : l.length ≤ 140737488355328) (hvl : Cls w.heap.size w vl l) (hL : l.all mayC = true) (h1 : row < rows) (h2 : col < cols) :
  Calls Tryz.prog 183 #[.agg (gA (cols : Int) (rows : Int) v), .int .i64 (row : Int), .int .i64 (col : Int), .agg (sA s), vl] w fun e w' => ∃ b, e = .returned (gOk (cols : Int) (rows : Int) (.slice (some ⟨b, 0, none⟩) c.length c.length)) ∧ w.heap.size ≤ b ∧ RC w' b (putRow c cols row (mnd (wrF (rowF c cols row) col l))) [] ∧ Below w.heap.size w w' := by
 obtain ⟨cols', rows', ec, er, p1, p2, p3, p4, hl⟩ := mayG_dest hG
 obtain rfl : cols = cols' := by omega
 obtain rfl : rows = rows' := by omega
 have hle : cols * rows ≤ 512 * 512 := Nat.mul_le_mul p2 p4
 have hpos : 1 * 1 ≤ cols * rows := Nat.mul_le_mul p1 p3
 have MG : Box' (∀ wx, Below w.heap.size w wx → Calls Tryz.prog 53 #[.agg (gA (cols : Int) (rows : Int) v)] wx fun e w' => e = .returned (.bool (mayG (cols : Int) (rows : Int) c)) ∧ Below wx.heap.size wx w') := ⟨fun wx hb => gmay_any (cols : Int) (rows : Int) v c wx ((hv.below hb (Nat.le_refl _)).up hb.size)⟩
 rw [hG] at MG
 have MS := Box'.mk (mayStyle15_any s)
 rw [hS] at MS
 have AN : Box' (∀ wx, Below w.heap.size w wx → Calls Tryz.prog 186 #[.agg (gA (cols : Int) (rows : Int) v)] wx fun e w' => ∃ b, e = .returned (.agg (gA (cols : Int) (rows : Int) (.slice (some ⟨b, 0, none⟩) c.length c.length))) ∧ wx.heap.size ≤ b ∧ RC w' b c [] ∧ Below wx.heap.size wx w') := ⟨fun wx hb => another_any (cols : Int) (rows : Int) v c (by omega) (by omega) wx ((hv.below hb (Nat.le_refl _)).up hb.size)⟩
 have F := Box'.mk (FrG.begin w (gA (cols : Int) (rows : Int) v) s)
 have U24 := Box'.mk Tryz.underlying24
 have S24 := Box'.mk s24g
 have U26 := Box'.mk Tryz.underlying26
 have S26 := Box'.mk s24
 have hfit : cols * row + cols ≤ cols * rows := by have := Nat.mul_le_mul_left cols (show row + 1 ≤ rows by omega); rw [Nat.mul_add, Nat.mul_one] at this; exact this
 have RO : Box' (∀ b wx, Calls Tryz.prog 117 #[.agg (gA (cols : Int) (rows : Int) (.slice (some ⟨b, 0, none⟩) c.length c.length)), .int .i64 (row : Int)] wx fun e w' => e = .returned (.slice (some ⟨b, cols * row * 15, none⟩) cols cols) ∧ Below wx.heap.size wx w') := ⟨fun b wx => by
  have := rowOf_any cols row b 0 c.length c.length (rows : Int) p1 p2 (by omega) (by rw [Nat.mul_add, Nat.mul_one]; omega) wx
  rwa [Nat.zero_add] at this⟩
 have hrl : (rowF c cols row).length = cols := rowF_len c cols row (by rw [Nat.mul_comm row cols]; omega)
 have hFl : (wrF (rowF c cols row) col l).length = cols := by rw [wrF_len _ _ _ (by omega), hrl]
 have ME : Box' (∀ b wx, RC wx b (lay c (cols * row) (wrF (rowF c cols row) col l)) [] → Calls Tryz.prog 144 #[.slice (some ⟨b, cols * row * 15, none⟩) cols cols] wx fun e w' => (∃ v, e = .returned v) ∧ RC w' b (putRow c cols row (mnd (wrF (rowF c cols row) col l))) [] ∧ Tc b wx w') := ⟨fun b wx h => by
  rw [← lay_put c cols row _ (by rw [mnd_len]; exact hFl)]
  exact mend_any b (cols * row) cols cols c [] _ wx (by omega) (Nat.le_refl _) hFl (by omega) h⟩
 have MC : Box' (∀ wx, Below w.heap.size w wx → Calls Tryz.prog 115 #[vl] wx fun e w' => e = .returned (.bool (l.all mayC)) ∧ Below wx.heap.size wx w') := ⟨fun wx hb => mayCells_any vl l hl0 wx ((hvl.below hb (Nat.le_refl _)).up hb.size)⟩
 rw [hL] at MC
 have IN3 := Box'.mk (isIn_any (row : Int) (rows : Int))
 rw [show inN (row : Int) (rows : Int) = true by unfold inN; simp; omega] at IN3
 have IN4 := Box'.mk (isIn_any (col : Int) (cols : Int))
 rw [show inN (col : Int) (cols : Int) = true by unfold inN; simp; omega] at IN4
 have CU := Box'.mk (fun b w => run_cutL b (cols * row * 15) cols cols col (by omega) (Nat.le_refl _) w)
 rw [cutO_at (by omega), ← Nat.add_mul] at CU
 have HML : Box' (∀ m, m = l.take (cols - col) → cols * row + col + m.length ≤ c.length) := ⟨fun m hm => by rw [hm, List.length_take]; omega⟩
 have HE : Box' (∀ m, m = l.take (cols - col) → lay c (cols * row + col) m = lay c (cols * row) (wrF (rowF c cols row) col l)) := ⟨fun m hm => by
  have hm2 : m.length ≤ cols - col := by rw [hm, List.length_take]; omega
  rw [lay_row c cols row col m (by omega) (by omega), ← wrF_lay (rowF c cols row) col l (by omega), hrl, hm]⟩
 have VL : Box' (∀ wx, Below w.heap.size w wx → Cls w.heap.size wx vl l) := ⟨fun wx hb => hvl.below hb (Nat.le_refl _)⟩
 have SV : Box' (∃ al cl, vl = .slice al l.length cl) := ⟨by obtain ⟨al, cl, e, _⟩ := hvl; exact ⟨al, cl, e⟩⟩
 obtain ⟨al, cl, rfl⟩ := SV.out
 generalize hX : putRow c cols row (mnd (wrF (rowF c cols row) col l)) = X at *
 clear hX hG hS hL hv hvl ec er hl hle hpos hrl hFl SV
 go_enter Tryz.func183, Tryz.ntmps183
 go_upto_region 1 with (fail)
 generalize (((w.alloc (.cells (gA (cols : Int) (rows : Int) v) 24)).alloc (.cells (sA s) 26)).alloc (.cells #[.int .i64 0, .int .i64 0, .slice none 0 0] 24)) = w1 at *
 go_wp2_with (first
  | (refine wpList_load_row rfl 24 (.tmp 5) rfl w.heap.size rfl 24 (gA (cols : Int) (rows : Int) v) F.out.rg _ U24.out rfl 3 S24.out rfl ?_))
 refine (MG.out _ F.out.be).mono ?_
 rintro e w2 ⟨rfl, hb⟩
 replace F := Box'.mk (F.out.below hb)
 clear hb
 obtain ⟨cs0, cs1, cs2, cs3, cs4, cs5, cs6, cs7, cs8, cs9⟩ := F.out.rs.s10
 have c0 : w2.cell? ⟨w.heap.size, 0, none⟩ = some (.int .i64 (cols : Int)) := F.out.rg.cell 0
 have c1 : w2.cell? ⟨w.heap.size, 1, none⟩ = some (.int .i64 (rows : Int)) := F.out.rg.cell 1
 go_wp2_with fail
 refine (MS.out _).mono ?_
 rintro e w3 ⟨rfl, hb⟩
 replace F := Box'.mk (F.out.below hb)
 clear hb
 clear c0 c1 cs0 cs1 cs2 cs3 cs4 cs5 cs6 cs7 cs8 cs9
 obtain ⟨cs0, cs1, cs2, cs3, cs4, cs5, cs6, cs7, cs8, cs9⟩ := F.out.rs.s10
 have c0 : w3.cell? ⟨w.heap.size, 0, none⟩ = some (.int .i64 (cols : Int)) := F.out.rg.cell 0
 have c1 : w3.cell? ⟨w.heap.size, 1, none⟩ = some (.int .i64 (rows : Int)) := F.out.rg.cell 1
 go_wp2_with fail
 refine (MC.out _ F.out.be).mono ?_
 rintro e w4 ⟨rfl, hb⟩
 replace F := Box'.mk (F.out.below hb)
 clear hb
 clear c0 c1 cs0 cs1 cs2 cs3 cs4 cs5 cs6 cs7 cs8 cs9
 obtain ⟨cs0, cs1, cs2, cs3, cs4, cs5, cs6, cs7, cs8, cs9⟩ := F.out.rs.s10
 have c0 : w4.cell? ⟨w.heap.size, 0, none⟩ = some (.int .i64 (cols : Int)) := F.out.rg.cell 0
 have c1 : w4.cell? ⟨w.heap.size, 1, none⟩ = some (.int .i64 (rows : Int)) := F.out.rg.cell 1
 go_wp2_with fail
 refine (IN3.out _).mono ?_
 rintro e w5 ⟨rfl, rfl⟩
 go_wp2_with fail
 refine (IN4.out _).mono ?_
 rintro e w5 ⟨rfl, rfl⟩
 go_wp2_with (first
  | (refine wpList_load_row rfl 24 (.tmp 5) rfl w.heap.size rfl 24 (gA (cols : Int) (rows : Int) v) F.out.rg _ U24.out rfl 3 S24.out rfl ?_))
 refine (AN.out _ F.out.be).mono ?_
 rintro e w7a ⟨b, rfl, hb0, hrc, hb⟩
 have hb3 : w.heap.size + 3 ≤ b := Nat.le_trans F.out.sz hb0
 replace F := Box'.mk (F.out.below hb)
 have CC := Box'.mk hrc
 have hblt := hrc.lt
 clear hb hrc hb0 AN MG MS MC IN3 IN4
 clear c0 c1 cs0 cs1 cs2 cs3 cs4 cs5 cs6 cs7 cs8 cs9
 generalize hn : c.length = n at *
 have HN := Box'.mk hn
 clear hn
 have RM : Box' (Room (w7a.alloc (.cells #[.int .i64 0, .int .i64 0, .slice none 0 0] 24)) w7a.heap.size 24 3) := ⟨Room.new _ _ _ _ rfl⟩
 have G4 : Box' (Row ((w7a.alloc (.cells #[.int .i64 0, .int .i64 0, .slice none 0 0] 24)).setRow w7a.heap.size (gA (cols : Int) (rows : Int) (.slice (some ⟨b, 0, none⟩) n n))) w7a.heap.size 24 (gA (cols : Int) (rows : Int) (.slice (some ⟨b, 0, none⟩) n n))) := ⟨RM.out.setRow _⟩
 have C4 : Box' (RC ((w7a.alloc (.cells #[.int .i64 0, .int .i64 0, .slice none 0 0] 24)).setRow w7a.heap.size (gA (cols : Int) (rows : Int) (.slice (some ⟨b, 0, none⟩) n n))) b c []) := ⟨Row.setRowOther (Row.alloc CC.out _) _ _ (by omega)⟩
 have F4 : Box' (FrG w (gA (cols : Int) (rows : Int) v) s ((w7a.alloc (.cells #[.int .i64 0, .int .i64 0, .slice none 0 0] 24)).setRow w7a.heap.size (gA (cols : Int) (rows : Int) (.slice (some ⟨b, 0, none⟩) n n)))) := ⟨F.out.below (below_setRow (bR.alloc (Nat.le_refl _) _) (Nat.le_refl _) _)⟩
 have O := Box'.mk (gA_one (cols : Int) (rows : Int) (some ⟨b, 0, none⟩) n n)
 go_upto_region 4 with (first
  | (refine wpList_store_row rfl 24 (.tmp 12) (.tmp 43) rfl w7a.heap.size rfl (gA (cols : Int) (rows : Int) (.slice (some ⟨b, 0, none⟩) n n)) rfl 24 3 RM.out S24.out rfl O.out ?_))
 generalize ((w7a.alloc (.cells #[.int .i64 0, .int .i64 0, .slice none 0 0] 24)).setRow w7a.heap.size (gA (cols : Int) (rows : Int) (.slice (some ⟨b, 0, none⟩) n n))) = w7b at *
 clear RM CC F
 have hqb : w7a.heap.size ≠ b := by omega
 have hq3 : w.heap.size + 3 ≤ w7a.heap.size := by omega
 generalize w7a.heap.size = q at *
 go_wp2_with (first
  | (refine wpList_load_row rfl 24 (.tmp 12) rfl q rfl 24 (gA (cols : Int) (rows : Int) (.slice (some ⟨b, 0, none⟩) n n)) G4.out _ U24.out rfl 3 S24.out rfl ?_))
 refine (RO.out b _).mono ?_
 rintro e w5 ⟨rfl, hb⟩
 replace F4 := Box'.mk (F4.out.below hb)
 replace G4 := Box'.mk (G4.out.below hb G4.out.lt)
 replace C4 := Box'.mk (C4.out.below hb C4.out.lt)
 clear hb RO
 have BE := Box'.mk (VL.out _ F4.out.be)
 go_upto_region 6 with (first
  | (refine wpList_slice rfl 22 (.tmp 47) (some (.tmp 48)) none none rfl _ (CU.out b _) ?_)
  | (refine wpList_copyA rfl (.tmp 49) (.tmp 50) rfl b ((cols * row + col) * 15) (cols * row + col) (cols - col) (cols - col) (.slice al l.length cl) w.heap.size c l (l.take (cols - col)) [] rfl rfl BE.out C4.out rfl (.inr rfl) (by rw [HN.out]; exact HML.out _ rfl) ?_; intro u6 w6 W6))
 rw [HE.out _ rfl] at W6
 have C6 := Box'.mk W6.out.1
 have F6 := Box'.mk (F4.out.tc W6.out.2 hb3)
 have G6 := Box'.mk (W6.out.2.row G4.out hqb)
 clear W6 C4 F4 G4 BE CU VL HE HML
 go_wp2_with fail
 refine (ME.out b _ C6.out).mono ?_
 rintro e w9 ⟨⟨v9, rfl⟩, hr9, ht9⟩
 have C9 := Box'.mk hr9
 have F9 := Box'.mk (F6.out.tc ht9 hb3)
 have G9 := Box'.mk (ht9.row G6.out hqb)
 clear hr9 ht9 F6 G6 C6 ME
 go_wp2_with (first
  | (refine wpList_load_row rfl 24 (.tmp 12) rfl q rfl 24 (gA (cols : Int) (rows : Int) (.slice (some ⟨b, 0, none⟩) n n)) G9.out _ U24.out rfl 3 S24.out rfl ?_)
  | (refine wpList_store_row rfl 24 (.tmp 10) (.tmp 54) rfl (w.heap.size + 2) rfl (gA (cols : Int) (rows : Int) (.slice (some ⟨b, 0, none⟩) n n)) rfl 24 3 F9.out.rr S24.out rfl O.out ?_))
 exact bodyPost_ret (results_two rfl _ (w.heap.size + 2) rfl _ rfl _ _ (F9.out.rr.setRow _) rfl) rfl ⟨b, by rw [HN.out]; rfl, by omega, Row.setRowOther C9.out _ _ (by omega), below_setRow F9.out.be (by omega) _⟩
end Go.Proofs.YtlekleeckcdcgaaGreat
