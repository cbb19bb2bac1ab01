/- Scroll. -/
import Derived.Test.YtnbonlkmadmpcaaMz
namespace Go.Proofs.Ytnbonlkmadmpcaa
open Go.RowKit Go.BigFrame
set_option linter.unusedVariables false
set_option linter.unusedSimpArgs false
set_option maxRecDepth 100000 in
set_option maxHeartbeats 16000000 in
theorem scroll_ok (cols rows : Nat) (v : Value) (c : List Cl) (top bot : Nat) (k : Int) (s : St) (w : World) (hv : Cls w.heap.size w v c) (hG : mayG (cols : Int) (rows : Int) c = true) (hS : mayS s = true) (h1 : top ≤ bot) (h2 : bot < rows) :
  Calls Try.prog 16 #[.agg (gA (cols : Int) (rows : Int) v), .int .i64 (top : Int), .int .i64 (bot : Int), .int .i64 k, .agg (sA s)] w fun e w' => ∃ b, e = .returned (gOk (cols : Int) (rows : Int) (.slice (some ⟨b, 0, none⟩) c.length c.length)) ∧ w.heap.size ≤ b ∧ RC w' b (scF c cols rows top bot k s) [] ∧ Below w.heap.size w w' := by
 obtain ⟨cols', rows', ec, er, p1, p2, p3, p4, hl⟩ := mayG_dest hG
 obtain rfl : cols = cols' := by omega
 obtain rfl : rows = rows' := by omega
 have hle : cols * rows ≤ 512 * 512 := Nat.mul_le_mul p2 p4
 have hpos : 1 * 1 ≤ cols * rows := Nat.mul_le_mul p1 p3
 have MG : Box' (∀ wx, Below w.heap.size w wx → Calls Try.prog 20 #[.agg (gA (cols : Int) (rows : Int) v)] wx fun e w' => e = .returned (.bool (mayG (cols : Int) (rows : Int) c)) ∧ Below wx.heap.size wx w') := ⟨fun wx hb => gmay_any (cols : Int) (rows : Int) v c wx ((hv.below hb (Nat.le_refl _)).up hb.size)⟩
 rw [hG] at MG
 have MS := Box'.mk (mayStyle15_any s)
 rw [hS] at MS
 have AN : Box' (∀ wx, Below w.heap.size w wx → Calls Try.prog 34 #[.agg (gA (cols : Int) (rows : Int) v)] wx fun e w' => ∃ b, e = .returned (.agg (gA (cols : Int) (rows : Int) (.slice (some ⟨b, 0, none⟩) c.length c.length))) ∧ wx.heap.size ≤ b ∧ RC w' b c [] ∧ Below wx.heap.size wx w') := ⟨fun wx hb => another_any (cols : Int) (rows : Int) v c (by omega) (by omega) wx ((hv.below hb (Nat.le_refl _)).up hb.size)⟩
 have F := Box'.mk (FrG.begin w (gA (cols : Int) (rows : Int) v) s)
 have U24 := Box'.mk Try.underlying24
 have S24 := Box'.mk s24g
 have U26 := Box'.mk Try.underlying26
 have S26 := Box'.mk s24
 have hcnt : ((bot - top + 1 : Nat) : Int) = (bot : Int) - (top : Int) + 1 := by omega
 have hcols : cols * (top + (bot - top + 1)) ≤ cols * rows := Nat.mul_le_mul_left _ (by omega)
 have RO : Box' (∀ b wx, Calls Try.prog 44 #[.agg (gA (cols : Int) (rows : Int) (.slice (some ⟨b, 0, none⟩) c.length c.length)), .int .i64 (top : Int), .int .i64 ((bot - top + 1 : Nat) : Int)] wx fun e w' => e = .returned (.slice (some ⟨b, cols * top * 15, none⟩) (cols * (bot - top + 1)) (cols * (bot - top + 1))) ∧ Below wx.heap.size wx w') := ⟨fun b wx => by
  have := rowsOf_any cols top (bot - top + 1) b 0 c.length c.length (rows : Int) p1 p2 (by omega) (by omega) (by omega) wx
  rwa [Nat.zero_add] at this⟩
 have CL : Box' (∀ wx, Calls Try.prog 43 #[.int .i64 k, .int .i64 ((bot - top + 1 : Nat) : Int)] wx fun e w' => e = .returned (.int .i64 (clF k ((bot - top + 1 : Nat) : Int))) ∧ Below wx.heap.size wx w') := ⟨fun wx => (clamp_any k (bot - top + 1) (by omega) wx).mono fun e w' h => ⟨h.1, h.2 ▸ Below.refl _ _⟩⟩
 have EQ := Box'.mk (scroll_eq c cols rows top bot k (clF k ((bot - top + 1 : Nat) : Int)) s p1 hl h1 h2 rfl)
 have hz1 : -((bot - top + 1 : Nat) : Int) ≤ clF k ((bot - top + 1 : Nat) : Int) := by unfold clF; omega
 have hz2 : clF k ((bot - top + 1 : Nat) : Int) ≤ ((bot - top + 1 : Nat) : Int) := by unfold clF; omega
 have PU : Box' (∀ b wx, RC wx b c [] → Calls Try.prog 42 #[.slice (some ⟨b, cols * top * 15, none⟩) (cols * (bot - top + 1)) (cols * (bot - top + 1)), .int .i64 (-clF k ((bot - top + 1 : Nat) : Int) * (cols : Int)), .agg (sA s)] wx fun e w' => (∃ v, e = .returned v) ∧ RC w' b (scF c cols rows top bot k s) [] ∧ Tc b wx w') := ⟨fun b wx h => by
  rw [← EQ.out]
  have hfit : cols * top + cols * (bot - top + 1) ≤ c.length := by rw [hl, ← Nat.mul_add]; exact hcols
  refine push_any b (cols * top) (cols * (bot - top + 1)) (cols * (bot - top + 1)) _ c [] s wx ?_ ?_ (Nat.le_refl _) hfit h (by omega)
  ·rw [Int.natCast_mul, Int.mul_comm (cols : Int), ← Int.neg_mul]
   exact Int.mul_le_mul_of_nonneg_right (by omega) (by omega)
  ·rw [Int.natCast_mul, Int.mul_comm (cols : Int)]
   exact Int.mul_le_mul_of_nonneg_right (by omega) (by omega)⟩
 have hm1 : -262144 ≤ -clF k ((bot - top + 1 : Nat) : Int) * (cols : Int) := by
  have h5 := Int.mul_le_mul_of_nonneg_right (show -512 ≤ -clF k ((bot - top + 1 : Nat) : Int) by omega) (show (0 : Int) ≤ (cols : Int) by omega)
  omega
 have hm2 : -clF k ((bot - top + 1 : Nat) : Int) * (cols : Int) ≤ 262144 := by
  have h5 := Int.mul_le_mul_of_nonneg_right (show -clF k ((bot - top + 1 : Nat) : Int) ≤ 512 by omega) (show (0 : Int) ≤ (cols : Int) by omega)
  omega
 have hz3 : -512 ≤ clF k ((bot - top + 1 : Nat) : Int) := by omega
 have hz4 : clF k ((bot - top + 1 : Nat) : Int) ≤ 512 := by omega
 generalize clF k ((bot - top + 1 : Nat) : Int) = z at *
 rw [hcnt] at RO CL
 generalize scF c cols rows top bot k s = C' at *
 generalize cols * (bot - top + 1) = m at *
 generalize cols * top = o at *
 clear hG hS hv ec er hl hle hpos EQ hcnt hcols hz1 hz2
 have h1' : (top : Int) ≤ (bot : Int) := by omega
 have h2' : (bot : Int) < (rows : Int) := by omega
 have h0' : (0 : Int) ≤ (top : Int) := by omega
 go_enter Try.func16, Try.ntmps16
 go_upto_region 1 with (fail)
 generalize (((w.alloc (.cells (gA (cols : Int) (rows : Int) v) 24)).alloc (.cells (sA s) 26)).alloc (.cells #[.int .i64 0, .int .i64 0, .slice none 0 0] 24)) = w1 at *
 go_wp2_with (first
  | (refine wpList_load_row rfl 24 (.tmp 5) rfl w.heap.size rfl 24 (gA (cols : Int) (rows : Int) v) F.out.rg _ U24.out rfl 3 S24.out rfl ?_))
 refine (MG.out _ F.out.be).mono ?_
 rintro e w2 ⟨rfl, hb⟩
 replace F := Box'.mk (F.out.below hb)
 clear hb
 have cs0 : w2.cell? ⟨w.heap.size + 1, 0, none⟩ = some (.int .i64 s.fg) := F.out.rs.cell 0
 have cs1 : w2.cell? ⟨w.heap.size + 1, 1, none⟩ = some (.int .i64 s.bg) := F.out.rs.cell 1
 have cs2 : w2.cell? ⟨w.heap.size + 1, 2, none⟩ = some (.bool s.b1) := F.out.rs.cell 2
 have cs3 : w2.cell? ⟨w.heap.size + 1, 3, none⟩ = some (.bool s.b2) := F.out.rs.cell 3
 have cs4 : w2.cell? ⟨w.heap.size + 1, 4, none⟩ = some (.bool s.b3) := F.out.rs.cell 4
 have cs5 : w2.cell? ⟨w.heap.size + 1, 5, none⟩ = some (.bool s.b4) := F.out.rs.cell 5
 have cs6 : w2.cell? ⟨w.heap.size + 1, 6, none⟩ = some (.bool s.b5) := F.out.rs.cell 6
 have cs7 : w2.cell? ⟨w.heap.size + 1, 7, none⟩ = some (.bool s.b7) := F.out.rs.cell 7
 have cs8 : w2.cell? ⟨w.heap.size + 1, 8, none⟩ = some (.bool s.b8) := F.out.rs.cell 8
 have cs9 : w2.cell? ⟨w.heap.size + 1, 9, none⟩ = some (.bool s.b9) := F.out.rs.cell 9
 have c0 : w2.cell? ⟨w.heap.size, 0, none⟩ = some (.int .i64 (cols : Int)) := F.out.rg.cell 0
 have c1 : w2.cell? ⟨w.heap.size, 1, none⟩ = some (.int .i64 (rows : Int)) := F.out.rg.cell 1
 go_wp2_with fail
 refine (MS.out _).mono ?_
 rintro e w3 ⟨rfl, hb⟩
 replace F := Box'.mk (F.out.below hb)
 clear hb
 clear c0 c1 cs0 cs1 cs2 cs3 cs4 cs5 cs6 cs7 cs8 cs9
 have cs0 : w3.cell? ⟨w.heap.size + 1, 0, none⟩ = some (.int .i64 s.fg) := F.out.rs.cell 0
 have cs1 : w3.cell? ⟨w.heap.size + 1, 1, none⟩ = some (.int .i64 s.bg) := F.out.rs.cell 1
 have cs2 : w3.cell? ⟨w.heap.size + 1, 2, none⟩ = some (.bool s.b1) := F.out.rs.cell 2
 have cs3 : w3.cell? ⟨w.heap.size + 1, 3, none⟩ = some (.bool s.b2) := F.out.rs.cell 3
 have cs4 : w3.cell? ⟨w.heap.size + 1, 4, none⟩ = some (.bool s.b3) := F.out.rs.cell 4
 have cs5 : w3.cell? ⟨w.heap.size + 1, 5, none⟩ = some (.bool s.b4) := F.out.rs.cell 5
 have cs6 : w3.cell? ⟨w.heap.size + 1, 6, none⟩ = some (.bool s.b5) := F.out.rs.cell 6
 have cs7 : w3.cell? ⟨w.heap.size + 1, 7, none⟩ = some (.bool s.b7) := F.out.rs.cell 7
 have cs8 : w3.cell? ⟨w.heap.size + 1, 8, none⟩ = some (.bool s.b8) := F.out.rs.cell 8
 have cs9 : w3.cell? ⟨w.heap.size + 1, 9, none⟩ = some (.bool s.b9) := F.out.rs.cell 9
 have c0 : w3.cell? ⟨w.heap.size, 0, none⟩ = some (.int .i64 (cols : Int)) := F.out.rg.cell 0
 have c1 : w3.cell? ⟨w.heap.size, 1, none⟩ = some (.int .i64 (rows : Int)) := F.out.rg.cell 1
 go_wp2_with (first
  | (refine wpList_load_row rfl 24 (.tmp 5) rfl w.heap.size rfl 24 (gA (cols : Int) (rows : Int) v) F.out.rg _ U24.out rfl 3 S24.out rfl ?_))
 refine (AN.out _ F.out.be).mono ?_
 rintro e w4a ⟨b, rfl, hb0, hrc, hb⟩
 have hb3 : w.heap.size + 3 ≤ b := Nat.le_trans F.out.sz hb0
 replace F := Box'.mk (F.out.below hb)
 have CC := Box'.mk hrc
 have hblt := hrc.lt
 clear hb hrc hb0 AN MG MS
 clear c0 c1 cs0 cs1 cs2 cs3 cs4 cs5 cs6 cs7 cs8 cs9
 generalize hn : c.length = n at *
 have HN := Box'.mk hn
 clear hn
 have RM : Box' (Room (w4a.alloc (.cells #[.int .i64 0, .int .i64 0, .slice none 0 0] 24)) w4a.heap.size 24 3) := ⟨Room.new _ _ _ _ rfl⟩
 have G4 : Box' (Row ((w4a.alloc (.cells #[.int .i64 0, .int .i64 0, .slice none 0 0] 24)).setRow w4a.heap.size (gA (cols : Int) (rows : Int) (.slice (some ⟨b, 0, none⟩) n n))) w4a.heap.size 24 (gA (cols : Int) (rows : Int) (.slice (some ⟨b, 0, none⟩) n n))) := ⟨RM.out.setRow _⟩
 have C4 : Box' (RC ((w4a.alloc (.cells #[.int .i64 0, .int .i64 0, .slice none 0 0] 24)).setRow w4a.heap.size (gA (cols : Int) (rows : Int) (.slice (some ⟨b, 0, none⟩) n n))) b c []) := ⟨Row.setRowOther (Row.alloc CC.out _) _ _ (by omega)⟩
 have F4 : Box' (FrG w (gA (cols : Int) (rows : Int) v) s ((w4a.alloc (.cells #[.int .i64 0, .int .i64 0, .slice none 0 0] 24)).setRow w4a.heap.size (gA (cols : Int) (rows : Int) (.slice (some ⟨b, 0, none⟩) n n)))) := ⟨F.out.below (below_setRow (bR.alloc (Nat.le_refl _) _) (Nat.le_refl _) _)⟩
 have O := Box'.mk (gA_one (cols : Int) (rows : Int) (some ⟨b, 0, none⟩) n n)
 go_upto_region 4 with (first
  | (refine wpList_store_row rfl 24 (.tmp 12) (.tmp 39) rfl w4a.heap.size rfl (gA (cols : Int) (rows : Int) (.slice (some ⟨b, 0, none⟩) n n)) rfl 24 3 RM.out S24.out rfl O.out ?_))
 generalize ((w4a.alloc (.cells #[.int .i64 0, .int .i64 0, .slice none 0 0] 24)).setRow w4a.heap.size (gA (cols : Int) (rows : Int) (.slice (some ⟨b, 0, none⟩) n n))) = w4b at *
 clear RM CC F
 have hqb : w4a.heap.size ≠ b := by omega
 have hq3 : w.heap.size + 3 ≤ w4a.heap.size := by omega
 generalize w4a.heap.size = q at *
 go_wp2_with fail
 refine wp_region_growg 12 (by kernel_rfl) 58 rfl (by kernel_rfl) (fun wa wb => Below wa.heap.size wa wb) (fun wa => FrG w (gA (cols : Int) (rows : Int) v) s wa ∧ Row wa q 24 (gA (cols : Int) (rows : Int) (.slice (some ⟨b, 0, none⟩) n n)) ∧ RC wa b c []) (fun kc wa v => match kc with
  | 0 => v = .agg (gA (cols : Int) (rows : Int) (.slice (some ⟨b, 0, none⟩) n n))
  | 1 => v = .int .i64 (top : Int)
  | 2 => v = .int .i64 ((bot : Int) - (top : Int) + 1)
  | 3 => v = .slice (some ⟨b, o * 15, none⟩) m m
  | 4 => v = .int .i64 k
  | 5 => v = .int .i64 ((bot : Int) - (top : Int) + 1)
  | 6 => v = .int .i64 z
  | 7 => v = .int .i64 (-z)
  | 8 => v = .pointer (some ⟨w.heap.size, 0, none⟩)
  | 9 => v = .int .i64 (cols : Int)
  | 10 => v = .int .i64 (-z * (cols : Int))
  | 11 => v = .agg (sA s)
  | _ => True) ?_ ?_ ?_ ?_ ?_ ?_
 ·intro i o' j b' hi hg wa v hC hV
  have hlt : i < 12 := by rcases Nat.lt_or_ge i 12 with q | q; exact q; rw [List.getElem?_eq_none (by simpa using q)] at hi; cases hi
  revert hi hg hV
  rcases (show i = 0 ∨ i = 1 ∨ i = 2 ∨ i = 3 ∨ i = 4 ∨ i = 5 ∨ i = 6 ∨ i = 7 ∨ i = 8 ∨ i = 9 ∨ i = 10 ∨ i = 11 by omega) with rfl | rfl | rfl | rfl | rfl | rfl | rfl | rfl | rfl | rfl | rfl | rfl <;>
   (intro hi hg hV; simp only [tkS, List.getElem?_cons_zero, List.getElem?_cons_succ, Option.some.injEq] at hi; subst hi; first | (cases hg; exact hV) | (cases hg))
 ·rintro wa wb hb ⟨q1, q2, q3⟩; exact ⟨q1.below hb, q2.below hb q2.lt, q3.below hb q3.lt⟩
 ·intro kc v wa wb hC1 hb h
  match kc, h with
  | 0, h => exact h
  | 1, h => exact h
  | 2, h => exact h
  | 3, h => exact h
  | 4, h => exact h
  | 5, h => exact h
  | 6, h => exact h
  | 7, h => exact h
  | 8, h => exact h
  | 9, h => exact h
  | 10, h => exact h
  | 11, h => exact h
  | kc + 12, h => trivial
 ·exact ⟨F4.out.drew, G4.out.drew, C4.out.drew⟩
 ·refine ⟨?_, ?_, ?_, ?_, ?_, ?_, ?_, ?_, ?_, ?_, ?_, ?_, trivial⟩
  ·intro f wq hC hd KK hK
   clear hd
   simp only [tkS, tkZ, setAll, siB, stS, stZ, Nat.zero_add, Nat.reduceAdd] at hK ⊢
   exact wp_load_row 24 (.tmp 12) rfl q rfl 24 (gA (cols : Int) (rows : Int) (.slice (some ⟨b, 0, none⟩) n n)) hC.2.1 _ U24.out rfl 3 S24.out rfl (hK _ _ rfl bR)
  ·intro f wq hC hd KK hK
   clear hd
   simp only [tkS, tkZ, setAll, siB, stS, stZ, Nat.zero_add, Nat.reduceAdd] at hK ⊢
   refine wp_of_quiet rfl ?_
   go_big_quiet_step (fail)
   exact wpQuiet_nil (hK _ _ (rfl) bR)
  ·intro f wq hC hd KK hK
   clear hd
   simp only [tkS, tkZ, setAll, siB, stS, stZ, Nat.zero_add, Nat.reduceAdd] at hK ⊢
   refine wp_of_quiet rfl ?_
   go_big_quiet_step (fail)
   exact wpQuiet_nil (hK _ _ (rfl) bR)
  ·intro f wq hC hd KK hK
   have g0 : f 0 = .agg (gA (cols : Int) (rows : Int) (.slice (some ⟨b, 0, none⟩) n n)) := hd 0 (by kernel_rfl)
   have g1 : f 1 = .int .i64 (top : Int) := hd 1 (by kernel_rfl)
   have g2 : f 2 = .int .i64 ((bot : Int) - (top : Int) + 1) := hd 2 (by kernel_rfl)
   clear hd
   simp only [tkS, tkZ, setAll, siB, stS, stZ, Nat.zero_add, Nat.reduceAdd, g0, g1, g2] at hK ⊢
   exact wp_call 44 #[.agg (gA (cols : Int) (rows : Int) (.slice (some ⟨b, 0, none⟩) n n)), .int .i64 (top : Int), .int .i64 ((bot : Int) - (top : Int) + 1)] (by simp [go_sem]) _ _ (RO.out b wq) (fun w' hb => hK _ _ rfl hb)
  ·intro f wq hC hd KK hK
   clear hd
   simp only [tkS, tkZ, setAll, siB, stS, stZ, Nat.zero_add, Nat.reduceAdd] at hK ⊢
   refine wp_of_quiet rfl ?_
   go_big_quiet_step (fail)
   exact wpQuiet_nil (hK _ _ (rfl) bR)
  ·intro f wq hC hd KK hK
   clear hd
   simp only [tkS, tkZ, setAll, siB, stS, stZ, Nat.zero_add, Nat.reduceAdd] at hK ⊢
   refine wp_of_quiet rfl ?_
   go_big_quiet_step (fail)
   exact wpQuiet_nil (hK _ _ (rfl) bR)
  ·intro f wq hC hd KK hK
   have g4 : f 4 = .int .i64 k := hd 4 (by kernel_rfl)
   have g5 : f 5 = .int .i64 ((bot : Int) - (top : Int) + 1) := hd 5 (by kernel_rfl)
   clear hd
   simp only [tkS, tkZ, setAll, siB, stS, stZ, Nat.zero_add, Nat.reduceAdd, g4, g5] at hK ⊢
   exact wp_call 43 #[.int .i64 k, .int .i64 ((bot : Int) - (top : Int) + 1)] (by simp [go_sem]) _ _ (CL.out wq) (fun w' hb => hK _ _ rfl hb)
  ·intro f wq hC hd KK hK
   have g6 : f 6 = .int .i64 z := hd 6 (by kernel_rfl)
   clear hd
   simp only [tkS, tkZ, setAll, siB, stS, stZ, Nat.zero_add, Nat.reduceAdd, g6] at hK ⊢
   refine wp_of_quiet rfl ?_
   go_big_quiet_step (fail)
   exact wpQuiet_nil (hK _ _ (rfl) bR)
  ·intro f wq hC hd KK hK
   clear hd
   simp only [tkS, tkZ, setAll, siB, stS, stZ, Nat.zero_add, Nat.reduceAdd] at hK ⊢
   refine wp_of_quiet rfl ?_
   go_big_quiet_step (fail)
   exact wpQuiet_nil (hK _ _ (rfl) bR)
  ·intro f wq hC hd KK hK
   have g8 : f 8 = .pointer (some ⟨w.heap.size, 0, none⟩) := hd 8 (by kernel_rfl)
   clear hd
   have c0 : wq.cell? ⟨w.heap.size, 0, none⟩ = some (.int .i64 (cols : Int)) := hC.1.rg.cell 0
   clear hC
   simp only [tkS, tkZ, setAll, siB, stS, stZ, Nat.zero_add, Nat.reduceAdd, g8] at hK ⊢
   refine wp_of_quiet rfl ?_
   go_big_quiet_step (fail)
   exact wpQuiet_nil (hK _ _ (rfl) bR)
  ·intro f wq hC hd KK hK
   have g7 : f 7 = .int .i64 (-z) := hd 7 (by kernel_rfl)
   have g9 : f 9 = .int .i64 (cols : Int) := hd 9 (by kernel_rfl)
   clear hd
   simp only [tkS, tkZ, setAll, siB, stS, stZ, Nat.zero_add, Nat.reduceAdd, g7, g9] at hK ⊢
   refine wp_of_quiet rfl ?_
   go_big_quiet_step (fail)
   exact wpQuiet_nil (hK _ _ (rfl) bR)
  ·intro f wq hC hd KK hK
   clear hd
   have cs0 : wq.cell? ⟨w.heap.size + 1, 0, none⟩ = some (.int .i64 s.fg) := hC.1.rs.cell 0
   have cs1 : wq.cell? ⟨w.heap.size + 1, 1, none⟩ = some (.int .i64 s.bg) := hC.1.rs.cell 1
   have cs2 : wq.cell? ⟨w.heap.size + 1, 2, none⟩ = some (.bool s.b1) := hC.1.rs.cell 2
   have cs3 : wq.cell? ⟨w.heap.size + 1, 3, none⟩ = some (.bool s.b2) := hC.1.rs.cell 3
   have cs4 : wq.cell? ⟨w.heap.size + 1, 4, none⟩ = some (.bool s.b3) := hC.1.rs.cell 4
   have cs5 : wq.cell? ⟨w.heap.size + 1, 5, none⟩ = some (.bool s.b4) := hC.1.rs.cell 5
   have cs6 : wq.cell? ⟨w.heap.size + 1, 6, none⟩ = some (.bool s.b5) := hC.1.rs.cell 6
   have cs7 : wq.cell? ⟨w.heap.size + 1, 7, none⟩ = some (.bool s.b7) := hC.1.rs.cell 7
   have cs8 : wq.cell? ⟨w.heap.size + 1, 8, none⟩ = some (.bool s.b8) := hC.1.rs.cell 8
   have cs9 : wq.cell? ⟨w.heap.size + 1, 9, none⟩ = some (.bool s.b9) := hC.1.rs.cell 9
   clear hC
   simp only [tkS, tkZ, setAll, siB, stS, stZ, Nat.zero_add, Nat.reduceAdd] at hK ⊢
   refine wp_of_quiet rfl ?_
   go_big_quiet_step (fail)
   exact wpQuiet_nil (hK _ _ (rfl) bR)
 ·intro f wz hC hv
  have p0 : f 0 = .agg (gA (cols : Int) (rows : Int) (.slice (some ⟨b, 0, none⟩) n n)) := hv 0 (by decide)
  have p1 : f 1 = .int .i64 (top : Int) := hv 1 (by decide)
  have p2 : f 2 = .int .i64 ((bot : Int) - (top : Int) + 1) := hv 2 (by decide)
  have p3 : f 3 = .slice (some ⟨b, o * 15, none⟩) m m := hv 3 (by decide)
  have p4 : f 4 = .int .i64 k := hv 4 (by decide)
  have p5 : f 5 = .int .i64 ((bot : Int) - (top : Int) + 1) := hv 5 (by decide)
  have p6 : f 6 = .int .i64 z := hv 6 (by decide)
  have p7 : f 7 = .int .i64 (-z) := hv 7 (by decide)
  have p8 : f 8 = .pointer (some ⟨w.heap.size, 0, none⟩) := hv 8 (by decide)
  have p9 : f 9 = .int .i64 (cols : Int) := hv 9 (by decide)
  have p10 : f 10 = .int .i64 (-z * (cols : Int)) := hv 10 (by decide)
  have p11 : f 11 = .agg (sA s) := hv 11 (by decide)
  simp only [tkS, tkZ, List.drop_succ_cons, List.drop_zero, setAll, siB, stS, stZ, Nat.zero_add, Nat.reduceAdd, p0, p1, p2, p3, p4, p5, p6, p7, p8, p9, p10, p11]
  clear hv p0 p1 p2 p3 p4 p5 p6 p7 p8 p9 p10 p11
  have F5 := Box'.mk hC.1
  have G5 := Box'.mk hC.2.1
  have C5 := Box'.mk hC.2.2
  clear hC F4 G4 C4 RO CL
  go_wp2_with fail
  refine (PU.out b _ C5.out).mono ?_
  rintro e w9 ⟨⟨v9, rfl⟩, hr9, ht9⟩
  have C9 := Box'.mk hr9
  have F9 := Box'.mk (F5.out.tc ht9 hb3)
  have G9 := Box'.mk (ht9.row G5.out hqb)
  clear hr9 ht9 F5 G5 C5 PU
  go_wp2_with (first
   | (refine wpList_load_row rfl 24 (.tmp 12) rfl q rfl 24 (gA (cols : Int) (rows : Int) (.slice (some ⟨b, 0, none⟩) n n)) G9.out _ U24.out rfl 3 S24.out rfl ?_)
   | (refine wpList_store_row rfl 24 (.tmp 10) (.tmp 57) rfl (w.heap.size + 2) rfl (gA (cols : Int) (rows : Int) (.slice (some ⟨b, 0, none⟩) n n)) rfl 24 3 F9.out.rr S24.out rfl O.out ?_))
  exact bodyPost_ret (results_two rfl _ (w.heap.size + 2) rfl _ rfl _ _ (F9.out.rr.setRow _) rfl) rfl ⟨b, by rw [HN.out]; rfl, by omega, Row.setRowOther C9.out _ _ (by omega), below_setRow F9.out.be (by omega) _⟩
end Go.Proofs.Ytnbonlkmadmpcaa
