/- Scroll. The reference's Blank and Put. Lists that are made anew. -/
import Derived.Test.YtlekleeckcdcgaaGreatNk
import Derived.Test.YtlekleeckcdcgaaGreatEq
import Derived.Test.YtlekleeckcdcgaaGreatRc
import Derived.Test.YtlekleeckcdcgaaGreatXb
import Derived.Test.YtlekleeckcdcgaaGreatNj
namespace Go.Proofs.YtlekleeckcdcgaaGreat
open Go.RowKit Go.BigFrame
set_option linter.unusedVariables false
set_option linter.unusedSimpArgs false
set_option maxRecDepth 100000
set_option maxHeartbeats 16000000
theorem scroll_ok (cols rows : Nat) (v : Value) (c : List Cl) (top bot : Nat) (k : Int) (s : St) (w : World) (hv : Cls w.heap.size w v c) (hG : mayG (cols : Int) (rows : Int) c = true) (hS : mayS s = true) (h1 : top ≤ bot) (h2 : bot < rows) :
  Calls Tryz.prog 173 #[.agg (gA (cols : Int) (rows : Int) v), .int .i64 (top : Int), .int .i64 (bot : Int), .int .i64 k, .agg (sA s)] w fun e w' => ∃ b, e = .returned (gOk (cols : Int) (rows : Int) (.slice (some ⟨b, 0, none⟩) c.length c.length)) ∧ w.heap.size ≤ b ∧ RC w' b (scF c cols rows top bot k s) [] ∧ Below w.heap.size w w' := by
 obtain ⟨cols', rows', ec, er, p1, p2, p3, p4, hl⟩ := mayG_dest hG
 obtain rfl : cols = cols' := by omega
 obtain rfl : rows = rows' := by omega
 have hle : cols * rows ≤ 512 * 512 := Nat.mul_le_mul p2 p4
 have hpos : 1 * 1 ≤ cols * rows := Nat.mul_le_mul p1 p3
 have MG : Box' (∀ wx, Below w.heap.size w wx → Calls Tryz.prog 53 #[.agg (gA (cols : Int) (rows : Int) v)] wx fun e w' => e = .returned (.bool (mayG (cols : Int) (rows : Int) c)) ∧ Below wx.heap.size wx w') := ⟨fun wx hb => gmay_any (cols : Int) (rows : Int) v c wx ((hv.below hb (Nat.le_refl _)).up hb.size)⟩
 rw [hG] at MG
 have MS := Box'.mk (mayStyle15_any s)
 rw [hS] at MS
 have AN : Box' (∀ wx, Below w.heap.size w wx → Calls Tryz.prog 186 #[.agg (gA (cols : Int) (rows : Int) v)] wx fun e w' => ∃ b, e = .returned (.agg (gA (cols : Int) (rows : Int) (.slice (some ⟨b, 0, none⟩) c.length c.length))) ∧ wx.heap.size ≤ b ∧ RC w' b c [] ∧ Below wx.heap.size wx w') := ⟨fun wx hb => another_any (cols : Int) (rows : Int) v c (by omega) (by omega) wx ((hv.below hb (Nat.le_refl _)).up hb.size)⟩
 have F := Box'.mk (FrG.begin w (gA (cols : Int) (rows : Int) v) s)
 have U24 := Box'.mk Tryz.underlying24
 have S24 := Box'.mk s24g
 have U26 := Box'.mk Tryz.underlying26
 have S26 := Box'.mk s24
 have hcnt : ((bot - top + 1 : Nat) : Int) = (bot : Int) - (top : Int) + 1 := by omega
 have hcols : cols * (top + (bot - top + 1)) ≤ cols * rows := Nat.mul_le_mul_left _ (by omega)
 have RO : Box' (∀ b wx, Calls Tryz.prog 157 #[.agg (gA (cols : Int) (rows : Int) (.slice (some ⟨b, 0, none⟩) c.length c.length)), .int .i64 (top : Int), .int .i64 ((bot - top + 1 : Nat) : Int)] wx fun e w' => e = .returned (.slice (some ⟨b, cols * top * 15, none⟩) (cols * (bot - top + 1)) (cols * (bot - top + 1))) ∧ Below wx.heap.size wx w') := ⟨fun b wx => by
  have := rowsOf_any cols top (bot - top + 1) b 0 c.length c.length (rows : Int) p1 p2 (by omega) (by omega) (by omega) wx
  rwa [Nat.zero_add] at this⟩
 have CL : Box' (∀ wx, Calls Tryz.prog 188 #[.int .i64 k, .int .i64 ((bot - top + 1 : Nat) : Int)] wx fun e w' => e = .returned (.int .i64 (clF k ((bot - top + 1 : Nat) : Int))) ∧ Below wx.heap.size wx w') := ⟨fun wx => (clamp_any k (bot - top + 1) (by omega) wx).mono fun e w' h => ⟨h.1, h.2 ▸ Below.refl _ _⟩⟩
 have EQ := Box'.mk (scroll_eq c cols rows top bot k (clF k ((bot - top + 1 : Nat) : Int)) s p1 hl h1 h2 rfl)
 have hz1 : -((bot - top + 1 : Nat) : Int) ≤ clF k ((bot - top + 1 : Nat) : Int) := by unfold clF; omega
 have hz2 : clF k ((bot - top + 1 : Nat) : Int) ≤ ((bot - top + 1 : Nat) : Int) := by unfold clF; omega
 have PU : Box' (∀ b wx, RC wx b c [] → Calls Tryz.prog 187 #[.slice (some ⟨b, cols * top * 15, none⟩) (cols * (bot - top + 1)) (cols * (bot - top + 1)), .int .i64 (-clF k ((bot - top + 1 : Nat) : Int) * (cols : Int)), .agg (sA s)] wx fun e w' => (∃ v, e = .returned v) ∧ RC w' b (scF c cols rows top bot k s) [] ∧ Tc b wx w') := ⟨fun b wx h => by
  rw [← EQ.out]
  have hfit : cols * top + cols * (bot - top + 1) ≤ c.length := by rw [hl, ← Nat.mul_add]; exact hcols
  refine push_any b (cols * top) (cols * (bot - top + 1)) (cols * (bot - top + 1)) _ c [] s wx ?_ ?_ (Nat.le_refl _) hfit h (by omega)
  ·rw [Int.natCast_mul, Int.mul_comm (cols : Int), ← Int.neg_mul]
   exact Int.mul_le_mul_of_nonneg_right (by omega) (by omega)
  ·rw [Int.natCast_mul, Int.mul_comm (cols : Int)]
   exact Int.mul_le_mul_of_nonneg_right (by omega) (by omega)⟩
 have hm1 : -262144 ≤ -clF k ((bot - top + 1 : Nat) : Int) * (cols : Int) := by
  have h5 := Int.mul_le_mul_of_nonneg_right (show -512 ≤ -clF k ((bot - top + 1 : Nat) : Int) by omega) (show (0 : Int) ≤ (cols : Int) by omega)
  omega
 have hm2 : -clF k ((bot - top + 1 : Nat) : Int) * (cols : Int) ≤ 262144 := by
  have h5 := Int.mul_le_mul_of_nonneg_right (show -clF k ((bot - top + 1 : Nat) : Int) ≤ 512 by omega) (show (0 : Int) ≤ (cols : Int) by omega)
  omega
 have hz3 : -512 ≤ clF k ((bot - top + 1 : Nat) : Int) := by omega
 have hz4 : clF k ((bot - top + 1 : Nat) : Int) ≤ 512 := by omega
 generalize clF k ((bot - top + 1 : Nat) : Int) = z at *
 rw [hcnt] at RO CL
 generalize scF c cols rows top bot k s = C' at *
 generalize cols * (bot - top + 1) = m at *
 generalize cols * top = o at *
 clear hG hS hv ec er hl hle hpos EQ hcnt hcols hz1 hz2
 have h1' : (top : Int) ≤ (bot : Int) := by omega
 have h2' : (bot : Int) < (rows : Int) := by omega
 have h0' : (0 : Int) ≤ (top : Int) := by omega
 go_enter Tryz.func173, Tryz.ntmps173
 go_upto_region 1 with (fail)
 generalize (((w.alloc (.cells (gA (cols : Int) (rows : Int) v) 24)).alloc (.cells (sA s) 26)).alloc (.cells #[.int .i64 0, .int .i64 0, .slice none 0 0] 24)) = w1 at *
 go_wp2_with (first
  | (refine wpList_load_row rfl 24 (.tmp 5) rfl w.heap.size rfl 24 (gA (cols : Int) (rows : Int) v) F.out.rg _ U24.out rfl 3 S24.out rfl ?_))
 refine (MG.out _ F.out.be).mono ?_
 rintro e w2 ⟨rfl, hb⟩
 replace F := Box'.mk (F.out.below hb)
 clear hb
 obtain ⟨cs0, cs1, cs2, cs3, cs4, cs5, cs6, cs7, cs8, cs9⟩ := F.out.rs.s10
 have c0 : w2.cell? ⟨w.heap.size, 0, none⟩ = some (.int .i64 (cols : Int)) := F.out.rg.cell 0
 have c1 : w2.cell? ⟨w.heap.size, 1, none⟩ = some (.int .i64 (rows : Int)) := F.out.rg.cell 1
 go_wp2_with fail
 refine (MS.out _).mono ?_
 rintro e w3 ⟨rfl, hb⟩
 replace F := Box'.mk (F.out.below hb)
 clear hb
 clear c0 c1 cs0 cs1 cs2 cs3 cs4 cs5 cs6 cs7 cs8 cs9
 obtain ⟨cs0, cs1, cs2, cs3, cs4, cs5, cs6, cs7, cs8, cs9⟩ := F.out.rs.s10
 have c0 : w3.cell? ⟨w.heap.size, 0, none⟩ = some (.int .i64 (cols : Int)) := F.out.rg.cell 0
 have c1 : w3.cell? ⟨w.heap.size, 1, none⟩ = some (.int .i64 (rows : Int)) := F.out.rg.cell 1
 go_wp2_with (first
  | (refine wpList_load_row rfl 24 (.tmp 5) rfl w.heap.size rfl 24 (gA (cols : Int) (rows : Int) v) F.out.rg _ U24.out rfl 3 S24.out rfl ?_))
 refine (AN.out _ F.out.be).mono ?_
 rintro e w4a ⟨b, rfl, hb0, hrc, hb⟩
 have hb3 : w.heap.size + 3 ≤ b := Nat.le_trans F.out.sz hb0
 replace F := Box'.mk (F.out.below hb)
 have CC := Box'.mk hrc
 have hblt := hrc.lt
 clear hb hrc hb0 AN MG MS
 clear c0 c1 cs0 cs1 cs2 cs3 cs4 cs5 cs6 cs7 cs8 cs9
 generalize hn : c.length = n at *
 have HN := Box'.mk hn
 clear hn
 have RM : Box' (Room (w4a.alloc (.cells #[.int .i64 0, .int .i64 0, .slice none 0 0] 24)) w4a.heap.size 24 3) := ⟨Room.new _ _ _ _ rfl⟩
 have G4 : Box' (Row ((w4a.alloc (.cells #[.int .i64 0, .int .i64 0, .slice none 0 0] 24)).setRow w4a.heap.size (gA (cols : Int) (rows : Int) (.slice (some ⟨b, 0, none⟩) n n))) w4a.heap.size 24 (gA (cols : Int) (rows : Int) (.slice (some ⟨b, 0, none⟩) n n))) := ⟨RM.out.setRow _⟩
 have C4 : Box' (RC ((w4a.alloc (.cells #[.int .i64 0, .int .i64 0, .slice none 0 0] 24)).setRow w4a.heap.size (gA (cols : Int) (rows : Int) (.slice (some ⟨b, 0, none⟩) n n))) b c []) := ⟨Row.setRowOther (Row.alloc CC.out _) _ _ (by omega)⟩
 have F4 : Box' (FrG w (gA (cols : Int) (rows : Int) v) s ((w4a.alloc (.cells #[.int .i64 0, .int .i64 0, .slice none 0 0] 24)).setRow w4a.heap.size (gA (cols : Int) (rows : Int) (.slice (some ⟨b, 0, none⟩) n n)))) := ⟨F.out.below (below_setRow (bR.alloc (Nat.le_refl _) _) (Nat.le_refl _) _)⟩
 have O := Box'.mk (gA_one (cols : Int) (rows : Int) (some ⟨b, 0, none⟩) n n)
 go_upto_region 4 with (first
  | (refine wpList_store_row rfl 24 (.tmp 12) (.tmp 39) rfl w4a.heap.size rfl (gA (cols : Int) (rows : Int) (.slice (some ⟨b, 0, none⟩) n n)) rfl 24 3 RM.out S24.out rfl O.out ?_))
 generalize ((w4a.alloc (.cells #[.int .i64 0, .int .i64 0, .slice none 0 0] 24)).setRow w4a.heap.size (gA (cols : Int) (rows : Int) (.slice (some ⟨b, 0, none⟩) n n))) = w4b at *
 clear RM CC F
 have hqb : w4a.heap.size ≠ b := by omega
 have hq3 : w.heap.size + 3 ≤ w4a.heap.size := by omega
 generalize w4a.heap.size = q at *
 go_wp2_with fail
 refine wp_region_growg 12 (by kernel_rfl) 58 rfl (by kernel_rfl) (fun wa wb => Below wa.heap.size wa wb) (fun wa => FrG w (gA (cols : Int) (rows : Int) v) s wa ∧ Row wa q 24 (gA (cols : Int) (rows : Int) (.slice (some ⟨b, 0, none⟩) n n)) ∧ RC wa b c []) (fun kc wa v => v = (match kc with
  | 0 => .agg (gA (cols : Int) (rows : Int) (.slice (some ⟨b, 0, none⟩) n n))
  | 1 => .int .i64 (top : Int)
  | 2 => .int .i64 ((bot : Int) - (top : Int) + 1)
  | 3 => .slice (some ⟨b, o * 15, none⟩) m m
  | 4 => .int .i64 k
  | 5 => .int .i64 ((bot : Int) - (top : Int) + 1)
  | 6 => .int .i64 z
  | 7 => .int .i64 (-z)
  | 8 => .pointer (some ⟨w.heap.size, 0, none⟩)
  | 9 => .int .i64 (cols : Int)
  | 10 => .int .i64 (-z * (cols : Int))
  | 11 => .agg (sA s)
  | _ => undef)) ?_ ?_ ?_ ?_ ?_ ?_
 ·intro i o' j b' hi hg wa v hC hV
  have hlt : i < 12 := by rcases Nat.lt_or_ge i 12 with q | q; exact q; rw [List.getElem?_eq_none (by simpa using q)] at hi; cases hi
  revert hi hg hV
  rcases (show i = 0 ∨ i = 1 ∨ i = 2 ∨ i = 3 ∨ i = 4 ∨ i = 5 ∨ i = 6 ∨ i = 7 ∨ i = 8 ∨ i = 9 ∨ i = 10 ∨ i = 11 by omega) with rfl | rfl | rfl | rfl | rfl | rfl | rfl | rfl | rfl | rfl | rfl | rfl <;>
   (intro hi hg hV; simp only [tkS, List.getElem?_cons_zero, List.getElem?_cons_succ, Option.some.injEq] at hi; subst hi; first | (cases hg; exact hV) | (cases hg))
 ·rintro wa wb hb ⟨q1, q2, q3⟩; exact ⟨q1.below hb, q2.below hb q2.lt, q3.below hb q3.lt⟩
 ·exact fun kc v wa wb hC1 hb h => h
 ·exact ⟨F4.out.drew, G4.out.drew, C4.out.drew⟩
 ·refine ⟨?a0, ?a1, ?a2, ?a3, ?a4, ?a5, ?a6, ?a7, ?a8, ?a9, ?a10, ?a11, trivial⟩
  all_goals intro f wq hC hd KK hK
  all_goals have cq0 : wq.cell? ⟨w.heap.size, 0, none⟩ = some (.int .i64 (cols : Int)) := hC.1.rg.cell 0
  all_goals have cq1 : wq.cell? ⟨w.heap.size + 1, 0, none⟩ = some (.int .i64 s.fg) := hC.1.rs.cell 0
  all_goals have cq2 : wq.cell? ⟨w.heap.size + 1, 1, none⟩ = some (.int .i64 s.bg) := hC.1.rs.cell 1
  all_goals have cq3 : wq.cell? ⟨w.heap.size + 1, 2, none⟩ = some (.bool s.b1) := hC.1.rs.cell 2
  all_goals have cq4 : wq.cell? ⟨w.heap.size + 1, 3, none⟩ = some (.bool s.b2) := hC.1.rs.cell 3
  all_goals have cq5 : wq.cell? ⟨w.heap.size + 1, 4, none⟩ = some (.bool s.b3) := hC.1.rs.cell 4
  all_goals have cq6 : wq.cell? ⟨w.heap.size + 1, 5, none⟩ = some (.bool s.b4) := hC.1.rs.cell 5
  all_goals have cq7 : wq.cell? ⟨w.heap.size + 1, 6, none⟩ = some (.bool s.b5) := hC.1.rs.cell 6
  all_goals have cq8 : wq.cell? ⟨w.heap.size + 1, 7, none⟩ = some (.bool s.b7) := hC.1.rs.cell 7
  all_goals have cq9 : wq.cell? ⟨w.heap.size + 1, 8, none⟩ = some (.bool s.b8) := hC.1.rs.cell 8
  all_goals have cq10 : wq.cell? ⟨w.heap.size + 1, 9, none⟩ = some (.bool s.b9) := hC.1.rs.cell 9
  all_goals simp (disch := decide +kernel) only [tkS, tkZ, setAll, siB, stS, stZ, Nat.zero_add, Nat.reduceAdd, hd] at hK ⊢
  case a0 =>
   exact wp_load_row 24 (.tmp 12) rfl q rfl 24 (gA (cols : Int) (rows : Int) (.slice (some ⟨b, 0, none⟩) n n)) hC.2.1 _ U24.out rfl 3 S24.out rfl (hK _ _ rfl bR)
  case a3 =>
   exact wp_call 157 #[.agg (gA (cols : Int) (rows : Int) (.slice (some ⟨b, 0, none⟩) n n)), .int .i64 (top : Int), .int .i64 ((bot : Int) - (top : Int) + 1)] (by simp [go_sem]) _ _ (RO.out b wq) (fun w' hb => hK _ _ rfl hb)
  case a6 =>
   exact wp_call 188 #[.int .i64 k, .int .i64 ((bot : Int) - (top : Int) + 1)] (by simp [go_sem]) _ _ (CL.out wq) (fun w' hb => hK _ _ rfl hb)
  all_goals (skip; refine wp_of_quiet rfl ?_; go_big_quiet_step (fail); exact wpQuiet_nil (hK _ _ (rfl) bR))
 ·intro f wz hC hv
  simp (disch := decide) only [tkS, tkZ, List.drop_succ_cons, List.drop_zero, setAll, siB, stS, stZ, Nat.zero_add, Nat.reduceAdd, hv]
  clear hv
  have F5 := Box'.mk hC.1
  have G5 := Box'.mk hC.2.1
  have C5 := Box'.mk hC.2.2
  clear hC F4 G4 C4 RO CL
  go_wp2_with fail
  refine (PU.out b _ C5.out).mono ?_
  rintro e w9 ⟨⟨v9, rfl⟩, hr9, ht9⟩
  have C9 := Box'.mk hr9
  have F9 := Box'.mk (F5.out.tc ht9 hb3)
  have G9 := Box'.mk (ht9.row G5.out hqb)
  clear hr9 ht9 F5 G5 C5 PU
  go_wp2_with (first
   | (refine wpList_load_row rfl 24 (.tmp 12) rfl q rfl 24 (gA (cols : Int) (rows : Int) (.slice (some ⟨b, 0, none⟩) n n)) G9.out _ U24.out rfl 3 S24.out rfl ?_)
   | (refine wpList_store_row rfl 24 (.tmp 10) (.tmp 57) rfl (w.heap.size + 2) rfl (gA (cols : Int) (rows : Int) (.slice (some ⟨b, 0, none⟩) n n)) rfl 24 3 F9.out.rr S24.out rfl O.out ?_))
  exact bodyPost_ret (results_two rfl _ (w.heap.size + 2) rfl _ rfl _ _ (F9.out.rr.setRow _) rfl) rfl ⟨b, by rw [HN.out]; rfl, by omega, Row.setRowOther C9.out _ _ (by omega), below_setRow F9.out.be (by omega) _⟩
theorem anoC_any (v : Value) (c : List Cl) (hm : c.length ≤ 1000000) (w : World) (hv : Cls w.heap.size w v c) :
  Calls Tryz.prog 159 #[v] w fun e w' => ∃ b, e = .returned (.slice (some ⟨b, 0, none⟩) c.length c.length) ∧ w.heap.size ≤ b ∧ RC w' b c [] ∧ Below w.heap.size w w' := by
 have HV : Box' (∀ wx, Below w.heap.size w wx → Cls w.heap.size wx v c) := ⟨fun wx hb => hv.below hb (Nat.le_refl _)⟩
 obtain ⟨a, cp, rfl, _⟩ := hv
 have EL : Box' (lay (List.replicate c.length zC) 0 (c.take c.length) = c) := ⟨by unfold lay; rw [List.take_length, tkZ, List.nil_append, Nat.zero_add, List.drop_of_length_le (by rw [List.length_replicate]; omega), List.append_nil]⟩
 have HF : Box' (0 + (c.take c.length).length ≤ (List.replicate c.length zC).length) := ⟨by rw [List.take_length, List.length_replicate]; omega⟩
 go_enter Tryz.func159, Tryz.ntmps159
 go_upto_region 2 with (first
  | (refine wpList_makeC rfl (.tmp 5) (.tmp 5) rfl c.length rfl rfl hm ?_; intro w2 W2))
 have C2 := Box'.mk W2.out.1
 have B2 := Box'.mk W2.out.2
 have V2 := Box'.mk (HV.out w2 W2.out.2)
 clear W2 HV
 go_upto_region 3 with (first
  | (refine wpList_copyA rfl (.tmp 7) (.tmp 8) rfl w.heap.size 0 0 c.length c.length (.slice a c.length cp) w.heap.size (List.replicate c.length zC) c (c.take c.length) [] rfl rfl V2.out C2.out rfl (.inr rfl) HF.out ?_; intro u3 w3 W3))
 rw [EL.out] at W3
 have C3 := Box'.mk W3.out.1
 have B3 := Box'.mk (B2.out.trans (W3.out.2.below (Nat.le_refl _) B2.out.size))
 clear W3 C2 B2 V2
 go_wp2_with fail
 go_ret
 exact ⟨_, rfl, Nat.le_refl _, C3.out, B3.out⟩
/-- The cells of numbers. -/
def iNA (l : List Int) : Array Value := (l.map (Value.int .i64)).toArray
theorem info3n : ∃ i z, Tryz.prog.info? 3 = some i ∧ i.zero = some z ∧ i.size = 1 ∧ i.bytes = 8 := ⟨_, _, rfl, rfl, rfl, rfl⟩
theorem wpList_make27 {ops : Array Oper} {rest : List Oper} {op : Oper} {a : Act} {w : World} {Q : Exit → Act → World → Prop}
  (hgd : op.guard = none) (x y : Operand) (ho : op.op = .makeSlice 27 x y) (n : Nat) (hx : a.eval x = .int .i64 (n : Int)) (hy : a.eval y = .int .i64 (n : Int)) (hn : n ≤ 1000000)
  (h : ∀ w', Box' (Room w' w.heap.size 3 n ∧ Below w.heap.size w w') → wpList Tryz.prog ops Q rest (a.put op.dst (.slice (some ⟨w.heap.size, 0, none⟩) n n)) w') : wpList Tryz.prog ops Q (op :: rest) a w := by
 obtain ⟨i, z, h1, h2, h3, h4⟩ := info3n
 have hrun := run_make (P := Tryz.prog) w 27 3 i z Tryz.underlying27 h1 h2 .i64 .i64 (n : Int) (n : Int) (by omega) (Int.le_refl _) (by rw [h4]; omega) (by omega)
 rw [h3, Int.toNat_natCast, Nat.mul_one] at hrun
 refine wpList_plain hgd fun K hK' => ?_
 unfold Oper.wp
 simp only [execOp, ho, hx, hy, Sem.run_bind, hrun, Result.andThen_ok]
 exact hK' _ _ (h _ ⟨⟨_, Row.new _ _ _, by simp [madeCells]⟩, bR.alloc (Nat.le_refl _) _⟩)
theorem wpList_copy27 {ops : Array Oper} {rest : List Oper} {op : Oper} {a : Act} {w : World} {Q : Exit → Act → World → Prop} (hgd : op.guard = none) (s x : Operand) (ho : op.op = .call { callee := .builtin .copy, args := #[s, x], argTypes := #[27, 27] }) (g N : Nat) (v : Value) (l : List Int)
  (hs : a.eval s = .slice (some ⟨g, 0, none⟩) l.length l.length) (hxx : a.eval x = v) (hv : Is N w v l) (hr : Room w g 3 l.length)
  (h : ∀ u w', Box' (Row w' g 3 (iNA l) ∧ Tc g w w') → wpList Tryz.prog ops Q rest (a.put op.dst u) w') : wpList Tryz.prog ops Q (op :: rest) a w := by
 obtain ⟨i, z, h1, h2, h3, h4⟩ := info3n
 have h3' : (Tryz.prog.info? 3).map (·.size) = some 1 := by rw [h1]; simp [h3]
 obtain ⟨ad, cp, rfl, hcp, hc⟩ := hv
 obtain ⟨d, hd, hsz⟩ := hr
 rcases hc with hc | ⟨b, o, rfl, hb, hc⟩
 ·subst hc
  have hrun := run_copy_none (P := Tryz.prog) w 27 27 op.type 3 (some ⟨g, 0, none⟩) ad 0 0 0 cp Tryz.underlying27 h3' rfl
  refine wpList_plain hgd fun K hK => ?_
  unfold Oper.wp execOp
  simp only [ho, resolve, invoke, builtin, Sem.run_bind, Sem.run_pure, Result.andThen_ok, List.map_toArray, List.map_cons, List.map_nil, hs, hxx, List.length_nil, hrun]
  refine hK _ _ (h _ _ ⟨?_, Tc.refl _ _⟩)
  have e : d = iNA [] := Array.eq_empty_of_size_eq_zero hsz
  rw [← e]
  exact hd
 ·have hrun := run_copy_row (P := Tryz.prog) w 27 27 op.type 3 g 0 l.length l.length ⟨b, o, none⟩ l.length cp d 3 (l.map (Value.int .i64)) Tryz.underlying27 h3' hd (by simp) (fun j u hu => by
   rw [Addr.add_mid]
   rw [List.getElem?_map] at hu
   cases hj : l[j]? with
   | none => rw [hj] at hu; cases hu
   | some y =>
    rw [hj] at hu
    have hlt := (List.getElem?_eq_some_iff.1 hj).1
    rw [hc j hlt, List.getD_eq_getElem?_getD, hj]
    simpa using hu) (by simp [hsz]) (fun u hu => by obtain ⟨y, _, rfl⟩ := List.mem_map.1 hu; rfl)
  refine wpList_plain hgd fun K hK => ?_
  unfold Oper.wp execOp
  simp only [ho, resolve, invoke, builtin, Sem.run_bind, Sem.run_pure, Result.andThen_ok, List.map_toArray, List.map_cons, List.map_nil, hs, hxx, hrun]
  refine hK _ _ (h _ _ ⟨?_, (Tc.refl _ _).setRow _⟩)
  have e : (d.toList.take 0 ++ l.map (Value.int .i64) ++ d.toList.drop (0 + (l.map (Value.int .i64)).length)).toArray = iNA l := by
   rw [tkZ, List.nil_append, List.drop_of_length_le (by simp [hsz]), List.append_nil]
   rfl
  rw [e]
  exact hd.setRow _
theorem anoiN_any (v : Value) (l : List Int) (hm : l.length ≤ 1000000) (w : World) (hv : Is w.heap.size w v l) :
  Calls Tryz.prog 160 #[v] w fun e w' => ∃ b, e = .returned (.slice (some ⟨b, 0, none⟩) l.length l.length) ∧ w.heap.size ≤ b ∧ Row w' b 3 (iNA l) ∧ Below w.heap.size w w' := by
 have HV : Box' (∀ wx, Below w.heap.size w wx → Is w.heap.size wx v l) := ⟨fun wx hb => hv.below hb (Nat.le_refl _)⟩
 obtain ⟨a, cp, rfl, _⟩ := hv
 go_enter Tryz.func160, Tryz.ntmps160
 go_upto_region 2 with (first
  | (refine wpList_make27 rfl (.tmp 5) (.tmp 5) rfl l.length rfl rfl hm ?_; intro w2 W2))
 have C2 := Box'.mk W2.out.1
 have B2 := Box'.mk W2.out.2
 have V2 := Box'.mk (HV.out w2 W2.out.2)
 clear W2 HV
 go_upto_region 3 with (first
  | (refine wpList_copy27 rfl (.tmp 7) (.tmp 8) rfl w.heap.size w.heap.size (.slice a l.length cp) l rfl rfl V2.out C2.out ?_; intro u3 w3 W3))
 have C3 := Box'.mk W3.out.1
 have B3 := Box'.mk (B2.out.trans (W3.out.2.below (Nat.le_refl _) B2.out.size))
 clear W3 C2 B2 V2
 go_wp2_with fail
 go_ret
 exact ⟨_, rfl, Nat.le_refl _, C3.out, B3.out⟩
/-- The cells of numbers. -/
def rNA (l : List Int) : Array Value := (l.map (Value.int .i32)).toArray
theorem info21n : ∃ i z, Tryz.prog.info? 21 = some i ∧ i.zero = some z ∧ i.size = 1 ∧ i.bytes = 4 := ⟨_, _, rfl, rfl, rfl, rfl⟩
theorem wpList_make30 {ops : Array Oper} {rest : List Oper} {op : Oper} {a : Act} {w : World} {Q : Exit → Act → World → Prop}
  (hgd : op.guard = none) (x y : Operand) (ho : op.op = .makeSlice 30 x y) (n : Nat) (hx : a.eval x = .int .i64 (n : Int)) (hy : a.eval y = .int .i64 (n : Int)) (hn : n ≤ 1000000)
  (h : ∀ w', Box' (Room w' w.heap.size 21 n ∧ Below w.heap.size w w') → wpList Tryz.prog ops Q rest (a.put op.dst (.slice (some ⟨w.heap.size, 0, none⟩) n n)) w') : wpList Tryz.prog ops Q (op :: rest) a w := by
 obtain ⟨i, z, h1, h2, h3, h4⟩ := info21n
 have hrun := run_make (P := Tryz.prog) w 30 21 i z Tryz.underlying30 h1 h2 .i64 .i64 (n : Int) (n : Int) (by omega) (Int.le_refl _) (by rw [h4]; omega) (by omega)
 rw [h3, Int.toNat_natCast, Nat.mul_one] at hrun
 refine wpList_plain hgd fun K hK' => ?_
 unfold Oper.wp
 simp only [execOp, ho, hx, hy, Sem.run_bind, hrun, Result.andThen_ok]
 exact hK' _ _ (h _ ⟨⟨_, Row.new _ _ _, by simp [madeCells]⟩, bR.alloc (Nat.le_refl _) _⟩)
theorem wpList_copy30 {ops : Array Oper} {rest : List Oper} {op : Oper} {a : Act} {w : World} {Q : Exit → Act → World → Prop} (hgd : op.guard = none) (s x : Operand) (ho : op.op = .call { callee := .builtin .copy, args := #[s, x], argTypes := #[30, 30] }) (g N : Nat) (v : Value) (l : List Int)
  (hs : a.eval s = .slice (some ⟨g, 0, none⟩) l.length l.length) (hxx : a.eval x = v) (hv : Rs N w v l) (hr : Room w g 21 l.length)
  (h : ∀ u w', Box' (Row w' g 21 (rNA l) ∧ Tc g w w') → wpList Tryz.prog ops Q rest (a.put op.dst u) w') : wpList Tryz.prog ops Q (op :: rest) a w := by
 obtain ⟨i, z, h1, h2, h3, h4⟩ := info21n
 have h3' : (Tryz.prog.info? 21).map (·.size) = some 1 := by rw [h1]; simp [h3]
 obtain ⟨ad, cp, rfl, hcp, hc⟩ := hv
 obtain ⟨d, hd, hsz⟩ := hr
 rcases hc with hc | ⟨b, o, rfl, hb, hc⟩
 ·subst hc
  have hrun := run_copy_none (P := Tryz.prog) w 30 30 op.type 21 (some ⟨g, 0, none⟩) ad 0 0 0 cp Tryz.underlying30 h3' rfl
  refine wpList_plain hgd fun K hK => ?_
  unfold Oper.wp execOp
  simp only [ho, resolve, invoke, builtin, Sem.run_bind, Sem.run_pure, Result.andThen_ok, List.map_toArray, List.map_cons, List.map_nil, hs, hxx, List.length_nil, hrun]
  refine hK _ _ (h _ _ ⟨?_, Tc.refl _ _⟩)
  have e : d = rNA [] := Array.eq_empty_of_size_eq_zero hsz
  rw [← e]
  exact hd
 ·have hrun := run_copy_row (P := Tryz.prog) w 30 30 op.type 21 g 0 l.length l.length ⟨b, o, none⟩ l.length cp d 21 (l.map (Value.int .i32)) Tryz.underlying30 h3' hd (by simp) (fun j u hu => by
   rw [Addr.add_mid]
   rw [List.getElem?_map] at hu
   cases hj : l[j]? with
   | none => rw [hj] at hu; cases hu
   | some y =>
    rw [hj] at hu
    have hlt := (List.getElem?_eq_some_iff.1 hj).1
    rw [hc j hlt, List.getD_eq_getElem?_getD, hj]
    simpa using hu) (by simp [hsz]) (fun u hu => by obtain ⟨y, _, rfl⟩ := List.mem_map.1 hu; rfl)
  refine wpList_plain hgd fun K hK => ?_
  unfold Oper.wp execOp
  simp only [ho, resolve, invoke, builtin, Sem.run_bind, Sem.run_pure, Result.andThen_ok, List.map_toArray, List.map_cons, List.map_nil, hs, hxx, hrun]
  refine hK _ _ (h _ _ ⟨?_, (Tc.refl _ _).setRow _⟩)
  have e : (d.toList.take 0 ++ l.map (Value.int .i32) ++ d.toList.drop (0 + (l.map (Value.int .i32)).length)).toArray = rNA l := by
   rw [tkZ, List.nil_append, List.drop_of_length_le (by simp [hsz]), List.append_nil]
   rfl
  rw [e]
  exact hd.setRow _
theorem anorN_any (v : Value) (l : List Int) (hm : l.length ≤ 1000000) (w : World) (hv : Rs w.heap.size w v l) :
  Calls Tryz.prog 161 #[v] w fun e w' => ∃ b, e = .returned (.slice (some ⟨b, 0, none⟩) l.length l.length) ∧ w.heap.size ≤ b ∧ Row w' b 21 (rNA l) ∧ Below w.heap.size w w' := by
 have HV : Box' (∀ wx, Below w.heap.size w wx → Rs w.heap.size wx v l) := ⟨fun wx hb => hv.below hb (Nat.le_refl _)⟩
 obtain ⟨a, cp, rfl, _⟩ := hv
 go_enter Tryz.func161, Tryz.ntmps161
 go_upto_region 2 with (first
  | (refine wpList_make30 rfl (.tmp 5) (.tmp 5) rfl l.length rfl rfl hm ?_; intro w2 W2))
 have C2 := Box'.mk W2.out.1
 have B2 := Box'.mk W2.out.2
 have V2 := Box'.mk (HV.out w2 W2.out.2)
 clear W2 HV
 go_upto_region 3 with (first
  | (refine wpList_copy30 rfl (.tmp 7) (.tmp 8) rfl w.heap.size w.heap.size (.slice a l.length cp) l rfl rfl V2.out C2.out ?_; intro u3 w3 W3))
 have C3 := Box'.mk W3.out.1
 have B3 := Box'.mk (B2.out.trans (W3.out.2.below (Nat.le_refl _) B2.out.size))
 clear W3 C2 B2 V2
 go_wp2_with fail
 go_ret
 exact ⟨_, rfl, Nat.le_refl _, C3.out, B3.out⟩
end Go.Proofs.YtlekleeckcdcgaaGreat
