/- New; what Resize comes to. Resize. The reference's look at what a change is given. -/
import Derived.Test.YtlekleeckcdcgaaGreatNk
import Derived.Test.YtlekleeckcdcgaaGreatEq
import Derived.Test.YtlekleeckcdcgaaGreatQd
import Derived.Test.YtlekleeckcdcgaaGreatCa
namespace Go.Proofs.YtlekleeckcdcgaaGreat
open Go.RowKit Go.BigFrame
set_option linter.unusedVariables false
set_option linter.unusedSimpArgs false
set_option maxRecDepth 100000
set_option maxHeartbeats 16000000
/-- The rows that are laid so far, the others blank. -/
def rzK (c : List Cl) (cols rows cols' rows' : Nat) (s : St) (k : Nat) : List Cl := joinR (fun n => if n < k then rzR c cols rows cols' s n else List.replicate cols' (bl s)) rows'
theorem rzK_rl (c : List Cl) (cols rows cols' : Nat) (s : St) (k : Nat) (hl : c.length = cols * rows) (n : Nat) : (if n < k then rzR c cols rows cols' s n else List.replicate cols' (bl s)).length = cols' := by
 split
 ·exact rzR_len c cols rows cols' s n hl
 ·simp
theorem rzK_len (c : List Cl) (cols rows cols' rows' : Nat) (s : St) (k : Nat) (hl : c.length = cols * rows) : (rzK c cols rows cols' rows' s k).length = cols' * rows' := by
 rw [rzK, joinR_len _ cols' rows' (fun n _ => rzK_rl c cols rows cols' s k hl n), Nat.mul_comm]
theorem rzK_row (c : List Cl) (cols rows cols' rows' : Nat) (s : St) (k : Nat) (hl : c.length = cols * rows) (n : Nat) (hn : n < rows') : rowF (rzK c cols rows cols' rows' s k) cols' n = if n < k then rzR c cols rows cols' s n else List.replicate cols' (bl s) :=
 rowF_join _ cols' rows' (fun n _ => rzK_rl c cols rows cols' s k hl n) n hn
theorem rzK_0 (c : List Cl) (cols rows cols' rows' : Nat) (s : St) (h1 : 1 ≤ cols') (hl : c.length = cols * rows) : rzK c cols rows cols' rows' s 0 = List.replicate (cols' * rows') (bl s) := by
 refine rows_ext _ _ cols' rows' h1 (rzK_len c cols rows cols' rows' s 0 hl) (by simp) fun n hn => ?_
 rw [rzK_row c cols rows cols' rows' s 0 hl n hn, if_neg (by omega)]
 have := fits (cols := cols') hn
 unfold rowF
 rw [List.drop_replicate, List.take_replicate]
 congr 1
 omega
theorem rzK_end (c : List Cl) (cols rows cols' rows' : Nat) (s : St) (h1 : 1 ≤ cols') (hl : c.length = cols * rows) (m : Nat) (hm : m = rows' ∨ m = rows) : rzK c cols rows cols' rows' s m = rzF c cols rows cols' rows' s := by
 refine rows_ext _ _ cols' rows' h1 (rzK_len c cols rows cols' rows' s m hl) (by rw [rzF, joinR_len _ cols' rows' (fun k _ => rzR_len c cols rows cols' s k hl), Nat.mul_comm]) fun n hn => ?_
 rw [rzK_row c cols rows cols' rows' s m hl n hn, rzF, rowF_join _ cols' rows' (fun k _ => rzR_len c cols rows cols' s k hl) n hn]
 by_cases h : n < m
 ·rw [if_pos h]
 ·rw [if_neg h]
  unfold rzR
  rw [if_neg (by omega)]
theorem lay_rows (l : List Cl) (cols rows k n : Nat) (r : List Cl) (hc : 1 ≤ cols) (hl : l.length = cols * rows) (hk : k < rows) (hr : r.length = cols) : rowF (lay l (cols * k) r) cols n = if n = k then r else rowF l cols n := by
 rw [lay_put l cols k r hr]
 exact rowF_put l cols k n r hr (by rw [hl]; exact fits hk)
theorem rzK_step (c : List Cl) (cols rows cols' rows' : Nat) (s : St) (h1 : 1 ≤ cols') (hl : c.length = cols * rows) (k : Nat) (hk : k < rows') : lay (rzK c cols rows cols' rows' s k) (cols' * k) (rzR c cols rows cols' s k) = rzK c cols rows cols' rows' s (k + 1) := by
 have hkl := rzK_len c cols rows cols' rows' s k hl
 have hrl := rzR_len c cols rows cols' s k hl
 have hfit := fits (cols := cols') hk
 refine rows_ext _ _ cols' rows' h1 (by rw [lay_len _ _ _ (by rw [hrl, hkl, Nat.mul_comm cols' k]; exact hfit), hkl]) (rzK_len c cols rows cols' rows' s (k + 1) hl) fun n hn => ?_
 rw [lay_rows _ cols' rows' k n _ h1 hkl hk hrl, rzK_row c cols rows cols' rows' s (k + 1) hl n hn, rzK_row c cols rows cols' rows' s k hl n hn]
 by_cases e : n = k
 ·subst e; rw [if_pos rfl, if_pos (by omega)]
 ·rw [if_neg e]
  by_cases h : n < k
  ·rw [if_pos h, if_pos (by omega)]
  ·rw [if_neg h, if_neg (by omega)]
/-- A row as it is laid, ahead of being mended. -/
def rzM (c : List Cl) (cols cols' : Nat) (s : St) (n : Nat) : List Cl := (rowF c cols n).take cols' ++ List.replicate (cols' - cols) (bl s)
theorem rzM_len (c : List Cl) (cols rows cols' : Nat) (s : St) (n : Nat) (hl : c.length = cols * rows) (hn : n < rows) : (rzM c cols cols' s n).length = cols' := by
 unfold rzM
 rw [List.length_append, List.length_take, rowF_len c cols n (by rw [hl]; exact fits hn), List.length_replicate]
 omega
theorem rzM_lay (c : List Cl) (cols rows cols' rows' : Nat) (s : St) (h1 : 1 ≤ cols') (hl : c.length = cols * rows) (k : Nat) (hk : k < rows') (hk2 : k < rows) :
  lay (rzK c cols rows cols' rows' s k) (cols' * k) ((rowF c cols k).take cols') = lay (rzK c cols rows cols' rows' s k) (cols' * k) (rzM c cols cols' s k) := by
 have hkl := rzK_len c cols rows cols' rows' s k hl
 have hfit := fits (cols := cols') hk
 have hrl := rowF_len c cols k (by rw [hl]; exact fits hk2)
 have := lay_row (rzK c cols rows cols' rows' s k) cols' k 0 ((rowF c cols k).take cols') (by rw [List.length_take]; omega) (by rw [hkl, Nat.mul_comm cols' k]; exact hfit)
 rw [Nat.add_zero] at this
 rw [this, rzK_row c cols rows cols' rows' s k hl k hk, if_neg (by omega)]
 congr 1
 unfold lay rzM
 rw [tkZ, List.nil_append, Nat.zero_add, List.length_take, hrl, List.drop_replicate]
 congr 2
 omega
theorem new_ok (cols rows : Nat) (s : St) (w : World) (h1 : 1 ≤ cols) (h2 : cols ≤ 512) (h3 : 1 ≤ rows) (h4 : rows ≤ 512) (hS : mayS s = true) :
  Calls Tryz.prog 61 #[.int .i64 (cols : Int), .int .i64 (rows : Int), .agg (sA s)] w fun e w' => ∃ b, e = .returned (gOk (cols : Int) (rows : Int) (.slice (some ⟨b, 0, none⟩) (cols * rows) (cols * rows))) ∧ w.heap.size ≤ b ∧ RC w' b (List.replicate (cols * rows) (bl s)) [] ∧ Below w.heap.size w w' := by
 have MZ := Box'.mk (maySize_any (cols : Int) (rows : Int))
 rw [side_of h1 h2, side_of h3 h4] at MZ
 have MS := Box'.mk (mayStyle15_any s)
 rw [hS] at MS
 have BK := Box'.mk (blanks_any cols rows h1 h2 h3 h4 s)
 generalize cols * rows = n at *
 have R1 : Box' (Row ((w.alloc (.cells (sA s) 26)).alloc (.cells #[.int .i64 0, .int .i64 0, .slice none 0 0] 24)) w.heap.size 26 (sA s)) := ⟨(Row.new _ _ _).alloc _⟩
 have RM : Box' (Room ((w.alloc (.cells (sA s) 26)).alloc (.cells #[.int .i64 0, .int .i64 0, .slice none 0 0] 24)) (w.heap.size + 1) 24 3) := ⟨Room.made _ _ _ _ _ rfl (by simp)⟩
 have B1 : Box' (Below w.heap.size w ((w.alloc (.cells (sA s) 26)).alloc (.cells #[.int .i64 0, .int .i64 0, .slice none 0 0] 24))) := ⟨((Below.refl w.heap.size w).alloc (Nat.le_refl _) _).alloc (by simp) _⟩
 have Z1 : w.heap.size + 2 ≤ ((w.alloc (.cells (sA s) 26)).alloc (.cells #[.int .i64 0, .int .i64 0, .slice none 0 0] 24)).heap.size := by simp
 have S24 := Box'.mk s24g
 have U26 := Box'.mk Tryz.underlying26
 have S26 := Box'.mk s24
 clear hS
 go_enter Tryz.func61, Tryz.ntmps61
 go_upto_region 1 with (fail)
 generalize ((w.alloc (.cells (sA s) 26)).alloc (.cells #[.int .i64 0, .int .i64 0, .slice none 0 0] 24)) = w1 at *
 obtain ⟨cs0, cs1, cs2, cs3, cs4, cs5, cs6, cs7, cs8, cs9⟩ := R1.out.s10
 go_wp2_with fail
 refine (MZ.out _).mono ?_
 rintro e w2 ⟨rfl, rfl⟩
 go_wp2_with fail
 refine (MS.out _).mono ?_
 rintro e w3 ⟨rfl, hb⟩
 have R3 := Box'.mk (RM.out.below hb (by omega))
 have Q3 := Box'.mk (R1.out.below hb R1.out.lt)
 have B3 := Box'.mk (B1.out.trans (hb.mono B1.out.size))
 have Z3 := Nat.le_trans Z1 hb.size
 clear hb R1 RM B1 Z1 cs0 cs1 cs2 cs3 cs4 cs5 cs6 cs7 cs8 cs9
 go_wp2_with (first
  | (refine wpList_load_row rfl 26 (.tmp 5) rfl w.heap.size rfl 26 (sA s) Q3.out _ U26.out rfl 10 S26.out rfl ?_))
 refine (BK.out _).mono ?_
 rintro e w4 ⟨b, rfl, hb0, hrc, hb⟩
 have R4 := Box'.mk (R3.out.below hb (by omega))
 have B4 := Box'.mk (B3.out.trans (hb.mono B3.out.size))
 have C4 := Box'.mk hrc
 have O := Box'.mk (gA_one (cols : Int) (rows : Int) (some ⟨b, 0, none⟩) n n)
 clear hb hrc R3 B3 Q3
 go_wp2_with (first
  | (refine wpList_store_row rfl 24 (.tmp 6) (.tmp 21) rfl (w.heap.size + 1) rfl (gA (cols : Int) (rows : Int) (.slice (some ⟨b, 0, none⟩) n n)) rfl 24 3 R4.out S24.out rfl O.out ?_))
 exact bodyPost_ret (results_two rfl _ (w.heap.size + 1) rfl _ rfl _ _ (R4.out.setRow _) rfl) rfl ⟨b, rfl, by omega, Row.setRowOther C4.out _ _ (by omega), below_setRow B4.out (by omega) _⟩
theorem resize_ok (cols rows : Nat) (v : Value) (c : List Cl) (co ro : Nat) (s : St) (w : World) (hv : Cls w.heap.size w v c) (hG : mayG (cols : Int) (rows : Int) c = true) (hS : mayS s = true) (k1 : 1 ≤ co) (k2 : co ≤ 512) (k3 : 1 ≤ ro) (k4 : ro ≤ 512) :
  Calls Tryz.prog 97 #[.agg (gA (cols : Int) (rows : Int) v), .int .i64 (co : Int), .int .i64 (ro : Int), .agg (sA s)] w fun e w' => ∃ b, e = .returned (gOk (co : Int) (ro : Int) (.slice (some ⟨b, 0, none⟩) (co * ro) (co * ro))) ∧ w.heap.size ≤ b ∧ RC w' b (rzF c cols rows co ro s) [] ∧ Below w.heap.size w w' := by
 rcases Nat.lt_or_ge rows ro with hmin | hmin
 all_goals (
 obtain ⟨cols', rows', ec, er, p1, p2, p3, p4, hl⟩ := mayG_dest hG
 obtain rfl : cols = cols' := by omega
 obtain rfl : rows = rows' := by omega
 have hle : cols * rows ≤ 512 * 512 := Nat.mul_le_mul p2 p4
 have hpos : 1 * 1 ≤ cols * rows := Nat.mul_le_mul p1 p3
 have hle2 : co * ro ≤ 512 * 512 := Nat.mul_le_mul k2 k4
 have MG : Box' (∀ wx, Below w.heap.size w wx → Calls Tryz.prog 53 #[.agg (gA (cols : Int) (rows : Int) v)] wx fun e w' => e = .returned (.bool (mayG (cols : Int) (rows : Int) c)) ∧ Below wx.heap.size wx w') := ⟨fun wx hb => gmay_any (cols : Int) (rows : Int) v c wx ((hv.below hb (Nat.le_refl _)).up hb.size)⟩
 rw [hG] at MG
 have MS := Box'.mk (mayStyle15_any s)
 rw [hS] at MS
 have IN2 := Box'.mk (maySize_any (co : Int) (ro : Int))
 rw [side_of k1 k2, side_of k3 k4] at IN2
 have BK := Box'.mk (blanks_any co ro k1 k2 k3 k4 s)
 rw [← rzK_0 c cols rows co ro s k1 hl] at BK
 have RK : Box' (∀ b k wx, k < ro → Calls Tryz.prog 117 #[.agg (gA (co : Int) (ro : Int) (.slice (some ⟨b, 0, none⟩) (co * ro) (co * ro))), .int .i64 (k : Int)] wx fun e w' => e = .returned (.slice (some ⟨b, co * k * 15, none⟩) co co) ∧ Below wx.heap.size wx w') := ⟨fun b k wx hk => by
  have := rowOf_any co k b 0 (co * ro) (co * ro) (ro : Int) k1 k2 (by omega) (Nat.mul_le_mul_left _ (by omega)) wx
  rwa [Nat.zero_add] at this⟩
 obtain ⟨gb, go', gc, rfl, hgb, hgc, HC0⟩ : ∃ b o cp, v = .slice (some ⟨b, o, none⟩) c.length cp ∧ b < w.heap.size ∧ c.length ≤ cp ∧ ∀ k, k < c.length → ∀ j, j < 15 → w.cell? ⟨b, o + k * 15 + j, none⟩ = (cA (cat c k))[j]? := by
  obtain ⟨a, cp, rfl, hcp, h3⟩ := hv
  rcases h3 with rfl | ⟨b, o, rfl, h5, h6⟩
  ·simp at hl; omega
  ·exact ⟨b, o, cp, rfl, h5, hcp, h6⟩
 have RG : Box' (∀ k wx, k < rows → Calls Tryz.prog 117 #[.agg (gA (cols : Int) (rows : Int) (.slice (some ⟨gb, go', none⟩) c.length gc)), .int .i64 (k : Int)] wx fun e w' => e = .returned (.slice (some ⟨gb, go' + cols * k * 15, none⟩) cols cols) ∧ Below wx.heap.size wx w') := ⟨fun k wx hk => rowOf_any cols k gb go' c.length gc (rows : Int) p1 p2 (by omega) (by have := Nat.mul_le_mul_left cols (show k + 1 ≤ rows by omega); omega) wx⟩
 have SRC : Box' (∀ k wx, k < rows → Below w.heap.size w wx → Cls w.heap.size wx (.slice (some ⟨gb, go' + cols * k * 15, none⟩) cols cols) (rowF c cols k)) := ⟨fun k wx hk hbe => by
  have hft := fits (cols := cols) hk
  have hrl := rowF_len c cols k (by omega)
  refine ⟨_, _, by rw [hrl], by omega, .inr ⟨gb, go' + cols * k * 15, rfl, hgb, fun j hj i hi => ?_⟩⟩
  rw [hrl] at hj
  have e : (rowF c cols k).getD j (hf pl) = cat c (k * cols + j) := cat_row c cols k j hj
  rw [hbe.cell (p := ⟨gb, go' + cols * k * 15 + j * 15 + i, none⟩) hgb, e, show go' + cols * k * 15 + j * 15 + i = go' + (k * cols + j) * 15 + i by rw [Nat.add_mul, Nat.mul_comm k cols]; omega]
  exact HC0 (k * cols + j) (by omega) i hi⟩
 have ML : Box' (∀ k, k < ro → k < rows → co * k + ((rowF c cols k).take co).length ≤ (rzK c cols rows co ro s k).length) := ⟨fun k h1 h2 => by
  rw [rzK_len c cols rows co ro s k hl, List.length_take]
  have := fits (cols := co) h1
  rw [Nat.mul_comm co k]
  omega⟩
 have LM : Box' (∀ k, k < ro → k < rows → lay (rzK c cols rows co ro s k) (co * k) ((rowF c cols k).take co) = lay (rzK c cols rows co ro s k) (co * k) (rzM c cols co s k)) := ⟨fun k h1 h2 => rzM_lay c cols rows co ro s k1 hl k h1 h2⟩
 have ME : Box' (∀ b k wx, k < ro → k < rows → RC wx b (lay (rzK c cols rows co ro s k) (co * k) (rzM c cols co s k)) [] → Calls Tryz.prog 144 #[.slice (some ⟨b, co * k * 15, none⟩) co co] wx fun e w' => (∃ v, e = .returned v) ∧ RC w' b (rzK c cols rows co ro s (k + 1)) [] ∧ Tc b wx w') := ⟨fun b k wx h1 h2 h => by
  rw [← rzK_step c cols rows co ro s k1 hl k h1]
  have e : rzR c cols rows co s k = mnd (rzM c cols co s k) := by unfold rzR; rw [if_pos h2]; rfl
  rw [e]
  have := fits (cols := co) h1
  exact mend_any b (co * k) co co _ [] _ wx (by omega) (Nat.le_refl _) (rzM_len c cols rows co s k hl h2) (by rw [rzK_len c cols rows co ro s k hl, Nat.mul_comm co k]; exact this) h⟩
 first | (have gt : rows < ro := (by omega); have EN := Box'.mk (rzK_end c cols rows co ro s k1 hl rows (by first | exact .inl rfl | exact .inr rfl))) | have EN := Box'.mk (rzK_end c cols rows co ro s k1 hl ro (by first | exact .inl rfl | exact .inr rfl))
 have F := Box'.mk (FrG.begin w (gA (cols : Int) (rows : Int) (.slice (some ⟨gb, go', none⟩) c.length gc)) s)
 have U24 := Box'.mk Tryz.underlying24
 have S24 := Box'.mk s24g
 have U26 := Box'.mk Tryz.underlying26
 have S26 := Box'.mk s24
 generalize hRZ : rzK c cols rows co ro s = rz at *
 generalize rzF c cols rows co ro s = X at *
 generalize rzM c cols co s = rm at *
 generalize hRF : rowF c cols = rf at *
 generalize c.length = n at *
 clear hG hS hv ec er hl hle hpos HC0 hRZ hRF hgc
 first | have hmin2 : (ro : Int) ≤ (rows : Int) := by omega | have hmin2 : (rows : Int) < (ro : Int) := by omega
 go_enter Tryz.func97, Tryz.ntmps97
 go_upto_region 1 with (fail)
 generalize (((w.alloc (.cells (gA (cols : Int) (rows : Int) (.slice (some ⟨gb, go', none⟩) n gc)) 24)).alloc (.cells (sA s) 26)).alloc (.cells #[.int .i64 0, .int .i64 0, .slice none 0 0] 24)) = w1 at *
 go_wp2_with (first
  | (refine wpList_load_row rfl 24 (.tmp 4) rfl w.heap.size rfl 24 (gA (cols : Int) (rows : Int) (.slice (some ⟨gb, go', none⟩) n gc)) F.out.rg _ U24.out rfl 3 S24.out rfl ?_))
 refine (MG.out _ F.out.be).mono ?_
 rintro e w2 ⟨rfl, hb⟩
 replace F := Box'.mk (F.out.below hb)
 clear hb
 obtain ⟨cs0, cs1, cs2, cs3, cs4, cs5, cs6, cs7, cs8, cs9⟩ := F.out.rs.s10
 have c0 : w2.cell? ⟨w.heap.size, 0, none⟩ = some (.int .i64 (cols : Int)) := F.out.rg.cell 0
 have c1 : w2.cell? ⟨w.heap.size, 1, none⟩ = some (.int .i64 (rows : Int)) := F.out.rg.cell 1
 go_wp2_with fail
 refine (MS.out _).mono ?_
 rintro e w3 ⟨rfl, hb⟩
 replace F := Box'.mk (F.out.below hb)
 clear hb
 clear c0 c1 cs0 cs1 cs2 cs3 cs4 cs5 cs6 cs7 cs8 cs9
 obtain ⟨cs0, cs1, cs2, cs3, cs4, cs5, cs6, cs7, cs8, cs9⟩ := F.out.rs.s10
 have c0 : w3.cell? ⟨w.heap.size, 0, none⟩ = some (.int .i64 (cols : Int)) := F.out.rg.cell 0
 have c1 : w3.cell? ⟨w.heap.size, 1, none⟩ = some (.int .i64 (rows : Int)) := F.out.rg.cell 1
 go_wp2_with fail
 refine (IN2.out _).mono ?_
 rintro e w4 ⟨rfl, rfl⟩
 clear c0 c1 cs0 cs1 cs2 cs3 cs4 cs5 cs6 cs7 cs8 cs9
 go_wp2_with (first
  | (refine wpList_load_row rfl 26 (.tmp 7) rfl (w.heap.size + 1) rfl 26 (sA s) F.out.rs _ U26.out rfl 10 S26.out rfl ?_))
 refine (BK.out _).mono ?_
 rintro e w4 ⟨b, rfl, hb0, hrc, hb⟩
 have hb3 : w.heap.size + 3 ≤ b := Nat.le_trans F.out.sz hb0
 replace F := Box'.mk (F.out.below hb)
 have CC := Box'.mk hrc
 have hblt := hrc.lt
 clear hb hrc hb0 MG MS BK IN2
 have RM : Box' (Room (w4.alloc (.cells #[.int .i64 0, .int .i64 0, .slice none 0 0] 24)) w4.heap.size 24 3) := ⟨Room.new _ _ _ _ rfl⟩
 have G4 : Box' (Row ((w4.alloc (.cells #[.int .i64 0, .int .i64 0, .slice none 0 0] 24)).setRow w4.heap.size (gA (co : Int) (ro : Int) (.slice (some ⟨b, 0, none⟩) (co * ro) (co * ro)))) w4.heap.size 24 (gA (co : Int) (ro : Int) (.slice (some ⟨b, 0, none⟩) (co * ro) (co * ro)))) := ⟨RM.out.setRow _⟩
 have C4 : Box' (RC ((w4.alloc (.cells #[.int .i64 0, .int .i64 0, .slice none 0 0] 24)).setRow w4.heap.size (gA (co : Int) (ro : Int) (.slice (some ⟨b, 0, none⟩) (co * ro) (co * ro)))) b (rz 0) []) := ⟨Row.setRowOther (Row.alloc CC.out _) _ _ (by omega)⟩
 have F4 : Box' (FrG w (gA (cols : Int) (rows : Int) (.slice (some ⟨gb, go', none⟩) n gc)) s ((w4.alloc (.cells #[.int .i64 0, .int .i64 0, .slice none 0 0] 24)).setRow w4.heap.size (gA (co : Int) (ro : Int) (.slice (some ⟨b, 0, none⟩) (co * ro) (co * ro))))) := ⟨F.out.below (below_setRow (bR.alloc (Nat.le_refl _) _) (Nat.le_refl _) _)⟩
 have O := Box'.mk (gA_one (co : Int) (ro : Int) (some ⟨b, 0, none⟩) (co * ro) (co * ro))
 go_upto_region 4 with (first
  | (refine wpList_store_row rfl 24 (.tmp 10) (.tmp 31) rfl w4.heap.size rfl (gA (co : Int) (ro : Int) (.slice (some ⟨b, 0, none⟩) (co * ro) (co * ro))) rfl 24 3 RM.out S24.out rfl O.out ?_))
 generalize ((w4.alloc (.cells #[.int .i64 0, .int .i64 0, .slice none 0 0] 24)).setRow w4.heap.size (gA (co : Int) (ro : Int) (.slice (some ⟨b, 0, none⟩) (co * ro) (co * ro)))) = w5 at *
 clear RM CC F
 have hqb : w4.heap.size ≠ b := by omega
 have hq3 : w.heap.size + 3 ≤ w4.heap.size := by omega
 generalize w4.heap.size = q at *
 have c1 : w5.cell? ⟨w.heap.size, 1, none⟩ = some (.int .i64 (rows : Int)) := F4.out.rg.cell 1
 generalize hNN : co * ro = N at *
 have HNN := Box'.mk hNN
 clear hNN
 go_wp2_with fail
 clear c1
 first | (have gt : rows < ro := (by omega); go_loopw [36] (fun i wr => ∃ k : Nat, k ≤ rows ∧ i = .int .i64 (k : Int) ∧ Box' (FrG w (gA (cols : Int) (rows : Int) (.slice (some ⟨gb, go', none⟩) n gc)) s wr) ∧ Box' (Row wr q 24 (gA (co : Int) (ro : Int) (.slice (some ⟨b, 0, none⟩) N N))) ∧ Box' (RC wr b (rz k) [])) (fun i _ => rows - (intOf i).toNat)) | go_loopw [36] (fun i wr => ∃ k : Nat, k ≤ ro ∧ i = .int .i64 (k : Int) ∧ Box' (FrG w (gA (cols : Int) (rows : Int) (.slice (some ⟨gb, go', none⟩) n gc)) s wr) ∧ Box' (Row wr q 24 (gA (co : Int) (ro : Int) (.slice (some ⟨b, 0, none⟩) N N))) ∧ Box' (RC wr b (rz k) [])) (fun i _ => ro - (intOf i).toNat)
 case atStart => exact ⟨0, by omega, rfl, F4, G4, C4⟩
 case round =>
  obtain ⟨k, hk, rfl, FF, GG, CC⟩ := hrel
  clear F4 G4 C4
  first | (have gt : rows < ro := (by omega); by_cases hlt : k < rows) | by_cases hlt : k < ro
  case neg =>
   first | (have gt : rows < ro := (by omega); rw [show k = rows by omega, EN.out] at CC) | rw [show k = ro by omega, EN.out] at CC
   clear RK RG SRC ML LM ME
   go_wp2_with (first
    | (refine wpList_load_row rfl 24 (.tmp 10) rfl q rfl 24 (gA (co : Int) (ro : Int) (.slice (some ⟨b, 0, none⟩) N N)) GG.out _ U24.out rfl 3 S24.out rfl ?_)
    | (refine wpList_store_row rfl 24 (.tmp 8) (.tmp 50) rfl (w.heap.size + 2) rfl (gA (co : Int) (ro : Int) (.slice (some ⟨b, 0, none⟩) N N)) rfl 24 3 FF.out.rr S24.out rfl O.out ?_))
   exact bodyPost_ret (results_two rfl _ (w.heap.size + 2) rfl _ rfl _ _ (FF.out.rr.setRow _) rfl) rfl ⟨b, by rw [HNN.out]; rfl, by omega, Row.setRowOther CC.out _ _ (by omega), below_setRow FF.out.be (by omega) _⟩
  case pos =>
   have hkr : k < ro := by omega
   have hks : k < rows := by omega
   have RK1 := Box'.mk (fun wx => RK.out b k wx hkr)
   have RG1 := Box'.mk (fun wx => RG.out k wx hks)
   have ME1 := Box'.mk (fun wx => ME.out b k wx hkr hks)
   have SR1 := Box'.mk (fun wx => SRC.out k wx hks)
   have ML1 := Box'.mk (ML.out k hkr hks)
   have LM1 := Box'.mk (LM.out k hkr hks)
   clear RK RG ME SRC ML LM
   go_wp2_with (first
    | (refine wpList_load_row rfl 24 (.tmp 10) rfl q rfl 24 (gA (co : Int) (ro : Int) (.slice (some ⟨b, 0, none⟩) N N)) GG.out _ U24.out rfl 3 S24.out rfl ?_))
   refine (RK1.out _).mono ?_
   rintro e w6 ⟨rfl, hb⟩
   replace FF := Box'.mk (FF.out.below hb)
   replace GG := Box'.mk (GG.out.below hb GG.out.lt)
   replace CC := Box'.mk (CC.out.below hb CC.out.lt)
   clear hb RK1
   go_wp2_with (first
    | (refine wpList_load_row rfl 24 (.tmp 4) rfl w.heap.size rfl 24 (gA (cols : Int) (rows : Int) (.slice (some ⟨gb, go', none⟩) n gc)) FF.out.rg _ U24.out rfl 3 S24.out rfl ?_))
   refine (RG1.out _).mono ?_
   rintro e w7 ⟨rfl, hb⟩
   replace FF := Box'.mk (FF.out.below hb)
   replace GG := Box'.mk (GG.out.below hb GG.out.lt)
   replace CC := Box'.mk (CC.out.below hb CC.out.lt)
   clear hb RG1
   have SR2 := Box'.mk (SR1.out _ FF.out.be)
   go_upto_region 9 with (first
    | (refine wpList_copyA rfl (.tmp 42) (.tmp 45) rfl b (co * k * 15) (co * k) co co (.slice (some ⟨gb, go' + cols * k * 15, none⟩) cols cols) w.heap.size (rz k) (rf k) ((rf k).take co) [] rfl rfl SR2.out CC.out rfl (.inr rfl) ML1.out ?_; intro u8 w8 W8))
   rw [LM1.out] at W8
   have C8 := Box'.mk W8.out.1
   have F8 := Box'.mk (FF.out.tc W8.out.2 hb3)
   have G8 := Box'.mk (W8.out.2.row GG.out hqb)
   clear W8 CC FF GG SR2 SR1 ML1 LM1
   go_wp2_with fail
   refine (ME1.out _ C8.out).mono ?_
   rintro e w9 ⟨⟨v9, rfl⟩, hr9, ht9⟩
   have C9 := Box'.mk hr9
   have F9 := Box'.mk (F8.out.tc ht9 hb3)
   have G9 := Box'.mk (ht9.row G8.out hqb)
   clear hr9 ht9 F8 G8 C8 ME1
   go_wp2_with fail
   exact ⟨⟨k + 1, by omega, by go_num, F9, G9, C9⟩, by simp [intOf]; omega⟩)
end Go.Proofs.YtlekleeckcdcgaaGreat
