/- New; what Resize comes to. -/
import Derived.Test.YtnbonlkmadmpcaaMz
namespace Go.Proofs.Ytnbonlkmadmpcaa
open Go.RowKit Go.BigFrame
set_option linter.unusedVariables false
set_option linter.unusedSimpArgs false
/-- The rows that are laid so far, the others blank. -/
def rzK (c : List Cl) (cols rows cols' rows' : Nat) (s : St) (k : Nat) : List Cl := joinR (fun n => if n < k then rzR c cols rows cols' s n else List.replicate cols' (bl s)) rows'
theorem rzK_rl (c : List Cl) (cols rows cols' : Nat) (s : St) (k : Nat) (hl : c.length = cols * rows) (n : Nat) : (if n < k then rzR c cols rows cols' s n else List.replicate cols' (bl s)).length = cols' := by
 split
 ·exact rzR_len c cols rows cols' s n hl
 ·simp
theorem rzK_len (c : List Cl) (cols rows cols' rows' : Nat) (s : St) (k : Nat) (hl : c.length = cols * rows) : (rzK c cols rows cols' rows' s k).length = cols' * rows' := by
 rw [rzK, joinR_len _ cols' rows' (fun n _ => rzK_rl c cols rows cols' s k hl n), Nat.mul_comm]
theorem rzK_row (c : List Cl) (cols rows cols' rows' : Nat) (s : St) (k : Nat) (hl : c.length = cols * rows) (n : Nat) (hn : n < rows') : rowF (rzK c cols rows cols' rows' s k) cols' n = if n < k then rzR c cols rows cols' s n else List.replicate cols' (bl s) :=
 rowF_join _ cols' rows' (fun n _ => rzK_rl c cols rows cols' s k hl n) n hn
theorem rzK_0 (c : List Cl) (cols rows cols' rows' : Nat) (s : St) (h1 : 1 ≤ cols') (hl : c.length = cols * rows) : rzK c cols rows cols' rows' s 0 = List.replicate (cols' * rows') (bl s) := by
 refine rows_ext _ _ cols' rows' h1 (rzK_len c cols rows cols' rows' s 0 hl) (by simp) fun n hn => ?_
 rw [rzK_row c cols rows cols' rows' s 0 hl n hn, if_neg (by omega)]
 have := fits (cols := cols') hn
 unfold rowF
 rw [List.drop_replicate, List.take_replicate]
 congr 1
 omega
theorem rzK_end (c : List Cl) (cols rows cols' rows' : Nat) (s : St) (h1 : 1 ≤ cols') (hl : c.length = cols * rows) (m : Nat) (hm : m = rows' ∨ m = rows) : rzK c cols rows cols' rows' s m = rzF c cols rows cols' rows' s := by
 refine rows_ext _ _ cols' rows' h1 (rzK_len c cols rows cols' rows' s m hl) (by rw [rzF, joinR_len _ cols' rows' (fun k _ => rzR_len c cols rows cols' s k hl), Nat.mul_comm]) fun n hn => ?_
 rw [rzK_row c cols rows cols' rows' s m hl n hn, rzF, rowF_join _ cols' rows' (fun k _ => rzR_len c cols rows cols' s k hl) n hn]
 by_cases h : n < m
 ·rw [if_pos h]
 ·rw [if_neg h]
  unfold rzR
  rw [if_neg (by omega)]
theorem lay_rows (l : List Cl) (cols rows k n : Nat) (r : List Cl) (hc : 1 ≤ cols) (hl : l.length = cols * rows) (hk : k < rows) (hr : r.length = cols) : rowF (lay l (cols * k) r) cols n = if n = k then r else rowF l cols n := by
 rw [lay_put l cols k r hr]
 exact rowF_put l cols k n r hr (by rw [hl]; exact fits hk)
theorem rzK_step (c : List Cl) (cols rows cols' rows' : Nat) (s : St) (h1 : 1 ≤ cols') (hl : c.length = cols * rows) (k : Nat) (hk : k < rows') : lay (rzK c cols rows cols' rows' s k) (cols' * k) (rzR c cols rows cols' s k) = rzK c cols rows cols' rows' s (k + 1) := by
 have hkl := rzK_len c cols rows cols' rows' s k hl
 have hrl := rzR_len c cols rows cols' s k hl
 have hfit := fits (cols := cols') hk
 refine rows_ext _ _ cols' rows' h1 (by rw [lay_len _ _ _ (by rw [hrl, hkl, Nat.mul_comm cols' k]; exact hfit), hkl]) (rzK_len c cols rows cols' rows' s (k + 1) hl) fun n hn => ?_
 rw [lay_rows _ cols' rows' k n _ h1 hkl hk hrl, rzK_row c cols rows cols' rows' s (k + 1) hl n hn, rzK_row c cols rows cols' rows' s k hl n hn]
 by_cases e : n = k
 ·subst e; rw [if_pos rfl, if_pos (by omega)]
 ·rw [if_neg e]
  by_cases h : n < k
  ·rw [if_pos h, if_pos (by omega)]
  ·rw [if_neg h, if_neg (by omega)]
/-- A row as it is laid, ahead of being mended. -/
def rzM (c : List Cl) (cols cols' : Nat) (s : St) (n : Nat) : List Cl := (rowF c cols n).take cols' ++ List.replicate (cols' - cols) (bl s)
theorem rzM_len (c : List Cl) (cols rows cols' : Nat) (s : St) (n : Nat) (hl : c.length = cols * rows) (hn : n < rows) : (rzM c cols cols' s n).length = cols' := by
 unfold rzM
 rw [List.length_append, List.length_take, rowF_len c cols n (by rw [hl]; exact fits hn), List.length_replicate]
 omega
theorem rzM_lay (c : List Cl) (cols rows cols' rows' : Nat) (s : St) (h1 : 1 ≤ cols') (hl : c.length = cols * rows) (k : Nat) (hk : k < rows') (hk2 : k < rows) :
  lay (rzK c cols rows cols' rows' s k) (cols' * k) ((rowF c cols k).take cols') = lay (rzK c cols rows cols' rows' s k) (cols' * k) (rzM c cols cols' s k) := by
 have hkl := rzK_len c cols rows cols' rows' s k hl
 have hfit := fits (cols := cols') hk
 have hrl := rowF_len c cols k (by rw [hl]; exact fits hk2)
 have := lay_row (rzK c cols rows cols' rows' s k) cols' k 0 ((rowF c cols k).take cols') (by rw [List.length_take]; omega) (by rw [hkl, Nat.mul_comm cols' k]; exact hfit)
 rw [Nat.add_zero] at this
 rw [this, rzK_row c cols rows cols' rows' s k hl k hk, if_neg (by omega)]
 congr 1
 unfold lay rzM
 rw [tkZ, List.nil_append, Nat.zero_add, List.length_take, hrl, List.drop_replicate]
 congr 2
 omega
set_option maxRecDepth 100000 in
set_option maxHeartbeats 8000000 in
theorem new_no0 (co ro : Int) (s : St) (w : World) (h : (sideF co && sideF ro) = false) : Calls Try.prog 7 #[.int .i64 co, .int .i64 ro, .agg (sA s)] w fun e w' => e = .returned gErr ∧ Below w.heap.size w w' := by
 have MZ := Box'.mk (maySize_any co ro)
 rw [h] at MZ
 have RM : Box' (Room ((w.alloc (.cells (sA s) 26)).alloc (.cells #[.int .i64 0, .int .i64 0, .slice none 0 0] 24)) (w.heap.size + 1) 24 3) := ⟨Room.made _ _ _ _ _ rfl (by simp)⟩
 have B1 : Box' (Below w.heap.size w ((w.alloc (.cells (sA s) 26)).alloc (.cells #[.int .i64 0, .int .i64 0, .slice none 0 0] 24))) := ⟨((Below.refl w.heap.size w).alloc (Nat.le_refl _) _).alloc (by simp) _⟩
 have S24 := Box'.mk s24g
 have O := Box'.mk (gA_one 0 0 none 0 0)
 clear h
 go_enter Try.func7, Try.ntmps7
 go_upto_region 1 with (fail)
 generalize ((w.alloc (.cells (sA s) 26)).alloc (.cells #[.int .i64 0, .int .i64 0, .slice none 0 0] 24)) = w1 at *
 go_wp2_with fail
 refine (MZ.out _).mono ?_
 rintro e w2 ⟨rfl, rfl⟩
 go_wp2_with (first
  | (refine wpList_store_row rfl 24 (.tmp 6) (.tmp 17) rfl (w.heap.size + 1) rfl (gA 0 0 (.slice none 0 0)) rfl 24 3 RM.out S24.out rfl O.out ?_))
 exact bodyPost_ret (results_two rfl _ (w.heap.size + 1) rfl _ rfl _ _ (RM.out.setRow _) rfl) rfl ⟨rfl, below_setRow B1.out (by omega) _⟩
set_option maxRecDepth 100000 in
set_option maxHeartbeats 8000000 in
theorem new_no1 (co ro : Int) (s : St) (w : World) (h : (sideF co && sideF ro) = true) (hS : mayS s = false) : Calls Try.prog 7 #[.int .i64 co, .int .i64 ro, .agg (sA s)] w fun e w' => e = .returned gErr ∧ Below w.heap.size w w' := by
 have MZ := Box'.mk (maySize_any co ro)
 rw [h] at MZ
 have MS := Box'.mk (mayStyle15_any s)
 rw [hS] at MS
 have R1 : Box' (Row ((w.alloc (.cells (sA s) 26)).alloc (.cells #[.int .i64 0, .int .i64 0, .slice none 0 0] 24)) w.heap.size 26 (sA s)) := ⟨(Row.new _ _ _).alloc _⟩
 have RM : Box' (Room ((w.alloc (.cells (sA s) 26)).alloc (.cells #[.int .i64 0, .int .i64 0, .slice none 0 0] 24)) (w.heap.size + 1) 24 3) := ⟨Room.made _ _ _ _ _ rfl (by simp)⟩
 have B1 : Box' (Below w.heap.size w ((w.alloc (.cells (sA s) 26)).alloc (.cells #[.int .i64 0, .int .i64 0, .slice none 0 0] 24))) := ⟨((Below.refl w.heap.size w).alloc (Nat.le_refl _) _).alloc (by simp) _⟩
 have Z1 : w.heap.size + 2 ≤ ((w.alloc (.cells (sA s) 26)).alloc (.cells #[.int .i64 0, .int .i64 0, .slice none 0 0] 24)).heap.size := by simp
 have S24 := Box'.mk s24g
 have O := Box'.mk (gA_one 0 0 none 0 0)
 clear h hS
 go_enter Try.func7, Try.ntmps7
 go_upto_region 1 with (fail)
 generalize ((w.alloc (.cells (sA s) 26)).alloc (.cells #[.int .i64 0, .int .i64 0, .slice none 0 0] 24)) = w1 at *
 have cs0 : w1.cell? ⟨w.heap.size, 0, none⟩ = some (.int .i64 s.fg) := R1.out.cell 0
 have cs1 : w1.cell? ⟨w.heap.size, 1, none⟩ = some (.int .i64 s.bg) := R1.out.cell 1
 have cs2 : w1.cell? ⟨w.heap.size, 2, none⟩ = some (.bool s.b1) := R1.out.cell 2
 have cs3 : w1.cell? ⟨w.heap.size, 3, none⟩ = some (.bool s.b2) := R1.out.cell 3
 have cs4 : w1.cell? ⟨w.heap.size, 4, none⟩ = some (.bool s.b3) := R1.out.cell 4
 have cs5 : w1.cell? ⟨w.heap.size, 5, none⟩ = some (.bool s.b4) := R1.out.cell 5
 have cs6 : w1.cell? ⟨w.heap.size, 6, none⟩ = some (.bool s.b5) := R1.out.cell 6
 have cs7 : w1.cell? ⟨w.heap.size, 7, none⟩ = some (.bool s.b7) := R1.out.cell 7
 have cs8 : w1.cell? ⟨w.heap.size, 8, none⟩ = some (.bool s.b8) := R1.out.cell 8
 have cs9 : w1.cell? ⟨w.heap.size, 9, none⟩ = some (.bool s.b9) := R1.out.cell 9
 go_wp2_with fail
 refine (MZ.out _).mono ?_
 rintro e w2 ⟨rfl, rfl⟩
 go_wp2_with fail
 refine (MS.out _).mono ?_
 rintro e w3 ⟨rfl, hb⟩
 have R3 := Box'.mk (RM.out.below hb (by omega))
 have B3 := Box'.mk (B1.out.trans (hb.mono B1.out.size))
 clear hb
 go_wp2_with (first
  | (refine wpList_store_row rfl 24 (.tmp 6) (.tmp 17) rfl (w.heap.size + 1) rfl (gA 0 0 (.slice none 0 0)) rfl 24 3 R3.out S24.out rfl O.out ?_))
 exact bodyPost_ret (results_two rfl _ (w.heap.size + 1) rfl _ rfl _ _ (R3.out.setRow _) rfl) rfl ⟨rfl, below_setRow B3.out (by omega) _⟩
set_option maxRecDepth 100000 in
set_option maxHeartbeats 8000000 in
theorem new_ok (cols rows : Nat) (s : St) (w : World) (h1 : 1 ≤ cols) (h2 : cols ≤ 512) (h3 : 1 ≤ rows) (h4 : rows ≤ 512) (hS : mayS s = true) :
  Calls Try.prog 7 #[.int .i64 (cols : Int), .int .i64 (rows : Int), .agg (sA s)] w fun e w' => ∃ b, e = .returned (gOk (cols : Int) (rows : Int) (.slice (some ⟨b, 0, none⟩) (cols * rows) (cols * rows))) ∧ w.heap.size ≤ b ∧ RC w' b (List.replicate (cols * rows) (bl s)) [] ∧ Below w.heap.size w w' := by
 have MZ := Box'.mk (maySize_any (cols : Int) (rows : Int))
 rw [side_of h1 h2, side_of h3 h4] at MZ
 have MS := Box'.mk (mayStyle15_any s)
 rw [hS] at MS
 have BK := Box'.mk (blanks_any cols rows h1 h2 h3 h4 s)
 generalize cols * rows = n at *
 have R1 : Box' (Row ((w.alloc (.cells (sA s) 26)).alloc (.cells #[.int .i64 0, .int .i64 0, .slice none 0 0] 24)) w.heap.size 26 (sA s)) := ⟨(Row.new _ _ _).alloc _⟩
 have RM : Box' (Room ((w.alloc (.cells (sA s) 26)).alloc (.cells #[.int .i64 0, .int .i64 0, .slice none 0 0] 24)) (w.heap.size + 1) 24 3) := ⟨Room.made _ _ _ _ _ rfl (by simp)⟩
 have B1 : Box' (Below w.heap.size w ((w.alloc (.cells (sA s) 26)).alloc (.cells #[.int .i64 0, .int .i64 0, .slice none 0 0] 24))) := ⟨((Below.refl w.heap.size w).alloc (Nat.le_refl _) _).alloc (by simp) _⟩
 have Z1 : w.heap.size + 2 ≤ ((w.alloc (.cells (sA s) 26)).alloc (.cells #[.int .i64 0, .int .i64 0, .slice none 0 0] 24)).heap.size := by simp
 have S24 := Box'.mk s24g
 have U26 := Box'.mk Try.underlying26
 have S26 := Box'.mk s24
 clear hS
 go_enter Try.func7, Try.ntmps7
 go_upto_region 1 with (fail)
 generalize ((w.alloc (.cells (sA s) 26)).alloc (.cells #[.int .i64 0, .int .i64 0, .slice none 0 0] 24)) = w1 at *
 have cs0 : w1.cell? ⟨w.heap.size, 0, none⟩ = some (.int .i64 s.fg) := R1.out.cell 0
 have cs1 : w1.cell? ⟨w.heap.size, 1, none⟩ = some (.int .i64 s.bg) := R1.out.cell 1
 have cs2 : w1.cell? ⟨w.heap.size, 2, none⟩ = some (.bool s.b1) := R1.out.cell 2
 have cs3 : w1.cell? ⟨w.heap.size, 3, none⟩ = some (.bool s.b2) := R1.out.cell 3
 have cs4 : w1.cell? ⟨w.heap.size, 4, none⟩ = some (.bool s.b3) := R1.out.cell 4
 have cs5 : w1.cell? ⟨w.heap.size, 5, none⟩ = some (.bool s.b4) := R1.out.cell 5
 have cs6 : w1.cell? ⟨w.heap.size, 6, none⟩ = some (.bool s.b5) := R1.out.cell 6
 have cs7 : w1.cell? ⟨w.heap.size, 7, none⟩ = some (.bool s.b7) := R1.out.cell 7
 have cs8 : w1.cell? ⟨w.heap.size, 8, none⟩ = some (.bool s.b8) := R1.out.cell 8
 have cs9 : w1.cell? ⟨w.heap.size, 9, none⟩ = some (.bool s.b9) := R1.out.cell 9
 go_wp2_with fail
 refine (MZ.out _).mono ?_
 rintro e w2 ⟨rfl, rfl⟩
 go_wp2_with fail
 refine (MS.out _).mono ?_
 rintro e w3 ⟨rfl, hb⟩
 have R3 := Box'.mk (RM.out.below hb (by omega))
 have Q3 := Box'.mk (R1.out.below hb R1.out.lt)
 have B3 := Box'.mk (B1.out.trans (hb.mono B1.out.size))
 have Z3 := Nat.le_trans Z1 hb.size
 clear hb R1 RM B1 Z1 cs0 cs1 cs2 cs3 cs4 cs5 cs6 cs7 cs8 cs9
 go_wp2_with (first
  | (refine wpList_load_row rfl 26 (.tmp 5) rfl w.heap.size rfl 26 (sA s) Q3.out _ U26.out rfl 10 S26.out rfl ?_))
 refine (BK.out _).mono ?_
 rintro e w4 ⟨b, rfl, hb0, hrc, hb⟩
 have R4 := Box'.mk (R3.out.below hb (by omega))
 have B4 := Box'.mk (B3.out.trans (hb.mono B3.out.size))
 have C4 := Box'.mk hrc
 have O := Box'.mk (gA_one (cols : Int) (rows : Int) (some ⟨b, 0, none⟩) n n)
 clear hb hrc R3 B3 Q3
 go_wp2_with (first
  | (refine wpList_store_row rfl 24 (.tmp 6) (.tmp 21) rfl (w.heap.size + 1) rfl (gA (cols : Int) (rows : Int) (.slice (some ⟨b, 0, none⟩) n n)) rfl 24 3 R4.out S24.out rfl O.out ?_))
 exact bodyPost_ret (results_two rfl _ (w.heap.size + 1) rfl _ rfl _ _ (R4.out.setRow _) rfl) rfl ⟨b, rfl, by omega, Row.setRowOther C4.out _ _ (by omega), below_setRow B4.out (by omega) _⟩
end Go.Proofs.Ytnbonlkmadmpcaa
