/- The reference's New. The reference's Resize. What may be may be behind each deed; what is kept stays. Both Sames, of all grids. -/
import Derived.Test.YtlekleeckcdcgaaGreatWd
import Derived.Test.YtlekleeckcdcgaaGreatNn
import Derived.Test.YtlekleeckcdcgaaGreatEq
import Derived.Test.YtlekleeckcdcgaaGreatYx
import Derived.Test.YtlekleeckcdcgaaGreatXd
namespace Go.Proofs.YtlekleeckcdcgaaGreat
open Go.RowKit Go.BigFrame
set_option linter.unusedVariables false
set_option linter.unusedSimpArgs false
set_option maxRecDepth 100000
set_option maxHeartbeats 8000000
theorem miF_lo (a b : Int) (h1 : 0 ≤ a) (h2 : 0 ≤ b) : 0 ≤ miF a b := by unfold miF; split <;> omega
theorem miF_hi (a b : Int) : miF a b ≤ b := by unfold miF; split <;> omega
theorem may_rz {x : Sn} (h : mayN x = true) (cols rows : Nat) (hc1 : 1 ≤ cols) (hc2 : cols ≤ 512) (hr1 : 1 ≤ rows) (hr2 : rows ≤ 512) (c' : List Cl) (hc : mayG (cols : Int) (rows : Int) c' = true) : mayN (rzS x cols rows c') = true := by
 have m := Ma.of h
 obtain ⟨a1, a2, a3, a4, a5, a6⟩ := (curF_iff _ _ _).1 m.cur
 obtain ⟨b1, b2, b3, b4, b5, b6⟩ := (curF_iff _ _ _).1 m.sv
 have eg : (rzN { x with g := ⟨(cols : Int), (rows : Int), c' ⟩ } cols rows).g = ⟨(cols : Int), (rows : Int), c'⟩ := by unfold rzN; split <;> rfl
 have ecur : (rzN { x with g := ⟨(cols : Int), (rows : Int), c' ⟩ } cols rows).cur = x.cur := by unfold rzN; split <;> rfl
 have esv : (rzN { x with g := ⟨(cols : Int), (rows : Int), c' ⟩ } cols rows).sv = x.sv := by unfold rzN; split <;> rfl
 have etit : (rzN { x with g := ⟨(cols : Int), (rows : Int), c' ⟩ } cols rows).title = x.title := by unfold rzN; split <;> rfl
 have ealt : (rzN { x with g := ⟨(cols : Int), (rows : Int), c' ⟩ } cols rows).alt = x.alt := by unfold rzN; split <;> rfl
 refine Ma.may ⟨?_, ?_, ?_, Int.le_refl _, ?_, ?_, ?_, ?_, ?_⟩
 ·show curF (rzN { x with g := ⟨(cols : Int), (rows : Int), c' ⟩ } cols rows).g.co (rzN { x with g := ⟨(cols : Int), (rows : Int), c' ⟩ } cols rows).g.ro ⟨miF (rzN { x with g := ⟨(cols : Int), (rows : Int), c' ⟩ } cols rows).cur.row ((rzN { x with g := ⟨(cols : Int), (rows : Int), c' ⟩ } cols rows).g.ro - 1), miF (rzN { x with g := ⟨(cols : Int), (rows : Int), c' ⟩ } cols rows).cur.col ((rzN { x with g := ⟨(cols : Int), (rows : Int), c' ⟩ } cols rows).g.co - 1), false, (rzN { x with g := ⟨(cols : Int), (rows : Int), c' ⟩ } cols rows).cur.orig, (rzN { x with g := ⟨(cols : Int), (rows : Int), c' ⟩ } cols rows).cur.st⟩ = true
  rw [eg, ecur]
  have q1 := miF_lo x.cur.row ((rows : Int) - 1) a1 (by omega)
  have q2 := miF_hi x.cur.row ((rows : Int) - 1)
  have q3 := miF_lo x.cur.col ((cols : Int) - 1) a3 (by omega)
  have q4 := miF_hi x.cur.col ((cols : Int) - 1)
  exact (curF_iff _ _ _).2 ⟨q1, by show miF x.cur.row ((rows : Int) - 1) < (rows : Int); omega, q3, by show miF x.cur.col ((cols : Int) - 1) < (cols : Int); omega, (fun q => by cases q), a6⟩
 ·show curF (rzN { x with g := ⟨(cols : Int), (rows : Int), c' ⟩ } cols rows).g.co (rzN { x with g := ⟨(cols : Int), (rows : Int), c' ⟩ } cols rows).g.ro ⟨miF (rzN { x with g := ⟨(cols : Int), (rows : Int), c' ⟩ } cols rows).sv.row ((rzN { x with g := ⟨(cols : Int), (rows : Int), c' ⟩ } cols rows).g.ro - 1), miF (rzN { x with g := ⟨(cols : Int), (rows : Int), c' ⟩ } cols rows).sv.col ((rzN { x with g := ⟨(cols : Int), (rows : Int), c' ⟩ } cols rows).g.co - 1), false, (rzN { x with g := ⟨(cols : Int), (rows : Int), c' ⟩ } cols rows).sv.orig, (rzN { x with g := ⟨(cols : Int), (rows : Int), c' ⟩ } cols rows).sv.st⟩ = true
  rw [eg, esv]
  have q1 := miF_lo x.sv.row ((rows : Int) - 1) b1 (by omega)
  have q2 := miF_hi x.sv.row ((rows : Int) - 1)
  have q3 := miF_lo x.sv.col ((cols : Int) - 1) b3 (by omega)
  have q4 := miF_hi x.sv.col ((cols : Int) - 1)
  exact (curF_iff _ _ _).2 ⟨q1, by show miF x.sv.row ((rows : Int) - 1) < (rows : Int); omega, q3, by show miF x.sv.col ((cols : Int) - 1) < (cols : Int); omega, (fun q => by cases q), b6⟩
 ·show 0 ≤ (rzN { x with g := ⟨(cols : Int), (rows : Int), c' ⟩ } cols rows).g.ro - 1 ∧ (rzN { x with g := ⟨(cols : Int), (rows : Int), c' ⟩ } cols rows).g.ro - 1 < (rzN { x with g := ⟨(cols : Int), (rows : Int), c' ⟩ } cols rows).g.ro
  rw [eg]
  show 0 ≤ (rows : Int) - 1 ∧ (rows : Int) - 1 < (rows : Int)
  omega
 ·show 0 ≤ (rzN { x with g := ⟨(cols : Int), (rows : Int), c' ⟩ } cols rows).g.ro - 1
  rw [eg]
  show 0 ≤ (rows : Int) - 1
  omega
 ·show tabF (-1) (rzN { x with g := ⟨(cols : Int), (rows : Int), c' ⟩ } cols rows).g.co (tabsN cols) = true
  rw [eg]
  exact tabsN_tab cols hc1
 ·show titF (rzN { x with g := ⟨(cols : Int), (rows : Int), c' ⟩ } cols rows).title = true
  rw [etit]
  exact m.tit
 ·show mayG (rzN { x with g := ⟨(cols : Int), (rows : Int), c' ⟩ } cols rows).g.co (rzN { x with g := ⟨(cols : Int), (rows : Int), c' ⟩ } cols rows).g.ro (rzN { x with g := ⟨(cols : Int), (rows : Int), c' ⟩ } cols rows).g.c = true
  rw [eg]
  exact hc
 ·have hmn := m.mn
  show (if (rzN { x with g := ⟨(cols : Int), (rows : Int), c' ⟩ } cols rows).alt then decide ((rzN { x with g := ⟨(cols : Int), (rows : Int), c' ⟩ } cols rows).mn.co = (rzN { x with g := ⟨(cols : Int), (rows : Int), c' ⟩ } cols rows).g.co) && (decide ((rzN { x with g := ⟨(cols : Int), (rows : Int), c' ⟩ } cols rows).mn.ro = (rzN { x with g := ⟨(cols : Int), (rows : Int), c' ⟩ } cols rows).g.ro) && mayG (rzN { x with g := ⟨(cols : Int), (rows : Int), c' ⟩ } cols rows).mn.co (rzN { x with g := ⟨(cols : Int), (rows : Int), c' ⟩ } cols rows).mn.ro (rzN { x with g := ⟨(cols : Int), (rows : Int), c' ⟩ } cols rows).mn.c) else samG (rzN { x with g := ⟨(cols : Int), (rows : Int), c' ⟩ } cols rows).mn.co (rzN { x with g := ⟨(cols : Int), (rows : Int), c' ⟩ } cols rows).mn.ro (rzN { x with g := ⟨(cols : Int), (rows : Int), c' ⟩ } cols rows).mn.c 0 0 []) = true
  unfold mnF at hmn
  rw [ealt, eg]
  by_cases hA : x.alt = true
  ·rw [if_pos hA] at hmn ⊢
   simp only [Bool.and_eq_true, decide_eq_true_eq] at hmn
   obtain ⟨q1, q2, q3⟩ := hmn
   obtain ⟨mc, mr, e1, e2, p1, p2, p3, p4, hl⟩ := mayG_dest q3
   have emn : (rzN { x with g := ⟨(cols : Int), (rows : Int), c' ⟩ } cols rows).mn = ⟨(cols : Int), (rows : Int), rzF x.mn.c x.mn.co.toNat x.mn.ro.toNat cols rows x.cur.st⟩ := by
    unfold rzN
    rw [if_pos (show x.alt = true from hA)]
   rw [emn, e1, e2, Int.toNat_natCast, Int.toNat_natCast]
   have := mayG_resize mc mr cols rows x.cur.st x.mn.c p1 p2 p3 p4 hl (by rw [← e1, ← e2]; exact q3) (may_S h) hc1 hc2 hr1 hr2
   simp only [decide_true, Bool.true_and]
   exact this
  ·rw [if_neg hA] at hmn ⊢
   have emn : (rzN { x with g := ⟨(cols : Int), (rows : Int), c' ⟩ } cols rows).mn = x.mn := by
    unfold rzN
    rw [if_neg (show ¬ (x.alt = true) from hA)]
   rw [emn]
   exact hmn
theorem may_nw (cols rows : Nat) (hc1 : 1 ≤ cols) (hc2 : cols ≤ 512) (hr1 : 1 ≤ rows) (hr2 : rows ≤ 512) : mayN (nwS cols rows (List.replicate (cols * rows) (bl pl))) = true := by
 have hpl : mayS pl = true := by decide
 refine Ma.may ⟨(curF_iff _ _ _).2 ⟨Int.le_refl _, by show (0 : Int) < (rows : Int); omega, Int.le_refl _, by show (0 : Int) < (cols : Int); omega, (fun q => by cases q), hpl⟩, (curF_iff _ _ _).2 ⟨Int.le_refl _, by show (0 : Int) < (rows : Int); omega, Int.le_refl _, by show (0 : Int) < (cols : Int); omega, (fun q => by cases q), hpl⟩, ?_, Int.le_refl _, ?_, tabsN_tab cols hc1, rfl, mayG_new cols rows pl hc1 hc2 hr1 hr2 hpl, rfl⟩
 ·show 0 ≤ (rows : Int) - 1 ∧ (rows : Int) - 1 < (rows : Int); omega
 ·show (0 : Int) ≤ (rows : Int) - 1; omega
theorem may_some {x y z : Sn} (h : (if mayN x then some y else none) = some z) : mayN x = true ∧ y = z := by
 cases hx : mayN x with
 | false => rw [hx] at h; cases h
 | true => rw [hx] at h; exact ⟨rfl, by simpa using h⟩
/-- What may be may be behind each deed. -/
theorem may_do {x y : Sn} {k a b : Int} {on : Bool} (h : doS x k a b on = some y) : mayN x = true ∧ mayN y = true := by
 unfold doS at h
 by_cases h0 : k = 0
 ·rw [if_pos h0] at h
  obtain ⟨q, rfl⟩ := may_some h
  exact ⟨q, may_pr q _ ⟩
 rw [if_neg h0] at h
 by_cases h1 : k = 1
 ·rw [if_pos h1] at h
  obtain ⟨q, rfl⟩ := may_some h
  exact ⟨q, may_ct q _ ⟩
 rw [if_neg h1] at h
 by_cases h2 : k = 2
 ·rw [if_pos h2] at h
  obtain ⟨q, rfl⟩ := may_some h
  exact ⟨q, may_mv q _ _ ⟩
 rw [if_neg h2] at h
 by_cases h3 : k = 3
 ·rw [if_pos h3] at h
  obtain ⟨q, rfl⟩ := may_some h
  exact ⟨q, may_pl q _ _ ⟩
 rw [if_neg h3] at h
 by_cases h4 : k = 4
 ·rw [if_pos h4] at h
  obtain ⟨q, rfl⟩ := may_some h
  exact ⟨q, may_ea q _ _ ⟩
 rw [if_neg h4] at h
 by_cases h5 : k = 5
 ·rw [if_pos h5] at h
  obtain ⟨q, rfl⟩ := may_some h
  exact ⟨q, may_li q _ ⟩
 rw [if_neg h5] at h
 by_cases h6 : k = 6
 ·rw [if_pos h6] at h
  obtain ⟨q, rfl⟩ := may_some h
  exact ⟨q, may_ch q _ ⟩
 rw [if_neg h6] at h
 by_cases h7 : k = 7
 ·rw [if_pos h7] at h
  obtain ⟨q, rfl⟩ := may_some h
  exact ⟨q, may_sl q _ ⟩
 rw [if_neg h7] at h
 by_cases h8 : k = 8
 ·rw [if_pos h8] at h
  obtain ⟨q, rfl⟩ := may_some h
  exact ⟨q, may_rg q _ _ ⟩
 rw [if_neg h8] at h
 by_cases h9 : k = 9
 ·rw [if_pos h9] at h
  obtain ⟨q, rfl⟩ := may_some h
  exact ⟨q, may_ke q _ ⟩
 rw [if_neg h9] at h
 by_cases h10 : k = 10
 ·rw [if_pos h10] at h
  obtain ⟨q, rfl⟩ := may_some h
  exact ⟨q, may_md q _ _ _ ⟩
 rw [if_neg h10] at h
 by_cases h11 : k = 11
 ·rw [if_pos h11] at h
  obtain ⟨q, rfl⟩ := may_some h
  exact ⟨q, may_tg q _ ⟩
 rw [if_neg h11] at h
 by_cases h12 : k = 12
 ·rw [if_pos h12] at h
  obtain ⟨q, rfl⟩ := may_some h
  exact ⟨q, may_wp q _ ⟩
 rw [if_neg h12] at h
 cases hc : (mayN x && (sideF a && sideF b)) with
 | false => rw [hc] at h; cases h
 | true =>
  rw [hc] at h
  rw [Bool.and_eq_true, Bool.and_eq_true] at hc
  obtain ⟨q, s1, s2⟩ := hc
  obtain ⟨ea, a1, a2⟩ := side_is s1
  obtain ⟨eb, b1, b2⟩ := side_is s2
  simp only [if_true, Option.some.injEq] at h
  obtain ⟨co, ro, ec, er, p1, p2, p3, p4, hl⟩ := mayG_dest (may_G q)
  refine ⟨q, ?_⟩
  rw [← h]
  refine may_rz q _ _ a1 a2 b1 b2 _ ?_
  rw [ec, er, Int.toNat_natCast, Int.toNat_natCast]
  exact mayG_resize co ro _ _ x.cur.st x.g.c p1 p2 p3 p4 hl (by rw [← ec, ← er]; exact may_G q) (may_S q) a1 a2 b1 b2
theorem sv_fd (x : Sn) : (fdF x).sv = x.sv := by unfold fdF; split; rfl; split <;> rfl
theorem sv_fb (x : Sn) : (fbF x).sv = x.sv := by unfold fbF; split; rfl; split <;> rfl
theorem sv_ct (x : Sn) (c : Int) : (ctF x c).sv = x.sv := by
 unfold ctF
 split
 ·rfl
 ·split
  ·rfl
  ·split
   ·exact sv_fd x
   ·split
    ·rfl
    ·split
     ·exact sv_fb x
     ·rfl
theorem sv_pl (x : Sn) (r c : Int) : (plF x r c).sv = x.sv := by unfold plF; split <;> rfl
theorem sv_rg (x : Sn) (t b : Int) : (rgF x t b).sv = x.sv := by
 unfold rgF
 split
 ·rfl
 ·split
  ·rfl
  ·split
   ·rfl
   ·exact sv_pl (tbF x t b) 0 0
theorem sv_li (x : Sn) (n : Int) : (liF x n).sv = x.sv := by unfold liF; split; rfl; split <;> rfl
theorem sv_blR (x : Sn) (t : Int) (n : Nat) : (blR x t n).sv = x.sv := by obtain ⟨c, e⟩ := blR_same x t n; rw [e]; rfl
theorem sv_er (x : Sn) (a b c d : Int) (l : Bool) : (erS x a b c d l).sv = x.sv := by
 unfold erS
 split
 ·rw [sv_blR]; rfl
 ·rfl
theorem sv_ea (x : Sn) (l : Bool) (k : Int) : (eaF x l k).sv = x.sv := by
 unfold eaF
 split
 ·exact sv_er ..
 ·split
  ·exact sv_er ..
  ·split
   ·exact sv_er ..
   ·rfl
theorem sv_tg (x : Sn) (k : Int) : (tgF x k).sv = x.sv := by unfold tgF; split; rfl; split; rfl; split <;> rfl
theorem sv_mk (x : Sn) (c : Int) : (mkS x c).sv = x.sv := by
 obtain ⟨z, hz⟩ : ∃ z, z = (if x.cur.pend then x.cur.col else x.cur.col - 1) := ⟨_, rfl⟩
 unfold mkS
 rw [← hz]
 split
 ·rfl
 ·split <;> rfl
theorem sv_pn (x : Sn) : (pnF x).sv = x.sv := by
 unfold pnF
 split
 ·exact sv_fd (c0F x)
 ·rfl
theorem sv_ptE (x : Sn) (c w : Int) : (ptE x c w).sv = x.sv := by
 show (shI x w).sv = x.sv
 unfold shI
 split <;> rfl
theorem sv_pt (x : Sn) (c w : Int) : (ptF x c w).sv = x.sv := by
 unfold ptF ptD
 split
 ·split
  ·exact sv_pn x
  ·rw [sv_ptE, sv_fd]; exact sv_pn x
 ·rw [sv_ptE]; exact sv_pn x
theorem sv_pr (x : Sn) (c : Int) : (prS x c).sv = x.sv := by
 unfold prS
 split
 ·exact sv_mk x c
 ·split
  ·exact sv_pt x c _
  ·rfl
/-- What is kept stays behind all deeds but Keep, Mode and Resize. -/
theorem sv_do {x y : Sn} {k a b : Int} {on : Bool} (h : doS x k a b on = some y) (h9 : ¬ k = 9) (h10 : ¬ k = 10) (hk : k < 13) (hk0 : 0 ≤ k) : y.sv = x.sv := by
 unfold doS at h
 by_cases h0 : k = 0
 ·rw [if_pos h0] at h
  obtain ⟨q, rfl⟩ := may_some h
  exact sv_pr x _
 rw [if_neg h0] at h
 by_cases h1 : k = 1
 ·rw [if_pos h1] at h
  obtain ⟨q, rfl⟩ := may_some h
  exact sv_ct x _
 rw [if_neg h1] at h
 by_cases h2 : k = 2
 ·rw [if_pos h2] at h
  obtain ⟨q, rfl⟩ := may_some h
  exact rfl
 rw [if_neg h2] at h
 by_cases h3 : k = 3
 ·rw [if_pos h3] at h
  obtain ⟨q, rfl⟩ := may_some h
  exact sv_pl x _ _
 rw [if_neg h3] at h
 by_cases h4 : k = 4
 ·rw [if_pos h4] at h
  obtain ⟨q, rfl⟩ := may_some h
  exact sv_ea x _ _
 rw [if_neg h4] at h
 by_cases h5 : k = 5
 ·rw [if_pos h5] at h
  obtain ⟨q, rfl⟩ := may_some h
  exact sv_li x _
 rw [if_neg h5] at h
 by_cases h6 : k = 6
 ·rw [if_pos h6] at h
  obtain ⟨q, rfl⟩ := may_some h
  exact rfl
 rw [if_neg h6] at h
 by_cases h7 : k = 7
 ·rw [if_pos h7] at h
  obtain ⟨q, rfl⟩ := may_some h
  exact rfl
 rw [if_neg h7] at h
 by_cases h8 : k = 8
 ·rw [if_pos h8] at h
  obtain ⟨q, rfl⟩ := may_some h
  exact sv_rg x _ _
 rw [if_neg h8] at h
 rw [if_neg h9] at h
 rw [if_neg h10] at h
 by_cases h11 : k = 11
 ·rw [if_pos h11] at h
  obtain ⟨q, rfl⟩ := may_some h
  exact sv_tg x _
 rw [if_neg h11] at h
 by_cases h12 : k = 12
 ·rw [if_pos h12] at h
  obtain ⟨q, rfl⟩ := may_some h
  exact rfl
 rw [if_neg h12] at h
 omega
theorem rsame_n0 (co ro co' ro' : Int) (a1 a2 : Option Addr) (n m k1 k2 : Nat) (w : World) (h : ¬ co = co') :
  Calls Tryz.prog 19 #[.agg (gA co ro (.slice a1 n k1)), .agg (gA co' ro' (.slice a2 m k2))] w fun e w' => e = .returned (.bool false) ∧ Below w.heap.size w w' := by
 have F := Box'.mk (SaM.begin w (gA co ro (.slice a1 n k1)) (gA co' ro' (.slice a2 m k2)))
 have ne1 : (co != co') = true := by simpa using h
 clear h
 go_enter Tryz.func19, Tryz.ntmps19
 go_upto_region 1 with (fail)
 generalize ((w.alloc (.cells (gA co ro (.slice a1 n k1)) 24)).alloc (.cells (gA co' ro' (.slice a2 m k2)) 24)) = w1 at *
 have c0 : w1.cell? ⟨w.heap.size, 0, none⟩ = some (.int .i64 co) := F.out.rg.cell 0
 have c1 : w1.cell? ⟨w.heap.size, 1, none⟩ = some (.int .i64 ro) := F.out.rg.cell 1
 have c2 : w1.cell? ⟨w.heap.size, 2, none⟩ = some (.slice a1 n k1) := F.out.rg.cell 2
 have d0 : w1.cell? ⟨w.heap.size + 1, 0, none⟩ = some (.int .i64 co') := F.out.rh.cell 0
 have d1 : w1.cell? ⟨w.heap.size + 1, 1, none⟩ = some (.int .i64 ro') := F.out.rh.cell 1
 have d2 : w1.cell? ⟨w.heap.size + 1, 2, none⟩ = some (.slice a2 m k2) := F.out.rh.cell 2
 go_wp2_with fail
 go_ret
 exact ⟨rfl, F.out.be⟩
theorem rsame_n1 (co ro co' ro' : Int) (a1 a2 : Option Addr) (n m k1 k2 : Nat) (w : World) (h1 : co = co') (h : ¬ ro = ro') :
  Calls Tryz.prog 19 #[.agg (gA co ro (.slice a1 n k1)), .agg (gA co' ro' (.slice a2 m k2))] w fun e w' => e = .returned (.bool false) ∧ Below w.heap.size w w' := by
 have F := Box'.mk (SaM.begin w (gA co ro (.slice a1 n k1)) (gA co' ro' (.slice a2 m k2)))
 have ne1 : (co != co') = false := by simpa using h1
 have ne2 : (ro != ro') = true := by simpa using h
 clear h h1
 go_enter Tryz.func19, Tryz.ntmps19
 go_upto_region 1 with (fail)
 generalize ((w.alloc (.cells (gA co ro (.slice a1 n k1)) 24)).alloc (.cells (gA co' ro' (.slice a2 m k2)) 24)) = w1 at *
 have c0 : w1.cell? ⟨w.heap.size, 0, none⟩ = some (.int .i64 co) := F.out.rg.cell 0
 have c1 : w1.cell? ⟨w.heap.size, 1, none⟩ = some (.int .i64 ro) := F.out.rg.cell 1
 have c2 : w1.cell? ⟨w.heap.size, 2, none⟩ = some (.slice a1 n k1) := F.out.rg.cell 2
 have d0 : w1.cell? ⟨w.heap.size + 1, 0, none⟩ = some (.int .i64 co') := F.out.rh.cell 0
 have d1 : w1.cell? ⟨w.heap.size + 1, 1, none⟩ = some (.int .i64 ro') := F.out.rh.cell 1
 have d2 : w1.cell? ⟨w.heap.size + 1, 2, none⟩ = some (.slice a2 m k2) := F.out.rh.cell 2
 go_wp2_with fail
 go_ret
 exact ⟨rfl, F.out.be⟩
theorem rsame_n2 (co ro co' ro' : Int) (a1 a2 : Option Addr) (n m k1 k2 : Nat) (w : World) (h1 : co = co') (h2 : ro = ro') (h : ¬ n = m) :
  Calls Tryz.prog 19 #[.agg (gA co ro (.slice a1 n k1)), .agg (gA co' ro' (.slice a2 m k2))] w fun e w' => e = .returned (.bool false) ∧ Below w.heap.size w w' := by
 have F := Box'.mk (SaM.begin w (gA co ro (.slice a1 n k1)) (gA co' ro' (.slice a2 m k2)))
 have ne1 : (co != co') = false := by simpa using h1
 have ne2 : (ro != ro') = false := by simpa using h2
 have ne3 : ((n : Int) != (m : Int)) = true := by simp; omega
 have ne4 : ((n : Int) == (m : Int)) = false := by simp; omega
 clear h h1 h2
 go_enter Tryz.func19, Tryz.ntmps19
 go_upto_region 1 with (fail)
 generalize ((w.alloc (.cells (gA co ro (.slice a1 n k1)) 24)).alloc (.cells (gA co' ro' (.slice a2 m k2)) 24)) = w1 at *
 have c0 : w1.cell? ⟨w.heap.size, 0, none⟩ = some (.int .i64 co) := F.out.rg.cell 0
 have c1 : w1.cell? ⟨w.heap.size, 1, none⟩ = some (.int .i64 ro) := F.out.rg.cell 1
 have c2 : w1.cell? ⟨w.heap.size, 2, none⟩ = some (.slice a1 n k1) := F.out.rg.cell 2
 have d0 : w1.cell? ⟨w.heap.size + 1, 0, none⟩ = some (.int .i64 co') := F.out.rh.cell 0
 have d1 : w1.cell? ⟨w.heap.size + 1, 1, none⟩ = some (.int .i64 ro') := F.out.rh.cell 1
 have d2 : w1.cell? ⟨w.heap.size + 1, 2, none⟩ = some (.slice a2 m k2) := F.out.rh.cell 2
 go_wp2_with fail
 go_ret
 exact ⟨rfl, F.out.be⟩
theorem rsame_w (co ro : Int) (b1 o1 k1 b2 o2 k2 n : Nat) (c d : List Cl) (hc : c.length = n) (hd : d.length = n) (hn : n < 140737488355328) (w : World) (H1 : Box' (∀ i wx, i < n → Below w.heap.size w wx → wx.rangeAt b1 (o1 + i * 15) (cA (cat c i)).toList)) (H2 : Box' (∀ i wx, i < n → Below w.heap.size w wx → wx.rangeAt b2 (o2 + i * 15) (cA (cat d i)).toList)) :
  Calls Tryz.prog 19 #[.agg (gA co ro (.slice (some ⟨b1, o1, none⟩) n k1)), .agg (gA co ro (.slice (some ⟨b2, o2, none⟩) n k2))] w fun e w' => e = .returned (.bool (eqL c d)) ∧ Below w.heap.size w w' := by
 have F := Box'.mk (SaM.begin w (gA co ro (.slice (some ⟨b1, o1, none⟩) n k1)) (gA co ro (.slice (some ⟨b2, o2, none⟩) n k2)))
 have YES : Box' ((∀ i, i < n → clB (cat c i) (cat d i) = true) → eqL c d = true) := ⟨fun h => eqL_yes (by omega) (fun i hi => h i (by omega))⟩
 have NO : Box' (∀ i, i < n → clB (cat c i) (cat d i) = false → eqL c d = false) := ⟨fun i hi h => eqL_at i (by omega) h⟩
 have ne1 : (co != co) = false := by simp
 have ne2 : (ro != ro) = false := by simp
 clear hc hd
 go_enter Tryz.func19, Tryz.ntmps19
 go_upto_region 1 with (fail)
 generalize ((w.alloc (.cells (gA co ro (.slice (some ⟨b1, o1, none⟩) n k1)) 24)).alloc (.cells (gA co ro (.slice (some ⟨b2, o2, none⟩) n k2)) 24)) = w1 at *
 have c0 : w1.cell? ⟨w.heap.size, 0, none⟩ = some (.int .i64 co) := F.out.rg.cell 0
 have c1 : w1.cell? ⟨w.heap.size, 1, none⟩ = some (.int .i64 ro) := F.out.rg.cell 1
 have c2 : w1.cell? ⟨w.heap.size, 2, none⟩ = some (.slice (some ⟨b1, o1, none⟩) n k1) := F.out.rg.cell 2
 have d0 : w1.cell? ⟨w.heap.size + 1, 0, none⟩ = some (.int .i64 co) := F.out.rh.cell 0
 have d1 : w1.cell? ⟨w.heap.size + 1, 1, none⟩ = some (.int .i64 ro) := F.out.rh.cell 1
 have d2 : w1.cell? ⟨w.heap.size + 1, 2, none⟩ = some (.slice (some ⟨b2, o2, none⟩) n k2) := F.out.rh.cell 2
 go_wp2_with fail
 clear c0 c1 d0 d1 d2 c2
 go_loopw [5] (fun i wr => ∃ k : Nat, k ≤ n ∧ i = .int .i64 (k : Int) ∧ Box' (∀ j, j < k → clB (cat c j) (cat d j) = true) ∧ Box' (SaM w (gA co ro (.slice (some ⟨b1, o1, none⟩) n k1)) (gA co ro (.slice (some ⟨b2, o2, none⟩) n k2)) wr)) (fun i _ => n - (intOf i).toNat)
 case atStart => exact ⟨0, by omega, rfl, ⟨fun j hj => by omega⟩, F⟩
 case round =>
  obtain ⟨k, hk, rfl, AL, FF⟩ := hrel
  clear F
  have c2 : wr.cell? ⟨w.heap.size, 2, none⟩ = some (.slice (some ⟨b1, o1, none⟩) n k1) := FF.out.rg.cell 2
  by_cases hlt' : k < n
  case neg =>
   have E := Box'.mk (YES.out fun i hi => AL.out i (by omega))
   go_wp2_with fail
   go_ret
   exact ⟨by rw [E.out]; rfl, FF.out.be⟩
  case pos =>
   have RX := Box'.mk (fun wx hb => H1.out k wx hlt' hb)
   have RY := Box'.mk (fun wx hb => H2.out k wx hlt' hb)
   clear H1 H2
   obtain ⟨B, hB⟩ : ∃ B, (!clB (cat c k) (cat d k)) = B := ⟨_, rfl⟩
   have EQ := Box'.mk hB
   clear hB
   go_upto_region 6 with (fail)
   refine wp_region_growg 11 (by kernel_rfl) 45 rfl (by kernel_rfl) (fun wa wb => Below wa.heap.size wa wb) (fun wa => SaM w (gA co ro (.slice (some ⟨b1, o1, none⟩) n k1)) (gA co ro (.slice (some ⟨b2, o2, none⟩) n k2)) wa) (fun kc wa v => v = (match kc with
    | 0 => .pointer (some ⟨w.heap.size, 2, none⟩)
    | 1 => .slice (some ⟨b1, o1, none⟩) n k1
    | 2 => .int .i64 (k : Int)
    | 3 => .pointer (some ⟨b1, o1 + k * 15, none⟩)
    | 4 => .agg (cA (cat c k))
    | 5 => .pointer (some ⟨w.heap.size + 1, 2, none⟩)
    | 6 => .slice (some ⟨b2, o2, none⟩) n k2
    | 7 => .int .i64 (k : Int)
    | 8 => .pointer (some ⟨b2, o2 + k * 15, none⟩)
    | 9 => .agg (cA (cat d k))
    | 10 => .bool B
    | _ => undef)) ?_ ?_ ?_ ?_ ?_ ?_
   ·intro i o' j b' hi hg wa v hC hV
    have hlt : i < 11 := by rcases Nat.lt_or_ge i 11 with q | q; exact q; rw [List.getElem?_eq_none (by simpa using q)] at hi; cases hi
    revert hi hg hV
    rcases (show i = 0 ∨ i = 1 ∨ i = 2 ∨ i = 3 ∨ i = 4 ∨ i = 5 ∨ i = 6 ∨ i = 7 ∨ i = 8 ∨ i = 9 ∨ i = 10 by omega) with rfl | rfl | rfl | rfl | rfl | rfl | rfl | rfl | rfl | rfl | rfl <;>
     (intro hi hg hV; simp only [tkS, List.getElem?_cons_zero, List.getElem?_cons_succ, Option.some.injEq] at hi; subst hi; first | (cases hg; exact hV) | (cases hg))
   ·rintro wa wb hb q1; exact q1.below hb
   ·exact fun kc v wa wb hC1 hb h => h
   ·exact FF.out.below (bR.drew)
   ·refine ⟨?a0, ?a1, ?a2, ?a3, ?a4, ?a5, ?a6, ?a7, ?a8, ?a9, ?a10, trivial⟩
    all_goals intro f wq hC hd KK hK
    all_goals have cq0 : wq.cell? ⟨w.heap.size, 2, none⟩ = some (.slice (some ⟨b1, o1, none⟩) n k1) := hC.rg.cell 2
    all_goals have cq1 : wq.cell? ⟨w.heap.size + 1, 2, none⟩ = some (.slice (some ⟨b2, o2, none⟩) n k2) := hC.rh.cell 2
    all_goals simp (disch := decide +kernel) only [tkS, tkZ, setAll, siB, stS, stZ, Nat.zero_add, Nat.reduceAdd, hd] at hK ⊢
    case a4 =>
     exact wp_load_cell (.tmp 37) rfl b1 (o1 + k * 15) (cat c k) rfl (RX.out wq hC.be) (hK _ _ rfl bR)
    case a9 =>
     exact wp_load_cell (.tmp 42) rfl b2 (o2 + k * 15) (cat d k) rfl (RY.out wq hC.be) (hK _ _ rfl bR)
    case a10 =>
     exact wp_val _ (run_neq_cell_op 56 (.tmp 38) (.tmp 43) rfl (cat c k) (cat d k) rfl rfl _ EQ.out _) (hK _ _ rfl bR)
    all_goals (skip; refine wp_of_quiet rfl ?_; go_big_quiet_step (fail); exact wpQuiet_nil (hK _ _ (rfl) bR))
   ·intro f wz hC hv
    simp (disch := decide) only [tkS, tkZ, List.drop_succ_cons, List.drop_zero, setAll, siB, stS, stZ, Nat.zero_add, Nat.reduceAdd, hv]
    clear hv
    have F9 := Box'.mk hC
    clear hC
    cases B with
    | false =>
     have he : clB (cat c k) (cat d k) = true := by simpa using EQ.out
     have A2 : Box' (∀ j, j < k + 1 → clB (cat c j) (cat d j) = true) := ⟨fun j hj => by
      rcases Nat.lt_or_ge j k with q | q
      ·exact AL.out j q
      ·have e : j = k := by omega
       rw [e]; exact he⟩
     clear he
     go_wp2_with fail
     exact ⟨⟨k + 1, by omega, by go_num, A2, F9⟩, by simp [intOf]; omega⟩
    | true =>
     have he : clB (cat c k) (cat d k) = false := by simpa using EQ.out
     have E := Box'.mk (NO.out k hlt' he)
     clear he
     go_wp2_with fail
     go_ret
     exact ⟨by rw [E.out]; rfl, F9.out.be⟩
theorem rsame_any (co ro co' ro' : Int) (v v' : Value) (c d : List Cl) (hn : c.length < 140737488355328) (w : World) (hv : Cls w.heap.size w v c) (hv' : Cls w.heap.size w v' d) :
  Calls Tryz.prog 19 #[.agg (gA co ro v), .agg (gA co' ro' v')] w fun e w' => e = .returned (.bool (samG co ro c co' ro' d)) ∧ Below w.heap.size w w' := by
 unfold samG
 by_cases h1 : co = co'
 case neg =>
  obtain ⟨a1, k1, rfl, _, _⟩ := hv
  obtain ⟨a2, k2, rfl, _, _⟩ := hv'
  rw [decide_eq_false h1]
  exact rsame_n0 co ro co' ro' a1 a2 _ _ k1 k2 w h1
 rw [decide_eq_true h1, Bool.true_and]
 by_cases h2 : ro = ro'
 case neg =>
  obtain ⟨a1, k1, rfl, _, _⟩ := hv
  obtain ⟨a2, k2, rfl, _, _⟩ := hv'
  rw [decide_eq_false h2]
  exact rsame_n1 co ro co' ro' a1 a2 _ _ k1 k2 w h1 h2
 rw [decide_eq_true h2, Bool.true_and]
 by_cases h3 : c.length = d.length
 case neg =>
  obtain ⟨a1, k1, rfl, _, _⟩ := hv
  obtain ⟨a2, k2, rfl, _, _⟩ := hv'
  rw [eqL_no h3]
  exact rsame_n2 co ro co' ro' a1 a2 _ _ k1 k2 w h1 h2 h3
 subst h1
 subst h2
 by_cases hl : 0 < c.length
 ·obtain ⟨b1, o1, k1, rfl, e1⟩ := cls_range (wx := w) hv hl
  obtain ⟨b2, o2, k2, rfl, e2⟩ := cls_range (wx := w) hv' (by omega)
  rw [← h3]
  exact rsame_w co ro b1 o1 k1 b2 o2 k2 c.length c d rfl h3.symm hn w ⟨e1⟩ ⟨fun i wx hi hb => e2 i wx (by omega) hb⟩
 ·obtain ⟨a1, k1, rfl, _, _⟩ := hv
  obtain ⟨a2, k2, rfl, _, _⟩ := hv'
  rw [eqL_yes h3 (fun i hi => by omega)]
  have e : c.length = 0 := by omega
  have e' : d.length = 0 := by omega
  rw [e, e']
  exact rsame_0 co ro a1 a2 k1 k2 w
end Go.Proofs.YtlekleeckcdcgaaGreat
