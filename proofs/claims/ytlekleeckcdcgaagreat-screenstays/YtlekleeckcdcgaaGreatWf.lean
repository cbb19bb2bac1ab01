/- The reference's New. The reference's Resize. What may be may be behind each deed; what is kept stays. Both Sames, of all grids. -/
import Derived.Test.YtlekleeckcdcgaaGreatWd
import Derived.Test.YtlekleeckcdcgaaGreatNn
import Derived.Test.YtlekleeckcdcgaaGreatEq
import Derived.Test.YtlekleeckcdcgaaGreatYx
import Derived.Test.YtlekleeckcdcgaaGreatXd
namespace Go.Proofs.YtlekleeckcdcgaaGreat
open Go.RowKit Go.BigFrame
set_option linter.unusedVariables false
set_option linter.unusedSimpArgs false
set_option maxRecDepth 100000
theorem miF_lo (a b : Int) (h1 : 0 ≤ a) (h2 : 0 ≤ b) : 0 ≤ miF a b := by unfold miF; split <;> omega
theorem miF_hi (a b : Int) : miF a b ≤ b := by unfold miF; split <;> omega
theorem may_rz {x : Sn} (h : mayN x = true) (cols rows : Nat) (hc1 : 1 ≤ cols) (hc2 : cols ≤ 512) (hr1 : 1 ≤ rows) (hr2 : rows ≤ 512) (c' : List Cl) (hc : mayG (cols : Int) (rows : Int) c' = true) : mayN (rzS x cols rows c') = true := by
 have m := Ma.of h
 obtain ⟨a1, a2, a3, a4, a5, a6⟩ := (curF_iff _ _ _).1 m.cur
 obtain ⟨b1, b2, b3, b4, b5, b6⟩ := (curF_iff _ _ _).1 m.sv
 have eg : (rzN { x with g := ⟨(cols : Int), (rows : Int), c' ⟩ } cols rows).g = ⟨(cols : Int), (rows : Int), c'⟩ := by unfold rzN; split <;> rfl
 have ecur : (rzN { x with g := ⟨(cols : Int), (rows : Int), c' ⟩ } cols rows).cur = x.cur := by unfold rzN; split <;> rfl
 have esv : (rzN { x with g := ⟨(cols : Int), (rows : Int), c' ⟩ } cols rows).sv = x.sv := by unfold rzN; split <;> rfl
 have etit : (rzN { x with g := ⟨(cols : Int), (rows : Int), c' ⟩ } cols rows).title = x.title := by unfold rzN; split <;> rfl
 have ealt : (rzN { x with g := ⟨(cols : Int), (rows : Int), c' ⟩ } cols rows).alt = x.alt := by unfold rzN; split <;> rfl
 refine Ma.may ⟨?_, ?_, ?_, Int.le_refl _, ?_, ?_, ?_, ?_, ?_⟩
 ·show curF (rzN { x with g := ⟨(cols : Int), (rows : Int), c' ⟩ } cols rows).g.co (rzN { x with g := ⟨(cols : Int), (rows : Int), c' ⟩ } cols rows).g.ro ⟨miF (rzN { x with g := ⟨(cols : Int), (rows : Int), c' ⟩ } cols rows).cur.row ((rzN { x with g := ⟨(cols : Int), (rows : Int), c' ⟩ } cols rows).g.ro - 1), miF (rzN { x with g := ⟨(cols : Int), (rows : Int), c' ⟩ } cols rows).cur.col ((rzN { x with g := ⟨(cols : Int), (rows : Int), c' ⟩ } cols rows).g.co - 1), false, (rzN { x with g := ⟨(cols : Int), (rows : Int), c' ⟩ } cols rows).cur.orig, (rzN { x with g := ⟨(cols : Int), (rows : Int), c' ⟩ } cols rows).cur.st⟩ = true
  rw [eg, ecur]
  have q1 := miF_lo x.cur.row ((rows : Int) - 1) a1 (by omega)
  have q2 := miF_hi x.cur.row ((rows : Int) - 1)
  have q3 := miF_lo x.cur.col ((cols : Int) - 1) a3 (by omega)
  have q4 := miF_hi x.cur.col ((cols : Int) - 1)
  exact (curF_iff _ _ _).2 ⟨q1, by show miF x.cur.row ((rows : Int) - 1) < (rows : Int); omega, q3, by show miF x.cur.col ((cols : Int) - 1) < (cols : Int); omega, (fun q => by cases q), a6⟩
 ·show curF (rzN { x with g := ⟨(cols : Int), (rows : Int), c' ⟩ } cols rows).g.co (rzN { x with g := ⟨(cols : Int), (rows : Int), c' ⟩ } cols rows).g.ro ⟨miF (rzN { x with g := ⟨(cols : Int), (rows : Int), c' ⟩ } cols rows).sv.row ((rzN { x with g := ⟨(cols : Int), (rows : Int), c' ⟩ } cols rows).g.ro - 1), miF (rzN { x with g := ⟨(cols : Int), (rows : Int), c' ⟩ } cols rows).sv.col ((rzN { x with g := ⟨(cols : Int), (rows : Int), c' ⟩ } cols rows).g.co - 1), false, (rzN { x with g := ⟨(cols : Int), (rows : Int), c' ⟩ } cols rows).sv.orig, (rzN { x with g := ⟨(cols : Int), (rows : Int), c' ⟩ } cols rows).sv.st⟩ = true
  rw [eg, esv]
  have q1 := miF_lo x.sv.row ((rows : Int) - 1) b1 (by omega)
  have q2 := miF_hi x.sv.row ((rows : Int) - 1)
  have q3 := miF_lo x.sv.col ((cols : Int) - 1) b3 (by omega)
  have q4 := miF_hi x.sv.col ((cols : Int) - 1)
  exact (curF_iff _ _ _).2 ⟨q1, by show miF x.sv.row ((rows : Int) - 1) < (rows : Int); omega, q3, by show miF x.sv.col ((cols : Int) - 1) < (cols : Int); omega, (fun q => by cases q), b6⟩
 ·show 0 ≤ (rzN { x with g := ⟨(cols : Int), (rows : Int), c' ⟩ } cols rows).g.ro - 1 ∧ (rzN { x with g := ⟨(cols : Int), (rows : Int), c' ⟩ } cols rows).g.ro - 1 < (rzN { x with g := ⟨(cols : Int), (rows : Int), c' ⟩ } cols rows).g.ro
  rw [eg]
  show 0 ≤ (rows : Int) - 1 ∧ (rows : Int) - 1 < (rows : Int)
  omega
 ·show 0 ≤ (rzN { x with g := ⟨(cols : Int), (rows : Int), c' ⟩ } cols rows).g.ro - 1
  rw [eg]
  show 0 ≤ (rows : Int) - 1
  omega
 ·show tabF (-1) (rzN { x with g := ⟨(cols : Int), (rows : Int), c' ⟩ } cols rows).g.co (tabsN cols) = true
  rw [eg]
  exact tabsN_tab cols hc1
 ·show titF (rzN { x with g := ⟨(cols : Int), (rows : Int), c' ⟩ } cols rows).title = true
  rw [etit]
  exact m.tit
 ·show mayG (rzN { x with g := ⟨(cols : Int), (rows : Int), c' ⟩ } cols rows).g.co (rzN { x with g := ⟨(cols : Int), (rows : Int), c' ⟩ } cols rows).g.ro (rzN { x with g := ⟨(cols : Int), (rows : Int), c' ⟩ } cols rows).g.c = true
  rw [eg]
  exact hc
 ·have hmn := m.mn
  show (if (rzN { x with g := ⟨(cols : Int), (rows : Int), c' ⟩ } cols rows).alt then decide ((rzN { x with g := ⟨(cols : Int), (rows : Int), c' ⟩ } cols rows).mn.co = (rzN { x with g := ⟨(cols : Int), (rows : Int), c' ⟩ } cols rows).g.co) && (decide ((rzN { x with g := ⟨(cols : Int), (rows : Int), c' ⟩ } cols rows).mn.ro = (rzN { x with g := ⟨(cols : Int), (rows : Int), c' ⟩ } cols rows).g.ro) && mayG (rzN { x with g := ⟨(cols : Int), (rows : Int), c' ⟩ } cols rows).mn.co (rzN { x with g := ⟨(cols : Int), (rows : Int), c' ⟩ } cols rows).mn.ro (rzN { x with g := ⟨(cols : Int), (rows : Int), c' ⟩ } cols rows).mn.c) else samG (rzN { x with g := ⟨(cols : Int), (rows : Int), c' ⟩ } cols rows).mn.co (rzN { x with g := ⟨(cols : Int), (rows : Int), c' ⟩ } cols rows).mn.ro (rzN { x with g := ⟨(cols : Int), (rows : Int), c' ⟩ } cols rows).mn.c 0 0 []) = true
  unfold mnF at hmn
  rw [ealt, eg]
  by_cases hA : x.alt = true
  ·rw [if_pos hA] at hmn ⊢
   simp only [Bool.and_eq_true, decide_eq_true_eq] at hmn
   obtain ⟨q1, q2, q3⟩ := hmn
   obtain ⟨mc, mr, e1, e2, p1, p2, p3, p4, hl⟩ := mayG_dest q3
   have emn : (rzN { x with g := ⟨(cols : Int), (rows : Int), c' ⟩ } cols rows).mn = ⟨(cols : Int), (rows : Int), rzF x.mn.c x.mn.co.toNat x.mn.ro.toNat cols rows x.cur.st⟩ := by
    unfold rzN
    rw [if_pos (show x.alt = true from hA)]
   rw [emn, e1, e2, Int.toNat_natCast, Int.toNat_natCast]
   have := mayG_resize mc mr cols rows x.cur.st x.mn.c p1 p2 p3 p4 hl (by rw [← e1, ← e2]; exact q3) (may_S h) hc1 hc2 hr1 hr2
   simp only [decide_true, Bool.true_and]
   exact this
  ·rw [if_neg hA] at hmn ⊢
   have emn : (rzN { x with g := ⟨(cols : Int), (rows : Int), c' ⟩ } cols rows).mn = x.mn := by
    unfold rzN
    rw [if_neg (show ¬ (x.alt = true) from hA)]
   rw [emn]
   exact hmn
theorem may_nw (cols rows : Nat) (hc1 : 1 ≤ cols) (hc2 : cols ≤ 512) (hr1 : 1 ≤ rows) (hr2 : rows ≤ 512) : mayN (nwS cols rows (List.replicate (cols * rows) (bl pl))) = true := by
 have hpl : mayS pl = true := by decide
 refine Ma.may ⟨(curF_iff _ _ _).2 ⟨Int.le_refl _, by show (0 : Int) < (rows : Int); omega, Int.le_refl _, by show (0 : Int) < (cols : Int); omega, (fun q => by cases q), hpl⟩, (curF_iff _ _ _).2 ⟨Int.le_refl _, by show (0 : Int) < (rows : Int); omega, Int.le_refl _, by show (0 : Int) < (cols : Int); omega, (fun q => by cases q), hpl⟩, ?_, Int.le_refl _, ?_, tabsN_tab cols hc1, rfl, mayG_new cols rows pl hc1 hc2 hr1 hr2 hpl, rfl⟩
 ·show 0 ≤ (rows : Int) - 1 ∧ (rows : Int) - 1 < (rows : Int); omega
 ·show (0 : Int) ≤ (rows : Int) - 1; omega
theorem may_some {x y z : Sn} (h : (if mayN x then some y else none) = some z) : mayN x = true ∧ y = z := by
 cases hx : mayN x with
 | false => rw [hx] at h; cases h
 | true => rw [hx] at h; exact ⟨rfl, by simpa using h⟩
/-- What may be may be behind each deed. -/
theorem may_do {x y : Sn} {k a b : Int} {on : Bool} (h : doS x k a b on = some y) : mayN x = true ∧ mayN y = true := by
 unfold doS at h
 by_cases h0 : k = 0
 ·rw [if_pos h0] at h
  obtain ⟨q, rfl⟩ := may_some h
  exact ⟨q, may_pr q _ ⟩
 rw [if_neg h0] at h
 by_cases h1 : k = 1
 ·rw [if_pos h1] at h
  obtain ⟨q, rfl⟩ := may_some h
  exact ⟨q, may_ct q _ ⟩
 rw [if_neg h1] at h
 by_cases h2 : k = 2
 ·rw [if_pos h2] at h
  obtain ⟨q, rfl⟩ := may_some h
  exact ⟨q, may_mv q _ _ ⟩
 rw [if_neg h2] at h
 by_cases h3 : k = 3
 ·rw [if_pos h3] at h
  obtain ⟨q, rfl⟩ := may_some h
  exact ⟨q, may_pl q _ _ ⟩
 rw [if_neg h3] at h
 by_cases h4 : k = 4
 ·rw [if_pos h4] at h
  obtain ⟨q, rfl⟩ := may_some h
  exact ⟨q, may_ea q _ _ ⟩
 rw [if_neg h4] at h
 by_cases h5 : k = 5
 ·rw [if_pos h5] at h
  obtain ⟨q, rfl⟩ := may_some h
  exact ⟨q, may_li q _ ⟩
 rw [if_neg h5] at h
 by_cases h6 : k = 6
 ·rw [if_pos h6] at h
  obtain ⟨q, rfl⟩ := may_some h
  exact ⟨q, may_ch q _ ⟩
 rw [if_neg h6] at h
 by_cases h7 : k = 7
 ·rw [if_pos h7] at h
  obtain ⟨q, rfl⟩ := may_some h
  exact ⟨q, may_sl q _ ⟩
 rw [if_neg h7] at h
 by_cases h8 : k = 8
 ·rw [if_pos h8] at h
  obtain ⟨q, rfl⟩ := may_some h
  exact ⟨q, may_rg q _ _ ⟩
 rw [if_neg h8] at h
 by_cases h9 : k = 9
 ·rw [if_pos h9] at h
  obtain ⟨q, rfl⟩ := may_some h
  exact ⟨q, may_ke q _ ⟩
 rw [if_neg h9] at h
 by_cases h10 : k = 10
 ·rw [if_pos h10] at h
  obtain ⟨q, rfl⟩ := may_some h
  exact ⟨q, may_md q _ _ _ ⟩
 rw [if_neg h10] at h
 by_cases h11 : k = 11
 ·rw [if_pos h11] at h
  obtain ⟨q, rfl⟩ := may_some h
  exact ⟨q, may_tg q _ ⟩
 rw [if_neg h11] at h
 by_cases h12 : k = 12
 ·rw [if_pos h12] at h
  obtain ⟨q, rfl⟩ := may_some h
  exact ⟨q, may_wp q _ ⟩
 rw [if_neg h12] at h
 cases hc : (mayN x && (sideF a && sideF b)) with
 | false => rw [hc] at h; cases h
 | true =>
  rw [hc] at h
  rw [Bool.and_eq_true, Bool.and_eq_true] at hc
  obtain ⟨q, s1, s2⟩ := hc
  obtain ⟨ea, a1, a2⟩ := side_is s1
  obtain ⟨eb, b1, b2⟩ := side_is s2
  simp only [if_true, Option.some.injEq] at h
  obtain ⟨co, ro, ec, er, p1, p2, p3, p4, hl⟩ := mayG_dest (may_G q)
  refine ⟨q, ?_⟩
  rw [← h]
  refine may_rz q _ _ a1 a2 b1 b2 _ ?_
  rw [ec, er, Int.toNat_natCast, Int.toNat_natCast]
  exact mayG_resize co ro _ _ x.cur.st x.g.c p1 p2 p3 p4 hl (by rw [← ec, ← er]; exact may_G q) (may_S q) a1 a2 b1 b2
/-- Deeds below 13 are done to every screen that may be. -/
theorem do_some {x : Sn} (h : mayN x = true) (k a b : Int) (on : Bool) (hk : 0 ≤ k) (hk2 : k < 13) : ∃ y, doS x k a b on = some y := by
 unfold doS
 rw [h]
 by_cases h0 : k = 0
 ·rw [if_pos h0]; exact ⟨_, rfl⟩
 rw [if_neg h0]
 by_cases h1 : k = 1
 ·rw [if_pos h1]; exact ⟨_, rfl⟩
 rw [if_neg h1]
 by_cases h2 : k = 2
 ·rw [if_pos h2]; exact ⟨_, rfl⟩
 rw [if_neg h2]
 by_cases h3 : k = 3
 ·rw [if_pos h3]; exact ⟨_, rfl⟩
 rw [if_neg h3]
 by_cases h4 : k = 4
 ·rw [if_pos h4]; exact ⟨_, rfl⟩
 rw [if_neg h4]
 by_cases h5 : k = 5
 ·rw [if_pos h5]; exact ⟨_, rfl⟩
 rw [if_neg h5]
 by_cases h6 : k = 6
 ·rw [if_pos h6]; exact ⟨_, rfl⟩
 rw [if_neg h6]
 by_cases h7 : k = 7
 ·rw [if_pos h7]; exact ⟨_, rfl⟩
 rw [if_neg h7]
 by_cases h8 : k = 8
 ·rw [if_pos h8]; exact ⟨_, rfl⟩
 rw [if_neg h8]
 by_cases h9 : k = 9
 ·rw [if_pos h9]; exact ⟨_, rfl⟩
 rw [if_neg h9]
 by_cases h10 : k = 10
 ·rw [if_pos h10]; exact ⟨_, rfl⟩
 rw [if_neg h10]
 by_cases h11 : k = 11
 ·rw [if_pos h11]; exact ⟨_, rfl⟩
 rw [if_neg h11]
 by_cases h12 : k = 12
 ·rw [if_pos h12]; exact ⟨_, rfl⟩
 rw [if_neg h12]
 omega
end Go.Proofs.YtlekleeckcdcgaaGreat
