/- Which cells may be, of all cells: marks. -/
import Derived.Test.YtnbonlkmadmpcaaSk
import Derived.Test.YtnbonlkmadmpcaaPj
namespace Go.Proofs.Ytnbonlkmadmpcaa
open Go.RowKit Go.BigFrame
set_option linter.unusedVariables false
set_option linter.unusedSimpArgs false
/-- May the marks be, one having been 0 already or none? -/
def mmL : Bool → List Int → Bool
 | _, [] => true
 | e, m :: r => if m = 0 then mmL true r else if e = true then false else if ofF m = 0 then mmL false r else false
def rmL : List Int → Bool
 | [] => true
 | [m] => if m = 0 then true else decide (ofF m = 0)
 | m :: m' :: r => if m = 0 then (if m' = 0 then rmL (m' :: r) else false) else if ofF m = 0 then rmL (m' :: r) else false
theorem rm_mm (m0 m1 m2 : Int) : rmL [m0, m1, m2] = mmL false [m0, m1, m2] := by
 simp only [rmL, mmL]
 by_cases h0 : m0 = 0 <;> by_cases h1 : m1 = 0 <;> by_cases h2 : m2 = 0 <;> by_cases k0 : ofF m0 = 0 <;> by_cases k1 : ofF m1 = 0 <;> by_cases k2 : ofF m2 = 0 <;> simp [h0, h1, h2, k0, k1, k2]
/-- May a cell be? -/
def mayC (x : Cl) : Bool := if mayS x.st = false then false else if x.wd = 0 then decide (x.ch = 0 ∧ x.m0 = 0 ∧ x.m1 = 0 ∧ x.m2 = 0) else if 2 < x.wd then false else if ofF x.ch = (x.wd : Int) then mmL false [x.m0, x.m1, x.m2] else false
set_option maxHeartbeats 8000000 in
theorem mayMarksF_any (m0 m1 m2 : Int) (w : World) : Calls Try.prog 58 #[.agg #[.int .i32 m0, .int .i32 m1, .int .i32 m2]] w fun e w' => e = .returned (.bool (mmL false [m0, m1, m2])) ∧ Below w.heap.size w w' := by
 have OF := Box'.mk of_any
 have B1 := Box'.mk ((Below.refl w.heap.size w).alloc (Nat.le_refl _) (.cells #[.int .i32 m0, .int .i32 m1, .int .i32 m2] 47))
 obtain ⟨R, hR⟩ : ∃ R, mmL false [m0, m1, m2] = R := ⟨_, rfl⟩
 have HR := Box'.mk hR
 rw [hR]
 clear hR
 go_enter Try.func58, Try.ntmps58
 go_wp2_with fail
 generalize w.alloc (.cells #[.int .i32 m0, .int .i32 m1, .int .i32 m2] 47) = w1 at *
 go_loopw [3, 7] (fun d i wr => ∃ (k : Nat) (e : Bool), k ≤ 3 ∧ i = .int .i64 (k : Int) ∧ d = .bool e ∧ Box' (mmL e ([m0, m1, m2].drop k) = R) ∧ Box' (Below w.heap.size w wr)) (fun _ i _ => 3 - (intOf i).toNat)
 case atStart => exact ⟨0, false, by omega, rfl, rfl, HR, B1⟩
 case round =>
  obtain ⟨k, e, hk, rfl, rfl, HM, BB⟩ := hrel
  clear B1 HR
  obtain rfl | rfl | rfl | rfl : k = 0 ∨ k = 1 ∨ k = 2 ∨ k = 3 := by omega
  ·have HS : Box' (mmL e (m0 :: [m1, m2]) = R) := ⟨HM.out⟩
   have HE : Box' (mmL e (m0 :: [m1, m2]) = if m0 = 0 then mmL true [m1, m2] else if e = true then false else if ofF m0 = 0 then mmL false [m1, m2] else false) := ⟨rfl⟩
   clear HM
   by_cases hz : m0 = 0
   case pos =>
    have HN : Box' (mmL true [m1, m2] = R) := ⟨by rw [← HS.out, HE.out, if_pos hz]⟩
    subst hz
    clear HS HE OF
    go_wp2_with (first | (refine wpList_idx rfl (.tmp 6) (.tmp 7) rfl #[.int .i32 0, .int .i32 m1, .int .i32 m2] 0 (.int .i32 0) rfl rfl (by decide) rfl ?_))
    exact ⟨⟨1, true, by omega, rfl, rfl, HN, BB⟩, by simp [intOf]⟩
   case neg =>
    cases e with
    | true =>
     have HN : Box' (R = false) := ⟨by rw [← HS.out, HE.out, if_neg hz, if_pos rfl]⟩
     clear HS HE OF
     go_wp2_with (first | (refine wpList_idx rfl (.tmp 6) (.tmp 7) rfl #[.int .i32 m0, .int .i32 m1, .int .i32 m2] 0 (.int .i32 m0) rfl rfl (by decide) rfl ?_))
     go_ret
     exact ⟨by rw [HN.out]; rfl, BB.out⟩
    | false =>
     by_cases ho : ofF m0 = 0
     case pos =>
      have HN : Box' (mmL false [m1, m2] = R) := ⟨by rw [← HS.out, HE.out, if_neg hz, if_neg (by simp), if_pos ho]⟩
      have OM := Box'.mk (OF.out m0)
      rw [ho] at OM
      clear HS HE OF ho
      go_wp2_with (first | (refine wpList_idx rfl (.tmp 6) (.tmp 7) rfl #[.int .i32 m0, .int .i32 m1, .int .i32 m2] 0 (.int .i32 m0) rfl rfl (by decide) rfl ?_))
      refine (OM.out _).mono ?_
      rintro e w2 ⟨rfl, hb2⟩
      have B2 := Box'.mk (BB.out.trans (hb2.mono BB.out.size))
      clear hb2 BB
      go_wp2_with fail
      exact ⟨⟨1, false, by omega, rfl, rfl, HN, B2⟩, by simp [intOf]⟩
     case neg =>
      have HN : Box' (R = false) := ⟨by rw [← HS.out, HE.out, if_neg hz, if_neg (by simp), if_neg ho]⟩
      have OM := Box'.mk (OF.out m0)
      have ho' : (ofF m0 != 0) = true := by simpa using ho
      generalize ofF m0 = z at *
      clear HS HE OF
      go_wp2_with (first | (refine wpList_idx rfl (.tmp 6) (.tmp 7) rfl #[.int .i32 m0, .int .i32 m1, .int .i32 m2] 0 (.int .i32 m0) rfl rfl (by decide) rfl ?_))
      refine (OM.out _).mono ?_
      rintro e w2 ⟨rfl, hb2⟩
      have B2 := Box'.mk (BB.out.trans (hb2.mono BB.out.size))
      clear hb2 BB
      go_wp2_with fail
      go_ret
      exact ⟨by rw [HN.out]; rfl, B2.out⟩
  ·have HS : Box' (mmL e (m1 :: [m2]) = R) := ⟨HM.out⟩
   have HE : Box' (mmL e (m1 :: [m2]) = if m1 = 0 then mmL true [m2] else if e = true then false else if ofF m1 = 0 then mmL false [m2] else false) := ⟨rfl⟩
   clear HM
   by_cases hz : m1 = 0
   case pos =>
    have HN : Box' (mmL true [m2] = R) := ⟨by rw [← HS.out, HE.out, if_pos hz]⟩
    subst hz
    clear HS HE OF
    go_wp2_with (first | (refine wpList_idx rfl (.tmp 6) (.tmp 7) rfl #[.int .i32 m0, .int .i32 0, .int .i32 m2] 1 (.int .i32 0) rfl rfl (by decide) rfl ?_))
    exact ⟨⟨2, true, by omega, rfl, rfl, HN, BB⟩, by simp [intOf]⟩
   case neg =>
    cases e with
    | true =>
     have HN : Box' (R = false) := ⟨by rw [← HS.out, HE.out, if_neg hz, if_pos rfl]⟩
     clear HS HE OF
     go_wp2_with (first | (refine wpList_idx rfl (.tmp 6) (.tmp 7) rfl #[.int .i32 m0, .int .i32 m1, .int .i32 m2] 1 (.int .i32 m1) rfl rfl (by decide) rfl ?_))
     go_ret
     exact ⟨by rw [HN.out]; rfl, BB.out⟩
    | false =>
     by_cases ho : ofF m1 = 0
     case pos =>
      have HN : Box' (mmL false [m2] = R) := ⟨by rw [← HS.out, HE.out, if_neg hz, if_neg (by simp), if_pos ho]⟩
      have OM := Box'.mk (OF.out m1)
      rw [ho] at OM
      clear HS HE OF ho
      go_wp2_with (first | (refine wpList_idx rfl (.tmp 6) (.tmp 7) rfl #[.int .i32 m0, .int .i32 m1, .int .i32 m2] 1 (.int .i32 m1) rfl rfl (by decide) rfl ?_))
      refine (OM.out _).mono ?_
      rintro e w2 ⟨rfl, hb2⟩
      have B2 := Box'.mk (BB.out.trans (hb2.mono BB.out.size))
      clear hb2 BB
      go_wp2_with fail
      exact ⟨⟨2, false, by omega, rfl, rfl, HN, B2⟩, by simp [intOf]⟩
     case neg =>
      have HN : Box' (R = false) := ⟨by rw [← HS.out, HE.out, if_neg hz, if_neg (by simp), if_neg ho]⟩
      have OM := Box'.mk (OF.out m1)
      have ho' : (ofF m1 != 0) = true := by simpa using ho
      generalize ofF m1 = z at *
      clear HS HE OF
      go_wp2_with (first | (refine wpList_idx rfl (.tmp 6) (.tmp 7) rfl #[.int .i32 m0, .int .i32 m1, .int .i32 m2] 1 (.int .i32 m1) rfl rfl (by decide) rfl ?_))
      refine (OM.out _).mono ?_
      rintro e w2 ⟨rfl, hb2⟩
      have B2 := Box'.mk (BB.out.trans (hb2.mono BB.out.size))
      clear hb2 BB
      go_wp2_with fail
      go_ret
      exact ⟨by rw [HN.out]; rfl, B2.out⟩
  ·have HS : Box' (mmL e (m2 :: []) = R) := ⟨HM.out⟩
   have HE : Box' (mmL e (m2 :: []) = if m2 = 0 then mmL true [] else if e = true then false else if ofF m2 = 0 then mmL false [] else false) := ⟨rfl⟩
   clear HM
   by_cases hz : m2 = 0
   case pos =>
    have HN : Box' (mmL true [] = R) := ⟨by rw [← HS.out, HE.out, if_pos hz]⟩
    subst hz
    clear HS HE OF
    go_wp2_with (first | (refine wpList_idx rfl (.tmp 6) (.tmp 7) rfl #[.int .i32 m0, .int .i32 m1, .int .i32 0] 2 (.int .i32 0) rfl rfl (by decide) rfl ?_))
    exact ⟨⟨3, true, by omega, rfl, rfl, HN, BB⟩, by simp [intOf]⟩
   case neg =>
    cases e with
    | true =>
     have HN : Box' (R = false) := ⟨by rw [← HS.out, HE.out, if_neg hz, if_pos rfl]⟩
     clear HS HE OF
     go_wp2_with (first | (refine wpList_idx rfl (.tmp 6) (.tmp 7) rfl #[.int .i32 m0, .int .i32 m1, .int .i32 m2] 2 (.int .i32 m2) rfl rfl (by decide) rfl ?_))
     go_ret
     exact ⟨by rw [HN.out]; rfl, BB.out⟩
    | false =>
     by_cases ho : ofF m2 = 0
     case pos =>
      have HN : Box' (mmL false [] = R) := ⟨by rw [← HS.out, HE.out, if_neg hz, if_neg (by simp), if_pos ho]⟩
      have OM := Box'.mk (OF.out m2)
      rw [ho] at OM
      clear HS HE OF ho
      go_wp2_with (first | (refine wpList_idx rfl (.tmp 6) (.tmp 7) rfl #[.int .i32 m0, .int .i32 m1, .int .i32 m2] 2 (.int .i32 m2) rfl rfl (by decide) rfl ?_))
      refine (OM.out _).mono ?_
      rintro e w2 ⟨rfl, hb2⟩
      have B2 := Box'.mk (BB.out.trans (hb2.mono BB.out.size))
      clear hb2 BB
      go_wp2_with fail
      exact ⟨⟨3, false, by omega, rfl, rfl, HN, B2⟩, by simp [intOf]⟩
     case neg =>
      have HN : Box' (R = false) := ⟨by rw [← HS.out, HE.out, if_neg hz, if_neg (by simp), if_neg ho]⟩
      have OM := Box'.mk (OF.out m2)
      have ho' : (ofF m2 != 0) = true := by simpa using ho
      generalize ofF m2 = z at *
      clear HS HE OF
      go_wp2_with (first | (refine wpList_idx rfl (.tmp 6) (.tmp 7) rfl #[.int .i32 m0, .int .i32 m1, .int .i32 m2] 2 (.int .i32 m2) rfl rfl (by decide) rfl ?_))
      refine (OM.out _).mono ?_
      rintro e w2 ⟨rfl, hb2⟩
      have B2 := Box'.mk (BB.out.trans (hb2.mono BB.out.size))
      clear hb2 BB
      go_wp2_with fail
      go_ret
      exact ⟨by rw [HN.out]; rfl, B2.out⟩
  ·have HN : Box' (R = true) := ⟨HM.out.symm⟩
   clear HM OF
   go_wp2_with fail
   go_ret
   exact ⟨by rw [HN.out]; rfl, BB.out⟩
end Go.Proofs.Ytnbonlkmadmpcaa
