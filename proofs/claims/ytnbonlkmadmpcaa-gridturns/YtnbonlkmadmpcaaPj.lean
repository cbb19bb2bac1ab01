/- The reference's Of. -/
import Derived.Test.YtnbonlkmadmpcaaPe
import Derived.Test.YtnbonlkmadmpcaaPh
namespace Go.Proofs.Ytnbonlkmadmpcaa
open Go.RowKit Go.BigFrame
set_option linter.unusedVariables false
set_option linter.unusedSimpArgs false
/-- The reference's head, answered as a truth. -/
theorem hw_cases (c : Int) : (hw c = false ∧ (c < 32 ∨ (127 ≤ c ∧ c ≤ 159) ∨ 1114111 < c ∨ (55296 ≤ c ∧ c ≤ 57343))) ∨ (hw c = true ∧ 32 ≤ c ∧ c ≤ 1114111 ∧ (c < 127 ∨ 159 < c) ∧ (c < 55296 ∨ 57343 < c)) := by
 unfold hw
 by_cases h1 : 32 ≤ c ∧ c ≤ 1114111 <;> by_cases h2 : 127 ≤ c ∧ c ≤ 159 <;> by_cases h3 : 55296 ≤ c ∧ c ≤ 57343 <;> simp [h1, h2, h3] <;> omega
set_option maxHeartbeats 4000000 in
theorem refOf_no (c : Int) (h : hw c = false) (w : World) : Calls Try.prog 54 #[.int .i32 c] w fun e w' => e = .returned (.int .i64 (ofF c)) ∧ w' = w := by
 have e := Box'.mk (show ofF c = -1 by unfold ofF; rw [h]; rfl)
 rcases hw_cases c with ⟨_, hc⟩ | ⟨h', _⟩
 ·clear h
  by_cases h1 : c < 32
  ·clear hc
   go_enter Try.func54, Try.ntmps54
   go_wp2_with fail
   go_ret
   exact ⟨by rw [e.out]; rfl, rfl⟩
  by_cases h2 : 127 ≤ c
  ·by_cases h3 : c ≤ 159
   ·clear hc
    go_enter Try.func54, Try.ntmps54
    go_wp2_with fail
    go_ret
    exact ⟨by rw [e.out]; rfl, rfl⟩
   by_cases h4 : 1114111 < c
   ·clear hc
    go_enter Try.func54, Try.ntmps54
    go_wp2_with fail
    go_ret
    exact ⟨by rw [e.out]; rfl, rfl⟩
   have h5 : 55296 ≤ c := by omega
   have h6 : c ≤ 57343 := by omega
   clear hc
   go_enter Try.func54, Try.ntmps54
   go_wp2_with fail
   go_ret
   exact ⟨by rw [e.out]; rfl, rfl⟩
  ·omega
 ·rw [h] at h'; cases h'
set_option maxHeartbeats 4000000 in
theorem refOf_yes (c : Int) (h : hw c = true) (w : World) : Calls Try.prog 54 #[.int .i32 c] w fun e w' => e = .returned (.int .i64 (ofF c)) ∧ Below w.heap.size w w' := by
 have e : Box' (ofF c = if inF zeroL c then 0 else if inF wideL c then 2 else 1) := ⟨by unfold ofF; rw [h]; rfl⟩
 have ZT := Box'.mk (refZero_any w)
 rcases hw_cases c with ⟨h', _⟩ | ⟨h', h1, h2, h3, h4⟩
 ·rw [h] at h'; cases h'
 clear h h'
 have h1' : ¬ c < 32 := by omega
 have h2' : ¬ 1114111 < c := by omega
 rcases h3 with h3 | h3
 ·have h4' : ¬ 55296 ≤ c := by omega
  have h3' : ¬ 127 ≤ c := by omega
  clear h4 h1 h2 h3
  go_enter Try.func54, Try.ntmps54
  go_wp2_with fail
  refine ZT.out.mono ?_
  rintro x w1 ⟨v1, rfl, hv1, hs1, hb1⟩
  have IZ := Box'.mk (refIn_any _ zeroL (by decide) c _ hs1)
  have B1 := Box'.mk hb1
  clear hv1 hs1 hb1 ZT
  go_wp2_with fail
  refine IZ.out.mono ?_
  rintro x w2 ⟨rfl, hw2⟩
  subst hw2
  clear IZ
  cases hz : inF zeroL c with
  | true =>
   have e2 := Box'.mk (show ofF c = 0 by rw [e.out, hz]; rfl)
   clear hz e
   go_wp2_with fail
   go_ret
   exact ⟨by rw [e2.out]; rfl, B1.out⟩
  | false =>
   have e2 : Box' (ofF c = if inF wideL c then 2 else 1) := ⟨by rw [e.out, hz]; rfl⟩
   have WT := Box'.mk (refWide_any w2)
   clear hz e
   go_wp2_with fail
   refine WT.out.mono ?_
   rintro x w3 ⟨v3, rfl, hv3, hs3, hb3⟩
   have IW := Box'.mk (refIn_any _ wideL (by decide) c _ hs3)
   have B3 := Box'.mk (B1.out.trans (hb3.mono B1.out.size))
   clear hv3 hs3 hb3 WT B1
   go_wp2_with fail
   refine IW.out.mono ?_
   rintro x w4 ⟨rfl, hw4⟩
   subst hw4
   clear IW
   cases hz : inF wideL c with
   | true =>
    have e3 := Box'.mk (show ofF c = 2 by rw [e2.out, hz]; rfl)
    clear hz e2
    go_wp2_with fail
    go_ret
    exact ⟨by rw [e3.out]; rfl, B3.out⟩
   | false =>
    have e3 := Box'.mk (show ofF c = 1 by rw [e2.out, hz]; rfl)
    clear hz e2
    go_wp2_with fail
    go_ret
    exact ⟨by rw [e3.out]; rfl, B3.out⟩
 ·have h3' : 127 ≤ c := by omega
  rcases h4 with h4 | h4
  ·have h4' : ¬ 55296 ≤ c := by omega
   clear h4 h1 h2
   go_enter Try.func54, Try.ntmps54
   go_wp2_with fail
   refine ZT.out.mono ?_
   rintro x w1 ⟨v1, rfl, hv1, hs1, hb1⟩
   have IZ := Box'.mk (refIn_any _ zeroL (by decide) c _ hs1)
   have B1 := Box'.mk hb1
   clear hv1 hs1 hb1 ZT
   go_wp2_with fail
   refine IZ.out.mono ?_
   rintro x w2 ⟨rfl, hw2⟩
   subst hw2
   clear IZ
   cases hz : inF zeroL c with
   | true =>
    have e2 := Box'.mk (show ofF c = 0 by rw [e.out, hz]; rfl)
    clear hz e
    go_wp2_with fail
    go_ret
    exact ⟨by rw [e2.out]; rfl, B1.out⟩
   | false =>
    have e2 : Box' (ofF c = if inF wideL c then 2 else 1) := ⟨by rw [e.out, hz]; rfl⟩
    have WT := Box'.mk (refWide_any w2)
    clear hz e
    go_wp2_with fail
    refine WT.out.mono ?_
    rintro x w3 ⟨v3, rfl, hv3, hs3, hb3⟩
    have IW := Box'.mk (refIn_any _ wideL (by decide) c _ hs3)
    have B3 := Box'.mk (B1.out.trans (hb3.mono B1.out.size))
    clear hv3 hs3 hb3 WT B1
    go_wp2_with fail
    refine IW.out.mono ?_
    rintro x w4 ⟨rfl, hw4⟩
    subst hw4
    clear IW
    cases hz : inF wideL c with
    | true =>
     have e3 := Box'.mk (show ofF c = 2 by rw [e2.out, hz]; rfl)
     clear hz e2
     go_wp2_with fail
     go_ret
     exact ⟨by rw [e3.out]; rfl, B3.out⟩
    | false =>
     have e3 := Box'.mk (show ofF c = 1 by rw [e2.out, hz]; rfl)
     clear hz e2
     go_wp2_with fail
     go_ret
     exact ⟨by rw [e3.out]; rfl, B3.out⟩
  ·have h4' : 55296 ≤ c := by omega
   clear h1 h2
   go_enter Try.func54, Try.ntmps54
   go_wp2_with fail
   refine ZT.out.mono ?_
   rintro x w1 ⟨v1, rfl, hv1, hs1, hb1⟩
   have IZ := Box'.mk (refIn_any _ zeroL (by decide) c _ hs1)
   have B1 := Box'.mk hb1
   clear hv1 hs1 hb1 ZT
   go_wp2_with fail
   refine IZ.out.mono ?_
   rintro x w2 ⟨rfl, hw2⟩
   subst hw2
   clear IZ
   cases hz : inF zeroL c with
   | true =>
    have e2 := Box'.mk (show ofF c = 0 by rw [e.out, hz]; rfl)
    clear hz e
    go_wp2_with fail
    go_ret
    exact ⟨by rw [e2.out]; rfl, B1.out⟩
   | false =>
    have e2 : Box' (ofF c = if inF wideL c then 2 else 1) := ⟨by rw [e.out, hz]; rfl⟩
    have WT := Box'.mk (refWide_any w2)
    clear hz e
    go_wp2_with fail
    refine WT.out.mono ?_
    rintro x w3 ⟨v3, rfl, hv3, hs3, hb3⟩
    have IW := Box'.mk (refIn_any _ wideL (by decide) c _ hs3)
    have B3 := Box'.mk (B1.out.trans (hb3.mono B1.out.size))
    clear hv3 hs3 hb3 WT B1
    go_wp2_with fail
    refine IW.out.mono ?_
    rintro x w4 ⟨rfl, hw4⟩
    subst hw4
    clear IW
    cases hz : inF wideL c with
    | true =>
     have e3 := Box'.mk (show ofF c = 2 by rw [e2.out, hz]; rfl)
     clear hz e2
     go_wp2_with fail
     go_ret
     exact ⟨by rw [e3.out]; rfl, B3.out⟩
    | false =>
     have e3 := Box'.mk (show ofF c = 1 by rw [e2.out, hz]; rfl)
     clear hz e2
     go_wp2_with fail
     go_ret
     exact ⟨by rw [e3.out]; rfl, B3.out⟩
theorem refOf_any (c : Int) (w : World) : Calls Try.prog 54 #[.int .i32 c] w fun e w' => e = .returned (.int .i64 (ofF c)) ∧ Below w.heap.size w w' := by
 cases h : hw c with
 | true => exact refOf_yes c h w
 | false => exact (refOf_no c h w).mono fun e w' ⟨h1, h2⟩ => ⟨h1, h2 ▸ Below.refl _ _⟩
end Go.Proofs.Ytnbonlkmadmpcaa
