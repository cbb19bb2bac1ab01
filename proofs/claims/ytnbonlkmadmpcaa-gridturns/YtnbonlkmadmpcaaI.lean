/- The width of a number: the program's way and the reference's. -/
import Derived.Test.YtnbonlkmadmpcaaC
import Derived.Test.YtnbonlkmadmpcaaF
import Derived.Test.YtnbonlkmadmpcaaG
namespace Go.Proofs.Ytnbonlkmadmpcaa
open Go.RowKit Go.BigFrame
set_option linter.unusedVariables false
set_option linter.unusedSimpArgs false
set_option maxRecDepth 100000 in
set_option maxHeartbeats 4000000 in
theorem of_any (c : Int) (w : World) : Calls Try.prog 57 #[.int .i32 c] w fun e w' => e = .returned (.int .i64 (ofF c)) ∧ Below w.heap.size w w' := by
 have HW := Box'.mk (hasWidth_any c w)
 have i80 := Box'.mk info80
 have i82 := Box'.mk info82
 have s80 := Box'.mk (size_of_zero info80)
 have s82 := Box'.mk (size_of_zero info82)
 cases hh : hw c with
 | false =>
  rw [hh] at HW
  have e := Box'.mk (show ofF c = -1 by unfold ofF; rw [hh]; rfl)
  go_enter Try.func57, Try.ntmps57
  go_wp2_with fail
  refine HW.out.mono ?_
  rintro x w1 ⟨rfl, rfl⟩
  go_wp2_with fail
  go_ret
  exact ⟨by rw [e.out]; rfl, Below.refl _ _⟩
 | true =>
  rw [hh] at HW
  by_cases hc : c < 768
  ·have e := Box'.mk (of_low hh hc)
   go_enter Try.func57, Try.ntmps57
   go_wp2_with fail
   refine HW.out.mono ?_
   rintro x w1 ⟨rfl, rfl⟩
   go_wp2_with fail
   go_ret
   exact ⟨by rw [e.out]; rfl, Below.refl _ _⟩
  ·have e : Box' (ofF c = if inF zeroL c then 0 else if inF wideL c then 2 else 1) := ⟨by unfold ofF; rw [hh]; rfl⟩
   have ZT := Box'.mk (zeroTable_any w)
   obtain ⟨Z, hz⟩ : ∃ Z, Box' (spA zeroL = Z) := ⟨_, ⟨rfl⟩⟩
   obtain ⟨Y, hy⟩ : ∃ Y, Box' (spA wideL = Y) := ⟨_, ⟨rfl⟩⟩
   have oz := Box'.mk (spA_one zeroL)
   have oy := Box'.mk (spA_one wideL)
   have nz := Box'.mk zero_size
   have ny := Box'.mk wide_size
   rw [hz.out] at ZT oz nz
   rw [hy.out] at oy ny
   clear hh
   go_enter Try.func57, Try.ntmps57
   go_wp2_with fail
   refine HW.out.mono ?_
   rintro x w1 ⟨rfl, rfl⟩
   clear HW
   go_wp2_with fail
   refine ZT.out.mono ?_
   rintro x w2 ⟨rfl, hb2⟩
   clear ZT
   have B2 := Box'.mk hb2
   have R2 := Box'.mk (Row.new w2 80 (zs 52))
   have BA2 := Box'.mk ((Below.refl w2.heap.size w2).alloc (Nat.le_refl _) (.cells (zs 52) 80))
   clear hb2
   go_wp2_with (first
    | (refine wpList_alloc_row rfl 80 rfl (zs 52) 52 i80.out ?_)
    | (refine wpList_store_row rfl 80 (.tmp 3) (.tmp 10) rfl w2.heap.size rfl Z rfl 80 52 (R2.out.room (zs_size 52)) s80.out nz.out oz.out ?_))
   have R3 := Box'.mk (R2.out.setRow Z)
   have B3 : Box' (Below w1.heap.size w1 ((w2.alloc (.cells (zs 52) 80)).setRow w2.heap.size Z)) := ⟨below_setRow (B2.out.trans (BA2.out.mono B2.out.size)) B2.out.size _⟩
   have FZ : Box' (Calls Try.prog 68 #[.slice (some ⟨w2.heap.size, 0, none⟩) 26 26, .int .i32 c] ((w2.alloc (.cells (zs 52) 80)).setRow w2.heap.size Z) fun e w' => e = .returned (.bool (inF zeroL c)) ∧ Below ((w2.alloc (.cells (zs 52) 80)).setRow w2.heap.size Z).heap.size ((w2.alloc (.cells (zs 52) 80)).setRow w2.heap.size Z) w') := ⟨by
    refine found_any _ zeroL (by decide) rises_zero c _ ?_
    have r := R3.out
    rw [← hz.out] at r ⊢
    exact r.sps rfl⟩
   clear R2 R3 BA2 B2
   generalize ((w2.alloc (.cells (zs 52) 80)).setRow w2.heap.size Z) = w3 at *
   refine FZ.out.mono ?_
   rintro x w4 ⟨rfl, hb4⟩
   have B4 := Box'.mk (B3.out.trans (hb4.mono B3.out.size))
   clear FZ B3 hb4
   cases h1 : inF zeroL c with
   | true =>
    have e2 := Box'.mk (show ofF c = 0 by rw [e.out, h1]; rfl)
    clear h1 e
    go_wp2_with fail
    go_ret
    exact ⟨by rw [e2.out]; rfl, B4.out⟩
   | false =>
    have e2 : Box' (ofF c = if inF wideL c then 2 else 1) := ⟨by rw [e.out, h1]; rfl⟩
    clear h1 e
    have WT := Box'.mk (wideTable_any w4)
    rw [hy.out] at WT
    go_wp2_with fail
    refine WT.out.mono ?_
    rintro x w5 ⟨rfl, hb5⟩
    clear WT
    have B5 := Box'.mk (B4.out.trans (hb5.mono B4.out.size))
    have R5 := Box'.mk (Row.new w5 82 (zs 74))
    have BA5 := Box'.mk ((Below.refl w5.heap.size w5).alloc (Nat.le_refl _) (.cells (zs 74) 82))
    clear hb5 B4
    go_wp2_with (first
     | (refine wpList_alloc_row rfl 82 rfl (zs 74) 74 i82.out ?_)
     | (refine wpList_store_row rfl 82 (.tmp 4) (.tmp 14) rfl w5.heap.size rfl Y rfl 82 74 (R5.out.room (zs_size 74)) s82.out ny.out oy.out ?_))
    have R6 := Box'.mk (R5.out.setRow Y)
    have B6 : Box' (Below w1.heap.size w1 ((w5.alloc (.cells (zs 74) 82)).setRow w5.heap.size Y)) := ⟨below_setRow (B5.out.trans (BA5.out.mono B5.out.size)) B5.out.size _⟩
    have FY : Box' (Calls Try.prog 68 #[.slice (some ⟨w5.heap.size, 0, none⟩) 37 37, .int .i32 c] ((w5.alloc (.cells (zs 74) 82)).setRow w5.heap.size Y) fun e w' => e = .returned (.bool (inF wideL c)) ∧ Below ((w5.alloc (.cells (zs 74) 82)).setRow w5.heap.size Y).heap.size ((w5.alloc (.cells (zs 74) 82)).setRow w5.heap.size Y) w') := ⟨by
     refine found_any _ wideL (by decide) rises_wide c _ ?_
     have r := R6.out
     rw [← hy.out] at r ⊢
     exact r.sps rfl⟩
    clear R5 R6 BA5 B5
    generalize ((w5.alloc (.cells (zs 74) 82)).setRow w5.heap.size Y) = w6 at *
    refine FY.out.mono ?_
    rintro x w7 ⟨rfl, hb7⟩
    have B7 := Box'.mk (B6.out.trans (hb7.mono B6.out.size))
    clear FY B6 hb7
    cases h1 : inF wideL c with
    | true =>
     have e3 := Box'.mk (show ofF c = 2 by rw [e2.out, h1]; rfl)
     clear h1 e2
     go_wp2_with fail
     go_ret
     exact ⟨by rw [e3.out]; rfl, B7.out⟩
    | false =>
     have e3 := Box'.mk (show ofF c = 1 by rw [e2.out, h1]; rfl)
     clear h1 e2
     go_wp2_with fail
     go_ret
     exact ⟨by rw [e3.out]; rfl, B7.out⟩
end Go.Proofs.Ytnbonlkmadmpcaa
