/- Some widths that the document fixes. -/
import Derived.Test.YtmflhcbojgaekaaK
namespace Go.Proofs.Ytmflhcbojgaekaa
open Go.RowKit Go.BigFrame
set_option linter.unusedVariables false
set_option linter.unusedSimpArgs false

theorem of97 : ofF 97 = 1 := by decide +kernel
theorem of20013 : ofF 20013 = 2 := by decide +kernel
theorem of769 : ofF 769 = 0 := by decide +kernel
theorem of10 : ofF 10 = -1 := by decide +kernel
theorem txt4 : txtF [97, 20013, 769, 10] = 3 := by decide +kernel
theorem rns4 (w : World) : Rns (w.alloc (.cells #[.int .i32 97, .int .i32 20013, .int .i32 769, .int .i32 10] 21)).heap.size (w.alloc (.cells #[.int .i32 97, .int .i32 20013, .int .i32 769, .int .i32 10] 21)) (.slice (some ⟨w.heap.size, 0, none⟩) 4 4) [97, 20013, 769, 10] := by
  have r := Row.new w 21 #[.int .i32 97, .int .i32 20013, .int .i32 769, .int .i32 10]
  refine ⟨_, _, rfl, Nat.le_refl _, .inr ⟨w.heap.size, 0, rfl, r.lt, fun k hk => ?_⟩⟩
  rw [Nat.zero_add, r.cell]
  have : k = 0 ∨ k = 1 ∨ k = 2 ∨ k = 3 := by simp at hk; omega
  rcases this with rfl | rfl | rfl | rfl <;> rfl
set_option maxHeartbeats 2000000 in
theorem anch_any (w : World) : Calls Try.prog 15 #[] w fun e w' => e = .returned (.bool true) ∧ Below w.heap.size w w' := by
  have O1 := Box'.mk (of_any 97)
  have O2 := Box'.mk (of_any 20013)
  have O3 := Box'.mk (of_any 769)
  have O4 := Box'.mk (of_any 10)
  rw [of97] at O1
  rw [of20013] at O2
  rw [of769] at O3
  rw [of10] at O4
  have T5 : Box' (∀ w : World, Calls Try.prog 12 #[.slice (some ⟨w.heap.size, 0, none⟩) 4 4] (w.alloc (.cells #[.int .i32 97, .int .i32 20013, .int .i32 769, .int .i32 10] 21)) fun e w' => e = .returned (.int .i64 3) ∧ Below w.heap.size w w') := ⟨fun w => (text_any _ _ (by decide) _ (rns4 w)).mono fun e w' ⟨h1, h2⟩ => ⟨by rw [h1, txt4], ((Below.refl w.heap.size w).alloc (Nat.le_refl _) _).trans (h2.mono (by simp))⟩⟩
  go_enter Try.func15, Try.ntmps15
  go_wp2_with fail
  refine (O1.out _).mono ?_
  rintro x w1 ⟨rfl, hb1⟩
  have B1 := Box'.mk hb1
  clear hb1 O1
  go_wp2_with fail
  refine (O2.out _).mono ?_
  rintro x w2 ⟨rfl, hb2⟩
  have B2 := Box'.mk (B1.out.trans (hb2.mono B1.out.size))
  clear hb2 O2 B1
  go_wp2_with fail
  refine (O3.out _).mono ?_
  rintro x w3 ⟨rfl, hb3⟩
  have B3 := Box'.mk (B2.out.trans (hb3.mono B2.out.size))
  clear hb3 O3 B2
  go_wp2_with fail
  refine (O4.out _).mono ?_
  rintro x w4 ⟨rfl, hb4⟩
  have B4 := Box'.mk (B3.out.trans (hb4.mono B3.out.size))
  clear hb4 O4 B3
  go_wp2_with fail
  refine (T5.out _).mono ?_
  rintro x w5 ⟨rfl, hb5⟩
  have B5 := Box'.mk (B4.out.trans (hb5.mono B4.out.size))
  clear hb5 T5 B4
  go_wp2_with fail
  go_ret
  exact ⟨rfl, B5.out⟩
end Go.Proofs.Ytmflhcbojgaekaa
