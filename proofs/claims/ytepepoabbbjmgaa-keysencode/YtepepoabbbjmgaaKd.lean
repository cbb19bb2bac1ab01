/- The walk of layer 20's anchored, over what Encode answers. -/
import Derived.Test.YtepepoabbbjmgaaKc
namespace Go.Proofs.Ytepepoabbbjmgaa
open Go.RowKit Go.BigFrame
set_option linter.unusedSimpArgs false
set_option linter.unusedVariables false

/-- What is asked of a function that encodes. -/
def EncC (f : Nat) : Prop := ∀ (N : Nat) (w : World) (vb : Value) (x : Ev) (ar pa : Bool), N ≤ w.heap.size → InE N w vb x.byt →
  Calls Try.prog f #[x.val vb, .bool ar, .bool pa] w fun e w' => ∃ u, e = .returned (.tuple #[u, .int .i64 (ansF x ar pa).2]) ∧ InB w'.heap.size w' u (ansF x ar pa).1 ∧ Below w.heap.size w w'
/-- What is asked of a function that cleans. -/
def ClnC (f : Nat) : Prop := ∀ (N : Nat) (w : World) (vb : Value) (l : List UInt8), N ≤ w.heap.size → InE N w vb l → l.length ≤ 140737488355000 →
  Calls Try.prog f #[vb] w fun e w' => ∃ u, e = .returned u ∧ InB w'.heap.size w' u (clean l) ∧ Below w.heap.size w w'
theorem refEnc_C : EncC 7 := fun N w vb x ar pa h1 h2 => (refEnc_any N w vb x ar pa h1 h2).mono fun e w' ⟨u, q1, q2, q3⟩ => ⟨u, q1, q2.inB, q3⟩
theorem refClean_C : ClnC 10 := fun N w vb l h1 h2 h3 => (refClean_any N w vb l h1 h2 h3).mono fun e w' ⟨u, q1, q2, q3⟩ => ⟨u, q1, q2.inB, q3⟩
/-- A row that is laid for a constant's bytes, read. -/
theorem mark_in (w : World) (C : List UInt8) (n : Nat) (hn : C.length = n) (fz : Nat × Nat) : InB (w.heap.size + 1) (w.alloc (.cells (ag C) 5 fz)) (.slice (some ⟨w.heap.size, 0, none⟩) n n) C := by
  subst hn
  refine .inr ⟨w.heap.size, 0, C.length, rfl, Nat.le_refl _, .inr (Nat.lt_succ_self _), fun j u hu => ?_⟩
  rw [Nat.zero_add, cell_of_row _ _ j (ag C) 5 fz (heap_alloc_last w _)]
  simpa [ag] using hu

set_option maxRecDepth 100000 in
set_option maxHeartbeats 4000000 in
theorem anch_any (HE : EncC 6) (w : World) : Calls Try.prog 11 #[] w fun e w' => e = .returned (.bool true) ∧ Below w.heap.size w w' := by
  have H1 : Box' (∀ w0, Calls Try.prog 6 #[.agg #[.int .u8 4, .slice none 0 0, .int .i64 0, .int .i64 0, .int .u8 65], .bool false, .bool false] w0 fun e w' => ∃ u, e = .returned (.tuple #[u, .int .i64 0]) ∧ InB w'.heap.size w' u [27, 91, 65] ∧ Below w0.heap.size w0 w') := ⟨fun w0 => HE 0 w0 (.slice none 0 0) ⟨4, [], 0, 0, 65⟩ false false (Nat.zero_le _) (.inl ⟨rfl, rfl⟩)⟩
  have H2 : Box' (∀ w0, Calls Try.prog 6 #[.agg #[.int .u8 4, .slice none 0 0, .int .i64 0, .int .i64 0, .int .u8 65], .bool true, .bool false] w0 fun e w' => ∃ u, e = .returned (.tuple #[u, .int .i64 0]) ∧ InB w'.heap.size w' u [27, 79, 65] ∧ Below w0.heap.size w0 w') := ⟨fun w0 => HE 0 w0 (.slice none 0 0) ⟨4, [], 0, 0, 65⟩ true false (Nat.zero_le _) (.inl ⟨rfl, rfl⟩)⟩
  have H3 : Box' (∀ w0 v, InB w0.heap.size w0 v [97, 27, 98, 10] → Calls Try.prog 6 #[.agg #[.int .u8 3, v, .int .i64 0, .int .i64 0, .int .u8 0], .bool false, .bool true] w0 fun e w' => ∃ u, e = .returned (.tuple #[u, .int .i64 0]) ∧ InB w'.heap.size w' u [27, 91, 50, 48, 48, 126, 97, 98, 13, 27, 91, 50, 48, 49, 126] ∧ Below w0.heap.size w0 w') := ⟨fun w0 v hv => HE w0.heap.size w0 v ⟨3, [97, 27, 98, 10], 0, 0, 0⟩ false true (Nat.le_refl _) hv.inE⟩
  have SM : Box' (∀ w0 v1 v2 l, InB w0.heap.size w0 v1 l → InB w0.heap.size w0 v2 l → Calls Try.prog 8 #[v1, v2] w0 fun e w' => e = .returned (.bool true) ∧ w' = w0) := ⟨fun w0 v1 v2 l h1 h2 => (refSame_any _ _ v1 v2 l l w0 h1.bts h2.bts).mono fun e w' hh => ⟨by rw [hh.1]; simp, hh.2⟩⟩
  have MI := Box'.mk mark_in
  have kv := fun (w : World) (C : Array Value) (n c : Nat) => Go.Lib.run_convert_bytes_const (P := Try.prog) w 23 5 C n c Try.underlying23 Try.underlying5
  go_enter Try.func11, Try.ntmps11
  go_wp2_with fail
  refine (H1.out _).mono ?_
  rintro e w1 ⟨v1, rfl, i1, b1⟩
  have I1 := Box'.mk i1
  have B1 := Box'.mk b1
  clear i1 b1 H1
  go_wp2_with fail
  refine (H2.out _).mono ?_
  rintro e w2 ⟨v2, rfl, i2, b2⟩
  have I2 := Box'.mk i2
  have J1 := Box'.mk ((I1.out.below b2 (Nat.le_refl _)).up b2.size)
  have B2 := Box'.mk (B1.out.trans (b2.mono B1.out.size))
  clear i2 b2 H2 I1 B1
  go_wp2_with fail
  have i3 := MI.out w2 [97, 27, 98, 10] 4 rfl (4, 5)
  have b3 : Below w2.heap.size w2 (w2.alloc (.cells (ag [97, 27, 98, 10]) 5 (4, 5))) := (Below.refl _ _).alloc (Nat.le_refl _) _
  refine (H3.out _ _ (i3.up (by simp))).mono ?_
  rintro e w3 ⟨v3, rfl, i4, b4⟩
  have J2 := Box'.mk (((I2.out.below b3 (Nat.le_refl _)).up b3.size).below b4 (Nat.le_refl _) |>.up b4.size)
  have J1 := Box'.mk (((J1.out.below b3 (Nat.le_refl _)).up b3.size).below b4 (Nat.le_refl _) |>.up b4.size)
  have J3 := Box'.mk i4
  have B3 := Box'.mk ((B2.out.trans (b3.mono B2.out.size)).trans (b4.mono (Nat.le_trans B2.out.size b3.size)))
  clear i3 b3 i4 b4 H3 I2 B2
  have AL : Box' (∀ (w : World) (o : Obj), Below w.heap.size w (w.alloc o) ∧ w.heap.size + 1 ≤ (w.alloc o).heap.size) := ⟨fun w o => ⟨(Below.refl _ _).alloc (Nat.le_refl _) _, by simp⟩⟩
  go_wp2_with fail
  refine (SM.out _ v1 _ [27, 91, 65] ((J1.out.below (AL.out _ _).1 (Nat.le_refl _)).up (AL.out _ _).1.size) ((MI.out _ [27, 91, 65] 3 rfl (3, 4)).up (AL.out _ _).2)).mono ?_
  rintro e w4 ⟨rfl, hw⟩
  have J2 : Box' (InB w4.heap.size w4 v2 [27, 79, 65]) := ⟨by rw [hw]; exact ((J2.out.below (AL.out _ _).1 (Nat.le_refl _)).up (AL.out _ _).1.size)⟩
  have J3 : Box' (InB w4.heap.size w4 v3 [27, 91, 50, 48, 48, 126, 97, 98, 13, 27, 91, 50, 48, 49, 126]) := ⟨by rw [hw]; exact ((J3.out.below (AL.out _ _).1 (Nat.le_refl _)).up (AL.out _ _).1.size)⟩
  have B3 : Box' (Below w.heap.size w w4) := ⟨by rw [hw]; exact B3.out.alloc B3.out.size _⟩
  clear hw
  go_wp2_with fail
  refine (SM.out _ v2 _ [27, 79, 65] ((J2.out.below (AL.out _ _).1 (Nat.le_refl _)).up (AL.out _ _).1.size) ((MI.out _ [27, 79, 65] 3 rfl (3, 4)).up (AL.out _ _).2)).mono ?_
  rintro e w5 ⟨rfl, hw⟩
  have J3 : Box' (InB w5.heap.size w5 v3 [27, 91, 50, 48, 48, 126, 97, 98, 13, 27, 91, 50, 48, 49, 126]) := ⟨by rw [hw]; exact ((J3.out.below (AL.out _ _).1 (Nat.le_refl _)).up (AL.out _ _).1.size)⟩
  have B3 : Box' (Below w.heap.size w w5) := ⟨by rw [hw]; exact B3.out.alloc B3.out.size _⟩
  clear hw
  go_wp2_with fail
  refine (SM.out _ v3 _ [27, 91, 50, 48, 48, 126, 97, 98, 13, 27, 91, 50, 48, 49, 126] ((J3.out.below (AL.out _ _).1 (Nat.le_refl _)).up (AL.out _ _).1.size) ((MI.out _ [27, 91, 50, 48, 48, 126, 97, 98, 13, 27, 91, 50, 48, 49, 126] 15 rfl (15, 16)).up (AL.out _ _).2)).mono ?_
  rintro e w6 ⟨rfl, hw⟩
  have B3 : Box' (Below w.heap.size w w6) := ⟨by rw [hw]; exact B3.out.alloc B3.out.size _⟩
  clear hw
  go_wp2_with fail
  go_ret
  exact ⟨rfl, B3.out⟩
end Go.Proofs.Ytepepoabbbjmgaa
