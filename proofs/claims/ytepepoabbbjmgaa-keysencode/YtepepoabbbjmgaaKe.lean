/- The walk of KeysEncode. -/
import Derived.Test.YtepepoabbbjmgaaKd
namespace Go.Proofs.Ytepepoabbbjmgaa
open Go.RowKit Go.BigFrame
set_option linter.unusedSimpArgs false
set_option linter.unusedVariables false

set_option maxRecDepth 100000 in
set_option maxHeartbeats 4000000 in
theorem enc_walk (HE : EncC 6) (HC : ClnC 9) (w : World) (vx vb : Value) (x : Ev) (ar pa : Bool) (b : List UInt8) (hb : b.length ≤ 140737488355000) (h1 : InE w.heap.size w vx x.byt) (h2 : InB w.heap.size w vb b) :
    Calls Try.prog 3 #[x.val vx, .agg #[.bool ar, .bool pa], vb] w fun e w' => e = .returned (.bool true) ∧ Below w.heap.size w w' := by
  obtain ⟨w0, hw0⟩ : ∃ w0, w0 = (w.alloc (.cells #[.int .u8 (x.kind.toNat : Int), vx, .int .i64 x.cols, .int .i64 x.rows, .int .u8 (x.arr.toNat : Int)] 25)).alloc (.cells #[.bool ar, .bool pa] 27) := ⟨_, rfl⟩
  have r0 : Row w0 w.heap.size 25 #[.int .u8 (x.kind.toNat : Int), vx, .int .i64 x.cols, .int .i64 x.rows, .int .u8 (x.arr.toNat : Int)] := by rw [hw0]; exact (Row.new _ _ _).alloc _
  have r1 : Row w0 (w.heap.size + 1) 27 #[.bool ar, .bool pa] := by rw [hw0]; exact Row.made _ _ _ _ _ rfl (by simp)
  have b0 : Below w.heap.size w w0 := by rw [hw0]; exact ((Below.refl _ _).alloc (Nat.le_refl _) _).alloc (by simp) _
  have EN : Box' (∀ f, EncC f → ∀ w1, Below w.heap.size w w1 → Calls Try.prog f #[.agg #[.int .u8 (x.kind.toNat : Int), vx, .int .i64 x.cols, .int .i64 x.rows, .int .u8 (x.arr.toNat : Int)], .bool ar, .bool pa] w1 fun e w' => ∃ u, e = .returned (.tuple #[u, .int .i64 (ansF x ar pa).2]) ∧ InB w'.heap.size w' u (ansF x ar pa).1 ∧ Below w1.heap.size w1 w') := ⟨fun f hf w1 b1 => hf w.heap.size w1 vx x ar pa b1.size (h1.below b1 (Nat.le_refl _))⟩
  have CN : Box' (∀ f, ClnC f → ∀ w1, Below w.heap.size w w1 → Calls Try.prog f #[vb] w1 fun e w' => ∃ u, e = .returned u ∧ InB w'.heap.size w' u (clean b) ∧ Below w1.heap.size w1 w') := ⟨fun f hf w1 b1 => hf w.heap.size w1 vb b b1.size (h2.inE.below b1 (Nat.le_refl _)) hb⟩
  have SM : Box' (∀ w0 v1 v2 l, InB w0.heap.size w0 v1 l → InB w0.heap.size w0 v2 l → Calls Try.prog 8 #[v1, v2] w0 fun e w' => e = .returned (.bool true) ∧ w' = w0) := ⟨fun w0 v1 v2 l h1 h2 => (refSame_any _ _ v1 v2 l l w0 h1.bts h2.bts).mono fun e w' hh => ⟨by rw [hh.1]; simp, hh.2⟩⟩
  have AN := Box'.mk (anch_any HE)
  have RW : Box' (∀ w1, Below w0.heap.size w0 w1 → Row w1 w.heap.size 25 #[.int .u8 (x.kind.toNat : Int), vx, .int .i64 x.cols, .int .i64 x.rows, .int .u8 (x.arr.toNat : Int)] ∧ Row w1 (w.heap.size + 1) 27 #[.bool ar, .bool pa]) := ⟨fun w1 b1 => ⟨r0.below b1 r0.lt, r1.below b1 r1.lt⟩⟩
  have B0 := Box'.mk b0
  obtain ⟨ax, cx, rfl, _⟩ := h1.slice
  unfold Ev.val
  obtain ⟨xk, xl, xc, xr, xa⟩ := x
  simp only at *
  generalize ansF ⟨xk, xl, xc, xr, xa⟩ ar pa = R at *
  generalize xl.length = n at *
  have e1 := EN.out 6 HE w0 b0
  have E2 := Box'.mk (EN.out 7 refEnc_C)
  have C1 := Box'.mk (CN.out 9 HC)
  have C2 := Box'.mk (CN.out 10 refClean_C)
  clear EN CN h1 h2 r0 r1 b0
  rw [hw0] at e1
  go_enter Try.func3, Try.ntmps3
  go_wp2_with fail
  refine e1.mono ?_
  rw [← hw0]
  rintro e w1 ⟨u1, rfl, i1, b1⟩
  obtain ⟨r0, r1⟩ := RW.out w1 b1
  have L1 := Box'.mk b1
  have I1 := Box'.mk i1
  have B1 := Box'.mk (B0.out.trans (b1.mono B0.out.size))
  have l0 := r1.cell 0
  have l1 := r1.cell 1
  clear e1 hw0 b1 i1 HE HC
  go_wp2_with (first | (refine wpList_load_row rfl 25 (.tmp 3) rfl w.heap.size rfl 25 _ r0 _ Try.underlying25 rfl 5 (by kernel_rfl) rfl ?_) | fail)
  refine (E2.out w1 B1.out).mono ?_
  rintro e w2 ⟨u2, rfl, i2, b2⟩
  have sm := SM.out w2 u1 u2 _ ((I1.out.below b2 (Nat.le_refl _)).up b2.size) i2
  have B2 := Box'.mk (B1.out.trans (b2.mono B1.out.size))
  clear E2 I1 B1 L1 RW r0 r1 l0 l1 i2 b2
  generalize R.2 = q at *
  have hq : (q == q) = true := by simp
  go_wp2_with fail
  refine sm.mono ?_
  rintro e w3 ⟨rfl, rfl⟩
  clear sm
  go_wp2_with fail
  refine (C1.out w3 B2.out).mono ?_
  rintro e w4 ⟨u3, rfl, i4, b4⟩
  have I4 := Box'.mk i4
  have B4 := Box'.mk (B2.out.trans (b4.mono B2.out.size))
  clear C1 i4 b4 B2
  go_wp2_with fail
  refine (C2.out w4 B4.out).mono ?_
  rintro e w5 ⟨u5, rfl, i5, b5⟩
  have sm := SM.out w5 u3 u5 _ ((I4.out.below b5 (Nat.le_refl _)).up b5.size) i5
  have B5 := Box'.mk (B4.out.trans (b5.mono B4.out.size))
  clear C2 I4 B4 i5 b5 SM
  go_wp2_with fail
  refine sm.mono ?_
  rintro e w6 ⟨rfl, rfl⟩
  clear sm
  go_wp2_with fail
  refine (AN.out w6).mono ?_
  rintro e w7 ⟨rfl, b7⟩
  have B7 := Box'.mk (B5.out.trans (b7.mono B5.out.size))
  clear AN B5 b7
  go_wp2_with fail
  go_ret
  exact ⟨rfl, B7.out⟩
end Go.Proofs.Ytepepoabbbjmgaa
