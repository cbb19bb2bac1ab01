/- Both tables; the comparing of spans. -/
import Derived.Test.YtmflhcbojgaekaaI
import Derived.Test.YtmflhcbojgaekaaJ
import Derived.BigQuiet
import Derived.Deep.QuietTactic
namespace Go.Proofs.Ytmflhcbojgaekaa
open Go.RowKit Go.BigFrame
set_option linter.unusedVariables false
set_option linter.unusedSimpArgs false

set_option maxHeartbeats 2000000 in
theorem refTables_any (w : World) : Calls Try.prog 11 #[] w fun e w' => ∃ a b, e = .returned (.tuple #[.slice (some a) 37 37, .slice (some b) 26 26]) ∧ Sps w'.heap.size w' (.slice (some a) 37 37) wideL ∧ Sps w'.heap.size w' (.slice (some b) 26 26) zeroL ∧ Below w.heap.size w w' := by
  have WT := Box'.mk (refWide_any w)
  go_enter Try.func11, Try.ntmps11
  go_wp2_with fail
  refine WT.out.mono ?_
  rintro x w1 ⟨v1, rfl, rfl, hs1, hb1⟩
  have S1 := Box'.mk hs1
  have B1 := Box'.mk hb1
  have ZT := Box'.mk (refZero_any w1)
  clear hs1 hb1 WT
  go_wp2_with fail
  refine ZT.out.mono ?_
  rintro x w2 ⟨v2, rfl, rfl, hs2, hb2⟩
  have S1' := Box'.mk ((S1.out.below hb2 (Nat.le_refl _)).up hb2.size)
  have S2 := Box'.mk hs2
  have B2 := Box'.mk (B1.out.trans (hb2.mono B1.out.size))
  clear ZT hs2 hb2 S1 B1
  go_wp2_with fail
  go_ret2
  exact ⟨_, _, rfl, S1'.out, S2.out, B2.out⟩

set_option maxRecDepth 100000 in
set_option maxHeartbeats 2000000 in
theorem tables_any (w : World) : Calls Try.prog 10 #[] w fun e w' => ∃ a b, e = .returned (.tuple #[.slice (some a) 37 37, .slice (some b) 26 26]) ∧ Sps w'.heap.size w' (.slice (some a) 37 37) wideL ∧ Sps w'.heap.size w' (.slice (some b) 26 26) zeroL ∧ Below w.heap.size w w' := by
  have i39 := Box'.mk info39
  have i41 := Box'.mk info41
  have s39 := Box'.mk (size_of_zero info39)
  have s41 := Box'.mk (size_of_zero info41)
  have WT := Box'.mk (wideTable_any w)
  obtain ⟨Z, hz⟩ : ∃ Z, Box' (spA zeroL = Z) := ⟨_, ⟨rfl⟩⟩
  obtain ⟨Y, hy⟩ : ∃ Y, Box' (spA wideL = Y) := ⟨_, ⟨rfl⟩⟩
  have oz := Box'.mk (spA_one zeroL)
  have oy := Box'.mk (spA_one wideL)
  have nz := Box'.mk zero_size
  have ny := Box'.mk wide_size
  rw [hz.out] at oz nz
  rw [hy.out] at WT oy ny
  go_enter Try.func10, Try.ntmps10
  go_wp2_with fail
  refine WT.out.mono ?_
  rintro x w1 ⟨rfl, hb1⟩
  have B1 := Box'.mk hb1
  have ZT := Box'.mk (zeroTable_any w1)
  rw [hz.out] at ZT
  clear hb1 WT
  go_wp2_with fail
  refine ZT.out.mono ?_
  rintro x w2 ⟨rfl, hb2⟩
  have B2 := Box'.mk (B1.out.trans (hb2.mono B1.out.size))
  clear ZT hb2 B1
  have R1 := Box'.mk ((Row.new w2 41 (zs 74)).alloc (.cells (zs 52) 39))
  have R2 : Box' (Row ((w2.alloc (.cells (zs 74) 41)).alloc (.cells (zs 52) 39)) (w2.heap.size + 1) 39 (zs 52)) := ⟨Row.made _ _ _ _ _ rfl (by simp)⟩
  have R2' := Box'.mk (R2.out.setRowOther w2.heap.size Y (by omega))
  have R3 := Box'.mk ((R1.out.setRow Y).setRowOther (w2.heap.size + 1) Z (by omega))
  have R4 := Box'.mk (R2'.out.setRow Z)
  have B4 : Box' (Below w.heap.size w ((((w2.alloc (.cells (zs 74) 41)).alloc (.cells (zs 52) 39)).setRow w2.heap.size Y).setRow (w2.heap.size + 1) Z)) :=
    ⟨by
      have := B2.out.size
      refine below_setRow (below_setRow ((B2.out.alloc this _).alloc (by simp; omega) _) this _) (by omega) _⟩
  go_wp2_with (first
    | (refine wpList_alloc_row rfl 39 rfl (zs 52) 52 i39.out ?_)
    | (refine wpList_alloc_row rfl 41 rfl (zs 74) 74 i41.out ?_)
    | (refine wpList_store_row rfl 41 (.tmp 2) (.tmp 4) rfl w2.heap.size rfl Y rfl 41 74 (R1.out.room (zs_size 74)) s41.out ny.out oy.out ?_)
    | (refine wpList_store_row rfl 39 (.tmp 3) (.tmp 5) rfl (w2.heap.size + 1) (by first | rfl | (simp [go_sem]; done) | (simp [Act.eval, Act.put]; done)) Z rfl 39 52 (R2'.out.room (zs_size 52)) s39.out nz.out oz.out ?_))
  clear R1 R2 R2' B2
  generalize ((((w2.alloc (.cells (zs 74) 41)).alloc (.cells (zs 52) 39)).setRow w2.heap.size Y).setRow (w2.heap.size + 1) Z) = w3 at *
  go_quiet (fail)
  go_wp2_with fail
  go_ret2
  refine ⟨_, _, rfl, ?_, ?_, Below.drewN B4.out _⟩
  · have r := R3.out; rw [← hy.out] at r; exact (r.drewN _).sps rfl
  · have r := R4.out; rw [← hz.out] at r; exact (r.drewN _).sps rfl

theorem span_ext {la lb : List (Int × Int)} (h : la.length = lb.length) (hk : ∀ k, k < la.length → la.getD k (0, 0) = lb.getD k (0, 0)) : la = lb := by
  apply List.ext_getElem h
  intro k h1 h2
  have := hk k h1
  simpa [h1, h2] using this
set_option maxHeartbeats 2000000 in
theorem same_any (va vb : Value) (la lb : List (Int × Int)) (hl : la.length ≤ 140737488355328) (w : World) (ha : Sps w.heap.size w va la) (hb : Sps w.heap.size w vb lb) (hab : la = lb) :
    Calls Try.prog 14 #[va, vb] w fun e w' => e = .returned (.bool true) ∧ Below w.heap.size w w' := by
  subst hab
  obtain ⟨a, cp, rfl, hc, h3⟩ := ha
  obtain ⟨a', cp', rfl, hc', h3'⟩ := hb
  have hcl : ∀ k, k < la.length → ∃ b o b' o', a = some ⟨b, o, none⟩ ∧ a' = some ⟨b', o', none⟩ ∧ w.cell? ⟨b, o + k * 2, none⟩ = some (.int .i32 (la.getD k (0, 0)).1) ∧ w.cell? ⟨b, o + k * 2 + 1, none⟩ = some (.int .i32 (la.getD k (0, 0)).2) ∧ w.cell? ⟨b', o' + k * 2, none⟩ = some (.int .i32 (la.getD k (0, 0)).1) ∧ w.cell? ⟨b', o' + k * 2 + 1, none⟩ = some (.int .i32 (la.getD k (0, 0)).2) := by
    intro k hk
    rcases h3 with rfl | ⟨b, o, rfl, h5, h6⟩
    · simp at hk
    rcases h3' with rfl | ⟨b', o', rfl, h5', h6'⟩
    · simp at hk
    exact ⟨b, o, b', o', rfl, rfl, (h6 k hk).1, (h6 k hk).2, (h6' k hk).1, (h6' k hk).2⟩
  have HCL := Box'.mk hcl
  generalize hn : la.length = n at *
  clear hcl h3 h3' hn
  go_enter Try.func14, Try.ntmps14
  go_wp2_with fail
  go_loopw [5] (fun i wr => ∃ k : Nat, k ≤ n ∧ i = .int .i64 (k : Int) ∧ Below w.heap.size w wr ∧ wr.heap = w.heap) (fun i _ => n - (intOf i).toNat)
  case atStart => exact ⟨0, by omega, rfl, Below.refl _ _, rfl⟩
  case round =>
    obtain ⟨k, hk, rfl, hbl, hhp⟩ := hrel
    by_cases hlt : k < n
    · obtain ⟨b, o, b', o', rfl, rfl, c0, c1, d0, d1⟩ := HCL.out k hlt
      have hce : ∀ p : Addr, wr.cell? p = w.cell? p := fun p => by unfold World.cell?; rw [hhp]
      rw [← hce] at c0 c1 d0 d1
      generalize la.getD k (0, 0) = x at *
      obtain ⟨x0, x1⟩ := x
      simp only at c0 c1 d0 d1
      have HB := Box'.mk hbl
      have HH := Box'.mk hhp
      clear HCL hbl hhp hce
      go_wp2_with fail
      go_quiet (fail)
      go_wp2_with fail
      exact ⟨⟨k + 1, by omega, by go_num, Below.drewN HB.out _, HH.out⟩, by simp [intOf]; omega⟩
    · obtain rfl : k = n := by omega
      clear HCL
      go_wp2_with fail
      go_ret
      exact ⟨rfl, hbl⟩
end Go.Proofs.Ytmflhcbojgaekaa
