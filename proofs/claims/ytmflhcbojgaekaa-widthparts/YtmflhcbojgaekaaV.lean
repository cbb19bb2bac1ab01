/- WidthParts, walked. -/
import Derived.Test.YtmflhcbojgaekaaR
namespace Go.Proofs.Ytmflhcbojgaekaa
open Go.RowKit Go.BigFrame
set_option linter.unusedVariables false
set_option linter.unusedSimpArgs false

set_option maxRecDepth 100000 in
set_option maxHeartbeats 4000000 in
theorem parts_any (v : Value) (l : List Int) (nb : UInt8) (hl : l.length ≤ 70368744177664) (w : World) (h : Rns w.heap.size w v l) :
    Calls Try.prog 5 #[v, .int .u8 (nb.toNat : Int)] w fun e w' => e = .returned (.bool true) ∧ Below w.heap.size w w' := by
  have H := Box'.mk h
  obtain ⟨a, cp, rfl, hc, h3⟩ := h
  have AN := Box'.mk anch_any
  obtain ⟨bn, hbn⟩ : ∃ bn, nb.toNat = bn := ⟨_, rfl⟩
  have hb2 : bn < 256 := by rw [← hbn]; exact nb.toNat_lt
  rw [hbn]
  obtain ⟨n, hn⟩ : ∃ n, l.length = n := ⟨_, rfl⟩
  have HN := Box'.mk hn
  have H2 : Box' (Rns w.heap.size w (.slice a n cp) l) := ⟨by have := H.out; rw [hn] at this; exact this⟩
  clear H
  rw [hn] at hl hc ⊢
  obtain ⟨k, hk⟩ : ∃ k, bn % (n + 1) = k := ⟨_, rfl⟩
  have hkn : k ≤ n := by have := Nat.mod_lt bn (show 0 < n + 1 by omega); omega
  have HK : Box' ((bn : Int) % ((n : Int) + 1) = (k : Int)) := ⟨by rw [← hk]; simp⟩
  have T0 : Box' (∀ wd, Below w.heap.size w wd → Calls Try.prog 12 #[.slice a n cp] wd fun e w' => e = .returned (.int .i64 (txtF l)) ∧ Below wd.heap.size wd w') := ⟨fun wd hb => text_any _ l (by rw [HN.out]; omega) wd ((H2.out.below hb (Nat.le_refl _)).up hb.size)⟩
  have T1 : Box' (∀ wd, Below w.heap.size w wd → Calls Try.prog 12 #[.slice a k k] wd fun e w' => e = .returned (.int .i64 (txtF (l.take k))) ∧ Below wd.heap.size wd w') := ⟨fun wd hb => text_any _ (l.take k) (by rw [List.length_take, HN.out]; omega) wd (((H2.out.front (by rw [HN.out]; exact hkn)).below hb (Nat.le_refl _)).up hb.size)⟩
  have T2 : Box' (∀ wd, Below w.heap.size w wd → Calls Try.prog 12 #[.slice (backA a cp k) (n - k) (cp - k)] wd fun e w' => e = .returned (.int .i64 (txtF (l.drop k))) ∧ Below wd.heap.size wd w') := ⟨fun wd hb => text_any _ (l.drop k) (by rw [List.length_drop, HN.out]; omega) wd (((H2.out.back (by rw [HN.out]; exact hkn)).below hb (Nat.le_refl _)).up hb.size)⟩
  have SL1 := Box'.mk (run_front a n cp k (by omega))
  have SL2 := Box'.mk (run_back a n cp k hkn hc)
  have E0 : Box' (txtF l = txtF (l.take k) + txtF (l.drop k)) := ⟨by rw [← txt_app, List.take_append_drop]⟩
  have b1 := txt_bd (l.take k)
  have b2 := txt_bd (l.drop k)
  rw [List.length_take, HN.out] at b1
  rw [List.length_drop, HN.out] at b2
  generalize txtF l = t0 at *
  generalize txtF (l.take k) = t1 at *
  generalize txtF (l.drop k) = t2 at *
  have bd1 : 0 ≤ t1 ∧ t1 ≤ 140737488355328 := by omega
  have bd2 : 0 ≤ t2 ∧ t2 ≤ 140737488355328 := by omega
  clear h3 hn hbn b1 b2 hk H2 HN
  go_enter Try.func5, Try.ntmps5
  go_wp2_with fail
  rw [HK.out]
  clear HK
  refine wp_region_growg 16 (by kernel_rfl) 28 rfl (by kernel_rfl) (fun wa wb => Below wa.heap.size wa wb) (fun wa => Below w.heap.size w wa) (fun kc wa v => match kc with
    | 0 => v = .bool true
    | 1 => v = .bool true
    | 2 => v = .slice a n cp
    | 3 => v = .int .i64 t0
    | 4 => v = .slice a n cp
    | 5 => v = .int .i64 (k : Int)
    | 6 => v = .int .i64 (k : Int)
    | 7 => v = .slice a k k
    | 8 => v = .int .i64 t1
    | 9 => v = .slice a n cp
    | 10 => v = .int .i64 (k : Int)
    | 11 => v = .slice (backA a cp k) (n - k) (cp - k)
    | 12 => v = .int .i64 t2
    | 13 => v = .int .i64 (t1 + t2)
    | 14 => v = .bool true
    | 15 => v = .bool true
    | _ => True) ?_ ?_ ?_ ?_ ?_ ?_
  · intro i o' j b' hi hg wa v hC hV
    have hlt : i < 16 := by rcases Nat.lt_or_ge i 16 with q | q; exact q; rw [List.getElem?_eq_none (by simpa using q)] at hi; cases hi
    revert hi hg hV
    rcases (show i = 0 ∨ i = 1 ∨ i = 2 ∨ i = 3 ∨ i = 4 ∨ i = 5 ∨ i = 6 ∨ i = 7 ∨ i = 8 ∨ i = 9 ∨ i = 10 ∨ i = 11 ∨ i = 12 ∨ i = 13 ∨ i = 14 ∨ i = 15 by omega) with rfl | rfl | rfl | rfl | rfl | rfl | rfl | rfl | rfl | rfl | rfl | rfl | rfl | rfl | rfl | rfl <;>
      (intro hi hg hV; simp only [List.take_succ_cons, List.getElem?_cons_zero, List.getElem?_cons_succ, Option.some.injEq] at hi; subst hi; first | (cases hg; exact hV) | (cases hg))
  · intro wa wb hb q1; exact q1.trans (hb.mono q1.size)
  · intro kc v wa wb hC1 hb h
    match kc, h with
    | 0, h => exact h
    | 1, h => exact h
    | 2, h => exact h
    | 3, h => exact h
    | 4, h => exact h
    | 5, h => exact h
    | 6, h => exact h
    | 7, h => exact h
    | 8, h => exact h
    | 9, h => exact h
    | 10, h => exact h
    | 11, h => exact h
    | 12, h => exact h
    | 13, h => exact h
    | 14, h => exact h
    | 15, h => exact h
    | kc + 16, h => trivial
  · exact (Below.refl w.heap.size w).drew
  · refine ⟨?_, ?_, ?_, ?_, ?_, ?_, ?_, ?_, ?_, ?_, ?_, ?_, ?_, ?_, ?_, ?_, trivial⟩
    · intro f wq hC hd KK hK
      clear hd
      simp only [List.take_succ_cons, List.take_zero, setAll, List.setIfInBounds_toArray, List.set_cons_succ, List.set_cons_zero, Nat.zero_add, Nat.reduceAdd] at hK ⊢
      exact wp_call 15 #[] (by simp [go_sem]) _ _ ((AN.out wq)) (fun w' hb => hK _ _ rfl hb)
    · intro f wq hC hd KK hK
      have g0 : f 0 = .bool true := hd 0 (by kernel_rfl)
      clear hd
      simp only [List.take_succ_cons, List.take_zero, setAll, List.setIfInBounds_toArray, List.set_cons_succ, List.set_cons_zero, Nat.zero_add, Nat.reduceAdd, g0] at hK ⊢
      refine wp_of_quiet rfl ?_
      go_big_quiet_step (fail)
      exact wpQuiet_nil (hK _ _ (rfl) (Below.refl _ _))
    · intro f wq hC hd KK hK
      clear hd
      simp only [List.take_succ_cons, List.take_zero, setAll, List.setIfInBounds_toArray, List.set_cons_succ, List.set_cons_zero, Nat.zero_add, Nat.reduceAdd] at hK ⊢
      refine wp_unguard ?_
      refine wp_of_quiet rfl ?_
      go_big_quiet_step (fail)
      exact wpQuiet_nil (hK _ _ (rfl) (Below.refl _ _))
    · intro f wq hC hd KK hK
      have g2 : f 2 = .slice a n cp := hd 2 (by kernel_rfl)
      clear hd
      simp only [List.take_succ_cons, List.take_zero, setAll, List.setIfInBounds_toArray, List.set_cons_succ, List.set_cons_zero, Nat.zero_add, Nat.reduceAdd, g2] at hK ⊢
      refine wp_unguard ?_
      exact wp_call 12 #[.slice a n cp] (by simp [go_sem]) _ _ (T0.out wq hC) (fun w' hb => hK _ _ rfl hb)
    · intro f wq hC hd KK hK
      clear hd
      simp only [List.take_succ_cons, List.take_zero, setAll, List.setIfInBounds_toArray, List.set_cons_succ, List.set_cons_zero, Nat.zero_add, Nat.reduceAdd] at hK ⊢
      refine wp_unguard ?_
      refine wp_of_quiet rfl ?_
      go_big_quiet_step (fail)
      exact wpQuiet_nil (hK _ _ (rfl) (Below.refl _ _))
    · intro f wq hC hd KK hK
      clear hd
      simp only [List.take_succ_cons, List.take_zero, setAll, List.setIfInBounds_toArray, List.set_cons_succ, List.set_cons_zero, Nat.zero_add, Nat.reduceAdd] at hK ⊢
      refine wp_unguard ?_
      refine wp_of_quiet rfl ?_
      go_big_quiet_step (fail)
      exact wpQuiet_nil (hK _ _ (rfl) (Below.refl _ _))
    · intro f wq hC hd KK hK
      clear hd
      simp only [List.take_succ_cons, List.take_zero, setAll, List.setIfInBounds_toArray, List.set_cons_succ, List.set_cons_zero, Nat.zero_add, Nat.reduceAdd] at hK ⊢
      refine wp_unguard ?_
      refine wp_of_quiet rfl ?_
      go_big_quiet_step (fail)
      exact wpQuiet_nil (hK _ _ (rfl) (Below.refl _ _))
    · intro f wq hC hd KK hK
      have g4 : f 4 = .slice a n cp := hd 4 (by kernel_rfl)
      have g5 : f 5 = .int .i64 (k : Int) := hd 5 (by kernel_rfl)
      have g6 : f 6 = .int .i64 (k : Int) := hd 6 (by kernel_rfl)
      clear hd
      simp only [List.take_succ_cons, List.take_zero, setAll, List.setIfInBounds_toArray, List.set_cons_succ, List.set_cons_zero, Nat.zero_add, Nat.reduceAdd, g4, g5, g6] at hK ⊢
      refine wp_unguard ?_
      refine wp_val _ (slice_op 22 (.tmp 16) none (some (.tmp 17)) (some (.tmp 18)) rfl _ _ (SL1.out _)) ?_
      exact hK _ _ rfl (Below.refl _ _)
    · intro f wq hC hd KK hK
      have g7 : f 7 = .slice a k k := hd 7 (by kernel_rfl)
      clear hd
      simp only [List.take_succ_cons, List.take_zero, setAll, List.setIfInBounds_toArray, List.set_cons_succ, List.set_cons_zero, Nat.zero_add, Nat.reduceAdd, g7] at hK ⊢
      refine wp_unguard ?_
      exact wp_call 12 #[.slice a k k] (by simp [go_sem]) _ _ (T1.out wq hC) (fun w' hb => hK _ _ rfl hb)
    · intro f wq hC hd KK hK
      clear hd
      simp only [List.take_succ_cons, List.take_zero, setAll, List.setIfInBounds_toArray, List.set_cons_succ, List.set_cons_zero, Nat.zero_add, Nat.reduceAdd] at hK ⊢
      refine wp_unguard ?_
      refine wp_of_quiet rfl ?_
      go_big_quiet_step (fail)
      exact wpQuiet_nil (hK _ _ (rfl) (Below.refl _ _))
    · intro f wq hC hd KK hK
      clear hd
      simp only [List.take_succ_cons, List.take_zero, setAll, List.setIfInBounds_toArray, List.set_cons_succ, List.set_cons_zero, Nat.zero_add, Nat.reduceAdd] at hK ⊢
      refine wp_unguard ?_
      refine wp_of_quiet rfl ?_
      go_big_quiet_step (fail)
      exact wpQuiet_nil (hK _ _ (rfl) (Below.refl _ _))
    · intro f wq hC hd KK hK
      have g9 : f 9 = .slice a n cp := hd 9 (by kernel_rfl)
      have g10 : f 10 = .int .i64 (k : Int) := hd 10 (by kernel_rfl)
      clear hd
      simp only [List.take_succ_cons, List.take_zero, setAll, List.setIfInBounds_toArray, List.set_cons_succ, List.set_cons_zero, Nat.zero_add, Nat.reduceAdd, g9, g10] at hK ⊢
      refine wp_unguard ?_
      refine wp_val _ (slice_op 22 (.tmp 21) (some (.tmp 22)) none none rfl _ _ (SL2.out _)) ?_
      exact hK _ _ rfl (Below.refl _ _)
    · intro f wq hC hd KK hK
      have g11 : f 11 = .slice (backA a cp k) (n - k) (cp - k) := hd 11 (by kernel_rfl)
      clear hd
      simp only [List.take_succ_cons, List.take_zero, setAll, List.setIfInBounds_toArray, List.set_cons_succ, List.set_cons_zero, Nat.zero_add, Nat.reduceAdd, g11] at hK ⊢
      refine wp_unguard ?_
      exact wp_call 12 #[.slice (backA a cp k) (n - k) (cp - k)] (by simp [go_sem]) _ _ (T2.out wq hC) (fun w' hb => hK _ _ rfl hb)
    · intro f wq hC hd KK hK
      have g8 : f 8 = .int .i64 t1 := hd 8 (by kernel_rfl)
      have g12 : f 12 = .int .i64 t2 := hd 12 (by kernel_rfl)
      clear hd
      have d1 := bd1
      have d2 := bd2
      simp only [List.take_succ_cons, List.take_zero, setAll, List.setIfInBounds_toArray, List.set_cons_succ, List.set_cons_zero, Nat.zero_add, Nat.reduceAdd, g8, g12] at hK ⊢
      refine wp_unguard ?_
      refine wp_of_quiet rfl ?_
      go_big_quiet_step (fail)
      exact wpQuiet_nil (hK _ _ (by first | rfl | simp) (Below.refl _ _))
    · intro f wq hC hd KK hK
      have g3 : f 3 = .int .i64 t0 := hd 3 (by kernel_rfl)
      have g13 : f 13 = .int .i64 (t1 + t2) := hd 13 (by kernel_rfl)
      clear hd
      have ee := E0.out
      simp only [List.take_succ_cons, List.take_zero, setAll, List.setIfInBounds_toArray, List.set_cons_succ, List.set_cons_zero, Nat.zero_add, Nat.reduceAdd, g3, g13] at hK ⊢
      refine wp_unguard ?_
      refine wp_of_quiet rfl ?_
      go_big_quiet_step (fail)
      exact wpQuiet_nil (hK _ _ (by first | rfl | simp [E0.out]) (Below.refl _ _))
    · intro f wq hC hd KK hK
      have g1 : f 1 = .bool true := hd 1 (by kernel_rfl)
      have g14 : f 14 = .bool true := hd 14 (by kernel_rfl)
      clear hd
      simp only [List.take_succ_cons, List.take_zero, setAll, List.setIfInBounds_toArray, List.set_cons_succ, List.set_cons_zero, Nat.zero_add, Nat.reduceAdd, g1, g14] at hK ⊢
      refine wp_of_quiet rfl ?_
      go_big_quiet_step (fail)
      exact wpQuiet_nil (hK _ _ (rfl) (Below.refl _ _))
  · intro f wz hC hv
    have p0 : f 0 = .bool true := hv 0 (by decide)
    have p1 : f 1 = .bool true := hv 1 (by decide)
    have p2 : f 2 = .slice a n cp := hv 2 (by decide)
    have p3 : f 3 = .int .i64 t0 := hv 3 (by decide)
    have p4 : f 4 = .slice a n cp := hv 4 (by decide)
    have p5 : f 5 = .int .i64 (k : Int) := hv 5 (by decide)
    have p6 : f 6 = .int .i64 (k : Int) := hv 6 (by decide)
    have p7 : f 7 = .slice a k k := hv 7 (by decide)
    have p8 : f 8 = .int .i64 t1 := hv 8 (by decide)
    have p9 : f 9 = .slice a n cp := hv 9 (by decide)
    have p10 : f 10 = .int .i64 (k : Int) := hv 10 (by decide)
    have p11 : f 11 = .slice (backA a cp k) (n - k) (cp - k) := hv 11 (by decide)
    have p12 : f 12 = .int .i64 t2 := hv 12 (by decide)
    have p13 : f 13 = .int .i64 (t1 + t2) := hv 13 (by decide)
    have p14 : f 14 = .bool true := hv 14 (by decide)
    have p15 : f 15 = .bool true := hv 15 (by decide)
    simp only [List.take_succ_cons, List.take_zero, List.drop_succ_cons, List.drop_zero, setAll, List.setIfInBounds_toArray, List.set_cons_succ, List.set_cons_zero, Nat.zero_add, Nat.reduceAdd, p0, p1, p2, p3, p4, p5, p6, p7, p8, p9, p10, p11, p12, p13, p14, p15]
    clear hv p0 p1 p2 p3 p4 p5 p6 p7 p8 p9 p10 p11 p12 p13 p14 p15
    have BZ := Box'.mk hC
    clear hC AN T0 T1 T2 SL1 SL2
    go_wp2_with fail
    go_ret
    exact ⟨rfl, BZ.out⟩
end Go.Proofs.Ytmflhcbojgaekaa
