/- WidthOf, walked. -/
import Derived.Test.YtmflhcbojgaekaaQ
import Derived.Test.YtmflhcbojgaekaaO
import Derived.Test.YtmflhcbojgaekaaD
import Derived.Test.YtmflhcbojgaekaaGx
namespace Go.Proofs.Ytmflhcbojgaekaa
open Go.RowKit Go.BigFrame
set_option linter.unusedVariables false
set_option linter.unusedSimpArgs false

set_option maxRecDepth 100000 in
set_option maxHeartbeats 4000000 in
theorem widthOf_any (v v2 : Value) (l : List Int) (s : List (Int × Int)) (hl : l.length ≤ 70368744177664) (hs : s.length ≤ 70368744177664) (w : World) (h : Rns w.heap.size w v l) (h2 : Sps w.heap.size w v2 s) :
    Calls Try.prog 3 #[v, v2] w fun e w' => e = .returned (.bool true) ∧ Below w.heap.size w w' := by
  have H := Box'.mk h
  have H2 := Box'.mk h2
  obtain ⟨a, cp, rfl, hc, h3⟩ := h
  obtain ⟨a2, cs, rfl, hcs, h4⟩ := h2
  have hcl : ∀ k, k < l.length → ∃ b o, a = some ⟨b, o, none⟩ ∧ b < w.heap.size ∧ w.cell? ⟨b, o + k, none⟩ = some (.int .i32 (l.getD k 0)) := by
    intro k hk
    rcases h3 with rfl | ⟨b, o, rfl, h5, h6⟩
    · simp at hk
    exact ⟨b, o, rfl, h5, h6 k hk⟩
  have HCL := Box'.mk hcl
  have HS := Box'.mk hs
  have HL := Box'.mk hl
  have TX : Box' (∀ wd, Below w.heap.size w wd → Calls Try.prog 12 #[.slice a l.length cp] wd fun e w' => e = .returned (.int .i64 (txtF l)) ∧ Below wd.heap.size wd w') := ⟨fun wd hb => text_any _ l (by have := HL.out; omega) wd ((H.out.below hb (Nat.le_refl _)).up hb.size)⟩
  have TR : Box' (∀ wd, Below w.heap.size w wd → Calls Try.prog 13 #[.slice a l.length cp] wd fun e w' => e = .returned (.int .i64 (txtF l)) ∧ Below wd.heap.size wd w') := ⟨fun wd hb => refText_any _ l (by have := HL.out; omega) wd ((H.out.below hb (Nat.le_refl _)).up hb.size)⟩
  have IN0 : Box' (∀ x wd, Below w.heap.size w wd → Calls Try.prog 8 #[.slice a2 s.length cs, .int .i32 x] wd fun e w' => e = .returned (.bool (inF s x)) ∧ Below wd.heap.size wd w') := ⟨fun x wd hb => in_any _ s (by have := HS.out; omega) x wd ((H2.out.below hb (Nat.le_refl _)).up hb.size)⟩
  have RI0 : Box' (∀ x wd, Below w.heap.size w wd → Calls Try.prog 9 #[.slice a2 s.length cs, .int .i32 x] wd fun e w' => e = .returned (.bool (inF s x)) ∧ Below wd.heap.size wd w') := ⟨fun x wd hb => (refIn_any _ s (by have := HS.out; omega) x wd ((H2.out.below hb (Nat.le_refl _)).up hb.size)).mono fun e w' ⟨q1, q2⟩ => ⟨q1, q2 ▸ Below.refl _ _⟩⟩
  generalize txtF l = tx at *
  generalize hn : l.length = n at *
  generalize hm : s.length = m at *
  clear hcl h3 h4 hn hm H H2 HS HL
  go_enter Try.func3, Try.ntmps3
  go_wp2_with fail
  go_loopw [5] (fun i wr => ∃ k : Nat, k ≤ n ∧ i = .int .i64 (k : Int) ∧ Box' (Below w.heap.size w wr)) (fun i _ => n - (intOf i).toNat)
  case atStart => exact ⟨0, by omega, rfl, ⟨Below.refl _ _⟩⟩
  case round =>
    obtain ⟨k, hk, rfl, BB⟩ := hrel
    by_cases hlt : k < n
    · obtain ⟨b, o, rfl, hbw, c0⟩ := HCL.out k hlt
      have OF := Box'.mk (fun wq => of_any (l.getD k 0) wq)
      have RF := Box'.mk (fun wq => refOf_any (l.getD k 0) wq)
      have IN := Box'.mk (IN0.out (l.getD k 0))
      have RI := Box'.mk (RI0.out (l.getD k 0))
      have CW : Box' (∀ wq, Below w.heap.size w wq → wq.cell? ⟨b, o + k, none⟩ = some (.int .i32 (l.getD k 0))) := ⟨fun wq bb => by rw [bb.cell (p := ⟨b, o + k, none⟩) hbw]; exact c0⟩
      generalize ofF (l.getD k 0) = y at *
      generalize inF s (l.getD k 0) = z at *
      generalize l.getD k 0 = x at *
      clear c0 hbw HCL TX TR IN0 RI0
      go_wp2_with fail
      refine wp_region_growg 26 (by kernel_rfl) 68 rfl (by kernel_rfl) (fun wa wb => Below wa.heap.size wa wb) (fun wa => Below w.heap.size w wa) (fun kc wa v => match kc with
        | 0 => v = .slice (some ⟨b, o, none⟩) n cp
        | 1 => v = .int .i64 (k : Int)
        | 2 => v = .pointer (some ⟨b, o + k, none⟩)
        | 3 => v = .int .i32 x
        | 4 => v = .int .i64 y
        | 5 => v = .slice (some ⟨b, o, none⟩) n cp
        | 6 => v = .int .i64 (k : Int)
        | 7 => v = .pointer (some ⟨b, o + k, none⟩)
        | 8 => v = .int .i32 x
        | 9 => v = .int .i64 y
        | 10 => v = .bool false
        | 11 => v = .bool false
        | 12 => v = .slice a2 m cs
        | 13 => v = .slice (some ⟨b, o, none⟩) n cp
        | 14 => v = .int .i64 (k : Int)
        | 15 => v = .pointer (some ⟨b, o + k, none⟩)
        | 16 => v = .int .i32 x
        | 17 => v = .bool z
        | 18 => v = .slice a2 m cs
        | 19 => v = .slice (some ⟨b, o, none⟩) n cp
        | 20 => v = .int .i64 (k : Int)
        | 21 => v = .pointer (some ⟨b, o + k, none⟩)
        | 22 => v = .int .i32 x
        | 23 => v = .bool z
        | 24 => v = .bool false
        | 25 => v = .bool false
        | _ => True) ?_ ?_ ?_ ?_ ?_ ?_
      · intro i o' j b' hi hg wa v hC hV
        have hlt : i < 26 := by rcases Nat.lt_or_ge i 26 with q | q; exact q; rw [List.getElem?_eq_none (by simpa using q)] at hi; cases hi
        revert hi hg hV
        rcases (show i = 0 ∨ i = 1 ∨ i = 2 ∨ i = 3 ∨ i = 4 ∨ i = 5 ∨ i = 6 ∨ i = 7 ∨ i = 8 ∨ i = 9 ∨ i = 10 ∨ i = 11 ∨ i = 12 ∨ i = 13 ∨ i = 14 ∨ i = 15 ∨ i = 16 ∨ i = 17 ∨ i = 18 ∨ i = 19 ∨ i = 20 ∨ i = 21 ∨ i = 22 ∨ i = 23 ∨ i = 24 ∨ i = 25 by omega) with rfl | rfl | rfl | rfl | rfl | rfl | rfl | rfl | rfl | rfl | rfl | rfl | rfl | rfl | rfl | rfl | rfl | rfl | rfl | rfl | rfl | rfl | rfl | rfl | rfl | rfl <;>
          (intro hi hg hV; simp only [List.take_succ_cons, List.getElem?_cons_zero, List.getElem?_cons_succ, Option.some.injEq] at hi; subst hi; first | (cases hg; exact hV) | (cases hg))
      · intro wa wb hb q1; exact q1.trans (hb.mono q1.size)
      · intro kc v wa wb hC1 hb h
        match kc, h with
        | 0, h => exact h
        | 1, h => exact h
        | 2, h => exact h
        | 3, h => exact h
        | 4, h => exact h
        | 5, h => exact h
        | 6, h => exact h
        | 7, h => exact h
        | 8, h => exact h
        | 9, h => exact h
        | 10, h => exact h
        | 11, h => exact h
        | 12, h => exact h
        | 13, h => exact h
        | 14, h => exact h
        | 15, h => exact h
        | 16, h => exact h
        | 17, h => exact h
        | 18, h => exact h
        | 19, h => exact h
        | 20, h => exact h
        | 21, h => exact h
        | 22, h => exact h
        | 23, h => exact h
        | 24, h => exact h
        | 25, h => exact h
        | kc + 26, h => trivial
      · exact BB.out.drew
      · refine ⟨?_, ?_, ?_, ?_, ?_, ?_, ?_, ?_, ?_, ?_, ?_, ?_, ?_, ?_, ?_, ?_, ?_, ?_, ?_, ?_, ?_, ?_, ?_, ?_, ?_, ?_, trivial⟩
        · intro f wq hC hd KK hK
          clear hd
          simp only [List.take_succ_cons, List.take_zero, setAll, List.setIfInBounds_toArray, List.set_cons_succ, List.set_cons_zero, Nat.zero_add, Nat.reduceAdd] at hK ⊢
          refine wp_of_quiet rfl ?_
          go_big_quiet_step (fail)
          exact wpQuiet_nil (hK _ _ (rfl) (Below.refl _ _))
        · intro f wq hC hd KK hK
          clear hd
          simp only [List.take_succ_cons, List.take_zero, setAll, List.setIfInBounds_toArray, List.set_cons_succ, List.set_cons_zero, Nat.zero_add, Nat.reduceAdd] at hK ⊢
          refine wp_of_quiet rfl ?_
          go_big_quiet_step (fail)
          exact wpQuiet_nil (hK _ _ (rfl) (Below.refl _ _))
        · intro f wq hC hd KK hK
          have g0 : f 0 = .slice (some ⟨b, o, none⟩) n cp := hd 0 (by kernel_rfl)
          have g1 : f 1 = .int .i64 (k : Int) := hd 1 (by kernel_rfl)
          clear hd
          simp only [List.take_succ_cons, List.take_zero, setAll, List.setIfInBounds_toArray, List.set_cons_succ, List.set_cons_zero, Nat.zero_add, Nat.reduceAdd, g0, g1] at hK ⊢
          refine wp_of_quiet rfl ?_
          go_big_quiet_step (fail)
          exact wpQuiet_nil (hK _ _ (rfl) (Below.refl _ _))
        · intro f wq hC hd KK hK
          have g2 : f 2 = .pointer (some ⟨b, o + k, none⟩) := hd 2 (by kernel_rfl)
          clear hd
          have c0 := CW.out wq hC
          simp only [List.take_succ_cons, List.take_zero, setAll, List.setIfInBounds_toArray, List.set_cons_succ, List.set_cons_zero, Nat.zero_add, Nat.reduceAdd, g2] at hK ⊢
          refine wp_of_quiet rfl ?_
          go_big_quiet_step (fail)
          exact wpQuiet_nil (hK _ _ (rfl) (Below.refl _ _))
        · intro f wq hC hd KK hK
          have g3 : f 3 = .int .i32 x := hd 3 (by kernel_rfl)
          clear hd
          simp only [List.take_succ_cons, List.take_zero, setAll, List.setIfInBounds_toArray, List.set_cons_succ, List.set_cons_zero, Nat.zero_add, Nat.reduceAdd, g3] at hK ⊢
          exact wp_call 6 #[.int .i32 x] (by simp [go_sem]) _ _ (OF.out wq) (fun w' hb => hK _ _ rfl hb)
        · intro f wq hC hd KK hK
          clear hd
          simp only [List.take_succ_cons, List.take_zero, setAll, List.setIfInBounds_toArray, List.set_cons_succ, List.set_cons_zero, Nat.zero_add, Nat.reduceAdd] at hK ⊢
          refine wp_of_quiet rfl ?_
          go_big_quiet_step (fail)
          exact wpQuiet_nil (hK _ _ (rfl) (Below.refl _ _))
        · intro f wq hC hd KK hK
          clear hd
          simp only [List.take_succ_cons, List.take_zero, setAll, List.setIfInBounds_toArray, List.set_cons_succ, List.set_cons_zero, Nat.zero_add, Nat.reduceAdd] at hK ⊢
          refine wp_of_quiet rfl ?_
          go_big_quiet_step (fail)
          exact wpQuiet_nil (hK _ _ (rfl) (Below.refl _ _))
        · intro f wq hC hd KK hK
          have g5 : f 5 = .slice (some ⟨b, o, none⟩) n cp := hd 5 (by kernel_rfl)
          have g6 : f 6 = .int .i64 (k : Int) := hd 6 (by kernel_rfl)
          clear hd
          simp only [List.take_succ_cons, List.take_zero, setAll, List.setIfInBounds_toArray, List.set_cons_succ, List.set_cons_zero, Nat.zero_add, Nat.reduceAdd, g5, g6] at hK ⊢
          refine wp_of_quiet rfl ?_
          go_big_quiet_step (fail)
          exact wpQuiet_nil (hK _ _ (rfl) (Below.refl _ _))
        · intro f wq hC hd KK hK
          have g7 : f 7 = .pointer (some ⟨b, o + k, none⟩) := hd 7 (by kernel_rfl)
          clear hd
          have c0 := CW.out wq hC
          simp only [List.take_succ_cons, List.take_zero, setAll, List.setIfInBounds_toArray, List.set_cons_succ, List.set_cons_zero, Nat.zero_add, Nat.reduceAdd, g7] at hK ⊢
          refine wp_of_quiet rfl ?_
          go_big_quiet_step (fail)
          exact wpQuiet_nil (hK _ _ (rfl) (Below.refl _ _))
        · intro f wq hC hd KK hK
          have g8 : f 8 = .int .i32 x := hd 8 (by kernel_rfl)
          clear hd
          simp only [List.take_succ_cons, List.take_zero, setAll, List.setIfInBounds_toArray, List.set_cons_succ, List.set_cons_zero, Nat.zero_add, Nat.reduceAdd, g8] at hK ⊢
          exact wp_call 7 #[.int .i32 x] (by simp [go_sem]) _ _ (RF.out wq) (fun w' hb => hK _ _ rfl hb)
        · intro f wq hC hd KK hK
          have g4 : f 4 = .int .i64 y := hd 4 (by kernel_rfl)
          have g9 : f 9 = .int .i64 y := hd 9 (by kernel_rfl)
          clear hd
          simp only [List.take_succ_cons, List.take_zero, setAll, List.setIfInBounds_toArray, List.set_cons_succ, List.set_cons_zero, Nat.zero_add, Nat.reduceAdd, g4, g9] at hK ⊢
          refine wp_of_quiet rfl ?_
          go_big_quiet_step (fail)
          exact wpQuiet_nil (hK _ _ (by first | rfl | simp) (Below.refl _ _))
        · intro f wq hC hd KK hK
          have g10 : f 10 = .bool false := hd 10 (by kernel_rfl)
          clear hd
          simp only [List.take_succ_cons, List.take_zero, setAll, List.setIfInBounds_toArray, List.set_cons_succ, List.set_cons_zero, Nat.zero_add, Nat.reduceAdd, g10] at hK ⊢
          refine wp_of_quiet rfl ?_
          go_big_quiet_step (fail)
          exact wpQuiet_nil (hK _ _ (rfl) (Below.refl _ _))
        · intro f wq hC hd KK hK
          clear hd
          simp only [List.take_succ_cons, List.take_zero, setAll, List.setIfInBounds_toArray, List.set_cons_succ, List.set_cons_zero, Nat.zero_add, Nat.reduceAdd] at hK ⊢
          refine wp_unguard ?_
          refine wp_of_quiet rfl ?_
          go_big_quiet_step (fail)
          exact wpQuiet_nil (hK _ _ (rfl) (Below.refl _ _))
        · intro f wq hC hd KK hK
          clear hd
          simp only [List.take_succ_cons, List.take_zero, setAll, List.setIfInBounds_toArray, List.set_cons_succ, List.set_cons_zero, Nat.zero_add, Nat.reduceAdd] at hK ⊢
          refine wp_unguard ?_
          refine wp_of_quiet rfl ?_
          go_big_quiet_step (fail)
          exact wpQuiet_nil (hK _ _ (rfl) (Below.refl _ _))
        · intro f wq hC hd KK hK
          clear hd
          simp only [List.take_succ_cons, List.take_zero, setAll, List.setIfInBounds_toArray, List.set_cons_succ, List.set_cons_zero, Nat.zero_add, Nat.reduceAdd] at hK ⊢
          refine wp_unguard ?_
          refine wp_of_quiet rfl ?_
          go_big_quiet_step (fail)
          exact wpQuiet_nil (hK _ _ (rfl) (Below.refl _ _))
        · intro f wq hC hd KK hK
          have g13 : f 13 = .slice (some ⟨b, o, none⟩) n cp := hd 13 (by kernel_rfl)
          have g14 : f 14 = .int .i64 (k : Int) := hd 14 (by kernel_rfl)
          clear hd
          simp only [List.take_succ_cons, List.take_zero, setAll, List.setIfInBounds_toArray, List.set_cons_succ, List.set_cons_zero, Nat.zero_add, Nat.reduceAdd, g13, g14] at hK ⊢
          refine wp_unguard ?_
          refine wp_of_quiet rfl ?_
          go_big_quiet_step (fail)
          exact wpQuiet_nil (hK _ _ (rfl) (Below.refl _ _))
        · intro f wq hC hd KK hK
          have g15 : f 15 = .pointer (some ⟨b, o + k, none⟩) := hd 15 (by kernel_rfl)
          clear hd
          have c0 := CW.out wq hC
          simp only [List.take_succ_cons, List.take_zero, setAll, List.setIfInBounds_toArray, List.set_cons_succ, List.set_cons_zero, Nat.zero_add, Nat.reduceAdd, g15] at hK ⊢
          refine wp_unguard ?_
          refine wp_of_quiet rfl ?_
          go_big_quiet_step (fail)
          exact wpQuiet_nil (hK _ _ (rfl) (Below.refl _ _))
        · intro f wq hC hd KK hK
          have g12 : f 12 = .slice a2 m cs := hd 12 (by kernel_rfl)
          have g16 : f 16 = .int .i32 x := hd 16 (by kernel_rfl)
          clear hd
          simp only [List.take_succ_cons, List.take_zero, setAll, List.setIfInBounds_toArray, List.set_cons_succ, List.set_cons_zero, Nat.zero_add, Nat.reduceAdd, g12, g16] at hK ⊢
          refine wp_unguard ?_
          exact wp_call 8 #[.slice a2 m cs, .int .i32 x] (by simp [go_sem]) _ _ (IN.out wq hC) (fun w' hb => hK _ _ rfl hb)
        · intro f wq hC hd KK hK
          clear hd
          simp only [List.take_succ_cons, List.take_zero, setAll, List.setIfInBounds_toArray, List.set_cons_succ, List.set_cons_zero, Nat.zero_add, Nat.reduceAdd] at hK ⊢
          refine wp_unguard ?_
          refine wp_of_quiet rfl ?_
          go_big_quiet_step (fail)
          exact wpQuiet_nil (hK _ _ (rfl) (Below.refl _ _))
        · intro f wq hC hd KK hK
          clear hd
          simp only [List.take_succ_cons, List.take_zero, setAll, List.setIfInBounds_toArray, List.set_cons_succ, List.set_cons_zero, Nat.zero_add, Nat.reduceAdd] at hK ⊢
          refine wp_unguard ?_
          refine wp_of_quiet rfl ?_
          go_big_quiet_step (fail)
          exact wpQuiet_nil (hK _ _ (rfl) (Below.refl _ _))
        · intro f wq hC hd KK hK
          clear hd
          simp only [List.take_succ_cons, List.take_zero, setAll, List.setIfInBounds_toArray, List.set_cons_succ, List.set_cons_zero, Nat.zero_add, Nat.reduceAdd] at hK ⊢
          refine wp_unguard ?_
          refine wp_of_quiet rfl ?_
          go_big_quiet_step (fail)
          exact wpQuiet_nil (hK _ _ (rfl) (Below.refl _ _))
        · intro f wq hC hd KK hK
          have g19 : f 19 = .slice (some ⟨b, o, none⟩) n cp := hd 19 (by kernel_rfl)
          have g20 : f 20 = .int .i64 (k : Int) := hd 20 (by kernel_rfl)
          clear hd
          simp only [List.take_succ_cons, List.take_zero, setAll, List.setIfInBounds_toArray, List.set_cons_succ, List.set_cons_zero, Nat.zero_add, Nat.reduceAdd, g19, g20] at hK ⊢
          refine wp_unguard ?_
          refine wp_of_quiet rfl ?_
          go_big_quiet_step (fail)
          exact wpQuiet_nil (hK _ _ (rfl) (Below.refl _ _))
        · intro f wq hC hd KK hK
          have g21 : f 21 = .pointer (some ⟨b, o + k, none⟩) := hd 21 (by kernel_rfl)
          clear hd
          have c0 := CW.out wq hC
          simp only [List.take_succ_cons, List.take_zero, setAll, List.setIfInBounds_toArray, List.set_cons_succ, List.set_cons_zero, Nat.zero_add, Nat.reduceAdd, g21] at hK ⊢
          refine wp_unguard ?_
          refine wp_of_quiet rfl ?_
          go_big_quiet_step (fail)
          exact wpQuiet_nil (hK _ _ (rfl) (Below.refl _ _))
        · intro f wq hC hd KK hK
          have g18 : f 18 = .slice a2 m cs := hd 18 (by kernel_rfl)
          have g22 : f 22 = .int .i32 x := hd 22 (by kernel_rfl)
          clear hd
          simp only [List.take_succ_cons, List.take_zero, setAll, List.setIfInBounds_toArray, List.set_cons_succ, List.set_cons_zero, Nat.zero_add, Nat.reduceAdd, g18, g22] at hK ⊢
          refine wp_unguard ?_
          exact wp_call 9 #[.slice a2 m cs, .int .i32 x] (by simp [go_sem]) _ _ (RI.out wq hC) (fun w' hb => hK _ _ rfl hb)
        · intro f wq hC hd KK hK
          have g17 : f 17 = .bool z := hd 17 (by kernel_rfl)
          have g23 : f 23 = .bool z := hd 23 (by kernel_rfl)
          clear hd
          simp only [List.take_succ_cons, List.take_zero, setAll, List.setIfInBounds_toArray, List.set_cons_succ, List.set_cons_zero, Nat.zero_add, Nat.reduceAdd, g17, g23] at hK ⊢
          refine wp_unguard ?_
          refine wp_of_quiet rfl ?_
          go_big_quiet_step (fail)
          exact wpQuiet_nil (hK _ _ (by first | rfl | simp | (cases z <;> rfl)) (Below.refl _ _))
        · intro f wq hC hd KK hK
          have g11 : f 11 = .bool false := hd 11 (by kernel_rfl)
          have g24 : f 24 = .bool false := hd 24 (by kernel_rfl)
          clear hd
          simp only [List.take_succ_cons, List.take_zero, setAll, List.setIfInBounds_toArray, List.set_cons_succ, List.set_cons_zero, Nat.zero_add, Nat.reduceAdd, g11, g24] at hK ⊢
          refine wp_of_quiet rfl ?_
          go_big_quiet_step (fail)
          exact wpQuiet_nil (hK _ _ (rfl) (Below.refl _ _))
      · intro f wz hC hv
        have p0 : f 0 = .slice (some ⟨b, o, none⟩) n cp := hv 0 (by decide)
        have p1 : f 1 = .int .i64 (k : Int) := hv 1 (by decide)
        have p2 : f 2 = .pointer (some ⟨b, o + k, none⟩) := hv 2 (by decide)
        have p3 : f 3 = .int .i32 x := hv 3 (by decide)
        have p4 : f 4 = .int .i64 y := hv 4 (by decide)
        have p5 : f 5 = .slice (some ⟨b, o, none⟩) n cp := hv 5 (by decide)
        have p6 : f 6 = .int .i64 (k : Int) := hv 6 (by decide)
        have p7 : f 7 = .pointer (some ⟨b, o + k, none⟩) := hv 7 (by decide)
        have p8 : f 8 = .int .i32 x := hv 8 (by decide)
        have p9 : f 9 = .int .i64 y := hv 9 (by decide)
        have p10 : f 10 = .bool false := hv 10 (by decide)
        have p11 : f 11 = .bool false := hv 11 (by decide)
        have p12 : f 12 = .slice a2 m cs := hv 12 (by decide)
        have p13 : f 13 = .slice (some ⟨b, o, none⟩) n cp := hv 13 (by decide)
        have p14 : f 14 = .int .i64 (k : Int) := hv 14 (by decide)
        have p15 : f 15 = .pointer (some ⟨b, o + k, none⟩) := hv 15 (by decide)
        have p16 : f 16 = .int .i32 x := hv 16 (by decide)
        have p17 : f 17 = .bool z := hv 17 (by decide)
        have p18 : f 18 = .slice a2 m cs := hv 18 (by decide)
        have p19 : f 19 = .slice (some ⟨b, o, none⟩) n cp := hv 19 (by decide)
        have p20 : f 20 = .int .i64 (k : Int) := hv 20 (by decide)
        have p21 : f 21 = .pointer (some ⟨b, o + k, none⟩) := hv 21 (by decide)
        have p22 : f 22 = .int .i32 x := hv 22 (by decide)
        have p23 : f 23 = .bool z := hv 23 (by decide)
        have p24 : f 24 = .bool false := hv 24 (by decide)
        have p25 : f 25 = .bool false := hv 25 (by decide)
        simp only [List.take_succ_cons, List.take_zero, List.drop_succ_cons, List.drop_zero, setAll, List.setIfInBounds_toArray, List.set_cons_succ, List.set_cons_zero, Nat.zero_add, Nat.reduceAdd, p0, p1, p2, p3, p4, p5, p6, p7, p8, p9, p10, p11, p12, p13, p14, p15, p16, p17, p18, p19, p20, p21, p22, p23, p24, p25]
        clear hv p0 p1 p2 p3 p4 p5 p6 p7 p8 p9 p10 p11 p12 p13 p14 p15 p16 p17 p18 p19 p20 p21 p22 p23 p24 p25
        have BZ := Box'.mk hC
        clear hC OF RF IN RI CW BB
        go_wp2_with fail
        exact ⟨⟨k + 1, by omega, by go_num, BZ⟩, by simp [intOf]; omega⟩
    · have hnlt : decide ((k : Int) < (n : Int)) = false := decide_eq_false (by omega)
      clear HCL IN0 RI0
      have e1 := tables_any wr
      go_wp2_with fail
      refine e1.mono ?_
      rintro e w1 ⟨p1, p2, rfl, s1, s2, b1⟩
      have B1 := Box'.mk (BB.out.trans (b1.mono BB.out.size))
      have S1 := Box'.mk s1
      have S2 := Box'.mk s2
      have e2 := refTables_any w1
      clear e1 s1 s2 b1 BB
      go_wp2_with fail
      refine e2.mono ?_
      rintro e w2 ⟨p3, p4, rfl, s3, s4, b2⟩
      have B2 := Box'.mk (B1.out.trans (b2.mono B1.out.size))
      have S1' := Box'.mk ((S1.out.below b2 (Nat.le_refl _)).up b2.size)
      have S2' := Box'.mk ((S2.out.below b2 (Nat.le_refl _)).up b2.size)
      have S3 := Box'.mk s3
      have S4 := Box'.mk s4
      have e3 := TX.out w2 B2.out
      clear e2 s3 s4 b2 B1 S1 S2 TX
      go_wp2_with fail
      refine e3.mono ?_
      rintro e w3 ⟨rfl, b3⟩
      have B3 := Box'.mk (B2.out.trans (b3.mono B2.out.size))
      have b23 := Box'.mk b3
      have e4 := TR.out w3 B3.out
      clear e3 b3 TR B2
      go_wp2_with fail
      refine e4.mono ?_
      rintro e w4 ⟨rfl, b4⟩
      have B4 := Box'.mk (B3.out.trans (b4.mono B3.out.size))
      have b24 := Box'.mk (b23.out.trans (b4.mono b23.out.size))
      have e5 := same_any _ _ wideL wideL (by decide) w4 ((S1'.out.below b24.out (Nat.le_refl _)).up b24.out.size) ((S3.out.below b24.out (Nat.le_refl _)).up b24.out.size) rfl
      clear e4 b4 B3 b23
      go_wp2_with fail
      refine e5.mono ?_
      rintro e w5 ⟨rfl, b5⟩
      have B5 := Box'.mk (B4.out.trans (b5.mono B4.out.size))
      have b25 := Box'.mk (b24.out.trans (b5.mono b24.out.size))
      have e6 := same_any _ _ zeroL zeroL (by decide) w5 ((S2'.out.below b25.out (Nat.le_refl _)).up b25.out.size) ((S4.out.below b25.out (Nat.le_refl _)).up b25.out.size) rfl
      clear e5 b5 B4 b24 S1' S3
      go_wp2_with fail
      refine e6.mono ?_
      rintro e w6 ⟨rfl, b6⟩
      have B6 := Box'.mk (B5.out.trans (b6.mono B5.out.size))
      have e7 := anch_any w6
      clear e6 b6 B5 b25 S2' S4
      go_wp2_with fail
      refine e7.mono ?_
      rintro e w7 ⟨rfl, b7⟩
      have B7 := Box'.mk (B6.out.trans (b7.mono B6.out.size))
      clear e7 b7 B6
      go_wp2_with fail
      go_ret
      exact ⟨rfl, B7.out⟩
end Go.Proofs.Ytmflhcbojgaekaa
