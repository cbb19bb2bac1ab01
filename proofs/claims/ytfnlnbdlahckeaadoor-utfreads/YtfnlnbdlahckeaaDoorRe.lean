/- Take, End, Decode. -/
import Derived.Test.YtfnlnbdlahckeaaDoorRd
namespace Go.Proofs.YtfnlnbdlahckeaaDoor
open Go.RowKit Go.BigFrame
set_option linter.unusedVariables false
set_option linter.unusedSimpArgs false

set_option maxRecDepth 100000 in
set_option maxHeartbeats 4000000 in
theorem take_any (rb : Nat) (S : List UInt8) (b : UInt8) (w : World) (hT : Tab w) (hrb : rb ≠ 0) (h : Row w rb 45 (rdC true S)) (hg : Gd S) :
    Calls Tryd.prog 17 #[.pointer (some ⟨rb, 0, none⟩), .int .u8 (b.toNat : Int)] w (PEnd rb w.heap.size true w [] (putF S b)) := by
  have HI := Box'.mk (isThere_any rb true S w h)
  have HP := Box'.mk (put_any rb w.heap.size true S b w hT hrb h hg (.slice none 0 0) [] ⟨rfl, .inl ⟨rfl, rfl⟩⟩ (Nat.le_refl _) hT.lt (by simp))
  clear hT h hg
  go_enter Tryd.func17, Tryd.ntmps17
  go_wp2_with fail
  refine HI.out.mono ?_
  rintro e w1 ⟨rfl, rfl⟩
  clear HI
  go_wp2_with fail
  refine HP.out.mono ?_
  rintro e w2 ⟨v2, rfl, r2, o2, x2⟩
  clear HP
  go_wp2_with fail
  go_ret
  exact ⟨_, rfl, r2, o2, x2⟩
set_option maxRecDepth 100000 in
set_option maxHeartbeats 4000000 in
theorem take_nil (x : Int) (w : World) : Calls Tryd.prog 17 #[.pointer none, .int .u8 x] w fun e w' => e = .returned (.slice none 0 0) ∧ w' = w := by
  have HI := Box'.mk (isThere_nil w)
  go_enter Tryd.func17, Tryd.ntmps17
  go_wp2_with fail
  refine HI.out.mono ?_
  rintro e w1 ⟨rfl, rfl⟩
  clear HI
  go_wp2_with fail
  go_ret
  exact ⟨rfl, rfl⟩
set_option maxRecDepth 100000 in
set_option maxHeartbeats 4000000 in
theorem end_any (rb : Nat) (S : List UInt8) (w : World) (h : Row w rb 45 (rdC true S)) :
    Calls Tryd.prog 20 #[.pointer (some ⟨rb, 0, none⟩)] w fun e w' => ∃ v', e = .returned v' ∧ Row w' rb 45 (rdC true []) ∧ OwnR w.heap.size w' v' (finF S) ∧ FrX rb w.heap.size w w' := by
  have HI := Box'.mk (isThere_any rb true S w h)
  have HP := Box'.mk (finish_any rb w.heap.size true S w h (.slice none 0 0) [] ⟨rfl, .inl ⟨rfl, rfl⟩⟩ (Nat.le_refl _) (by simp))
  clear h
  go_enter Tryd.func20, Tryd.ntmps20
  go_wp2_with fail
  refine HI.out.mono ?_
  rintro e w1 ⟨rfl, rfl⟩
  clear HI
  go_wp2_with fail
  refine HP.out.mono ?_
  rintro e w2 ⟨v2, rfl, r2, o2, x2⟩
  clear HP
  go_wp2_with fail
  go_ret
  exact ⟨_, rfl, r2, o2, x2⟩
set_option maxRecDepth 100000 in
set_option maxHeartbeats 4000000 in
theorem end_nil (w : World) : Calls Tryd.prog 20 #[.pointer none] w fun e w' => e = .returned (.slice none 0 0) ∧ w' = w := by
  have HI := Box'.mk (isThere_nil w)
  go_enter Tryd.func20, Tryd.ntmps20
  go_wp2_with fail
  refine HI.out.mono ?_
  rintro e w1 ⟨rfl, rfl⟩
  clear HI
  go_wp2_with fail
  go_ret
  exact ⟨rfl, rfl⟩
theorem Bts.cells {S : Nat → Prop} {w : World} {v : Value} {l : List UInt8} (h : Bts S w v l) (hl : 0 < l.length) : ∃ b o c, v = .slice (some ⟨b, o, none⟩) l.length c ∧ S b ∧ ∀ j, j < l.length → w.cell? ⟨b, o + j, none⟩ = some (.int .u8 ((l.getD j 0).toNat : Int)) := by
  obtain ⟨a, c, h1, h2, h3⟩ := h
  rcases h3 with rfl | ⟨b, o, h4, h5, h6⟩
  · simp at hl
  · subst h4
    exact ⟨b, o, c, h1, h5, fun j hj => h6 j _ (by simp [hj]; rfl)⟩
/-- What is told of the first bytes, and what is kept. -/
def runF (b : List UInt8) : List Int × List UInt8 := b.foldl (fun r x => (r.1 ++ (putF r.2 x).1, (putF r.2 x).2)) ([], [])
theorem runF_snoc (b : List UInt8) (x : UInt8) : runF (b ++ [x]) = ((runF b).1 ++ (putF (runF b).2 x).1, (putF (runF b).2 x).2) := by simp [runF]
theorem run_good (b : List UInt8) : Gd (runF b).2 ∧ (runF b).1.length + (runF b).2.length ≤ b.length := by
  suffices h : ∀ n, Gd (runF (b.take n)).2 ∧ (runF (b.take n)).1.length + (runF (b.take n)).2.length ≤ (b.take n).length by
    have := h b.length; rwa [List.take_length] at this
  intro n
  induction n with
  | zero => simp [runF, Gd]
  | succ n ih =>
    by_cases hn : n < b.length
    · rw [List.take_succ_eq_append_getElem hn, runF_snoc]
      refine ⟨putF_good ih.1 _, ?_⟩
      have := putF_len (runF (b.take n)).2 b[n]
      simp only [List.length_append, List.length_cons, List.length_nil] at *
      omega
    · rw [List.take_of_length_le (by omega)] at ih ⊢; exact ih
theorem dec_from : ∀ (b : List UInt8) (r : List Int × List UInt8), (b.foldl (fun r x => (r.1 ++ (putF r.2 x).1, (putF r.2 x).2)) r).1 ++ finF (b.foldl (fun r x => (r.1 ++ (putF r.2 x).1, (putF r.2 x).2)) r).2 = r.1 ++ decF r.2 b
  | [], r => rfl
  | x :: b, r => by
    rw [List.foldl_cons, dec_from b]
    simp [decF, List.append_assoc]
theorem dec_run (b : List UInt8) : (runF b).1 ++ finF (runF b).2 = decF [] b := dec_from b ([], [])
set_option maxRecDepth 100000 in
set_option maxHeartbeats 4000000 in
theorem decode_any (S : Nat → Prop) (vb : Value) (b : List UInt8) (w : World) (hT : Tab w) (hb : Bts S w vb b) (hS : ∀ b, S b → b < w.heap.size) (hl : b.length ≤ 1000000000) :
    Calls Tryd.prog 10 #[vb] w fun e w' => ∃ v', e = .returned v' ∧ OwnR w.heap.size w' v' (decF [] b) ∧ Below w.heap.size w w' := by
  have HB := Box'.mk hb
  have HT := Box'.mk hT
  have hlt0 := hT.lt
  obtain ⟨a1, c1, rfl, -, -⟩ := hb
  generalize hn : b.length = n at *
  have HN := Box'.mk hn
  clear hT hn
  go_enter Tryd.func10, Tryd.ntmps10
  go_wp2_with fail
  generalize hW0 : World.alloc w _ = w0
  have b0 : Below w.heap.size w w0 := by rw [← hW0]; exact (Below.refl _ _).alloc (Nat.le_refl _) _
  have r0 : Row w0 w.heap.size 45 (rdC false []) := by rw [← hW0]; exact Row.new _ _ _
  clear hW0
  go_loopw [4, 9] (fun u iv wr => ∃ (k : Nat), iv = .int .i64 (k : Int) ∧ k ≤ n ∧ Box' (Row wr w.heap.size 45 (rdC false (runF (b.take k)).2)) ∧ Box' (OwnR w.heap.size wr u (runF (b.take k)).1) ∧ Box' (Below w.heap.size w wr)) (fun _ iv _ => n - (intOf iv).toNat)
  case atStart => exact ⟨0, rfl, by omega, ⟨r0⟩, ⟨⟨rfl, .inl ⟨rfl, rfl⟩⟩⟩, ⟨b0⟩⟩
  case round =>
    clear r0 b0
    obtain ⟨k, rfl, hk, HR, HO, HBl⟩ := hrel
    obtain ⟨a2, c2, hu⟩ := HO.out.slice
    subst hu
    have GR := run_good (b.take k)
    have HG := Box'.mk GR.1
    have hD : (runF (b.take k)).1.length ≤ 1000000000 := by have := GR.2; rw [List.length_take] at this; omega
    clear GR
    by_cases hlt : k < n
    · have hkb : 0 < b.length := by rw [HN.out]; omega
      obtain ⟨bb, ob, cb, eb, sb, clb⟩ := HB.out.cells hkb
      have hkl : k < b.length := by rw [HN.out]; exact hlt
      have ck := clb k hkl
      rw [← (bcell HBl.out).1 _ _ (hS _ sb)] at ck
      rw [HN.out] at eb
      injection eb with e1 _ e2
      subst e1 e2
      have HS2 : Box' (runF (b.take (k + 1)) = ((runF (b.take k)).1 ++ (putF (runF (b.take k)).2 (b.getD k 0)).1, (putF (runF (b.take k)).2 (b.getD k 0)).2)) := ⟨by
        rw [List.take_succ_eq_append_getElem hkl, runF_snoc]; simp [hkl]⟩
      clear clb sb hkb
      generalize hr2 : runF (b.take (k + 1)) = r2 at *
      have HE2 := Box'.mk hr2
      clear hr2
      generalize runF (b.take k) = r1 at *
      generalize b.getD k 0 = x at *
      have PC := Box'.mk (put_any w.heap.size w.heap.size false r1.2 x wr (HT.out.below HBl.out hlt0) (by omega) HR.out HG.out _ r1.1 HO.out HBl.out.size hlt0 hD)
      clear HR HO HG
      generalize r1.1.length = rl at *
      go_wp2_with fail
      refine PC.out.mono ?_
      rintro e w2 ⟨v2, rfl, r3, o3, x3⟩
      have B3 := HBl.out.trans (x3.below HBl.out.size (Nat.le_refl _))
      rw [show (putF r1.2 x).2 = r2.2 by rw [HS2.out]] at r3
      rw [show r1.1 ++ (putF r1.2 x).1 = r2.1 by rw [HS2.out]] at o3
      clear PC HBl HS2 x3
      go_wp2_with fail
      exact ⟨⟨k + 1, by go_num, by omega, ⟨by rw [HE2.out]; exact r3⟩, ⟨by rw [HE2.out]; exact o3⟩, ⟨B3⟩⟩, by simp [intOf]; omega⟩
    · obtain rfl : k = n := by omega
      have HE : Box' ((runF (b.take k)).1 ++ finF (runF (b.take k)).2 = decF [] b) := ⟨by rw [List.take_of_length_le (by rw [HN.out]; exact Nat.le_refl _)]; exact dec_run b⟩
      generalize runF (b.take k) = r1 at *
      have FN := Box'.mk (finish_any w.heap.size w.heap.size false r1.2 wr HR.out _ _ HO.out HBl.out.size hD)
      generalize r1.1.length = rl at *
      clear HR HO HG
      go_wp2_with fail
      refine FN.out.mono ?_
      rintro e w2 ⟨v2, rfl, r3, o3, x3⟩
      have B3 := HBl.out.trans (x3.below HBl.out.size (Nat.le_refl _))
      rw [HE.out] at o3
      clear FN HBl x3 HE
      go_wp2_with fail
      go_ret
      exact ⟨_, rfl, o3, B3⟩
end Go.Proofs.YtfnlnbdlahckeaaDoor
