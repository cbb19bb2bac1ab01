/- The walk of size. -/
import Derived.Test.YtcjfaahlchbcmaaZ47
namespace Go.Proofs.Ytcjfaahlchbcmaa
open Go.RowKit Go.BigFrame
set_option linter.unusedVariables false
set_option linter.unusedSimpArgs false

/-- How many bits there are in all. -/
def bsz : List Bt → Int
  | [] => 0
  | x :: r => x.2 + bsz r
theorem bsz_snoc (d : List Bt) (x : Bt) : bsz (d ++ [x]) = bsz d + x.2 := by
  induction d with
  | nil => simp [bsz]
  | cons y r ih => rw [List.cons_append, bsz, ih, bsz]; omega
/-- The closure that counts bits, of the variable g. -/
theorem countK (g : Nat) : PutK 53 (.pointer (some ⟨g, 0, none⟩)) (fun x => 0 ≤ x.2 ∧ x.2 ≤ 100) 1000000 (fun d w => Row w g 3 #[.int .i64 (bsz d)] ∧ 0 ≤ bsz d ∧ bsz d ≤ 100 * (d.length : Int)) (fun _ k => k = g) where
  enters := enters53
  lt := fun d w k h e => by subst e; exact h.1.lt
  call := fun d w x y h ho hl => by
    refine (count1_is w g x y (bsz d) ⟨ho.1, by have : y ≤ 100 := ho.2; omega⟩ ⟨h.2.1, by have := h.2.2; omega⟩ h.1).mono ?_
    rintro e w' ⟨rfl, r, b⟩
    have hy0 : 0 ≤ y := ho.1
    have hy1 : y ≤ 100 := ho.2
    have e1 : bsz (d ++ [(x, y)]) = bsz d + y := bsz_snoc d (x, y)
    have e2 : (d ++ [(x, y)]).length = d.length + 1 := by simp
    refine ⟨rfl, ⟨by rw [e1]; exact r, by rw [e1]; have := h.2.1; omega, by rw [e1, e2]; have := h.2.2; omega⟩, b.os, b.tape, b.output, b.size, b.block, fun k hk => .inl hk⟩
  more := fun d w w' h ho ht hu hs hb => ⟨⟨h.1.same (hb g h.1.lt rfl), h.2⟩, fun k hk => hk⟩
theorem WayOk.keep {N : Nat} {w w' : World} {v : Value} {hd : List Bt} {l1 l2 : List Int} (h : WayOk N w v hd l1 l2) (hN : N ≤ w.heap.size) (hb : Below w.heap.size w w') : WayOk N w' v hd l1 l2 := by
  obtain ⟨vh, g1, g2, e, ⟨ha, hc, e2, hhc, hh⟩, hg1, hg2, r1, r2⟩ := h
  refine ⟨vh, g1, g2, e, ⟨ha, hc, e2, hhc, fun k hk => ?_⟩, hg1, hg2, r1.below hb (by omega), r2.below hb (by omega)⟩
  obtain ⟨b, o, e, hbN, c0, c1⟩ := hh k hk
  have hb' : b < w.heap.size := by omega
  refine ⟨b, o, e, hbN, ?_, ?_⟩
  · rw [hb.cell (p := ⟨b, o + k * 2, none⟩) hb']; exact c0
  · rw [hb.cell (p := ⟨b, o + k * 2 + 1, none⟩) hb']; exact c1
theorem Toks.keep {N : Nat} {w w' : World} {v : Value} {l : List Tok} (h : Toks N w v l) (hN : N ≤ w.heap.size) (hb : Below w.heap.size w w') : Toks N w' v l := by
  obtain ⟨a, c, h1, h2, h4⟩ := h
  refine ⟨a, c, h1, h2, ?_⟩
  rcases h4 with h4 | ⟨b, o, h5, h6, h7⟩
  · exact .inl h4
  · refine .inr ⟨b, o, h5, h6, fun k hk => ?_⟩
    have hb' : b < w.heap.size := by omega
    obtain ⟨c0, c1, c2⟩ := h7 k hk
    refine ⟨?_, ?_, ?_⟩
    · rw [hb.cell (p := ⟨b, o + k * 3, none⟩) hb']; exact c0
    · rw [hb.cell (p := ⟨b, o + k * 3 + 1, none⟩) hb']; exact c1
    · rw [hb.cell (p := ⟨b, o + k * 3 + 2, none⟩) hb']; exact c2
set_option maxRecDepth 100000 in
set_option maxHeartbeats 8000000 in
theorem size_is (N : Nat) (w : World) (vw vT : Value) (hd : List Bt) (l1 l2 : List Int) (T : List Tok)
    (hl1 : 257 ≤ l1.length ∧ l1.length ≤ 288) (hl2 : l2.length ≤ 30) (hin : ∀ t ∈ T, t.2.1 ≠ 0 → (lenS t.2.1.toNat).1 < l1.length ∧ (nthF 2 (t.2.2.toNat - 1)).1 < l2.length) (hhd : hd.length ≤ 100000) (hT : T.length ≤ 65536) (hok : ∀ t ∈ T, TokOk t) (hN : N ≤ w.heap.size) (hw : WayOk N w vw hd l1 l2) (h : Toks N w vT T) (hO : ∀ x ∈ telF hd l1 l2 T, 0 ≤ x.2 ∧ x.2 ≤ 100) :
    Calls Try.prog 32 #[vw, vT] w fun e w' => e = .returned (.int .i64 ((bsz (telF hd l1 l2 T) + 7) / 8)) ∧ Below w.heap.size w w' := by
  have hm : (telF hd l1 l2 T).length ≤ 1000000 := by
    have := telP_len hd l1 l2 T T.length
    unfold telF
    rw [List.length_append, List.length_singleton]
    omega
  have HLN := Box'.mk hm
  have hw' := hw
  obtain ⟨vh, g1, g2, rfl, ⟨ha, hc, rfl, hhc, hh⟩, hg1, hg2, r1, r2⟩ := hw'
  obtain ⟨w1, hw1⟩ : ∃ w1, w.alloc (.cells #[.slice ha hd.length hc, .slice (some ⟨g1, 0, none⟩) l1.length l1.length, .slice (some ⟨g2, 0, none⟩) l2.length l2.length] 50) = w1 := ⟨_, rfl⟩
  obtain ⟨w2, hw2⟩ : ∃ w2, w1.alloc (.cells #[.int .i64 0] 3) = w2 := ⟨_, rfl⟩
  have b1 : Below w.heap.size w w1 := by rw [← hw1]; exact (Below.refl _ _).alloc (Nat.le_refl _) _
  have b2 : Below w1.heap.size w1 w2 := by rw [← hw2]; exact (Below.refl _ _).alloc (Nat.le_refl _) _
  have rc : Row w2 w1.heap.size 3 #[.int .i64 0] := by rw [← hw2]; exact Row.new _ _ _
  have s1 : w1.heap.size = w.heap.size + 1 := by rw [← hw1]; exact Array.size_push _
  rw [s1] at rc
  have b12 := b1.trans (b2.mono b1.size)
  have L := Box'.mk (tell_is 53 _ _ 1000000 _ _ (countK (w.heap.size + 1)) N w2 _ vT hd l1 l2 T hl1 hl2 hin hhd hT hok (Nat.le_trans hN b12.size) (fun k hk e => by omega) (hw.keep hN b12) (h.keep hN b12) hm hO ⟨rc, by decide, by decide⟩)
  have B := Box'.mk b12
  have HW1 := Box'.mk hw1
  have HW2 := Box'.mk hw2
  clear hh r1 r2 hw1 hw2 b1 b2 rc s1 b12 hm hO hok hw h hl1 hhd hT hl2 hin
  go_enter Try.func32, Try.ntmps32
  go_wp2_with fail
  rw [HW1.out, HW2.out]
  clear HW1 HW2
  refine L.out.mono ?_
  rintro e w3 ⟨rfl, ⟨r3, z0, z1⟩, k3⟩
  have B3 : Box' (Below w.heap.size w w3) := ⟨⟨k3.os.trans B.out.os, k3.tape.trans B.out.tape, k3.output.trans B.out.output, Nat.le_trans B.out.size k3.size, fun k hk => (k3.block k (Nat.lt_of_lt_of_le hk B.out.size) (by omega)).trans (B.out.block k hk)⟩⟩
  have c0 : w3.cell? ⟨w.heap.size + 1, 0, none⟩ = some (.int .i64 (bsz (telF hd l1 l2 T))) := r3.cell 0
  have hz : bsz (telF hd l1 l2 T) ≤ 100000000 := by have := HLN.out; omega
  clear L B r3 k3 z1
  obtain ⟨c, hcc⟩ : ∃ c, bsz (telF hd l1 l2 T) = c := ⟨_, rfl⟩
  rw [hcc] at c0 hz z0
  have HCC := Box'.mk hcc
  clear hcc
  go_wp2_with fail
  go_ret
  exact ⟨by rw [HCC.out]; rfl, B3.out⟩
end Go.Proofs.Ytcjfaahlchbcmaa

/- The closure that gathers bits, as tell wants it. -/
namespace Go.Proofs.Ytcjfaahlchbcmaa
open Go.RowKit Go.BigFrame
set_option linter.unusedVariables false
set_option linter.unusedSimpArgs false

/-- The blocks of a row of bits that is kept in a variable. -/
def GaM (g : Nat) (w : World) (k : Nat) : Prop := k = g ∨ ∃ v, Row w g 48 #[v] ∧ v.ownBlock = some k
theorem row_one {w : World} {g t : Nat} {u v : Value} (h : Row w g t #[u]) (k : Row w g t #[v]) : u = v := by
  unfold Row at h k
  rw [h] at k
  simpa using k
theorem gatherK (N g : Nat) : PutK 41 (.pointer (some ⟨g, 0, none⟩)) (fun _ => True) 900000 (fun d w => N ≤ w.heap.size ∧ ∃ v, Row w g 48 #[v] ∧ OwnP N w v d) (GaM g) where
  enters := enters41
  lt := fun d w k h e => by
    obtain ⟨_, v, r, o⟩ := h
    rcases e with rfl | ⟨u, ru, eu⟩
    · exact r.lt
    · cases row_one r ru
      obtain ⟨_, c, hc⟩ := o.row eu
      exact Row.lt hc
  call := fun d w x y h ho hl => by
    obtain ⟨hN, v, r, o⟩ := h
    refine (gather2_is w N g x y v d (by omega) hN r o).mono ?_
    rintro e w' ⟨rfl, v', r', o', hb, hv, h1, h2, h3, h4⟩
    refine ⟨rfl, ⟨Nat.le_trans hN h4, v', r', o'⟩, h1, h2, h3, h4, fun k hk hm => hb k hk (fun e => hm (.inl e)) (fun e => hm (.inr ⟨v, r, e⟩)), fun k hk => ?_⟩
    rcases hk with rfl | ⟨u, ru, eu⟩
    · exact .inl (.inl rfl)
    · cases row_one r' ru
      rcases hv with e | e
      · rw [e] at eu; exact .inl (.inr ⟨v, r, eu⟩)
      · exact .inr (e k eu)
  more := fun d w w' h ho ht hu hs hb => by
    obtain ⟨hN, v, r, o⟩ := h
    have r' := r.same (hb g r.lt (.inl rfl))
    refine ⟨⟨Nat.le_trans hN hs, v, r', o.keep fun q c e hr => hr.same (hb q hr.lt (.inr ⟨v, r, e⟩))⟩, fun k hk => ?_⟩
    rcases hk with rfl | ⟨u, ru, eu⟩
    · exact .inl rfl
    · cases row_one r' ru
      exact .inr ⟨v, r, eu⟩
end Go.Proofs.Ytcjfaahlchbcmaa
