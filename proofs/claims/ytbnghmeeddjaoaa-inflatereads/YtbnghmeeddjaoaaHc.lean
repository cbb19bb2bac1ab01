/- The comparing of bytes; three streams that the document fixes. -/
import Derived.Test.YtbnghmeeddjaoaaHb
namespace Go.Proofs.Ytbnghmeeddjaoaa
open Go.RowKit Go.BigFrame Gt

set_option maxRecDepth 100000 in
set_option maxHeartbeats 1000000 in
theorem refSame_any (S1 S2 : Nat → Prop) (va vb : Value) (la lb : List UInt8) (w : World) (ha : Bts S1 w va la) (hb : Bts S2 w vb lb) :
    Calls Try.prog 8 #[va, vb] w fun e w' => e = .returned (.bool (decide (la = lb))) ∧ w' = w := by
  have h1 := conv_bts ha
  have h2 := conv_bts hb
  have h3 := bytes_eq la lb
  generalize decide (la = lb) = r at *
  obtain ⟨s1, hs1⟩ : ∃ s1, (⟨la.toArray⟩ : ByteArray) = s1 := ⟨_, rfl⟩
  obtain ⟨s2, hs2⟩ : ∃ s2, (⟨lb.toArray⟩ : ByteArray) = s2 := ⟨_, rfl⟩
  rw [hs1] at h1 h3
  rw [hs2] at h2 h3
  clear hs1 hs2 ha hb
  go_enter Try.func8, Try.ntmps8
  go_wp2_with (first
    | (refine wpList_val rfl _ (convert_op 22 9 (.tmp 5) rfl _ _ h1) ?_)
    | (refine wpList_val rfl _ (convert_op 22 9 (.tmp 7) rfl _ _ h2) ?_)
    | fail)
  go_ret
  exact ⟨by rw [← h3]; rfl, rfl⟩

/-- The slice of a row of one's own has its bytes. -/
theorem Row.bts {w : World} {g : Nat} {l : List UInt8} {n : Nat} (h : Row w g 5 (ag l)) (hn : l.length = n) : Bts (· < w.heap.size) w (.slice (some ⟨g, 0, none⟩) n n) l :=
  ⟨_, _, by rw [hn], by omega, .inr ⟨g, 0, rfl, h.lt, fun j u hu => by rw [Nat.zero_add, h.cell]; simpa [ag] using hu⟩⟩

theorem OwnB.bts {N : Nat} {w : World} {v : Value} {d : List UInt8} (h : OwnB N w v d) : Bts (· < w.heap.size) w v d := by
  by_cases hd : 0 < d.length
  · obtain ⟨g, c, rfl, hc, hcl⟩ := h.seg hd
    refine ⟨_, c, rfl, hc, .inr ⟨g, 0, rfl, World.block_lt_of_cell? w _ (hcl 0 hd), fun j u hu => ?_⟩⟩
    have hj : j < d.length := by
      have := (List.getElem?_eq_some_iff.1 hu).1
      rwa [List.length_map] at this
    rw [Nat.zero_add, hcl j hj]
    simpa [hj] using hu
  · obtain rfl : d = [] := List.eq_nil_of_length_eq_zero (by omega)
    rcases h.2 with ⟨rfl, _⟩ | ⟨g, cap, cur, rfl, _⟩
    · exact ⟨_, _, rfl, Nat.le_refl _, .inl rfl⟩
    · exact ⟨_, _, rfl, Nat.zero_le _, .inl rfl⟩
theorem OwnB.below {N : Nat} {w w' : World} {v : Value} {d : List UInt8} (h : OwnB N w v d) (hb : Below w.heap.size w w') : OwnB N w' v d :=
  h.same fun g hg => let ⟨_, _, r⟩ := h.lt g hg; hb.block g r.lt
theorem OwnB.alloc {N : Nat} {w : World} {v : Value} {d : List UInt8} (h : OwnB N w v d) (o : Obj) : OwnB N (w.alloc o) v d := h.below ((Below.refl _ _).alloc (Nat.le_refl _) _)
theorem OwnB.drewN {N : Nat} {w : World} {v : Value} {d : List UInt8} (h : OwnB N w v d) (n : Nat) : OwnB N (w.drewN n) v d := h

theorem inf_A : infR [75, 4, 0] 9 = ([97], 3, 0) := by decide +kernel
theorem inf_B : infR [1, 2, 0, 253, 255, 97, 98, 99] 9 = ([97, 98], 7, 0) := by decide +kernel
theorem inf_C : infR [7] 9 = ([], 0, 8) := by decide +kernel
end Go.Proofs.Ytbnghmeeddjaoaa
