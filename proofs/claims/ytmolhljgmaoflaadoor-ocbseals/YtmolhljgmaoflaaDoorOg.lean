/- What a key's L's are in memory, and what stays while they are made. -/
import Derived.Test.YtmolhljgmaoflaaDoorGw
import Derived.Test.YtmolhljgmaoflaaDoorOb
namespace Go.Proofs.YtmolhljgmaoflaaDoor
open Go.RowKit

/-- The L of a rank. -/
def Gf.ell (l0 : List UInt8) : Nat → List UInt8
  | 0 => l0
  | k + 1 => Gf.dblk (Gf.ell l0 k)
theorem Gf.ell_len (l0 : List UInt8) (h : l0.length = 16) (k : Nat) : (Gf.ell l0 k).length = 16 := by
  cases k
  · exact h
  · exact Gf.dblk_len _
/-- The first so many L's, one behind the other. -/
def Gf.ells (l0 : List UInt8) : Nat → List UInt8
  | 0 => []
  | k + 1 => Gf.ells l0 k ++ Gf.ell l0 k
theorem Gf.ells_len (l0 : List UInt8) (h : l0.length = 16) (k : Nat) : (Gf.ells l0 k).length = k * 16 := by
  induction k with
  | zero => rfl
  | succ k ih => simp only [Gf.ells, List.length_append, ih, Gf.ell_len l0 h]; omega
theorem Gf.ells_at (l0 : List UInt8) (h : l0.length = 16) (n k : Nat) (hk : k < n) : ((Gf.ells l0 n).drop (k * 16)).take 16 = Gf.ell l0 k := by
  induction n with
  | zero => omega
  | succ n ih =>
    simp only [Gf.ells]
    by_cases e : k = n
    · subst e
      rw [List.drop_append, Gf.ells_len l0 h, Nat.sub_self, List.drop_eq_nil_of_le (by rw [Gf.ells_len l0 h]; omega)]
      have := Gf.ell_len l0 h k
      simp [← this]
    · have := Gf.ells_len l0 h n
      rw [List.drop_append_of_le_length (by omega), List.take_append_of_le_length (by rw [List.length_drop]; omega)]
      exact ih (by omega)

/-- The L's of a key, as the closure holds them: the variable, and the row behind it. -/
structure Msk (mb : Nat) (l0 : List UInt8) (w : World) (bb : Nat) : Prop where
  mk' ::
  ex : ∃ n cap, Row w mb 62 #[.slice (some ⟨bb, 0, none⟩) n cap] ∧ 1 ≤ n ∧ n ≤ 300 ∧ w.ownsRow 0 23 16 (.slice (some ⟨bb, 0, none⟩) n cap) n ((Gf.ells l0 n).map B)
  ne : mb ≠ bb
  lt : bb < w.heap.size

theorem Msk.one {mb : Nat} {l0 l1 : List UInt8} {w : World} {bb bb' : Nat} (h : Msk mb l0 w bb) (h' : Msk mb l1 w bb') : bb = bb' := by
  obtain ⟨n, c, h1, _⟩ := h.ex
  obtain ⟨n', c', h1', _⟩ := h'.ex
  unfold Row at h1 h1'
  rw [h1] at h1'
  injection h1' with e
  injection e with e1
  injection e1 with e2
  simp at e2
  exact e2.1
theorem Msk.mlt {mb : Nat} {l0 : List UInt8} {w : World} {bb : Nat} (h : Msk mb l0 w bb) : mb < w.heap.size := by
  obtain ⟨_, _, h1, _⟩ := h.ex
  exact h1.lt
theorem Msk.same {mb : Nat} {l0 : List UInt8} {w w' : World} {bb : Nat} (h : Msk mb l0 w bb) (hs : w.heap.size ≤ w'.heap.size) (h1 : w'.heap[mb]? = w.heap[mb]?) (h2 : w'.heap[bb]? = w.heap[bb]?) : Msk mb l0 w' bb := by
  obtain ⟨n, c, r1, r2, r3, r4⟩ := h.ex
  refine ⟨⟨n, c, ?_, r2, r3, r4.1, ?_⟩, h.ne, by have := h.lt; omega⟩
  · unfold Row at *; rw [h1]; exact r1
  · rcases r4.2 with ⟨e, _⟩ | ⟨g, cap, cur, e1, e2, e3, e4, e5, e6, e7⟩
    · cases e
    · have : g = bb := by injection e1 with e; injection e with e; injection e with e; exact e.symm
      subst this
      exact .inr ⟨g, cap, cur, e1, e2, by rw [h2]; exact e3, e4, e5, e6, e7⟩

/-- What a call that may make L's leaves as it was. -/
structure Gm (mb : Nat) (l0 : List UInt8) (w w' : World) : Prop where
  os : w'.os = w.os
  tape : w'.tape = w.tape
  output : w'.output = w.output
  size : w.heap.size ≤ w'.heap.size
  to : ∀ bb, Msk mb l0 w bb → ∃ bb', Msk mb l0 w' bb' ∧ (bb' = bb ∨ w.heap.size ≤ bb') ∧ ∀ k, k < w.heap.size → k ≠ mb → k ≠ bb → w'.heap[k]? = w.heap[k]?
theorem Gm.refl (mb : Nat) (l0 : List UInt8) (w : World) : Gm mb l0 w w := ⟨rfl, rfl, rfl, Nat.le_refl _, fun bb h => ⟨bb, h, .inl rfl, fun _ _ _ _ => rfl⟩⟩
theorem Gm.trans {mb : Nat} {l0 : List UInt8} {a b c : World} (h : Gm mb l0 a b) (h' : Gm mb l0 b c) : Gm mb l0 a c := by
  refine ⟨h'.os.trans h.os, h'.tape.trans h.tape, h'.output.trans h.output, Nat.le_trans h.size h'.size, fun bb hm => ?_⟩
  obtain ⟨b1, m1, e1, k1⟩ := h.to bb hm
  obtain ⟨b2, m2, e2, k2⟩ := h'.to b1 m1
  have hs := h.size
  refine ⟨b2, m2, ?_, fun k hk hk1 hk2 => ?_⟩
  · rcases e2 with rfl | e2
    · exact e1
    · exact .inr (by omega)
  · rw [k2 k (by omega) hk1 (by rcases e1 with rfl | e1 <;> omega), k1 k hk hk1 hk2]
theorem Gm.of {mb : Nat} {l0 : List UInt8} {w w' : World} (h : Below w.heap.size w w') : Gm mb l0 w w' :=
  ⟨h.os, h.tape, h.output, h.size, fun bb hm => ⟨bb, hm.same h.size (h.block mb hm.mlt) (h.block bb hm.lt), .inl rfl, fun k hk _ _ => h.block k hk⟩⟩
theorem Gm.drew {mb : Nat} {l0 : List UInt8} {a w : World} (h : Gm mb l0 a w) : Gm mb l0 a w.drew := h.trans (Gm.of (Below.refl _ _).drew)

/-- A block that is none of the L's. -/
structure Sf (mb : Nat) (l0 : List UInt8) (w : World) (p : Nat) : Prop where
  lt : p < w.heap.size
  ne : p ≠ mb
  off : ∀ bb, Msk mb l0 w bb → p ≠ bb
  is : ∃ bb, Msk mb l0 w bb
theorem Sf.keep {mb : Nat} {l0 : List UInt8} {w w' : World} {p : Nat} (h : Sf mb l0 w p) (g : Gm mb l0 w w') : Sf mb l0 w' p ∧ w'.heap[p]? = w.heap[p]? := by
  obtain ⟨bb, hm⟩ := h.is
  obtain ⟨b1, m1, e1, k1⟩ := g.to bb hm
  have hs := g.size
  have hl := h.lt
  have ho := h.off bb hm
  refine ⟨⟨by omega, h.ne, fun b2 m2 => ?_, b1, m1⟩, k1 p hl h.ne ho⟩
  rw [← m1.one m2]
  rcases e1 with rfl | e1 <;> omega
theorem Sf.go {mb : Nat} {l0 : List UInt8} {w w' : World} {p : Nat} (h : Sf mb l0 w p) (g : Gm mb l0 w w') : Sf mb l0 w' p := (h.keep g).1
theorem Sf.row {mb : Nat} {l0 : List UInt8} {w w' : World} {p : Nat} (h : Sf mb l0 w p) (g : Gm mb l0 w w') {t : TypeId} {c : Array Value} (hr : Row w p t c) : Row w' p t c := by
  unfold Row at *
  rw [(h.keep g).2]; exact hr
theorem Sf.room {mb : Nat} {l0 : List UInt8} {w w' : World} {p : Nat} (h : Sf mb l0 w p) (g : Gm mb l0 w w') {t : TypeId} {n : Nat} (hr : Room w p t n) : Room w' p t n := let ⟨c, h1, h2⟩ := hr; ⟨c, h.row g h1, h2⟩
theorem Sf.cell {mb : Nat} {l0 : List UInt8} {w w' : World} {p : Nat} (h : Sf mb l0 w p) (g : Gm mb l0 w w') (o : Nat) : w'.cell? ⟨p, o, none⟩ = w.cell? ⟨p, o, none⟩ := by
  have := (h.keep g).2
  simp only [World.cell?, this]
/-- A store into such a block. -/
theorem Gm.setRow {mb : Nat} {l0 : List UInt8} {a w : World} {p : Nat} (g : Gm mb l0 a w) (h : Sf mb l0 w p) (ha : a.heap.size ≤ p) (c : Array Value) : Gm mb l0 a (w.setRow p c) := by
  have hz : (w.setRow p c).heap.size = w.heap.size := by simp [World.setRow]
  refine ⟨g.os, g.tape, g.output, by rw [hz]; exact g.size, fun bb hm => ?_⟩
  obtain ⟨b1, m1, e1, k1⟩ := g.to bb hm
  have hne := h.off b1 m1
  refine ⟨b1, m1.same (by rw [hz]; exact Nat.le_refl _) (setRow_other _ _ _ _ (Ne.symm h.ne)) (setRow_other _ _ _ _ (Ne.symm hne)), e1, fun k hk h1 h2 => ?_⟩
  rw [setRow_other _ _ _ _ (by omega)]
  exact k1 k hk h1 h2
theorem Sf.new {mb : Nat} {l0 : List UInt8} {w : World} {bb : Nat} (hm : Msk mb l0 w bb) (o : Obj) : Sf mb l0 (w.alloc o) w.heap.size := by
  have h1 := hm.mlt
  have h2 := hm.lt
  have m' : Msk mb l0 (w.alloc o) bb := hm.same (by simp) (Below.heap_alloc _ _ _ h1) (Below.heap_alloc _ _ _ h2)
  exact ⟨by simp, by omega, fun b2 m2 => by rw [← m'.one m2]; omega, bb, m'⟩
end Go.Proofs.YtmolhljgmaoflaaDoor
