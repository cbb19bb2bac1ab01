/- Numbers in a block of one's own, turned about. -/
import Derived.Test.YtcppfoolhkcfaaaKa
import Derived.Test.YtcppfoolhkcfaaaGw
import Derived.Test.YtcppfoolhkcfaaaH
import Derived.Laws.AppendOwn
namespace Go.Proofs.Ytcppfoolhkcfaaa
open Go.RowKit Go.BigFrame

/-- The block g begins with the numbers l. -/
def SegI (w : World) (g : Nat) (l : List Int) : Prop := ∃ cur, Row w g 3 cur ∧ ∀ k, k < l.length → cur[k]? = some (.int .i64 (l.getD k 0))
theorem SegI.cell {w : World} {g : Nat} {l : List Int} (h : SegI w g l) {k : Nat} (hk : k < l.length) : w.cell? ⟨g, k, none⟩ = some (.int .i64 (l.getD k 0)) := by
  obtain ⟨cur, h1, h2⟩ := h
  rw [h1.cell]; exact h2 k hk
theorem SegI.frozen {w : World} {g : Nat} {l : List Int} (h : SegI w g l) (k : Nat) : w.frozen? ⟨g, k, none⟩ = false := by
  obtain ⟨cur, h1, h2⟩ := h
  exact h1.frozen k
theorem SegI.lt {w : World} {g : Nat} {l : List Int} (h : SegI w g l) : g < w.heap.size := let ⟨_, h1, _⟩ := h; h1.lt
theorem SegI.set {w : World} {g : Nat} {l : List Int} (h : SegI w g l) (k : Nat) (x : Int) (hk : k < l.length) : SegI (w.setCell ⟨g, k, none⟩ (.int .i64 x)) g (l.set k x) := by
  obtain ⟨cur, h1, h2⟩ := h
  refine ⟨_, h1.setCell k _, fun j hj => ?_⟩
  rw [List.length_set] at hj
  have hs : k < cur.size := (Array.getElem?_eq_some_iff.1 (h2 k hk)).1
  rw [Array.getElem?_setIfInBounds]
  by_cases e : k = j
  · subst e; rw [if_pos rfl, if_pos hs]; simp [hk]
  · rw [if_neg e, h2 j hj]
    simp [e]
theorem SegI.same {w w' : World} {g : Nat} {l : List Int} (h : SegI w g l) (e : w'.heap[g]? = w.heap[g]?) : SegI w' g l := by
  obtain ⟨cur, h1, h2⟩ := h
  exact ⟨cur, by unfold Row; rw [e]; exact h1, h2⟩
theorem SegI.below {w w' : World} {g : Nat} {l : List Int} (h : SegI w g l) (hb : Below w.heap.size w w') : SegI w' g l := h.same (hb.block g h.lt)
theorem SegI.drew {w : World} {g : Nat} {l : List Int} (h : SegI w g l) : SegI w.drew g l := h
theorem SegI.drewN {w : World} {g : Nat} {l : List Int} (h : SegI w g l) (n : Nat) : SegI (w.drewN n) g l := h
theorem get_mid {α : Type} (A R : List α) (x d : α) : (A ++ x :: R).getD A.length d = x := by simp
theorem set_mid {α : Type} (A R : List α) (x y : α) : (A ++ x :: R).set A.length y = A ++ y :: R := by simp
/-- Two numbers are swapped. -/
theorem SegI.swap {w : World} {g : Nat} {A M Z : List Int} {x y : Int} (h : SegI w g (A ++ x :: (M ++ y :: Z))) (i j : Nat) (hi : i = A.length) (hj : j = A.length + 1 + M.length) :
    SegI ((w.setCell ⟨g, i, none⟩ (.int .i64 y)).setCell ⟨g, j, none⟩ (.int .i64 x)) g (A ++ y :: (M ++ x :: Z)) := by
  subst hi hj
  have h1 := h.set A.length y (by simp)
  rw [set_mid] at h1
  have h2 := h1.set (A.length + 1 + M.length) x (by simp; omega)
  have e : (A ++ y :: (M ++ y :: Z)) = (A ++ y :: M) ++ y :: Z := by simp
  rw [e, show A.length + 1 + M.length = (A ++ y :: M).length by simp; omega, set_mid] at h2
  rw [show (A ++ y :: M).length = A.length + 1 + M.length by simp; omega] at h2
  simpa using h2
theorem SegI.swap' {w : World} {g : Nat} {A M Z : List Int} {x y : Int} (h : SegI w g (A ++ x :: (M ++ y :: Z))) (i j : Nat) (hi : i = A.length) (hj : j = A.length + 1 + M.length) :
    SegI ((w.setCell ⟨g, j, none⟩ (.int .i64 x)).setCell ⟨g, i, none⟩ (.int .i64 y)) g (A ++ y :: (M ++ x :: Z)) := by
  subst hi hj
  have e : (A ++ x :: (M ++ y :: Z)) = (A ++ x :: M) ++ y :: Z := by simp
  have h0 := h
  rw [e] at h0
  have h1 := h0.set (A ++ x :: M).length x (by simp)
  rw [set_mid] at h1
  rw [show (A ++ x :: M) ++ x :: Z = A ++ x :: (M ++ x :: Z) by simp] at h1
  have h2 := h1.set A.length y (by simp)
  rw [set_mid, show (A ++ x :: M).length = A.length + 1 + M.length by simp; omega] at h2
  exact h2

/-- Only the block g has been turned, and memory made. -/
def Gb (g : Nat) (w w' : World) : Prop := w.grownBy w' (some g)
theorem Gb.refl (g : Nat) (w : World) : Gb g w w := ⟨rfl, rfl, rfl, Nat.le_refl _, fun _ _ _ => rfl⟩
theorem Gb.trans {g : Nat} {w w1 w2 : World} (h1 : Gb g w w1) (h2 : Gb g w1 w2) : Gb g w w2 :=
  ⟨h2.os.trans h1.os, h2.tape.trans h1.tape, h2.output.trans h1.output, Nat.le_trans h1.size h2.size, fun k hk hn => (h2.block k (Nat.lt_of_lt_of_le hk h1.size) hn).trans (h1.block k hk hn)⟩
theorem Gb.below {g : Nat} {w w' : World} (h : Below w.heap.size w w') : Gb g w w' := ⟨h.os, h.tape, h.output, h.size, fun k hk _ => h.block k hk⟩
theorem Gb.drew {g : Nat} {w w' : World} (h : Gb g w w') : Gb g w w'.drew := ⟨h.os, h.tape, h.output, h.size, h.block⟩
theorem Gb.drewN {g : Nat} {w w' : World} (h : Gb g w w') (n : Nat) : Gb g w (w'.drewN n) := ⟨h.os, h.tape, h.output, h.size, h.block⟩
theorem Gb.setCell {g : Nat} {w w' : World} (h : Gb g w w') (k : Nat) (v : Value) : Gb g w (w'.setCell ⟨g, k, none⟩ v) :=
  ⟨h.os, h.tape, h.output, by simpa using h.size, fun j hj hn => by
    rw [Below.heap_setCell _ _ _ _ (fun e => hn (by rw [e]))]; exact h.block j hj hn⟩
theorem Gb.on {g N : Nat} {w0 w w' : World} (h : Gb g w w') (hb : Below N w0 w) (hN : N ≤ g) (hN0 : N ≤ w0.heap.size) : Below N w0 w' :=
  ⟨h.os.trans hb.os, h.tape.trans hb.tape, h.output.trans hb.output, Nat.le_trans hb.size h.size, fun k hk => (h.block k (by have := hb.size; omega) (fun e => by cases e; omega)).trans (hb.block k hk)⟩
end Go.Proofs.Ytcppfoolhkcfaaa
