/- Coins in a block of one's own, turned about. -/
import Derived.Test.YtcppfoolhkcfaaaKl
namespace Go.Proofs.Ytcppfoolhkcfaaa
open Go.RowKit Go.BigFrame

abbrev Cn := Int × Bool
def evC (x : Cn) : Value := .agg #[.int .i64 x.1, .bool x.2]
def CellC (W : World) (g u : Nat) (x : Cn) : Prop := W.cell? ⟨g, u * 2, none⟩ = some (.int .i64 x.1) ∧ W.cell? ⟨g, u * 2 + 1, none⟩ = some (.bool x.2)
theorem CellC.a {W : World} {g u : Nat} {x : Cn} (h : CellC W g u x) : W.cell? ⟨g, u * 2, none⟩ = some (.int .i64 x.1) := h.1
theorem CellC.b {W : World} {g u : Nat} {x : Cn} (h : CellC W g u x) : W.cell? ⟨g, u * 2 + 1, none⟩ = some (.bool x.2) := h.2
/-- The block g begins with the coins l. -/
def SegC (w : World) (g : Nat) (l : List Cn) : Prop := ∃ cur, Row w g 87 cur ∧ ∀ k, k < l.length → cur[k * 2]? = some (.int .i64 (l.getD k (0, false)).1) ∧ cur[k * 2 + 1]? = some (.bool (l.getD k (0, false)).2)
theorem SegC.cell {w : World} {g : Nat} {l : List Cn} (h : SegC w g l) {k : Nat} (hk : k < l.length) : CellC w g k (l.getD k (0, false)) := by
  obtain ⟨cur, h1, h2⟩ := h
  unfold CellC
  rw [h1.cell, h1.cell]; exact h2 k hk
theorem SegC.frozen {w : World} {g : Nat} {l : List Cn} (h : SegC w g l) (k : Nat) : w.frozen? ⟨g, k * 2, none⟩ = false ∧ w.frozen? ⟨g, k * 2 + 1, none⟩ = false := by
  obtain ⟨cur, h1, h2⟩ := h
  exact ⟨h1.frozen _, h1.frozen _⟩
theorem SegC.lt {w : World} {g : Nat} {l : List Cn} (h : SegC w g l) : g < w.heap.size := let ⟨_, h1, _⟩ := h; h1.lt
theorem SegC.set {w : World} {g : Nat} {l : List Cn} (h : SegC w g l) (k : Nat) (x : Cn) (hk : k < l.length) : SegC ((w.setCell ⟨g, k * 2, none⟩ (.int .i64 x.1)).setCell ⟨g, k * 2 + 1, none⟩ (.bool x.2)) g (l.set k x) := by
  obtain ⟨cur, h1, h2⟩ := h
  refine ⟨_, (h1.setCell (k * 2) _).setCell (k * 2 + 1) _, fun j hj => ?_⟩
  rw [List.length_set] at hj
  have hs0 : k * 2 < cur.size := (Array.getElem?_eq_some_iff.1 (h2 k hk).1).1
  have hs1 : k * 2 + 1 < cur.size := (Array.getElem?_eq_some_iff.1 (h2 k hk).2).1
  rw [Array.getElem?_setIfInBounds, Array.getElem?_setIfInBounds, Array.getElem?_setIfInBounds, Array.getElem?_setIfInBounds]
  simp only [Array.size_setIfInBounds]
  by_cases e : k = j
  · subst e
    rw [if_neg (by omega), if_pos rfl, if_pos hs0, if_pos rfl, if_pos hs1]
    simp [hk]
  · rw [if_neg (by omega), if_neg (by omega), if_neg (by omega), if_neg (by omega)]
    have := h2 j hj
    simpa [e] using this
theorem SegC.same {w w' : World} {g : Nat} {l : List Cn} (h : SegC w g l) (e : w'.heap[g]? = w.heap[g]?) : SegC w' g l := by
  obtain ⟨cur, h1, h2⟩ := h
  exact ⟨cur, by unfold Row; rw [e]; exact h1, h2⟩
theorem SegC.below {w w' : World} {g : Nat} {l : List Cn} (h : SegC w g l) (hb : Below w.heap.size w w') : SegC w' g l := h.same (hb.block g h.lt)
theorem SegC.drew {w : World} {g : Nat} {l : List Cn} (h : SegC w g l) : SegC w.drew g l := h
theorem SegC.drewN {w : World} {g : Nat} {l : List Cn} (h : SegC w g l) (n : Nat) : SegC (w.drewN n) g l := h
theorem SegC.swap {w : World} {g : Nat} {A M Z : List Cn} {x y : Cn} (h : SegC w g (A ++ x :: (M ++ y :: Z))) (i j : Nat) (hi : i = A.length) (hj : j = A.length + 1 + M.length) :
    SegC ((((w.setCell ⟨g, i * 2, none⟩ (.int .i64 y.1)).setCell ⟨g, i * 2 + 1, none⟩ (.bool y.2)).setCell ⟨g, j * 2, none⟩ (.int .i64 x.1)).setCell ⟨g, j * 2 + 1, none⟩ (.bool x.2)) g (A ++ y :: (M ++ x :: Z)) := by
  subst hi hj
  have h1 := h.set A.length y (by simp)
  rw [set_mid] at h1
  have h2 := h1.set (A.length + 1 + M.length) x (by simp; omega)
  have e : (A ++ y :: (M ++ y :: Z)) = (A ++ y :: M) ++ y :: Z := by simp
  have e2 : (A ++ y :: (M ++ y :: Z)).set (A.length + 1 + M.length) x = A ++ y :: (M ++ x :: Z) := by
    rw [e, show A.length + 1 + M.length = (A ++ y :: M).length by simp; omega, set_mid]; simp
  rw [e2] at h2
  exact h2
theorem SegC.swap' {w : World} {g : Nat} {A M Z : List Cn} {x y : Cn} (h : SegC w g (A ++ x :: (M ++ y :: Z))) (i j : Nat) (hi : i = A.length) (hj : j = A.length + 1 + M.length) :
    SegC ((((w.setCell ⟨g, j * 2, none⟩ (.int .i64 x.1)).setCell ⟨g, j * 2 + 1, none⟩ (.bool x.2)).setCell ⟨g, i * 2, none⟩ (.int .i64 y.1)).setCell ⟨g, i * 2 + 1, none⟩ (.bool y.2)) g (A ++ y :: (M ++ x :: Z)) := by
  subst hi hj
  have e : (A ++ x :: (M ++ y :: Z)) = (A ++ x :: M) ++ y :: Z := by simp
  have h1 := h.set (A.length + 1 + M.length) x (by simp; omega)
  have e2 : (A ++ x :: (M ++ y :: Z)).set (A.length + 1 + M.length) x = A ++ x :: (M ++ x :: Z) := by
    rw [e, show A.length + 1 + M.length = (A ++ x :: M).length by simp; omega, set_mid]; simp
  rw [e2] at h1
  have h2 := h1.set A.length y (by simp)
  rw [set_mid] at h2
  exact h2
theorem Gb.setC {g : Nat} {w w' : World} (h : Gb g w w') (k : Nat) (x : Cn) : Gb g w ((w'.setCell ⟨g, k * 2, none⟩ (.int .i64 x.1)).setCell ⟨g, k * 2 + 1, none⟩ (.bool x.2)) := (h.setCell _ _).setCell _ _

/-- The comparing of offered, as a value. -/
def cfC : Value := .func (.func 55) #[] #[]
theorem cmpC_any (x y : Cn) (W : World) : Calls Try.prog 55 #[.agg #[.int .i64 x.1, .bool x.2], .agg #[.int .i64 y.1, .bool y.2]] W fun e w' => e = .returned (.int .i64 (sg x.1 y.1)) ∧ Below W.heap.size W w' := offered1_any x.1 y.1 x.2 y.2 W
def kC (x : Cn) : Int := x.1
end Go.Proofs.Ytcppfoolhkcfaaa
