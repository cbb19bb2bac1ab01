/- The program's receiver, how it lies; whether it is there; its last state; where a number stands. -/
import Derived.Test.YtikkekdmahdgaaaUa
import Derived.Test.YtikkekdmahdgaaaTc
namespace Go.Proofs.Ytikkekdmahdgaaa
open Go.RowKit Go.BigFrame
set_option linter.unusedSimpArgs false
set_option linter.unusedVariables false
set_option maxRecDepth 100000
set_option maxHeartbeats 4000000

def r2 (x : Rw) : List Value := [uV x.n, sT x.t]
def rows2 (l : List Rw) : List Value := (l.map r2).flatten
theorem rows2_len (l : List Rw) : (rows2 l).length = l.length * 2 := by
  induction l with
  | nil => rfl
  | cons x r ih =>
    have : rows2 (x :: r) = r2 x ++ rows2 r := rfl
    rw [this, List.length_append, ih]
    simp [r2]
    omega
theorem rows2_app (a b : List Rw) : rows2 (a ++ b) = rows2 a ++ rows2 b := by simp [rows2]
theorem rows2_at (l : List Rw) (k : Nat) (h : k < l.length) : (rows2 l)[k * 2]? = some (uV (l.getD k Rw.zero).n) ∧ (rows2 l)[k * 2 + 1]? = some (sT (l.getD k Rw.zero).t) := by
  have e : l = l.take k ++ [l.getD k Rw.zero] ++ l.drop (k + 1) := by
    rw [← take_step l k h, List.take_append_drop]
  have h1 : (rows2 (l.take k)).length = k * 2 := by rw [rows2_len, List.length_take, Nat.min_eq_left (by omega)]
  generalize l.getD k Rw.zero = x at *
  rw [e, rows2_app, rows2_app, List.append_assoc]
  refine ⟨?_, ?_⟩
  · rw [List.getElem?_append_right (by omega), h1, Nat.sub_self]
    rfl
  · rw [List.getElem?_append_right (by omega), h1, show k * 2 + 1 - k * 2 = 1 by omega]
    rfl
theorem rows2_drop (l : List Rw) (k : Nat) : (rows2 l).drop (k * 2) = rows2 (l.drop k) := by
  induction k generalizing l with
  | zero => simp
  | succ k ih =>
    cases l with
    | nil => rfl
    | cons x r =>
      have : rows2 (x :: r) = r2 x ++ rows2 r := rfl
      rw [this, show (k + 1) * 2 = 2 + k * 2 by omega, ← List.drop_drop, List.drop_left' (by rfl), ih]
      rfl
theorem rows2_take (l : List Rw) (k : Nat) : (rows2 l).take (k * 2) = rows2 (l.take k) := by
  induction k generalizing l with
  | zero => simp [rows2]
  | succ k ih =>
    cases l with
    | nil => rfl
    | cons x r =>
      have : rows2 (x :: r) = r2 x ++ rows2 r := rfl
      rw [this, show (k + 1) * 2 = 2 + k * 2 by omega, List.take_add, List.take_left' (by rfl), List.drop_left' (by rfl), ih]
      rfl
/-- The block g begins with the numbered states l. -/
def NbR (w : World) (g : Nat) (l : List Rw) : Prop := g < w.heap.size ∧ ∀ j u, (rows2 l)[j]? = some u → w.cell? ⟨g, j, none⟩ = some u
theorem NbR.same {w w' : World} {g : Nat} {l : List Rw} (h : NbR w g l) (hk : w'.heap[g]? = w.heap[g]?) : NbR w' g l := by
  refine ⟨?_, fun j u hu => ?_⟩
  · have h1 := Array.getElem?_eq_getElem h.1
    rw [h1] at hk
    exact (Array.getElem?_eq_some_iff.1 hk).1
  · have := h.2 j u hu
    simp only [World.cell?, hk] at *
    exact this
theorem NbR.below {w w' : World} {g : Nat} {l : List Rw} (h : NbR w g l) (hb : Below w.heap.size w w') : NbR w' g l := h.same (hb.block g h.1)
theorem NbR.at {w : World} {g : Nat} {l : List Rw} (h : NbR w g l) (k : Nat) (hk : k < l.length) : w.cell? ⟨g, k * 2, none⟩ = some (.int .u64 ((l.getD k Rw.zero).n.toNat : Int)) ∧ w.cell? ⟨g, k * 2 + 1, none⟩ = some (.string ⟨(l.getD k Rw.zero).t.toArray⟩) := ⟨h.2 _ _ (rows2_at l k hk).1, h.2 _ _ (rows2_at l k hk).2⟩
/-- How the program's receiver lies: itself in the block p, its states in the block g. -/
def RecR (w : World) (F : Nat → Prop) (p : Nat) (l : List Rw) : Prop := ∃ g c, F = (fun k => k = p ∨ k = g) ∧ p ≠ g ∧ l.length ≤ c ∧ Row w p 93 #[.slice (some ⟨g, 0, none⟩) l.length c] ∧ NbR w g l ∧ Rise l ∧ 0 < l.length ∧ l.length ≤ 1048576
theorem recR_keep : KeepR RecR := ⟨fun w w' F p s ⟨g, c, e, h1, h2, h3, h4, h5⟩ hk => by
    subst e
    exact ⟨g, c, rfl, h1, h2, h3.same (hk p (.inl rfl)), h4.same (hk g (.inr rfl)), h5⟩,
  fun w F p s ⟨g, c, e, h1, h2, h3, h4, h5⟩ k hk => by
    subst e
    rcases hk with rfl | rfl
    · exact h3.lt
    · exact h4.1⟩
theorem rthere_any (p n c : Nat) (a : Option Addr) (w : World) (h : w.cell? ⟨p, 0, none⟩ = some (.slice a n c)) (hn : 0 < n) : Calls Try.prog 34 #[.pointer (some ⟨p, 0, none⟩)] w fun e w' => e = .returned (.bool true) ∧ w' = w := by
  go_enter Try.func34, Try.ntmps34
  go_wp2_with fail
  go_ret
  exact ⟨by first | (simp; done) | (simp; omega), rfl⟩
theorem rthere_nil (w : World) : Calls Try.prog 34 #[.pointer none] w fun e w' => e = .returned (.bool false) ∧ w' = w := by
  go_enter Try.func34, Try.ntmps34
  go_wp2_with fail
  go_ret
  exact ⟨rfl, rfl⟩
def cmpF (a b : Nat) : Int := if a < b then -1 else if b < a then 1 else 0
theorem isNaN_any (a : Nat) (w : World) : Calls Try.prog 53 #[.int .u64 (a : Int)] w fun e w' => e = .returned (.bool false) ∧ w' = w := by
  go_enter Try.func53, Try.ntmps53
  go_wp2_with fail
  go_ret
  exact ⟨by simp, rfl⟩
theorem compare_any (a b : Nat) (w : World) : Calls Try.prog 49 #[.int .u64 (a : Int), .int .u64 (b : Int)] w fun e w' => e = .returned (.int .i64 (cmpF a b)) ∧ w' = w := by
  have ia := isNaN_any a w
  have ib := isNaN_any b w
  go_enter Try.func49, Try.ntmps49
  go_wp2_with fail
  refine ia.mono ?_
  rintro e w1 ⟨rfl, ew⟩
  obtain rfl : w = w1 := ew.symm
  clear ia ew
  go_wp2_with fail
  refine ib.mono ?_
  rintro e w1 ⟨rfl, ew⟩
  obtain rfl : w = w1 := ew.symm
  clear ib ew
  by_cases h1 : a < b
  · have e1 : Box' (cmpF a b = -1) := ⟨by unfold cmpF; rw [if_pos h1]⟩
    go_wp2_with fail
    go_ret
    exact ⟨by rw [e1.out]; rfl, rfl⟩
  · by_cases h2 : b < a
    · have e1 : Box' (cmpF a b = 1) := ⟨by unfold cmpF; rw [if_neg h1, if_pos h2]⟩
      go_wp2_with fail
      go_ret
      exact ⟨by rw [e1.out]; rfl, rfl⟩
    · have e1 : Box' (cmpF a b = 0) := ⟨by unfold cmpF; rw [if_neg h1, if_neg h2]⟩
      go_wp2_with fail
      go_ret
      exact ⟨by rw [e1.out]; rfl, rfl⟩
theorem find1_any (a b : Nat) (t : List UInt8) (w : World) : Calls Try.prog 48 #[.agg #[.int .u64 (a : Int), .string ⟨t.toArray⟩], .int .u64 (b : Int)] w fun e w' => e = .returned (.int .i64 (cmpF a b)) ∧ Below w.heap.size w w' := by
  have cm := compare_any a b (w.alloc (.cells #[.int .u64 (a : Int), .string ⟨t.toArray⟩] 90))
  have HB : Box' (Below w.heap.size w (w.alloc (.cells #[.int .u64 (a : Int), .string ⟨t.toArray⟩] 90))) := ⟨(Below.refl _ _).alloc (Nat.le_refl _) _⟩
  go_enter Try.func48, Try.ntmps48
  go_wp2_with fail
  refine cm.mono ?_
  rintro e w1 ⟨rfl, rfl⟩
  clear cm
  go_wp2_with fail
  go_ret
  exact ⟨rfl, HB.out⟩
end Go.Proofs.Ytikkekdmahdgaaa
