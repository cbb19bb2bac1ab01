/- Runes and spans behind a slice. -/
import Derived.Test.YtnbonlkmadmpcaaRows
import Derived.Test.YtnbonlkmadmpcaaLk
import Derived.Deep.MidRow
namespace Go.Proofs.Ytnbonlkmadmpcaa
open Go.RowKit Go.BigFrame
set_option linter.unusedVariables false
/-- A fact that the walk does not look through. -/
structure Box' (p : Prop) : Prop where
 out : p
theorem bcell {W w1 : World} {N : Nat} (hb : Below N W w1) : (∀ b o, b < N → w1.cell? ⟨b, o, none⟩ = W.cell? ⟨b, o, none⟩) ∧ (∀ b o, b < N → w1.frozen? ⟨b, o, none⟩ = W.frozen? ⟨b, o, none⟩) :=
 ⟨fun b o h => hb.cell (p := ⟨b, o, none⟩) h, fun b o h => hb.frozen (p := ⟨b, o, none⟩) h⟩
/-- The slice v has the runes l, in a block below N. -/
def Rns (N : Nat) (w : World) (v : Value) (l : List Int) : Prop :=
 ∃ a c, v = .slice a l.length c ∧ l.length ≤ c ∧ (l = [] ∨ ∃ b o, a = some ⟨b, o, none⟩ ∧ b < N ∧
  ∀ k, k < l.length → w.cell? ⟨b, o + k, none⟩ = some (.int .i32 (l.getD k 0)))
theorem Rns.below {N M : Nat} {w w' : World} {v : Value} {l : List Int} (h : Rns N w v l) (hb : Below M w w') (hN : N ≤ M) : Rns N w' v l := by
 obtain ⟨a, c, h1, h2, h4⟩ := h
 refine ⟨a, c, h1, h2, ?_⟩
 rcases h4 with h4 | ⟨b, o, h5, h6, h7⟩
 ·exact .inl h4
 ·refine .inr ⟨b, o, h5, h6, fun k hk => ?_⟩
  rw [hb.cell (p := ⟨b, o + k, none⟩) (by show b < M; omega)]
  exact h7 k hk
theorem Rns.up {N M : Nat} {w : World} {v : Value} {l : List Int} (h : Rns N w v l) (hN : N ≤ M) : Rns M w v l := by
 obtain ⟨a, c, h1, h2, h4⟩ := h
 refine ⟨a, c, h1, h2, ?_⟩
 rcases h4 with h4 | ⟨b, o, h5, h6, h7⟩
 ·exact .inl h4
 ·exact .inr ⟨b, o, h5, by omega, h7⟩
/-- The slice v has the spans l, in a block below N. -/
def Sps (N : Nat) (w : World) (v : Value) (l : List (Int × Int)) : Prop :=
 ∃ a c, v = .slice a l.length c ∧ l.length ≤ c ∧ (l = [] ∨ ∃ b o, a = some ⟨b, o, none⟩ ∧ b < N ∧
  ∀ k, k < l.length → w.cell? ⟨b, o + k * 2, none⟩ = some (.int .i32 (l.getD k (0, 0)).1) ∧ w.cell? ⟨b, o + k * 2 + 1, none⟩ = some (.int .i32 (l.getD k (0, 0)).2))
theorem Sps.below {N M : Nat} {w w' : World} {v : Value} {l : List (Int × Int)} (h : Sps N w v l) (hb : Below M w w') (hN : N ≤ M) : Sps N w' v l := by
 obtain ⟨a, c, h1, h2, h4⟩ := h
 refine ⟨a, c, h1, h2, ?_⟩
 rcases h4 with h4 | ⟨b, o, h5, h6, h7⟩
 ·exact .inl h4
 ·refine .inr ⟨b, o, h5, h6, fun k hk => ?_⟩
  rw [hb.cell (p := ⟨b, o + k * 2, none⟩) (by show b < M; omega), hb.cell (p := ⟨b, o + k * 2 + 1, none⟩) (by show b < M; omega)]
  exact h7 k hk
theorem Sps.up {N M : Nat} {w : World} {v : Value} {l : List (Int × Int)} (h : Sps N w v l) (hN : N ≤ M) : Sps M w v l := by
 obtain ⟨a, c, h1, h2, h4⟩ := h
 refine ⟨a, c, h1, h2, ?_⟩
 rcases h4 with h4 | ⟨b, o, h5, h6, h7⟩
 ·exact .inl h4
 ·exact .inr ⟨b, o, h5, by omega, h7⟩
/-- The cells of spans. -/
def spC (l : List (Int × Int)) : List Value := l.flatMap fun p => [.int .i32 p.1, .int .i32 p.2]
def spA (l : List (Int × Int)) : Array Value := (spC l).toArray
theorem spC_len (l : List (Int × Int)) : (spC l).length = 2 * l.length := by
 induction l with
 | nil => rfl
 | cons p l ih => simp only [spC, List.flatMap_cons, List.length_append, List.length_cons, List.length_nil] at *; omega
theorem spC_get : ∀ (l : List (Int × Int)) (k : Nat), k < l.length → (spC l)[k * 2]? = some (.int .i32 (l.getD k (0, 0)).1) ∧ (spC l)[k * 2 + 1]? = some (.int .i32 (l.getD k (0, 0)).2)
 | p :: l, 0, _ => by simp [spC]
 | p :: l, k + 1, h => by
  have ih := spC_get l k (by simpa using h)
  rw [show (k + 1) * 2 = k * 2 + 2 by omega]
  simpa [spC] using ih
theorem spA_one (l : List (Int × Int)) : (spA l).all (·.oneCell') = true := by
 rw [Array.all_eq_true_iff_forall_mem]; intro v hv
 simp only [spA, spC, List.mem_toArray, List.mem_flatMap] at hv
 obtain ⟨x, _, hx⟩ := hv
 simp at hx
 rcases hx with rfl | rfl <;> rfl
theorem Row.sps {w : World} {g : Nat} {t : TypeId} {l : List (Int × Int)} {n : Nat} (h : Row w g t (spA l)) (hn : l.length = n) : Sps w.heap.size w (.slice (some ⟨g, 0, none⟩) n n) l :=
 ⟨_, _, by rw [hn], by omega, .inr ⟨g, 0, rfl, h.lt, fun k hk => by
  have := spC_get l k hk
  rw [Nat.zero_add, h.cell, h.cell]
  simpa [spA] using this⟩⟩
end Go.Proofs.Ytnbonlkmadmpcaa
