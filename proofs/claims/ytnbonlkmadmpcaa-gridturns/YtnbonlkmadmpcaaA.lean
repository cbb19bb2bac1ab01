/- Cells: Put, half. -/
import Derived.Test.YtnbonlkmadmpcaaV
import Derived.Test.YtnbonlkmadmpcaaI
namespace Go.Proofs.Ytnbonlkmadmpcaa
open Go.RowKit Go.BigFrame
set_option linter.unusedVariables false
set_option linter.unusedSimpArgs false
structure Cl where
 ch : Int
 m0 : Int
 m1 : Int
 m2 : Int
 wd : Nat
 st : St
/-- The cells of a cell. -/
def cA (x : Cl) : Array Value := #[.int .i32 x.ch, .int .i32 x.m0, .int .i32 x.m1, .int .i32 x.m2, .int .u8 (x.wd : Int), .int .i64 x.st.fg, .int .i64 x.st.bg, .bool x.st.b1, .bool x.st.b2, .bool x.st.b3, .bool x.st.b4, .bool x.st.b5, .bool x.st.b7, .bool x.st.b8, .bool x.st.b9]
def hf (s : St) : Cl := ⟨0, 0, 0, 0, 0, s⟩
theorem results23 (tmps : Array Value) (b : Nat) (hx : tmps.getD 2 undef = .pointer (some ⟨b, 0, none⟩)) (w : World) (c : Array Value) (hr : Row w b 49 c) (hn : c.size = 15) : (results Try.f56 tmps).run Try.prog w = .ok (.agg c) w :=
 results_row (p := 2) (ty := 49) rfl tmps b hx 49 c hr _ Try.underlying49 rfl 15 s26 hn
set_option maxHeartbeats 4000000 in
theorem half_any (s : St) (w : World) : Calls Try.prog 56 #[.agg (sA s)] w fun e w' => e = .returned (.agg (cA (hf s))) ∧ Below w.heap.size w w' := by
 obtain ⟨fg, bg, y1, y2, y3, y4, y5, y7, y8, y9⟩ := s
 unfold sA cA hf
 simp only
 go_enter Try.func56, Try.ntmps56
 go_wp2_with fail
 exact bodyPost_ret (results23 _ (w.heap.size + 1) rfl _ _ (Row.made _ _ _ _ _ rfl (by simp)) rfl) rfl ⟨rfl, ((Below.refl w.heap.size w).alloc (Nat.le_refl _) _).alloc (by simp) _⟩
/-- The slice v has the cells l, in a block below N. -/
def Cls (N : Nat) (w : World) (v : Value) (l : List Cl) : Prop :=
 ∃ a c, v = .slice a l.length c ∧ l.length ≤ c ∧ (l = [] ∨ ∃ b o, a = some ⟨b, o, none⟩ ∧ b < N ∧
  ∀ k, k < l.length → ∀ j, j < 15 → w.cell? ⟨b, o + k * 15 + j, none⟩ = (cA (l.getD k (hf pl)))[j]?)
theorem Cls.below {N M : Nat} {w w' : World} {v : Value} {l : List Cl} (h : Cls N w v l) (hb : Below M w w') (hN : N ≤ M) : Cls N w' v l := by
 obtain ⟨a, c, h1, h2, h4⟩ := h
 refine ⟨a, c, h1, h2, ?_⟩
 rcases h4 with h4 | ⟨b, o, h5, h6, h7⟩
 ·exact .inl h4
 ·refine .inr ⟨b, o, h5, h6, fun k hk j hj => ?_⟩
  rw [hb.cell (p := ⟨b, o + k * 15 + j, none⟩) (by show b < M; omega)]
  exact h7 k hk j hj
theorem Cls.up {N M : Nat} {w : World} {v : Value} {l : List Cl} (h : Cls N w v l) (hN : N ≤ M) : Cls M w v l := by
 obtain ⟨a, c, h1, h2, h4⟩ := h
 refine ⟨a, c, h1, h2, ?_⟩
 rcases h4 with h4 | ⟨b, o, h5, h6, h7⟩
 ·exact .inl h4
 ·exact .inr ⟨b, o, h5, by omega, h7⟩
end Go.Proofs.Ytnbonlkmadmpcaa
