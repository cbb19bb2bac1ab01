/- The walk of symMerge, for numbers, whole; the walks of stable and SortStableFunc, for numbers. -/
import Derived.Test.YtcppfoolhkcfaaaKi
namespace Go.Proofs.Ytcppfoolhkcfaaa
open Go.RowKit Go.BigFrame

theorem symI_any (g c B pb N : Nat) (w0 : World) (k : Int → Int) (S : Int → Prop) (hcmp : CmpI B w0 pb k S) (hB : B ≤ g) (hB0 : B ≤ w0.heap.size) (hN2 : N ≤ 4096) :
    ∀ (T : Nat) (A X Y Z : List Int) (a m b : Nat), X.length + Y.length < T → (∀ x ∈ X, S x) → (∀ y ∈ Y, S y) → Gs.Srt k X → Gs.Srt k Y → A.length = a → a + X.length = m → m + Y.length = b → N = b + Z.length → 0 < X.length → 0 < Y.length → ∀ w, Below B w0 w → SegI w g (A ++ (X ++ (Y ++ Z))) →
      Calls Try.prog 57 #[.slice (some ⟨g, 0, none⟩) N c, .int .i64 (a : Int), .int .i64 (m : Int), .int .i64 (b : Int), cfI pb] w fun e w' => e = .returned (.tuple #[]) ∧ SegI w' g (A ++ (Gs.mg k X Y ++ Z)) ∧ Gb g w w'
  | 0, _, X, Y, _, _, _, _, hT, _, _, _, _, _, _, _, _, _, _, _, _, _ => by omega
  | T + 1, A, X, Y, Z, a, m, b, hT, hSX, hSY, hX, hY, ha, hm, hb, hN, hX0, hY0, w, hbl, h => by
    by_cases h1 : X.length = 1
    · obtain ⟨x, rfl⟩ := List.length_eq_one_iff.1 h1
      exact symI_left g c B pb w0 k S hcmp hB hB0 A x Y Z a m b N (hSX x (by simp)) hSY hY ha hm hb hN hN2 w hbl h
    · by_cases h2 : Y.length = 1
      · obtain ⟨y, rfl⟩ := List.length_eq_one_iff.1 h2
        exact symI_right g c B pb w0 k S hcmp hB hB0 A y X Z a m b N (hSY y (by simp)) hSX hX ha hm (by omega) hb hN hN2 w hbl h
      · have IH := symI_any g c B pb N w0 k S hcmp hB hB0 hN2 T
        by_cases h3 : (a + b) / 2 < m
        · exact symI_hi g c B pb w0 k S hcmp hB hB0 A X Y Z a m b N ((a + b) / 2) hSX hSY hX hY ha hm (by omega) (by omega) hb hN hN2 (by omega) (by omega) h3 _ rfl (fun A' X' Y' Z' a' m' b' h' => IH A' X' Y' Z' a' m' b' (by omega)) w hbl h
        · exact symI_lo g c B pb w0 k S hcmp hB hB0 A X Y Z a m b N ((a + b) / 2) hSX hSY hX hY ha hm (by omega) (by omega) hb hN hN2 (by omega) (by omega) (by omega) _ rfl (fun A' X' Y' Z' a' m' b' h' => IH A' X' Y' Z' a' m' b' (by omega)) w hbl h

theorem results52 (T : Array Value) (w : World) : (results Try.f52 T).run Try.prog w = .ok (.tuple #[]) w := by
  unfold results
  simp [go_sem]
theorem results48 (T : Array Value) (w : World) : (results Try.f48 T).run Try.prog w = .ok (.tuple #[]) w := by
  unfold results
  simp [go_sem]

theorem blk_step (k : Int → Int) (f : Nat) (l : List Int) (h : 20 ≤ l.length) : Gs.blk k (f + 1) l = Gs.isr k (l.take 20) ++ Gs.blk k f (l.drop 20) := by
  show (if 20 ≤ l.length then _ else _) = _; rw [if_pos h]
theorem blk_last (k : Int → Int) (f : Nat) (l : List Int) (h : l.length < 20) : Gs.blk k f l = Gs.isr k l := by
  cases f with
  | zero => rfl
  | succ f => show (if 20 ≤ l.length then _ else _) = _; rw [if_neg (by omega)]
theorem pass_step (k : Int → Int) (b f : Nat) (l : List Int) (h : 2 * b ≤ l.length) : Gs.pass k b (f + 1) l = Gs.mg k (l.take b) ((l.drop b).take b) ++ Gs.pass k b f (l.drop (2 * b)) := by
  show (if 2 * b ≤ l.length then _ else _) = _; rw [if_pos h]
theorem pass_last (k : Int → Int) (b f : Nat) (l : List Int) (h : ¬ 2 * b ≤ l.length) (hf : l.length ≤ f) : Gs.pass k b f l = if b < l.length then Gs.mg k (l.take b) (l.drop b) else l := by
  cases f with
  | zero =>
    have : l = [] := List.eq_nil_of_length_eq_zero (by omega)
    subst this; simp [Gs.pass]
  | succ f => show (if 2 * b ≤ l.length then _ else _) = _; rw [if_neg h]
end Go.Proofs.Ytcppfoolhkcfaaa
