/- Slices of cells, cut. -/
import Derived.Test.YtnbonlkmadmpcaaMb
namespace Go.Proofs.Ytnbonlkmadmpcaa
open Go.RowKit Go.BigFrame
set_option linter.unusedVariables false
set_option linter.unusedSimpArgs false
theorem size26 (w : World) : (sizeOf 49).run Try.prog w = .ok 15 w := by
 have := s26
 cases hq : Try.prog.info? 49 with
 | none => simp [hq] at this
 | some i => simp [hq] at this; simp [sizeOf, typeInfo, hq, this]
/-- x[lo:hi] -/
theorem run_cutC (b o n c lo hi : Nat) (h : lo ≤ hi) (h2 : hi ≤ c) (h3 : lo < c) (w : World) : (Instr.sliceAt 22 (.slice (some ⟨b, o, none⟩) n c) (some (.int .i64 (lo : Int))) (some (.int .i64 (hi : Int))) none).run Try.prog w = .ok (.slice (some ⟨b, o + lo * 15, none⟩) (hi - lo) (c - lo)) w := by
 have e : Try.prog.elem 22 = 49 := by kernel_rfl
 rw [run_sliceAt_slice w 22 _ _ _ _ (by kernel_rfl), run_slice_lh w 22 _ n c (by kernel_rfl) _ _ _ _ (by omega) (by omega) (by omega), e, size26]
 simp only [Result.andThen_ok, Int.toNat_natCast, sliced, if_neg (show ¬ c = lo by omega), Option.map_some, Addr.add_mid]
/-- x[lo:hi:hi] -/
theorem run_cutC3 (b o n c lo hi mx : Nat) (h : lo ≤ hi) (h2 : hi ≤ mx) (h4 : mx ≤ c) (h3 : lo < mx) (w : World) : (Instr.sliceAt 22 (.slice (some ⟨b, o, none⟩) n c) (some (.int .i64 (lo : Int))) (some (.int .i64 (hi : Int))) (some (.int .i64 (mx : Int)))).run Try.prog w = .ok (.slice (some ⟨b, o + lo * 15, none⟩) (hi - lo) (mx - lo)) w := by
 have e : Try.prog.elem 22 = 49 := by kernel_rfl
 rw [run_sliceAt_slice w 22 _ _ _ _ (by kernel_rfl), run_slice_lhm w 22 _ n c (by kernel_rfl) _ _ _ _ _ _ (by omega) (by omega) (by omega) (by omega), e, size26]
 simp only [Result.andThen_ok, Int.toNat_natCast, sliced, if_neg (show ¬ mx = lo by omega), Option.map_some, Addr.add_mid]
/-- A part of cells that lie behind a slice. -/
theorem Cls.cut {N : Nat} {w : World} {b o n c : Nat} {l : List Cl} (h : Cls N w (.slice (some ⟨b, o, none⟩) n c) l) (lo m c' : Nat) (hm : lo + m ≤ l.length) (hc : m ≤ c') : Cls N w (.slice (some ⟨b, o + lo * 15, none⟩) m c') ((l.drop lo).take m) := by
 have hl : ((l.drop lo).take m).length = m := by rw [List.length_take, List.length_drop]; omega
 obtain ⟨a, c2, e, hc2, h3⟩ := h
 simp only [Value.slice.injEq] at e
 obtain ⟨rfl, rfl, rfl⟩ := e
 refine ⟨_, _, by rw [hl], by rw [hl]; exact hc, ?_⟩
 by_cases h0 : m = 0
 ·exact .inl (List.eq_nil_of_length_eq_zero (by rw [hl, h0]))
 rcases h3 with rfl | ⟨b', o', e', h6, h7⟩
 ·simp at hm; omega
 simp only [Option.some.injEq, Addr.mk.injEq, and_true] at e'
 obtain ⟨rfl, rfl⟩ := e'
 refine .inr ⟨b, o + lo * 15, rfl, h6, fun k hk j hj => ?_⟩
 rw [hl] at hk
 rw [show o + lo * 15 + k * 15 + j = o + (lo + k) * 15 + j by rw [Nat.add_mul]; omega, h7 (lo + k) (by omega) j hj]
 congr 2
 simp [List.getElem?_take_of_lt hk]
end Go.Proofs.Ytnbonlkmadmpcaa
