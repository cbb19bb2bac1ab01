/- isFound: spans that rise, found by halving. -/
import Derived.Test.YtnbonlkmadmpcaaN
import Derived.BigRegion
namespace Go.Proofs.Ytnbonlkmadmpcaa
open Go.RowKit Go.BigFrame
set_option linter.unusedVariables false
set_option linter.unusedSimpArgs false
set_option maxHeartbeats 2000000 in
theorem found_any (v : Value) (l : List (Int × Int)) (hl : l.length ≤ 1000000) (hr : Rises l) (c : Int) (w : World) (h : Sps w.heap.size w v l) :
  Calls Try.prog 68 #[v, .int .i32 c] w fun e w' => e = .returned (.bool (inF l c)) ∧ Below w.heap.size w w' := by
 obtain ⟨a, cp, rfl, hc, h3⟩ := h
 have hcl : ∀ k, k < l.length → ∃ b o, a = some ⟨b, o, none⟩ ∧ b < w.heap.size ∧ w.cell? ⟨b, o + k * 2, none⟩ = some (.int .i32 (l.getD k (0, 0)).1) ∧ w.cell? ⟨b, o + k * 2 + 1, none⟩ = some (.int .i32 (l.getD k (0, 0)).2) := by
  intro k hk
  rcases h3 with rfl | ⟨b, o, rfl, h5, h6⟩
  ·simp at hk
  exact ⟨b, o, rfl, h5, h6 k hk⟩
 have HCL := Box'.mk hcl
 have YES : Box' (∀ k, k < l.length → (l.getD k (0, 0)).1 ≤ c → c ≤ (l.getD k (0, 0)).2 → inF l c = true) := ⟨fun k hk h1 h2 => (in_iff l c).2 ⟨k, hk, h1, h2⟩⟩
 have NO : Box' ((∀ k, k < l.length → ¬ ((l.getD k (0, 0)).1 ≤ c ∧ c ≤ (l.getD k (0, 0)).2)) → inF l c = false) := ⟨in_none⟩
 have LO : Box' (∀ m, m < l.length → c < (l.getD m (0, 0)).1 → ∀ j, m ≤ j → j < l.length → c < (l.getD j (0, 0)).1) := ⟨fun m hm h j h1 h2 => by
  have := (hr.le (j - m) m (by omega)).1
  rw [show m + (j - m) = j by omega] at this
  omega⟩
 have HI : Box' (∀ m, m < l.length → (l.getD m (0, 0)).2 < c → ∀ j, j < m + 1 → (l.getD j (0, 0)).2 < c) := ⟨fun m hm h j h1 => by
  have := (hr.le (m - j) j (by omega)).2
  rw [show j + (m - j) = m by omega] at this
  omega⟩
 generalize hn : l.length = n at *
 clear hcl h3 hn hr
 go_enter Try.func68, Try.ntmps68
 go_wp2_with fail
 go_loopw [5, 6] (fun i j wr => ∃ lo hi : Nat, lo ≤ hi ∧ hi ≤ n ∧ i = .int .u64 (lo : Int) ∧ j = .int .u64 (hi : Int) ∧ Box' (∀ j, j < lo → (l.getD j (0, 0)).2 < c) ∧ Box' (∀ j, hi ≤ j → j < n → c < (l.getD j (0, 0)).1) ∧ Below w.heap.size w wr) (fun i j _ => (intOf j).toNat - (intOf i).toNat)
 case atStart => exact ⟨0, n, by omega, by omega, rfl, rfl, ⟨fun j hj => by omega⟩, ⟨fun j h1 h2 => by omega⟩, Below.refl _ _⟩
 case round =>
  obtain ⟨lo, hi, hlh, hhn, rfl, rfl, HL, HH, hbl⟩ := hrel
  by_cases hlt : lo < hi
  ·obtain ⟨m, hm⟩ : ∃ m, m = (lo + hi) / 2 := ⟨_, rfl⟩
   have hm1 : lo ≤ m := by omega
   have hm2 : m < hi := by omega
   have HMM : Box' (m = (lo + hi) / 2) := ⟨hm⟩
   have hmi : ((lo : Int) + (hi : Int)) / 2 = (m : Int) := by omega
   clear hm
   obtain ⟨b, o, rfl, hbw, c0, c1⟩ := HCL.out m (by omega)
   have YK := Box'.mk (YES.out m (by omega))
   have LK := Box'.mk (LO.out m (by omega))
   have HK := Box'.mk (HI.out m (by omega))
   obtain ⟨hc0, -⟩ := bcell hbl
   rw [← hc0 _ _ hbw] at c0 c1
   have hbs := hbl.size
   clear hc0
   generalize l.getD m (0, 0) = x at *
   obtain ⟨x0, x1⟩ := x
   simp only at c0 c1
   have bl2 : Box' (Below w.heap.size w (wr.alloc (.cells #[.int .i32 x0, .int .i32 x1] 79))) := ⟨hbl.alloc hbs _⟩
   by_cases h1 : c < x0
   ·have e := Box'.mk (LK.out h1)
    clear HCL YES NO YK HK LK hbl LO HI HH
    go_wp2_with fail
    refine ⟨⟨lo, m, by omega, by omega, rfl, rfl, HL, e, bl2.out⟩, by simp [intOf]; omega⟩
   ·by_cases h2 : c > x1
    ·have e := Box'.mk (HK.out h2)
     clear HCL YES NO YK HK LK hbl LO HI HL
     go_wp2_with fail
     refine ⟨⟨m + 1, hi, by omega, by omega, by go_num, rfl, e, HH, bl2.out⟩, by simp [intOf]; omega⟩
    ·have e := Box'.mk (YK.out (by omega) (by omega))
     clear HCL YES NO YK HK LK hbl LO HI HL HH
     go_wp2_with fail
     go_ret
     exact ⟨by rw [e.out]; rfl, bl2.out⟩
  ·obtain rfl : lo = hi := by omega
   have e := Box'.mk (NO.out (fun k hk h => by
    by_cases hkl : k < lo
    ·have := HL.out k hkl; omega
    ·have := HH.out k (by omega) hk; omega))
   clear HCL YES NO LO HI HL HH
   go_wp2_with fail
   go_ret
   exact ⟨by rw [e.out]; rfl, hbl⟩
end Go.Proofs.Ytnbonlkmadmpcaa
