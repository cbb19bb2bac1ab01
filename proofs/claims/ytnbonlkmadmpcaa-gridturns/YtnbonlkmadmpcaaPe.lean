/- The reference's In. -/
import Derived.Test.YtnbonlkmadmpcaaN
import Derived.BigRegion
import Derived.BigQuiet
namespace Go.Proofs.Ytnbonlkmadmpcaa
open Go.RowKit Go.BigFrame
set_option linter.unusedVariables false
set_option linter.unusedSimpArgs false
set_option maxHeartbeats 1000000 in
theorem refIn_any (v : Value) (l : List (Int × Int)) (hl : l.length ≤ 140737488355328) (c : Int) (w : World) (h : Sps w.heap.size w v l) :
  Calls Try.prog 62 #[v, .int .i32 c] w fun e w' => e = .returned (.bool (inF l c)) ∧ w' = w := by
 obtain ⟨a, cp, rfl, hc, h3⟩ := h
 have hcl : ∀ k, k < l.length → ∃ b o, a = some ⟨b, o, none⟩ ∧ b < w.heap.size ∧ w.cell? ⟨b, o + k * 2, none⟩ = some (.int .i32 (l.getD k (0, 0)).1) ∧ w.cell? ⟨b, o + k * 2 + 1, none⟩ = some (.int .i32 (l.getD k (0, 0)).2) := by
  intro k hk
  rcases h3 with rfl | ⟨b, o, rfl, h5, h6⟩
  ·simp at hk
  exact ⟨b, o, rfl, h5, h6 k hk⟩
 have HCL := Box'.mk hcl
 have YES : Box' (∀ k, k < l.length → (l.getD k (0, 0)).1 ≤ c → c ≤ (l.getD k (0, 0)).2 → inF l c = true) := ⟨fun k hk h1 h2 => (in_iff l c).2 ⟨k, hk, h1, h2⟩⟩
 have NO : Box' ((∀ k, k < l.length → ¬ ((l.getD k (0, 0)).1 ≤ c ∧ c ≤ (l.getD k (0, 0)).2)) → inF l c = false) := ⟨in_none⟩
 generalize hn : l.length = n at *
 clear hcl h3 hn
 go_enter Try.func62, Try.ntmps62
 go_wp2_with fail
 go_loopw [5] (fun i wr => ∃ k : Nat, k ≤ n ∧ i = .int .i64 (k : Int) ∧ Box' (∀ j, j < k → ¬ ((l.getD j (0, 0)).1 ≤ c ∧ c ≤ (l.getD j (0, 0)).2)) ∧ wr = w) (fun i _ => n - (intOf i).toNat)
 case atStart => exact ⟨0, by omega, rfl, ⟨fun j hj => by omega⟩, rfl⟩
 case round =>
  obtain ⟨k, hk, rfl, HM, hbl⟩ := hrel
  subst hbl
  by_cases hlt : k < n
  ·obtain ⟨b, o, rfl, hbw, c0, c1⟩ := HCL.out k hlt
   have YK := Box'.mk (YES.out k hlt)
   have HK : Box' (¬ ((l.getD k (0, 0)).1 ≤ c ∧ c ≤ (l.getD k (0, 0)).2) → ∀ j, j < k + 1 → ¬ ((l.getD j (0, 0)).1 ≤ c ∧ c ≤ (l.getD j (0, 0)).2)) := ⟨fun h j hj => by
    by_cases e : j = k
    ·subst e; exact h
    ·exact HM.out j (by omega)⟩
   generalize l.getD k (0, 0) = x at *
   obtain ⟨x0, x1⟩ := x
   simp only at c0 c1
   by_cases h1 : x0 ≤ c
   ·by_cases h2 : c ≤ x1
    ·have e := Box'.mk (YK.out h1 h2)
     clear HCL YES NO YK HK HM
     go_wp2_with fail
     go_ret
     exact ⟨by rw [e.out]; rfl, rfl⟩
    ·have e := Box'.mk (HK.out (fun h => h2 h.2))
     clear HCL YES NO YK HK HM
     go_wp2_with fail
     refine ⟨⟨k + 1, by omega, by go_num, e, trivial⟩, by simp [intOf]; omega⟩
   ·have e := Box'.mk (HK.out (fun h => h1 h.1))
    clear HCL YES NO YK HK HM
    go_wp2_with fail
    refine ⟨⟨k + 1, by omega, by go_num, e, trivial⟩, by simp [intOf]; omega⟩
  ·obtain rfl : k = n := by omega
   have e := Box'.mk (NO.out HM.out)
   clear HCL YES NO HM
   go_wp2_with fail
   go_ret
   exact ⟨by rw [e.out]; rfl, rfl⟩
end Go.Proofs.Ytnbonlkmadmpcaa
