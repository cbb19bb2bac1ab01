/- What has a width; what is in spans: the program's ways and the reference's. -/
import Derived.Test.YtnbonlkmadmpcaaN
import Derived.BigRegion
namespace Go.Proofs.Ytnbonlkmadmpcaa
open Go.RowKit Go.BigFrame
set_option linter.unusedVariables false
set_option linter.unusedSimpArgs false
set_option maxHeartbeats 1000000 in
theorem hasWidth_any (c : Int) (w : World) : Calls Try.prog 66 #[.int .i32 c] w fun e w' => e = .returned (.bool (hw c)) ∧ w' = w := by
 have H := Box'.mk (show hw c = (decide (32 ≤ c ∧ c ≤ 1114111) && !decide (127 ≤ c ∧ c ≤ 159) && !decide (55296 ≤ c ∧ c ≤ 57343)) from rfl)
 by_cases h1 : c < 32
 ·have := Box'.mk (show hw c = false by rw [H.out]; simp; omega)
  go_enter Try.func66, Try.ntmps66
  go_wp2_with fail
  go_ret
  exact ⟨by rw [this.out]; rfl, rfl⟩
 by_cases h2 : c > 1114111
 ·have := Box'.mk (show hw c = false by rw [H.out]; simp; omega)
  go_enter Try.func66, Try.ntmps66
  go_wp2_with fail
  go_ret
  exact ⟨by rw [this.out]; rfl, rfl⟩
 by_cases h3 : c ≥ 127 ∧ c ≤ 159
 ·have := Box'.mk (show hw c = false by rw [H.out]; simp; omega)
  obtain ⟨h3, h4⟩ := h3
  go_enter Try.func66, Try.ntmps66
  go_wp2_with fail
  go_ret
  exact ⟨by rw [this.out]; rfl, rfl⟩
 by_cases h4 : c ≥ 55296 ∧ c ≤ 57343
 ·have := Box'.mk (show hw c = false by rw [H.out]; simp; omega)
  obtain ⟨h4, h5⟩ := h4
  have h6 : ¬ c ≤ 159 := by omega
  have h7 : c ≥ 127 := by omega
  clear h3
  go_enter Try.func66, Try.ntmps66
  go_wp2_with fail
  go_ret
  exact ⟨by rw [this.out]; rfl, rfl⟩
 ·have := Box'.mk (show hw c = true by rw [H.out]; simp; omega)
  by_cases h5 : c ≥ 127
  ·have h6 : ¬ c ≤ 159 := by omega
   clear h3
   by_cases h7 : c ≥ 55296
   ·have h8 : ¬ c ≤ 57343 := by omega
    clear h4
    go_enter Try.func66, Try.ntmps66
    go_wp2_with fail
    go_ret
    exact ⟨by rw [this.out]; rfl, rfl⟩
   ·clear h4
    go_enter Try.func66, Try.ntmps66
    go_wp2_with fail
    go_ret
    exact ⟨by rw [this.out]; rfl, rfl⟩
  ·have h7 : ¬ c ≥ 55296 := by omega
   clear h3 h4
   go_enter Try.func66, Try.ntmps66
   go_wp2_with fail
   go_ret
   exact ⟨by rw [this.out]; rfl, rfl⟩
end Go.Proofs.Ytnbonlkmadmpcaa
