/- Bytes of their own: the walk of Copy. -/
import Derived.Test.YtepepoabbbjmgaaC
import Derived.Laws.OwnMore
namespace Go.Proofs.Ytepepoabbbjmgaa
open Go.RowKit Go.BigFrame

theorem Row.ownB {w : World} {g N n : Nat} {l : List UInt8} (h : Row w g 5 (ag l)) (hn : l.length = n) (hN : N ≤ g) (hm : n ≤ 1000000) : OwnB N w (.slice (some ⟨g, 0, none⟩) n n) l := by
  subst hn
  exact ⟨by simp, .inr ⟨g, _, ag l, rfl, hN, h, Nat.le_refl _, by unfold maxLen; omega, by rw [ag_size]; omega, by have := List.take_of_length_le (l := l.map B) (i := l.length) (by simp); simpa [ag] using this⟩⟩
end Go.Proofs.Ytepepoabbbjmgaa
