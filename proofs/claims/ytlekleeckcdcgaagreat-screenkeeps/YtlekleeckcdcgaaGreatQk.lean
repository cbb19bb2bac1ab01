/- The trial of a grid, walked; GridBack, walked. -/
import Derived.Test.YtlekleeckcdcgaaGreatNm
import Derived.Test.YtlekleeckcdcgaaGreatNp
import Derived.Test.YtlekleeckcdcgaaGreatNl
import Derived.Test.YtlekleeckcdcgaaGreatCa
import Derived.Test.YtlekleeckcdcgaaGreatEq
namespace Go.Proofs.YtlekleeckcdcgaaGreat
open Go.RowKit Go.BigFrame
set_option linter.unusedVariables false
set_option linter.unusedSimpArgs false
set_option maxRecDepth 100000
theorem Room.lt {w : World} {b n : Nat} {t : TypeId} (h : Room w b t n) : b < w.heap.size := by
 obtain ⟨d, h3, _⟩ := h
 exact h3.lt
end Go.Proofs.YtlekleeckcdcgaaGreat
namespace Go.Proofs.YtlekleeckcdcgaaGreat
open Go.RowKit Go.BigFrame
set_option linter.unusedVariables false
set_option linter.unusedSimpArgs false
end Go.Proofs.YtlekleeckcdcgaaGreat
namespace Go.Proofs.YtlekleeckcdcgaaGreat
open Go.RowKit Go.BigFrame
set_option linter.unusedVariables false
set_option linter.unusedSimpArgs false
end Go.Proofs.YtlekleeckcdcgaaGreat
