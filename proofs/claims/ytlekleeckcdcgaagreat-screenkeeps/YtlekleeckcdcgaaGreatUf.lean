/- The reference's Scroll, its good way. -/
import Derived.Test.YtlekleeckcdcgaaGreatNn
import Derived.Test.YtlekleeckcdcgaaGreatEq
namespace Go.Proofs.YtlekleeckcdcgaaGreat
open Go.RowKit Go.BigFrame
set_option linter.unusedVariables false
set_option linter.unusedSimpArgs false
set_option maxRecDepth 100000
end Go.Proofs.YtlekleeckcdcgaaGreat
