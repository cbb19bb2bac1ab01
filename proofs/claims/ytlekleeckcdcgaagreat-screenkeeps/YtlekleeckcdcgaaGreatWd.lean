/- The reference's Write: cells that may not be; its good way. -/
import Derived.Test.YtlekleeckcdcgaaGreatWc
import Derived.Test.YtlekleeckcdcgaaGreatEq
namespace Go.Proofs.YtlekleeckcdcgaaGreat
open Go.RowKit Go.BigFrame
set_option linter.unusedVariables false
set_option linter.unusedSimpArgs false
set_option maxRecDepth 100000
end Go.Proofs.YtlekleeckcdcgaaGreat
