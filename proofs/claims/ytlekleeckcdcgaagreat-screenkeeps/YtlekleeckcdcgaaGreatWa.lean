/- The reference's mend. -/
import Derived.Test.YtlekleeckcdcgaaGreatUf
import Derived.BigQuiet
namespace Go.Proofs.YtlekleeckcdcgaaGreat
open Go.RowKit Go.BigFrame
set_option linter.unusedVariables false
set_option linter.unusedSimpArgs false
set_option maxRecDepth 100000
end Go.Proofs.YtlekleeckcdcgaaGreat
