/- Grids copied; grids of blanks. -/
import Derived.Test.YtepepoabbbjmgaaSNi
namespace Go.Proofs.Ytepepoabbbjmgaa.Sc
open Go.RowKit Go.BigFrame
set_option linter.unusedVariables false
set_option linter.unusedSimpArgs false
set_option maxHeartbeats 8000000
set_option maxRecDepth 100000
theorem gA_one (co ro : Int) (a : Option Addr) (n c : Nat) : (gA co ro (.slice a n c)).all (·.oneCell') = true := by simp [gA, Value.oneCell']
end Go.Proofs.Ytepepoabbbjmgaa.Sc
