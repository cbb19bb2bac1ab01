/- The trial of a grid, walked; GridBack, walked. -/
import Derived.Test.YtepepoabbbjmgaaSNj
import Derived.Test.YtepepoabbbjmgaaSEq
import Derived.Test.YtepepoabbbjmgaaSQd
import Derived.Test.YtepepoabbbjmgaaSCa
import Derived.Test.YtepepoabbbjmgaaSRc
import Derived.Test.YtepepoabbbjmgaaSXb
namespace Go.Proofs.Ytepepoabbbjmgaa.Sc
open Go.RowKit Go.BigFrame
set_option linter.unusedVariables false
set_option linter.unusedSimpArgs false
set_option maxRecDepth 100000
theorem Room.lt {w : World} {b n : Nat} {t : TypeId} (h : Room w b t n) : b < w.heap.size := by
 obtain ⟨d, h3, _⟩ := h
 exact h3.lt
end Go.Proofs.Ytepepoabbbjmgaa.Sc
namespace Go.Proofs.Ytepepoabbbjmgaa.Sc
open Go.RowKit Go.BigFrame
set_option linter.unusedVariables false
set_option linter.unusedSimpArgs false
end Go.Proofs.Ytepepoabbbjmgaa.Sc
namespace Go.Proofs.Ytepepoabbbjmgaa.Sc
open Go.RowKit Go.BigFrame
set_option linter.unusedVariables false
set_option linter.unusedSimpArgs false
end Go.Proofs.Ytepepoabbbjmgaa.Sc
