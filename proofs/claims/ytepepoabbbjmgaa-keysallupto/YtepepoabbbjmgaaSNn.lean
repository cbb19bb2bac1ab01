/- Erase, Shift. What the reference's Scroll refuses. A region that draws its order, of which one operation writes into what is one's own. Two lists, the one up to a place, the other from there: how the reference's Scroll goes on. The reference's board. -/
import Derived.Laws.AppendOwn
import Derived.Test.YtepepoabbbjmgaaSNj
import Derived.Test.YtepepoabbbjmgaaSEq
import Derived.Test.YtepepoabbbjmgaaSXd
import Derived.Test.YtepepoabbbjmgaaSQd
import Derived.Test.YtepepoabbbjmgaaSCa
import Derived.Test.YtepepoabbbjmgaaSGw
import Derived.Test.YtepepoabbbjmgaaSNg
import Derived.Test.YtepepoabbbjmgaaSXb
namespace Go.Proofs.Ytepepoabbbjmgaa.Sc
open Go.RowKit Go.BigFrame
set_option linter.unusedVariables false
set_option linter.unusedSimpArgs false
set_option maxRecDepth 100000
set_option maxHeartbeats 16000000
section
variable {P : Program} {Q : Exit → Act → World → Prop}
end
/-- The lists are no longer than a machine can copy. -/
structure Bw (x : Sn) : Prop where
 g : x.g.c.length * 48 ≤ 140737488355328
 m : x.mn.c.length * 48 ≤ 140737488355328
 t : x.tabs.length ≤ 17592186044416
 l : x.title.length ≤ 35184372088832
/-- Where a list is empty its slice is nil or has a place. -/
structure Nl (x : Sn) (vt vm vl : Value) : Prop where
 m : x.mn.c = [] → vm = .slice none 0 0 ∨ ∃ ad k, vm = .slice (some ad) 0 k
 t : x.tabs = [] → vt = .slice none 0 0 ∨ ∃ ad k, vt = .slice (some ad) 0 k
 l : x.title = [] → vl = .slice none 0 0 ∨ ∃ ad k, vl = .slice (some ad) 0 k
end Go.Proofs.Ytepepoabbbjmgaa.Sc
