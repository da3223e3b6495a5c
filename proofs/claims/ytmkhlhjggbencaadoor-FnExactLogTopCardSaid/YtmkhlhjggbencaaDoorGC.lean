/- What GetNum defers: the closure that recovers. -/
import Derived.Test.YtmkhlhjggbencaaDoorApn
import Derived.Tactics2
import Derived.Defers
import Derived.Recover
import Derived.Laws.Pointers
namespace Go.Proofs.YtmkhlhjggbencaaDoor
open Go.RowKit Go.Deep
set_option linter.unusedVariables false
set_option maxRecDepth 10000

end Go.Proofs.YtmkhlhjggbencaaDoor
