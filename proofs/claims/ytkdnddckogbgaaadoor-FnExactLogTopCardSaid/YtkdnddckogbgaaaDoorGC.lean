/- What GetNum defers: the closure that recovers. -/
import Derived.Test.YtkdnddckogbgaaaDoorApn
import Derived.Tactics2
import Derived.Defers
import Derived.Recover
import Derived.Laws.Pointers
namespace Go.Proofs.YtkdnddckogbgaaaDoor
open Go.RowKit Go.Deep
set_option linter.unusedVariables false
set_option maxRecDepth 10000

end Go.Proofs.YtkdnddckogbgaaaDoor
