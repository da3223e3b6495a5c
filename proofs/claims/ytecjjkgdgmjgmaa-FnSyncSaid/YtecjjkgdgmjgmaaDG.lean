/- What the laws do with cells and writes, one at a time. -/
import Derived.Test.YtecjjkgdgmjgmaaSec
import Derived.Test.YtecjjkgdgmjgmaaLst
namespace Go.Proofs.Ytecjjkgdgmjgmaa
open Go.RowKit Go.Deep
set_option linter.unusedVariables false
set_option maxRecDepth 10000

end Go.Proofs.Ytecjjkgdgmjgmaa
