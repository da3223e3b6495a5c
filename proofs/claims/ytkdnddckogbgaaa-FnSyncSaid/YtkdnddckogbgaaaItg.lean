/- Lists of numbers: what the laws do with them; append of numbers. -/
import Derived.Test.YtkdnddckogbgaaaDCs
namespace Go.Proofs.Ytkdnddckogbgaaa
open Go.RowKit Go.Deep
set_option linter.unusedVariables false
set_option maxRecDepth 10000

end Go.Proofs.Ytkdnddckogbgaaa
