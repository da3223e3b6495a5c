/- GetNum of the model. -/
import Derived.Test.YtecjjkgdgmjgmaaDoorGT
namespace Go.Proofs.YtecjjkgdgmjgmaaDoor
open Go.RowKit Go.Deep
set_option linter.unusedVariables false
set_option maxRecDepth 10000
end Go.Proofs.YtecjjkgdgmjgmaaDoor
