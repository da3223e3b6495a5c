/- copyWrite of the program, by contract. -/
import Derived.Test.YtkdnddckogbgaaaCpC
namespace Go.Proofs.Ytkdnddckogbgaaa
open Go.RowKit Go.Deep
set_option linter.unusedVariables false
set_option maxRecDepth 10000
attribute [local go_sem ↓] Go.wp_at_zero Go.wp_at_succ

end Go.Proofs.Ytkdnddckogbgaaa
