/- LogSync. -/
import Derived.Test.YtphabdjhmahemaaLgG
namespace Go.Proofs.Ytphabdjhmahemaa
open Go.RowKit Go.Deep
set_option linter.unusedVariables false
set_option maxRecDepth 10000

/-- What syncing makes of a disk; a log whose disk isn't right leaves nothing. -/
def syncM (m : DkM) : DkM := if dokM m = true then crashM m (fun _ => 128) else noM
def syncN (m : DkM) (n : Int) : Int := if dokM m = true then n else 0
end Go.Proofs.Ytphabdjhmahemaa
