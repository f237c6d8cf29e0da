/- cur: what a reader's step is run by; what becomes of it where the step stops. -/
import Derived.Test.YtkfgfbdlbiahkaaCurCaught
import Derived.Defers
import Derived.Recover
namespace Go.Proofs.Ytkfgfbdlbiahkaa
open Go.RowKit
set_option linter.unusedVariables false

end Go.Proofs.Ytkfgfbdlbiahkaa
