/- The contracts of leb's readings at a known number. -/
import Derived.Test.YtnekeflgdadbcaaLebInt
namespace Go.Proofs.Ytnekeflgdadbcaa
open Go.RowKit
set_option linter.unusedVariables false

end Go.Proofs.Ytnekeflgdadbcaa
