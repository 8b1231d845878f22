/- THE WALK of what others told all, right: the program's. -/
import Derived.Test.YtimocipgikefoaaQnOutS
import Derived.Lib.SmallJoins
namespace Go.Proofs.Ytimocipgikefoaa
open Go.RowKit
set_option linter.unusedVariables false
set_option linter.unusedSimpArgs false

end Go.Proofs.Ytimocipgikefoaa
