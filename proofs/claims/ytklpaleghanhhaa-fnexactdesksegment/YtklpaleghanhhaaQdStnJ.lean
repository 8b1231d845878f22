/- THE WALK of what others told all, right: the program's. -/
import Derived.Test.YtklpaleghanhhaaQdOutS
import Derived.Lib.SmallJoins
namespace Go.Proofs.Ytklpaleghanhhaa
open Go.RowKit
set_option linter.unusedVariables false
set_option linter.unusedSimpArgs false

end Go.Proofs.Ytklpaleghanhhaa
