/- THE WALK of the program's StampLess. -/
import Derived.Test.YtklpaleghanhhaaQdStL
namespace Go.Proofs.Ytklpaleghanhhaa
open Go.RowKit
set_option linter.unusedVariables false
set_option linter.unusedSimpArgs false

end Go.Proofs.Ytklpaleghanhhaa
