/- THE WALK of a right station: the program's. Written by mkstn2.py. -/
import Derived.Test.YtklpaleghanhhaaQdStnK
import Derived.Test.YtklpaleghanhhaaQdOutS
namespace Go.Proofs.Ytklpaleghanhhaa
open Go.RowKit
set_option linter.unusedVariables false
set_option linter.unusedSimpArgs false

end Go.Proofs.Ytklpaleghanhhaa
