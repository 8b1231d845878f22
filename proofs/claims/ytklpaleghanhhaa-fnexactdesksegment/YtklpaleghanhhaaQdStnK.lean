/- THE WALKS of a right station: the program's. Written by mkstn.py. -/
import Derived.Test.YtklpaleghanhhaaQdStnJ
namespace Go.Proofs.Ytklpaleghanhhaa
open Go.RowKit
set_option linter.unusedVariables false
set_option linter.unusedSimpArgs false

end Go.Proofs.Ytklpaleghanhhaa
