/- THE WALK of a right station: the program's. Written by mkstn2.py. -/
import Derived.Test.YtimocipgikefoaaQnStnK
import Derived.Test.YtimocipgikefoaaQnOutS
namespace Go.Proofs.Ytimocipgikefoaa
open Go.RowKit
set_option linter.unusedVariables false
set_option linter.unusedSimpArgs false

end Go.Proofs.Ytimocipgikefoaa
