/- THE WALKS of SayRight, the program's and the model's. -/
import Derived.Test.YtklpaleghanhhaaQdSay
import Derived.Test.YtklpaleghanhhaaQdBox
import Derived.Deep.DeepCutAuto
namespace Go.Proofs.Ytklpaleghanhhaa
open Go.RowKit
set_option linter.unusedVariables false
set_option linter.unusedSimpArgs false

end Go.Proofs.Ytklpaleghanhhaa
