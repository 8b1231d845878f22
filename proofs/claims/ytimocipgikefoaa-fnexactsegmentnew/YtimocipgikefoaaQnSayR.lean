/- THE WALKS of SayRight, the program's and the model's. -/
import Derived.Test.YtimocipgikefoaaQnSay
import Derived.Test.YtimocipgikefoaaQnBox
import Derived.Deep.DeepCutAuto
namespace Go.Proofs.Ytimocipgikefoaa
open Go.RowKit
set_option linter.unusedVariables false
set_option linter.unusedSimpArgs false

end Go.Proofs.Ytimocipgikefoaa
