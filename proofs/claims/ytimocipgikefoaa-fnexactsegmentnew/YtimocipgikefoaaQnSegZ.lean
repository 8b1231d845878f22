/- THE LAW'S OWN COUNT of a segment. -/
import Derived.Test.YtimocipgikefoaaQnOwnM
import Derived.Deep.DeepCutAuto
namespace Go.Proofs.Ytimocipgikefoaa
open Go.RowKit
set_option linter.unusedVariables false
set_option linter.unusedSimpArgs false

end Go.Proofs.Ytimocipgikefoaa
