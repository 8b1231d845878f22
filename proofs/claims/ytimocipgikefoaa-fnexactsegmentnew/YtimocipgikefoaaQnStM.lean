/- THE WALK of the program's StampLess. -/
import Derived.Test.YtimocipgikefoaaQnStL
namespace Go.Proofs.Ytimocipgikefoaa
open Go.RowKit
set_option linter.unusedVariables false
set_option linter.unusedSimpArgs false

end Go.Proofs.Ytimocipgikefoaa
