/- THE LAW'S OWN COPY of a station. Written by mkstnw.py. -/
import Derived.Test.YtimocipgikefoaaQnTail
import Derived.Test.YtimocipgikefoaaQnStL
import Derived.Laws.Tables
namespace Go.Proofs.Ytimocipgikefoaa
open Go.RowKit
set_option linter.unusedVariables false
set_option linter.unusedSimpArgs false

end Go.Proofs.Ytimocipgikefoaa
