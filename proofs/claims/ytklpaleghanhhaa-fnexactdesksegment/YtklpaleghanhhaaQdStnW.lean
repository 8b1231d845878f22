/- THE LAW'S OWN COPY of a station. Written by mkstnw.py. -/
import Derived.Test.YtklpaleghanhhaaQdTail
import Derived.Test.YtklpaleghanhhaaQdStL
import Derived.Laws.Tables
namespace Go.Proofs.Ytklpaleghanhhaa
open Go.RowKit
set_option linter.unusedVariables false
set_option linter.unusedSimpArgs false

end Go.Proofs.Ytklpaleghanhhaa
