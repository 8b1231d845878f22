/- WHAT A STATION WILL TELL ALL: the model's. Written by mkpub.py. -/
import Derived.Test.YtggdjiijcoklgaaQPubI
namespace Go.Proofs.Ytggdjiijcoklgaa
open Go.RowKit
set_option linter.unusedVariables false
set_option linter.unusedSimpArgs false

end Go.Proofs.Ytggdjiijcoklgaa
