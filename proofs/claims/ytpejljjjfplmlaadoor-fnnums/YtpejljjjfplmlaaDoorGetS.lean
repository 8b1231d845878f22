/- THE WALK of the model's GetNum: it answers the number that stands at the place, the place behind it, and the code. -/
import Derived.Test.YtpejljjjfplmlaaDoorProg
import Derived.Test.YtpejljjjfplmlaaDoorGet
import Derived.WalkKit
import Derived.WalkSpells
import Derived.Outline
import Derived.Below
namespace Go.Proofs.YtpejljjjfplmlaaDoor
open Go.RowKit

end Go.Proofs.YtpejljjjfplmlaaDoor
