/- THE WALKS of PutNum, the program's and the model's: both answer the number's bytes. -/
import Derived.Test.YtpejljjjfplmlaeProg
import Derived.Test.YtpejljjjfplmlaePlainNum
import Derived.Test.YtpejljjjfplmlaeLaws
import Derived.WalkKit
import Derived.WalkSpells
import Derived.Outline
namespace Go.Proofs.Ytpejljjjfplmlae
open Go.RowKit

theorem info5n : (Try.prog.info? 5).map (fun i => (i.zero, i.size, i.bytes)) = some (some (.int .u8 0), 1, 1) := by kernel_rfl

end Go.Proofs.Ytpejljjjfplmlae
