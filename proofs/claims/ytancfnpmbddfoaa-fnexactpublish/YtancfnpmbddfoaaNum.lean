/- THE WALKS of PutNum, the program's and the model's: both answer the number's bytes. -/
import Derived.Test.YtancfnpmbddfoaaProg
import Derived.Test.YtancfnpmbddfoaaPlainNum
import Derived.Test.YtancfnpmbddfoaaLaws
import Derived.WalkKit
import Derived.WalkSpells
import Derived.Outline
namespace Go.Proofs.Ytancfnpmbddfoaa
open Go.RowKit

theorem info5n : (Try.prog.info? 5).map (fun i => (i.zero, i.size, i.bytes)) = some (some (.int .u8 0), 1, 1) := by kernel_rfl

end Go.Proofs.Ytancfnpmbddfoaa
