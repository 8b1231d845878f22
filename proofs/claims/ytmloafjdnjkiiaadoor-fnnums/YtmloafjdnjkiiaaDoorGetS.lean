/- THE WALK of the model's GetNum: it answers the number that stands at the place, the place behind it, and the code. -/
import Derived.Test.YtmloafjdnjkiiaaDoorProg
import Derived.Test.YtmloafjdnjkiiaaDoorGet
import Derived.WalkKit
import Derived.WalkSpells
import Derived.Outline
import Derived.Below
namespace Go.Proofs.YtmloafjdnjkiiaaDoor
open Go.RowKit

end Go.Proofs.YtmloafjdnjkiiaaDoor
