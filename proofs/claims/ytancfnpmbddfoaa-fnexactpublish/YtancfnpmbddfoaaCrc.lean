/- THE WALKS of the CRC's functions: what each answers at every argument. -/
import Derived.Test.YtancfnpmbddfoaaProg
import Derived.Test.YtancfnpmbddfoaaPlain
import Derived.WalkKit
import Derived.WalkSpells
import Derived.Outline
import Derived.Below
import Derived.Laws.BitsAllLaws
namespace Go.Proofs.Ytancfnpmbddfoaa
open Go.RowKit

/-- of all arguments -/
def crcM (c : Int) (s : ByteArray) : Int := if 8000 < s.size ∨ c < 0 ∨ 4294967295 < c then 0 else (crcL (c.toNat ^^^ 4294967295) s.data.toList ^^^ 4294967295 : Nat)

end Go.Proofs.Ytancfnpmbddfoaa
