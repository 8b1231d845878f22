/- THE WALKS of what a wire is, and whether it is right: the program's, the model's and the law's own. -/
import Derived.Test.YtimocipgikefoabProg
import Derived.Test.YtimocipgikefoabPlain
import Derived.Test.YtimocipgikefoabPlainWire
import Derived.Test.YtimocipgikefoabLaws
import Derived.WalkKit
import Derived.WalkSpells
import Derived.Outline
import Derived.Below
namespace Go.Proofs.Ytimocipgikefoab
open Go.RowKit
set_option linter.unusedVariables false
set_option linter.unusedSimpArgs false

def rightB (i e d : Bool) (b : ByteArray) : Bool := if !i || d then decide (b.size = 0) && (i || !e && !d) else decide (b.size ≤ 62)
theorem empty_iff (b : ByteArray) : (b.toList == ([] : List UInt8)) = decide (b.size = 0) := by
  rw [Lib.toList_data, Bool.eq_iff_iff]
  have : b.data.toList.length = b.size := by rw [Array.length_toList]; rfl
  simp only [beq_iff_eq, decide_eq_true_eq]
  constructor
  · intro h; rw [h] at this; exact this.symm
  · intro h; exact List.eq_nil_of_length_eq_zero (by omega)
end Go.Proofs.Ytimocipgikefoab
