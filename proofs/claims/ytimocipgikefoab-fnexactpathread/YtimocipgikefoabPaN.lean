/- NEW PATHS and the way home: the program's and the model's. Written by mkpan.py. -/
import Derived.Test.YtimocipgikefoabPaR
namespace Go.Proofs.Ytimocipgikefoab
open Go.RowKit
set_option linter.unusedVariables false
set_option linter.unusedSimpArgs false

theorem OwnT.one {w : World} {b : Nat} {v : Value} {l : List Int} (h : OwnI w b v l) : OwnT w b v (.slice none 0 0) ⟨l, []⟩ := ⟨h, OwnI.nil _ _, fun a c _ h => by cases h⟩
theorem cells4 {A : World} {g : Nat} {q0 q1 q2 q3 : Value} {ty : TypeId} (h : A.heap[g]? = some (.cells #[q0, q1, q2, q3] ty (0, 0))) (x0 x1 x2 x3 : Value) : ((((A.setCell ⟨g, 0, none⟩ x0).setCell ⟨g, 1, none⟩ x1).setCell ⟨g, 2, none⟩ x2).setCell ⟨g, 3, none⟩ x3).heap[g]? = some (.cells #[x0, x1, x2, x3] ty (0, 0)) := blk_set (blk_set (blk_set (blk_set h 0 x0) 1 x1) 2 x2) 3 x3
end Go.Proofs.Ytimocipgikefoab
