/- OWN ROWS of numbers: where they lie, and what is kept while one of them grows. -/
import Derived.Test.YtineecongiplgaaInts
namespace Go.Proofs.Ytineecongiplgaa
open Go.RowKit
theorem OwnI.lt {w : World} {base : Nat} {v : Value} {zs : List Int} (h : OwnI w base v zs) : ∀ k, v.ownBlock = some k → base ≤ k ∧ k < w.heap.size := World.ownsRow.lt h
theorem below_grown {w a b : World} {row : Option Nat} (h : Below w.heap.size w a) (g : a.grownBy b row) (hk : ∀ k, row = some k → w.heap.size ≤ k) : Below w.heap.size w b := h.grown g h.size hk
end Go.Proofs.Ytineecongiplgaa
