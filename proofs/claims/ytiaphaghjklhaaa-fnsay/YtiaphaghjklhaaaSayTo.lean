/- THE WALKS of the law's own copy, count and compare of what is said. -/
import Derived.Test.YtiaphaghjklhaaaSayIn
namespace Go.Proofs.Ytiaphaghjklhaaa
open Go.RowKit
set_option linter.unusedVariables false
set_option linter.unusedSimpArgs false

theorem OwnI.far {w : World} {base : Nat} {v : Value} {zs : List Int} {a : Addr} (h : OwnI w base v zs) (ha : a.block < base) (x : Value) : OwnI (w.setCell a x) base v zs := by
  refine ⟨h.1, h.2.imp id ?_⟩
  rintro ⟨g, cap, cur, e1, e2, e3, e4⟩
  exact ⟨g, cap, cur, e1, e2, (Below.heap_setCell _ _ _ _ (by omega)).trans e3, e4⟩
theorem OwnI.le {w : World} {base base' : Nat} {v : Value} {zs : List Int} (h : OwnI w base v zs) (hb : base' ≤ base) : OwnI w base' v zs := Joins.ownsRow_le h hb
end Go.Proofs.Ytiaphaghjklhaaa
