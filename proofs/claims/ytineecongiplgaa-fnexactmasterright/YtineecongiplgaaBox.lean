/- BLOCKS that stay: small laws. -/
import Derived.WalkKit
import Derived.Below
import Derived.Test.YtineecongiplgaaKeep
namespace Go.Proofs.Ytineecongiplgaa
open Go.RowKit
theorem all_alloc (w : World) (o : Obj) : Below w.heap.size w (w.alloc o) := (Below.refl _ _).alloc (Nat.le_refl _) _
theorem blk {Y Z : World} {G : Nat} {o : Obj} (h : Y.heap[G]? = some o) (hb : Below Y.heap.size Y Z) : Z.heap[G]? = some o := (hb.block G (Array.getElem?_eq_some_iff.1 h).1).trans h
/-- the cells of a block, in whatever world that kept it -/
theorem cellW {A : World} {g : Nat} {cs : Array Value} {t : TypeId} (h : A.heap[g]? = some (.cells cs t (0, 0))) (o : Nat) (v : Value) (hv : cs[o]? = some v) : ∀ W, Below A.heap.size A W → W.cell? ⟨g, o, none⟩ = some v := fun W hW => by
  have := blk h hW
  simp only [World.cell?, this]
  simpa using hv
theorem frozenW {A : World} {g : Nat} {cs : Array Value} {t : TypeId} (h : A.heap[g]? = some (.cells cs t (0, 0))) (o : Nat) : ∀ W, Below A.heap.size A W → W.frozen? ⟨g, o, none⟩ = false := fun W hW => by
  have := blk h hW
  simp [World.frozen?, this]
end Go.Proofs.Ytineecongiplgaa
