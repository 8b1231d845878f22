/- A WHOLE ROW of a box written: what lies below stays. -/
import Derived.Test.YtineecongiplgaaRecG
namespace Go.Proofs.Ytineecongiplgaa
open Go.RowKit

theorem rcBelow_setRow {B : Nat} {w w' : World} (h : Below B w w') {g : Nat} (hg : B ≤ g) (cs : Array Value) : Below B w (w'.setRow g cs) :=
  ⟨h.os, h.tape, h.output, by rw [setRow_size]; exact h.size, fun k hk => (setRow_other w' g k cs (by omega)).trans (h.block k hk)⟩
theorem rcRow_fresh {w : World} (o c : Array Value) (t : TypeId) : Below w.heap.size w ((w.alloc (.cells o t)).setRow w.heap.size c) := rcBelow_setRow (all_alloc w _) (Nat.le_refl _) _
end Go.Proofs.Ytineecongiplgaa
