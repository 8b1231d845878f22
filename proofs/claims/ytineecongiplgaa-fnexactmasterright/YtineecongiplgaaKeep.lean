/- WHAT WAS THERE stays: two small laws. -/
import Derived.WalkKit
import Derived.Below
namespace Go.Proofs.Ytineecongiplgaa
open Go.RowKit
theorem keepB {B : Nat} {W a b : World} (h : Below B W a) (hB : B ≤ W.heap.size) (k : Below a.heap.size a b) : Below B W b := h.trans (k.mono (Nat.le_trans hB h.size))
theorem bcellF {B : Nat} {W w1 : World} (hb : Below B W w1) : (∀ b o, b < B → w1.cell? ⟨b, o, none⟩ = W.cell? ⟨b, o, none⟩) ∧ (∀ b o, b < B → w1.frozen? ⟨b, o, none⟩ = W.frozen? ⟨b, o, none⟩) :=
  ⟨fun b o h => hb.cell (p := ⟨b, o, none⟩) h, fun b o h => hb.frozen (p := ⟨b, o, none⟩) h⟩
end Go.Proofs.Ytineecongiplgaa
