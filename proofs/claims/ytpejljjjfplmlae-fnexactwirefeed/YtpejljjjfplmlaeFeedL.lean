/- WHAT THE LAW of WireFeed keeps in memory between its calls. -/
import Derived.Test.YtpejljjjfplmlaeFeedP
import Derived.Test.YtpejljjjfplmlaeWireOut
import Derived.Below
namespace Go.Proofs.Ytpejljjjfplmlae
open Go.RowKit
set_option linter.unusedVariables false

theorem feedR_len (x : Wr) (t : ByteArray) : ((feedR x t).2.1.map bytesOf).length ≤ 10000 := by
  unfold feedR
  split
  · simp
  · split
    · simp
    · simp only [List.length_map]
      have := feeds_length t.data.toList x
      rw [list_length] at this
      omega
/-- an argument's copy and a first answer lie in memory -/
structure LS (w : World) (cA : Array Value) (S : Nat) (cS : Array Value) (Y : World) : Prop where
  boxA : Y.heap[w.heap.size]? = some (.cells cA 30 (0, 0))
  boxS : Y.heap[S]? = some (.cells cS 38 (0, 0))
  bel : Below w.heap.size w Y
  lt : w.heap.size < S
theorem LS.below {w : World} {cA cS : Array Value} {S : Nat} {Y Z : World} (h : LS w cA S cS Y) (hb : Below Y.heap.size Y Z) : LS w cA S cS Z :=
  ⟨(hb.block _ (Array.getElem?_eq_some_iff.1 h.boxA).1).trans h.boxA, (hb.block _ (Array.getElem?_eq_some_iff.1 h.boxS).1).trans h.boxS, keepB h.bel (Nat.le_refl _) hb, h.lt⟩
theorem LS.grown {w : World} {cA cS : Array Value} {S base n : Nat} {Y Z : World} {v : Value} {xs : List Value} {e : TypeId} (h : LS w cA S cS Y) (hb : Y.grownBy Z v.ownBlock) (ho : Y.ownsRow base e 1 v n xs) (hS : S < base) : LS w cA S cS Z := by
  have hl := h.lt
  refine ⟨(hb.block _ (Array.getElem?_eq_some_iff.1 h.boxA).1 (fun e => by have := (ho.lt _ e.symm).1; omega)).trans h.boxA, (hb.block _ (Array.getElem?_eq_some_iff.1 h.boxS).1 (fun e => by have := (ho.lt _ e.symm).1; omega)).trans h.boxS, ?_, h.lt⟩
  exact h.bel.grown hb h.bel.size (fun g e => by have := (ho.lt g e).1; omega)
theorem below_alloc (w : World) (o : Obj) : Below w.heap.size w (w.alloc o) := (Below.refl _ _).alloc (Nat.le_refl _) _
theorem LS.cellA {w : World} {c0 c1 c2 c3 : Value} {cS : Array Value} {S : Nat} {Y : World} (h : LS w #[c0, c1, c2, c3] S cS Y) : Y.cell? ⟨w.heap.size, 0, none⟩ = some c0 ∧ Y.cell? ⟨w.heap.size, 1, none⟩ = some c1 ∧ Y.cell? ⟨w.heap.size, 2, none⟩ = some c2 ∧ Y.cell? ⟨w.heap.size, 3, none⟩ = some c3 ∧ w.heap.size < Y.heap.size :=
  let k := cells_at h.boxA
  ⟨k.1 0 _ rfl, k.1 1 _ rfl, k.1 2 _ rfl, k.1 3 _ rfl, k.2.2⟩
theorem LS.cellS {w : World} {c0 c1 c2 c3 c4 c5 : Value} {cA : Array Value} {S : Nat} {Y : World} (h : LS w cA S #[c0, c1, c2, c3, c4, c5] Y) : Y.cell? ⟨S, 0, none⟩ = some c0 ∧ Y.cell? ⟨S, 1, none⟩ = some c1 ∧ Y.cell? ⟨S, 2, none⟩ = some c2 ∧ Y.cell? ⟨S, 3, none⟩ = some c3 ∧ Y.cell? ⟨S, 4, none⟩ = some c4 ∧ Y.cell? ⟨S, 5, none⟩ = some c5 ∧ S < Y.heap.size :=
  let k := cells_at h.boxS
  ⟨k.1 0 _ rfl, k.1 1 _ rfl, k.1 2 _ rfl, k.1 3 _ rfl, k.1 4 _ rfl, k.1 5 _ rfl, k.2.2⟩
theorem cell6 {G : Nat} {c0 c1 c2 c3 c4 c5 : Value} {Y : World} {T : TypeId} (h : Y.heap[G]? = some (.cells #[c0, c1, c2, c3, c4, c5] T (0, 0))) : Y.cell? ⟨G, 0, none⟩ = some c0 ∧ Y.cell? ⟨G, 1, none⟩ = some c1 ∧ Y.cell? ⟨G, 2, none⟩ = some c2 ∧ Y.cell? ⟨G, 3, none⟩ = some c3 ∧ Y.cell? ⟨G, 4, none⟩ = some c4 ∧ Y.cell? ⟨G, 5, none⟩ = some c5 ∧ G < Y.heap.size :=
  let k := cells_at h
  ⟨k.1 0 _ rfl, k.1 1 _ rfl, k.1 2 _ rfl, k.1 3 _ rfl, k.1 4 _ rfl, k.1 5 _ rfl, k.2.2⟩
theorem OwnS.alloc {w : World} {base : Nat} {v : Value} {ss : List ByteArray} (h : OwnS w base v ss) (o : Obj) : OwnS (w.alloc o) base v ss := h.below (below_alloc w o)
theorem LS.of_keep {w : World} {cA cS : Array Value} {S : Nat} {X Y : World} (h : LS w cA S cS X) (hk : ∀ g, g < X.heap.size → Y.heap[g]? = X.heap[g]?) (hb : Below w.heap.size w Y) : LS w cA S cS Y :=
  ⟨(hk _ (Array.getElem?_eq_some_iff.1 h.boxA).1).trans h.boxA, (hk _ (Array.getElem?_eq_some_iff.1 h.boxS).1).trans h.boxS, hb, h.lt⟩
theorem OwnS.of_keep {base : Nat} {v : Value} {ss : List ByteArray} {X Y : World} (h : OwnS X base v ss) (hk : ∀ g, g < X.heap.size → Y.heap[g]? = X.heap[g]?) : OwnS Y base v ss := by
  refine ⟨h.1, h.2.imp id ?_⟩
  rintro ⟨g, cap, cur, e1, e2, e3, e4⟩
  exact ⟨g, cap, cur, e1, e2, (hk g (Array.getElem?_eq_some_iff.1 e3).1).trans e3, e4⟩
/-- what was in X is as it was in Y; what was ahead too -/
structure Kp (w X Y : World) : Prop where
  keep : ∀ g, g < X.heap.size → Y.heap[g]? = X.heap[g]?
  size : X.heap.size ≤ Y.heap.size
  bel : Below w.heap.size w Y
theorem Kp.below {w X Y Z : World} (h : Kp w X Y) (hb : Below Y.heap.size Y Z) : Kp w X Z := ⟨fun g hg => (hb.block g (Nat.lt_of_lt_of_le hg h.size)).trans (h.keep g hg), Nat.le_trans h.size hb.size, keepB h.bel (Nat.le_refl _) hb⟩
theorem Kp.grown {w X Y Z : World} {base n : Nat} {v : Value} {xs : List Value} {e : TypeId} (h : Kp w X Y) (hg : Y.grownBy Z v.ownBlock) (ho : Y.ownsRow base e 1 v n xs) (hX : X.heap.size ≤ base) (hw : w.heap.size ≤ X.heap.size) : Kp w X Z :=
  ⟨fun g hl => (hg.block g (Nat.lt_of_lt_of_le hl h.size) (fun e => by have := (ho.lt g e.symm).1; omega)).trans (h.keep g hl), Nat.le_trans h.size hg.size, h.bel.grown hg h.bel.size (fun g e => by have := (ho.lt g e).1; omega)⟩
theorem blk {Y Z : World} {G : Nat} {o : Obj} (h : Y.heap[G]? = some o) (hb : Below Y.heap.size Y Z) : Z.heap[G]? = some o := (hb.block G (Array.getElem?_eq_some_iff.1 h).1).trans h
end Go.Proofs.Ytpejljjjfplmlae
