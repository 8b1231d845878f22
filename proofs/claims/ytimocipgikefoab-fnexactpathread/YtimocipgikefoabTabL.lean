/- THE LAW'S OWN QUESTIONS of a table: copied, marked, still marked. -/
import Derived.Test.YtimocipgikefoabTabIn
namespace Go.Proofs.Ytimocipgikefoab
open Go.RowKit
set_option linter.unusedVariables false
set_option linter.unusedSimpArgs false

/-- what has grown but for two rows -/
structure Grown2 (w w' : World) (r1 r2 : Option Nat) : Prop where
  os : w'.os = w.os
  tape : w'.tape = w.tape
  output : w'.output = w.output
  size : w.heap.size ≤ w'.heap.size
  block : ∀ k, k < w.heap.size → some k ≠ r1 → some k ≠ r2 → w'.heap[k]? = w.heap[k]?
theorem grown_afterT {w a b : World} {row : Option Nat} (h : Below w.heap.size w a) (g : a.grownBy b row) : w.grownBy b row :=
  ⟨g.os.trans h.os, g.tape.trans h.tape, g.output.trans h.output, Nat.le_trans h.size g.size, fun i hi hr => (g.block i (Nat.lt_of_lt_of_le hi h.size) hr).trans (h.block i hi)⟩
theorem Grown2.of {w a b : World} {r1 r2 : Option Nat} (g1 : w.grownBy a r1) (g2 : a.grownBy b r2) : Grown2 w b r1 r2 :=
  ⟨g2.os.trans g1.os, g2.tape.trans g1.tape, g2.output.trans g1.output, Nat.le_trans g1.size g2.size, fun i hi h1 h2 => (g2.block i (Nat.lt_of_lt_of_le hi g1.size) h2).trans (g1.block i hi h1)⟩
theorem OwnI.grownT {w w' : World} {base : Nat} {u v : Value} {zs : List Int} (h : OwnI w base v zs) (g : w.grownBy w' u.ownBlock) (hne : ∀ a b, u.ownBlock = some a → v.ownBlock = some b → a ≠ b) : OwnI w' base v zs := by
  refine ⟨h.1, h.2.imp id ?_⟩
  rintro ⟨k, cap, cur, e1, e2, e3, e4⟩
  refine ⟨k, cap, cur, e1, e2, (g.block k (Array.getElem?_eq_some_iff.1 e3).1 ?_).trans e3, e4⟩
  intro e
  exact hne k k e.symm (by rw [e1]; rfl) rfl
theorem Below.grown2 {w a b : World} {r1 r2 : Option Nat} (h : Below w.heap.size w a) (g : Grown2 a b r1 r2) (h1 : ∀ k, r1 = some k → w.heap.size ≤ k) (h2 : ∀ k, r2 = some k → w.heap.size ≤ k) : Below w.heap.size w b :=
  ⟨g.os.trans h.os, g.tape.trans h.tape, g.output.trans h.output, Nat.le_trans h.size g.size, fun i hi => (g.block i (Nat.lt_of_lt_of_le hi h.size) (fun e => by have := h1 i e.symm; omega) (fun e => by have := h2 i e.symm; omega)).trans (h.block i hi)⟩
/-- a table marked -/
def markT (n1 n2 : Nat) : Tb := ⟨countK 1 n1, countK (1 + (n1 : Int)) n2⟩
end Go.Proofs.Ytimocipgikefoab
