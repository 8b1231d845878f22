/- WHAT IS KEPT while a path's rows are marked. -/
import Derived.Test.YtimocipgikefoabPaI
namespace Go.Proofs.Ytimocipgikefoab
open Go.RowKit
set_option linter.unusedVariables false
set_option linter.unusedSimpArgs false

set_option maxRecDepth 100000 in
set_option maxHeartbeats 800000 in
/-- a table marked, however long: only its own rows have turned -/
theorem markPath_grown (t : Tb) (base : Nat) (v1 v2 : Value) (w : World) (hl1 : t.cs.length ≤ 1048576) (hl2 : t.rs.length ≤ 1048576) (h : OwnT w base v1 v2 t) :
    Calls Try.prog 25 #[.agg #[v1, v2], .int .i64 1] w fun e w' => ∃ n : Nat, e = .returned (.int .i64 (n : Int)) ∧ Grown2 w w' v1.ownBlock v2.ownBlock := by
  refine (markPath_any t base v1 v2 w (by omega) (by omega) h).mono ?_
  rintro e w' ⟨rfl, _, hg⟩
  exact ⟨1 + t.cs.length + t.rs.length, by first | rfl | (congr 2; try omega), hg⟩
theorem OwnI.keep2 {w w' : World} {base : Nat} {v : Value} {zs : List Int} {r1 r2 : Option Nat} (h : OwnI w base v zs) (g : Grown2 w w' r1 r2) (hne : ∀ k, v.ownBlock = some k → some k ≠ r1 ∧ some k ≠ r2) : OwnI w' base v zs := by
  refine ⟨h.1, h.2.imp id ?_⟩
  rintro ⟨k, cap, cur, e1, e2, e3, e4⟩
  have hk := hne k (by rw [e1]; rfl)
  exact ⟨k, cap, cur, e1, e2, (g.block k (Array.getElem?_eq_some_iff.1 e3).1 hk.1 hk.2).trans e3, e4⟩
/-- blocks of a table's rows lie in a range -/
def InT (v1 v2 : Value) (lo hi : Nat) : Prop := ∀ k, (v1.ownBlock = some k ∨ v2.ownBlock = some k) → lo ≤ k ∧ k < hi
theorem OwnT.inT {w : World} {base : Nat} {v1 v2 : Value} {t : Tb} (h : OwnT w base v1 v2 t) : InT v1 v2 base w.heap.size := fun k hk => hk.elim (fun e => OwnI.lt h.c k e) (fun e => OwnI.lt h.r k e)
theorem OwnT.keep2 {w w' : World} {base : Nat} {v1 v2 u1 u2 : Value} {t : Tb} (h : OwnT w base v1 v2 t) (g : Grown2 w w' u1.ownBlock u2.ownBlock) {l1 h1 l2 h2 : Nat} (hv : InT v1 v2 l1 h1) (hu : InT u1 u2 l2 h2) (hd : h1 ≤ l2 ∨ h2 ≤ l1) : OwnT w' base v1 v2 t := by
  have key : ∀ k, (v1.ownBlock = some k ∨ v2.ownBlock = some k) → some k ≠ u1.ownBlock ∧ some k ≠ u2.ownBlock := fun k hk => by
    have a := hv k hk
    exact ⟨fun e => by have b := hu k (.inl e.symm); omega, fun e => by have b := hu k (.inr e.symm); omega⟩
  exact ⟨h.c.keep2 g (fun k e => key k (.inl e)), h.r.keep2 g (fun k e => key k (.inr e)), h.ne⟩
theorem blk_keep2 {w w' : World} {u1 u2 : Value} {G : Nat} {o : Obj} (h : w.heap[G]? = some o) (g : Grown2 w w' u1.ownBlock u2.ownBlock) {l2 h2 : Nat} (hu : InT u1 u2 l2 h2) (hd : G < l2 ∨ h2 ≤ G) : w'.heap[G]? = some o :=
  (g.block G (Array.getElem?_eq_some_iff.1 h).1 (fun e => by have b := hu G (.inl e.symm); omega) (fun e => by have b := hu G (.inr e.symm); omega)).trans h
theorem grown2_one {W w' : World} {r : Option Nat} (g : W.grownBy w' r) : Grown2 W w' r (Value.slice none 0 0).ownBlock := ⟨g.os, g.tape, g.output, g.size, fun k h h1 _ => g.block k h h1⟩
set_option maxRecDepth 100000 in
theorem markInts_grown (l : List Int) (base : Nat) (v : Value) (w : World) (hl : l.length ≤ 1048576) (h : OwnI w base v l) :
    Calls Try.prog 30 #[v, .int .i64 1] w fun e w' => ∃ n : Nat, e = .returned (.int .i64 (n : Int)) ∧ Grown2 w w' v.ownBlock (Value.slice none 0 0).ownBlock := by
  refine (markInt64S_from 1 (by omega) base v l w (by omega) h).mono ?_
  rintro e w' ⟨rfl, _, hg⟩
  exact ⟨1 + l.length, by first | rfl | (congr 2; try omega), grown2_one hg⟩
end Go.Proofs.Ytimocipgikefoab
