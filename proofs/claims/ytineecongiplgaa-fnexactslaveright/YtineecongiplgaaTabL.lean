/- THE LAW'S OWN QUESTIONS of a table: copied, marked, still marked. -/
import Derived.Test.YtineecongiplgaaTabIn
namespace Go.Proofs.Ytineecongiplgaa
open Go.RowKit
set_option linter.unusedVariables false
set_option linter.unusedSimpArgs false

set_option maxRecDepth 100000 in
set_option maxHeartbeats 1600000 in
theorem toTable_any (t : Tb) (p1 p2 : Option Addr) (c1 c2 : Nat) (w : World) (hl1 : t.cs.length ≤ 1048576) (hl2 : t.rs.length ≤ 1048576) (hin1 : InI w p1 t.cs) (hin2 : InI w p2 t.rs) :
    Calls Try.prog 74 #[.agg #[.slice p1 t.cs.length c1, .slice p2 t.rs.length c2]] w fun x w' => ∃ v1 v2, x = .returned (.agg #[v1, v2]) ∧ OwnT w' w.heap.size v1 v2 t ∧ Below w.heap.size w w' := by
  have H1 : Hid (∀ W, Below w.heap.size w W → Calls Try.prog 94 #[.slice p1 t.cs.length c1] W fun e w' => ∃ v, e = .returned v ∧ OwnI w' W.heap.size v t.cs ∧ Below W.heap.size W w') := fun W hW => toInt64S_any p1 c1 t.cs W hl1 (hin1.below hW)
  have H2 : Hid (∀ W, Below w.heap.size w W → Calls Try.prog 94 #[.slice p2 t.rs.length c2] W fun e w' => ∃ v, e = .returned v ∧ OwnI w' W.heap.size v t.rs ∧ Below W.heap.size W w') := fun W hW => toInt64S_any p2 c2 t.rs W hl2 (hin2.below hW)
  clear hin1 hin2
  go_enter Try.func74, Try.ntmps74
  go_upto_region 2 with fail
  have hX : Hid _ := blk (blk (heap_alloc_new w (.cells #[.slice p1 t.cs.length c1, .slice p2 t.rs.length c2] 57)) (all_alloc _ (.cells #[.slice none 0 0, .slice none 0 0] 62))) (all_alloc _ (.cells #[.slice none 0 0, .slice none 0 0] 62))
  have hY : Hid _ := blk (heap_alloc_new (w.alloc (.cells #[.slice p1 t.cs.length c1, .slice p2 t.rs.length c2] 57)) (.cells #[.slice none 0 0, .slice none 0 0] 62)) (all_alloc _ (.cells #[.slice none 0 0, .slice none 0 0] 62))
  have hZ : Hid _ := heap_alloc_new ((w.alloc (.cells #[.slice p1 t.cs.length c1, .slice p2 t.rs.length c2] 57)).alloc (.cells #[.slice none 0 0, .slice none 0 0] 62)) (.cells #[.slice none 0 0, .slice none 0 0] 62)
  have hA0 : Below w.heap.size w (((w.alloc (.cells #[.slice p1 t.cs.length c1, .slice p2 t.rs.length c2] 57)).alloc (.cells #[.slice none 0 0, .slice none 0 0] 62)).alloc (.cells #[.slice none 0 0, .slice none 0 0] 62)) := keepB (keepB (all_alloc w _) (Nat.le_refl _) (all_alloc _ _)) (Nat.le_refl _) (all_alloc _ _)
  have e1 : (w.alloc (.cells #[.slice p1 t.cs.length c1, .slice p2 t.rs.length c2] 57)).heap.size = w.heap.size + 1 := by simp
  have e2 : ((w.alloc (.cells #[.slice p1 t.cs.length c1, .slice p2 t.rs.length c2] 57)).alloc (.cells #[.slice none 0 0, .slice none 0 0] 62)).heap.size = w.heap.size + 1 + 1 := by simp
  have e3 : (((w.alloc (.cells #[.slice p1 t.cs.length c1, .slice p2 t.rs.length c2] 57)).alloc (.cells #[.slice none 0 0, .slice none 0 0] 62)).alloc (.cells #[.slice none 0 0, .slice none 0 0] 62)).heap.size = w.heap.size + 1 + 1 + 1 := by simp
  rw [e1] at hY
  rw [e2] at hZ
  generalize ((w.alloc (.cells #[.slice p1 t.cs.length c1, .slice p2 t.rs.length c2] 57)).alloc (.cells #[.slice none 0 0, .slice none 0 0] 62)).alloc (.cells #[.slice none 0 0, .slice none 0 0] 62) = A at hX hY hZ hA0 e3 ⊢
  clear e1 e2
  have x0 := cellW hX.out 0 _ rfl A (Below.refl _ _)
  go_upto_region 3 with (go_at_call 94; refine (H1.out _ hA0).mono ?_; rintro e w2 ⟨v, rfl, own1, hb2⟩; obtain ⟨pv, cv, rfl⟩ := own1.shape; have hZ2 : Hid _ := blk hZ.out hb2; have z0 := cellW hZ2.out 0 _ rfl w2 (Below.refl _ _); have f0 := frozenW hZ2.out 0 w2 (Below.refl _ _))
  have hlt1 := OwnI.lt own1
  have hs2 : A.heap.size ≤ w2.heap.size := hb2.size
  have hX3 : Hid _ := blk_far (a := ⟨w.heap.size + 1 + 1, 0, none⟩) (blk hX.out hb2) (by simp only; omega) (.slice pv t.cs.length cv)
  have hY3 : Hid _ := blk_far (a := ⟨w.heap.size + 1 + 1, 0, none⟩) (blk hY.out hb2) (by simp only; omega) (.slice pv t.cs.length cv)
  have hZ3 : Hid (_ = some (Obj.cells #[.slice pv t.cs.length cv, .slice none 0 0] _ _)) := blk_set hZ2.out 0 (.slice pv t.cs.length cv)
  have own3 : Hid (OwnI _ _ _ t.cs) := OwnI.farT own1 (a := ⟨w.heap.size + 1 + 1, 0, none⟩) (by simp only; omega) (.slice pv t.cs.length cv)
  have hB3 : Below w.heap.size w (w2.setCell ⟨w.heap.size + 1 + 1, 0, none⟩ (.slice pv t.cs.length cv)) := (keepB hA0 (Nat.le_refl _) hb2).setCell (by simp only; omega) _
  have e4 : (w2.setCell ⟨w.heap.size + 1 + 1, 0, none⟩ (.slice pv t.cs.length cv)).heap.size = w2.heap.size := by simp [World.setCell]
  generalize w2.setCell ⟨w.heap.size + 1 + 1, 0, none⟩ (.slice pv t.cs.length cv) = w3 at hX3 hY3 hZ3 own3 hB3 e4 ⊢
  rw [← e4] at hlt1
  have hs3 : A.heap.size ≤ w3.heap.size := by omega
  clear own1 hZ2 z0 f0 x0 hX hY hZ hA0 hb2 e4 hs2
  have x1 := cellW hX3.out 1 _ rfl w3 (Below.refl _ _)
  go_wp2_with (go_at_call 94; refine (H2.out _ hB3).mono ?_; rintro e w4 ⟨v', rfl, own2, hb4⟩; obtain ⟨pu, cu, rfl⟩ := own2.shape; have hY4 : Hid _ := blk hY3.out hb4; have hZ4 : Hid _ := blk hZ3.out hb4; have z0 := cellW hZ4.out 0 _ rfl w4 (Below.refl _ _); have z1 := cellW hZ4.out 1 _ rfl w4 (Below.refl _ _); have f1 := frozenW hZ4.out 1 w4 (Below.refl _ _); have y0 := cellW hY4.out 0 _ rfl w4 (Below.refl _ _); have y1 := cellW hY4.out 1 _ rfl w4 (Below.refl _ _); have g0 := frozenW hY4.out 0 w4 (Below.refl _ _); have g1 := frozenW hY4.out 1 w4 (Below.refl _ _))
  have hB4 : Below w.heap.size w w4 := keepB hB3 (Nat.le_refl _) hb4
  have hT : OwnT w4 A.heap.size (.slice pv t.cs.length cv) (.slice pu t.rs.length cu) t := OwnT.mk2 (own3.out.below hb4) own2 hs3 (fun k hk => (hlt1 k hk).2)
  exact bodyPost_ret (v := .agg #[.slice pv t.cs.length cv, .slice pu t.rs.length cu]) (by simp [results, Try.results74, go_sem, y0, y1]) rfl ⟨_, _, rfl, OwnT.leT (OwnT.farT (OwnT.farT (OwnT.farT hT (by simp only; omega) _) (by simp only; omega) _) (by simp only; omega) _) (by omega), (Below.setCell (Below.setCell (Below.setCell hB4 (by simp only; omega) _) (by simp only; omega) _) (by simp only; omega) _)⟩
/-- what has grown but for two rows -/
structure Grown2 (w w' : World) (r1 r2 : Option Nat) : Prop where
  os : w'.os = w.os
  tape : w'.tape = w.tape
  output : w'.output = w.output
  size : w.heap.size ≤ w'.heap.size
  block : ∀ k, k < w.heap.size → some k ≠ r1 → some k ≠ r2 → w'.heap[k]? = w.heap[k]?
theorem grown_afterT {w a b : World} {row : Option Nat} (h : Below w.heap.size w a) (g : a.grownBy b row) : w.grownBy b row :=
  ⟨g.os.trans h.os, g.tape.trans h.tape, g.output.trans h.output, Nat.le_trans h.size g.size, fun i hi hr => (g.block i (Nat.lt_of_lt_of_le hi h.size) hr).trans (h.block i hi)⟩
theorem Grown2.of {w a b : World} {r1 r2 : Option Nat} (g1 : w.grownBy a r1) (g2 : a.grownBy b r2) : Grown2 w b r1 r2 :=
  ⟨g2.os.trans g1.os, g2.tape.trans g1.tape, g2.output.trans g1.output, Nat.le_trans g1.size g2.size, fun i hi h1 h2 => (g2.block i (Nat.lt_of_lt_of_le hi g1.size) h2).trans (g1.block i hi h1)⟩
theorem OwnI.grownT {w w' : World} {base : Nat} {u v : Value} {zs : List Int} (h : OwnI w base v zs) (g : w.grownBy w' u.ownBlock) (hne : ∀ a b, u.ownBlock = some a → v.ownBlock = some b → a ≠ b) : OwnI w' base v zs := by
  refine ⟨h.1, h.2.imp id ?_⟩
  rintro ⟨k, cap, cur, e1, e2, e3, e4⟩
  refine ⟨k, cap, cur, e1, e2, (g.block k (Array.getElem?_eq_some_iff.1 e3).1 ?_).trans e3, e4⟩
  intro e
  exact hne k k e.symm (by rw [e1]; rfl) rfl
theorem Below.grown2 {w a b : World} {r1 r2 : Option Nat} (h : Below w.heap.size w a) (g : Grown2 a b r1 r2) (h1 : ∀ k, r1 = some k → w.heap.size ≤ k) (h2 : ∀ k, r2 = some k → w.heap.size ≤ k) : Below w.heap.size w b :=
  ⟨g.os.trans h.os, g.tape.trans h.tape, g.output.trans h.output, Nat.le_trans h.size g.size, fun i hi => (g.block i (Nat.lt_of_lt_of_le hi h.size) (fun e => by have := h1 i e.symm; omega) (fun e => by have := h2 i e.symm; omega)).trans (h.block i hi)⟩
/-- a table marked -/
def markT (n1 n2 : Nat) : Tb := ⟨countK 1 n1, countK (1 + (n1 : Int)) n2⟩
end Go.Proofs.Ytineecongiplgaa
