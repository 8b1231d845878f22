/- WHAT THE MODEL'S SayRead keeps in memory while it reads: its reader, what it has so far, its answer. -/
import Derived.Test.YthmbfkppjijelaaSayV
import Derived.Test.YthmbfkppjijelaaSayW
namespace Go.Proofs.Ythmbfkppjijelaa
open Go.RowKit
set_option linter.unusedVariables false
set_option linter.unusedSimpArgs false

def RdS (s : ByteArray) (l : List Int) (a : Int) (b : Bool) (k : Nat) (a0 : Int) : Prop := (b = false → numsR s a0 k = some (l, a)) ∧ (b = true → numsR s a0 k = none)
theorem RdS.zero (s : ByteArray) (a0 : Int) : RdS s [] a0 false 0 a0 := ⟨fun _ => rfl, fun h => by cases h⟩
theorem RdS.step {s : ByteArray} {l : List Int} {a a' a0 n : Int} {b b' : Bool} {k : Nat} (h : RdS s l a b k a0) (e : rdN s a b = (n, a', b')) : RdS s (l ++ [n]) a' b' (k + 1) a0 := by
  unfold rdN at e
  cases b with
  | true =>
    rw [if_neg (by simp)] at e
    cases e
    exact ⟨(fun e => by cases e), fun _ => numsR_none (h.2 rfl) _ (by omega)⟩
  | false =>
    have hn := h.1 rfl
    by_cases hc : (getR s a).2.2 = 0
    · rw [if_pos ⟨rfl, hc⟩] at e
      cases e
      exact ⟨fun _ => numsR_more hn hc, fun h => by cases h⟩
    · rw [if_neg (by simp [hc])] at e
      cases e
      exact ⟨(fun e => by cases e), fun _ => numsR_stop hn hc _ (by omega)⟩
/-- the reader, what is read, the answer's place -/
structure RS (w : World) (s : ByteArray) (g h : Nat) (cs : Array Value) (a : Int) (b : Bool) (W : World) : Prop where
  G : W.heap[g]? = some (.cells #[.string s, .int .i64 a, .bool b] 69 (0, 0))
  H : W.heap[h]? = some (.cells cs 27 (0, 0))
  R : W.heap[w.heap.size]? = some (.cells #[.int .i64 0, .int .i64 0, .int .i64 0, .int .i64 0, .int .i64 0, .int .i64 0, .int .i64 0, .slice none 0 0, .string ⟨#[]⟩, .int .i64 0] 32 (0, 0))
  bel : Below w.heap.size w W
  ne : g ≠ h ∧ w.heap.size < g ∧ w.heap.size < h
theorem RS.call {w : World} {s : ByteArray} {g h : Nat} {cs : Array Value} {a a' : Int} {b b' : Bool} {W w' : World} (k : RS w s g h cs a b W) (hG : w'.heap[g]? = some (.cells #[.string s, .int .i64 a', .bool b'] 69 (0, 0))) (gr : W.grownBy w' (some g)) : RS w s g h cs a' b' w' :=
  ⟨hG, (gr.block h (Array.getElem?_eq_some_iff.1 k.H).1 (by intro e; exact k.ne.1 (Option.some.inj e).symm)).trans k.H,
   (gr.block _ (Array.getElem?_eq_some_iff.1 k.R).1 (by intro e; have := Option.some.inj e; have := k.ne.2.1; omega)).trans k.R,
   k.bel.grown gr k.bel.size (fun j e => by cases e; exact Nat.le_of_lt k.ne.2.1), k.ne⟩
theorem RS.store {w : World} {s : ByteArray} {g h : Nat} {cs : Array Value} {a : Int} {b : Bool} {W : World} (k : RS w s g h cs a b W) (i : Nat) (v : Value) : RS w s g h (cs.setIfInBounds i v) a b (W.setCell ⟨h, i, none⟩ v) :=
  ⟨(Below.heap_setCell _ _ _ _ (by have := k.ne.1; simp only; omega)).trans k.G, Joins.block_setCell k.H v, (Below.heap_setCell _ _ _ _ (by have := k.ne.2.2; simp only; omega)).trans k.R, k.bel.setCell (Nat.le_of_lt k.ne.2.2) _, k.ne⟩
theorem RS.bad {w : World} {s : ByteArray} {g h : Nat} {cs : Array Value} {a : Int} {b : Bool} {W : World} (k : RS w s g h cs a b W) (b' : Bool) : RS w s g h cs a b' (W.setCell ⟨g, 2, none⟩ (.bool b')) :=
  ⟨Joins.block_setCell (i := 2) k.G _, (Below.heap_setCell _ _ _ _ (by have := k.ne.1; simp only; omega)).trans k.H, (Below.heap_setCell _ _ _ _ (by have := k.ne.2.1; simp only; omega)).trans k.R, k.bel.setCell (Nat.le_of_lt k.ne.2.1) _, k.ne⟩
theorem RS.below {w : World} {s : ByteArray} {g h : Nat} {cs : Array Value} {a : Int} {b : Bool} {W w' : World} (k : RS w s g h cs a b W) (hb : Below W.heap.size W w') : RS w s g h cs a b w' :=
  ⟨blk k.G hb, blk k.H hb, blk k.R hb, keepB k.bel (Nat.le_refl _) hb, k.ne⟩
theorem RS.cellH {w : World} {s : ByteArray} {g h : Nat} {cs : Array Value} {a : Int} {b : Bool} {W : World} (k : RS w s g h cs a b W) (i : Nat) (v : Value) (hv : cs[i]? = some v) : W.cell? ⟨h, i, none⟩ = some v := cellW k.H i v hv W (Below.refl _ _)
theorem RS.frozenH {w : World} {s : ByteArray} {g h : Nat} {cs : Array Value} {a : Int} {b : Bool} {W : World} (k : RS w s g h cs a b W) (i : Nat) : W.frozen? ⟨h, i, none⟩ = false := frozenW k.H i W (Below.refl _ _)
theorem RS.num {w : World} {s : ByteArray} {g h : Nat} {cs : Array Value} {l : List Int} {a a0 : Int} {b : Bool} {j : Nat} {W : World} (hs : s.size ≤ 8000) (k : RS w s g h cs a b W) (rd : RdS s l a b j a0) :
    Calls Try.prog 47 #[.pointer (some ⟨g, 0, none⟩)] W fun e w' => ∃ n a' b', e = .returned (.int .i64 n) ∧ RdS s (l ++ [n]) a' b' (j + 1) a0 ∧ RS w s g h cs a' b' w' ∧ W.grownBy w' (some g) := by
  refine (num_any s a b g W hs k.G).mono ?_
  rintro e w' ⟨rfl, hG, gr⟩
  exact ⟨_, _, _, rfl, rd.step rfl, k.call hG.out gr, gr⟩
end Go.Proofs.Ythmbfkppjijelaa
