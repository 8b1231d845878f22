/- WHAT HOLDS while the program hears bytes, at each of its labels; nothing is walked here. -/
import Derived.Test.YtiaphaghjklhaaaHearP
import Derived.Test.YtiaphaghjklhaaaHear
import Derived.WalkMore
import Derived.ScopeJumps
namespace Go.Proofs.Ytiaphaghjklhaaa
open Go.RowKit
set_option linter.unusedVariables false

theorem feeds_length (l : List UInt8) : ∀ x : Wr, (x.feeds l).length ≤ l.length := by
  induction l with
  | nil => intro x; exact Nat.le_refl _
  | cons c l ih =>
    intro x
    show (x.hears c ++ (x.next c).feeds l).length ≤ _
    have := ih (x.next c)
    have h : (x.hears c).length ≤ 1 := by unfold Wr.hears; split <;> simp
    rw [List.length_append, List.length_cons]; omega
theorem OwnS.keptH {w w' : World} {base : Nat} {v : Value} {ss : List ByteArray} (h : OwnS w base v ss) (hk : ∀ g, base ≤ g → g < w.heap.size → w'.heap[g]? = w.heap[g]?) : OwnS w' base v ss := by
  refine ⟨h.1, h.2.imp id ?_⟩
  rintro ⟨g, cap, cur, e1, e2, e3, e4⟩
  exact ⟨g, cap, cur, e1, e2, (hk g e2 (Array.getElem?_eq_some_iff.1 e3).1).trans e3, e4⟩
/-- what lies in memory: the cursor, what was heard, what came since the last flag, the answer's place -/
structure WH (t : ByteArray) (w : World) (L k : Nat) (v bv : Value) (ss : List ByteArray) (buf : List UInt8) (w' : World) : Prop where
  le : k ≤ t.size
  crs : Crs L t k w'
  own : OwnS w' (L + 1) v ss
  ownM : OwnM w' (w.heap.size + 2) 5 bv buf
  res : w'.heap[w.heap.size + 1]? = some (.cells #[.bool false, .bool false, .bool false, .string ⟨#[]⟩] 35 (0, 0))
  bel : Below w.heap.size w w'
  lt : w.heap.size + 2 < L
  size : L < w'.heap.size
theorem ne_types : (5 : Nat) ≠ 103 ∧ (5 : Nat) ≠ 9 := by decide
theorem OwnM.ne {w : World} {base : Nat} {e : TypeId} {v : Value} {l : List UInt8} (h : OwnM w base e v l) {g : Nat} {cs : Array Value} {T : TypeId} {fz : Nat × Nat} (hg : w.heap[g]? = some (.cells cs T fz)) (hT : e ≠ T) : v.ownBlock ≠ some g := by
  intro he
  rcases h with ⟨rfl, rfl⟩ | ⟨g', cap, cur, fz', rfl, _, hg', _⟩
  · simp [Value.ownBlock] at he
  · simp [Value.ownBlock] at he
    subst he
    rw [hg] at hg'
    simp at hg'
    exact hT hg'.2.1.symm
theorem WH.next {t : ByteArray} {w : World} {L k : Nat} {v bv : Value} {ss : List ByteArray} {buf : List UInt8} {w' w'' : World} (h : WH t w L k v bv ss buf w') (j : Nat) (hj : j ≤ t.size) (hc : Crs L t j w'') (hJ : Just L w' w'') : WH t w L j v bv ss buf w'' := by
  refine ⟨hj, hc, ?_, ?_, (hJ.block _ (by have := h.lt; omega)).trans h.res, h.bel.trans (hJ.below (by have := h.lt; omega)), h.lt, by rw [hJ.size]; exact h.size⟩
  · exact h.own.keptH fun g h1 h2 => hJ.block g (by omega)
  · exact h.ownM.kept fun g hg => hJ.block g (fun e => h.ownM.ne h.crs ne_types.1 (by rw [hg, e]))
theorem WH.clear {t : ByteArray} {w : World} {L k : Nat} {v bv : Value} {ss : List ByteArray} {buf : List UInt8} {w' : World} (h : WH t w L k v bv ss buf w') : WH t w L k v (.slice none 0 0) ss [] w' :=
  ⟨h.le, h.crs, h.own, OwnM.nil _ _ _, h.res, h.bel, h.lt, h.size⟩
theorem WH.put {t : ByteArray} {w : World} {L k : Nat} {v bv : Value} {ss : List ByteArray} {buf : List UInt8} {w' : World} (h : WH t w L k v bv ss buf w') {o : Obj} {bv' : Value} {w'' : World} {l : List UInt8} (ho : OwnM w'' (w.heap.size + 2) 5 bv' l) (hg : (w'.alloc o).grownBy w'' bv.ownBlock) : WH t w L k v bv' ss l w'' := by
  have hs := h.size
  have key : ∀ (g : Nat) (cs : Array Value) (T : TypeId) (fz : Nat × Nat), w'.heap[g]? = some (Obj.cells cs T fz) → (5 : Nat) ≠ T → w''.heap[g]? = w'.heap[g]? := by
    intro g cs T fz h1 h2
    have hlt := (Array.getElem?_eq_some_iff.1 h1).1
    exact (hg.block g (by simp; omega) (fun e => h.ownM.ne h1 h2 e.symm)).trans (heap_alloc_old _ _ hlt)
  have bl : Below w.heap.size w w'' := (h.bel.alloc h.bel.size _).grown hg (by have := h.bel.size; simp; omega) (fun g e => by have := (h.ownM.lt g e).1; omega)
  refine ⟨h.le, (key L _ _ _ h.crs ne_types.1).trans h.crs, ?_, ho, ?_, bl, h.lt, by have := hg.size; simp at this; omega⟩
  · obtain ⟨q1, q2⟩ := h.own
    refine ⟨q1, q2.imp id ?_⟩
    rintro ⟨g, cap, cur, e1, e2, e3, e4⟩
    exact ⟨g, cap, cur, e1, e2, (key g _ _ _ e3 ne_types.2).trans e3, e4⟩
  · have hlt := (Array.getElem?_eq_some_iff.1 h.res).1
    exact (hg.block _ (by simp; omega) (fun e => by have := (h.ownM.lt _ e.symm).1; omega)).trans ((heap_alloc_old _ _ hlt).trans h.res)
theorem WH.hear {t : ByteArray} {w : World} {L k : Nat} {v bv : Value} {ss : List ByteArray} {buf : List UInt8} {w' : World} (h : WH t w L k v bv ss buf w') {v' : Value} {w'' : World} {ss' : List ByteArray} (ho : OwnS w'' (L + 1) v' ss') (hg : w'.grownBy w'' v.ownBlock) : WH t w L k v' bv ss' buf w'' := by
  have hs := h.size
  have key : ∀ g, g ≤ L → g < w'.heap.size → w''.heap[g]? = w'.heap[g]? := fun g h1 h2 => hg.block g h2 (fun e => by have := (World.ownsRow.lt h.own g e.symm).1; omega)
  refine ⟨h.le, (key L (Nat.le_refl _) hs).trans h.crs, ho, ?_, (key _ (by have := h.lt; omega) (by have := h.lt; omega)).trans h.res,
    h.bel.grown hg h.bel.size (fun g e => by have := (World.ownsRow.lt h.own g e).1; have := h.lt; omega), h.lt, Nat.lt_of_lt_of_le hs hg.size⟩
  refine h.ownM.kept fun g hgb => hg.block g (h.ownM.lt g hgb).2 (fun e => ?_)
  obtain ⟨_, ⟨q, _⟩ | ⟨g', cap, cur, q, _, hg', _⟩⟩ := h.own
  · rw [q] at e; simp [Value.ownBlock] at e
  · rw [q] at e
    simp [Value.ownBlock] at e
    subst e
    exact h.ownM.ne hg' ne_types.2 hgb
/-- what a label says of the wire that has heard the first k bytes -/
def StH (X0 : Wr) (t : ByteArray) (l k : Nat) (buf : List UInt8) (bo : Bool) (x7 : Value) : Prop :=
  match l with
  | 0 => X0.feed (t.data.toList.take k) = ⟨true, bo, true, []⟩
  | 1 => X0.feed (t.data.toList.take k) = ⟨true, true, false, buf⟩ ∧ bo = false
  | 2 => X0.feed (t.data.toList.take k) = ⟨true, false, false, buf⟩ ∧ bo = false
  | 3 => X0.feed (t.data.toList.take k) = ⟨false, false, false, []⟩
  | 4 => X0.feed (t.data.toList.take k) = ⟨true, false, false, []⟩
  | 5 => ∃ c : UInt8, x7 = .int .u8 c.toNat ∧ bo = false ∧ buf.length ≤ 62 ∧ X0.feed (t.data.toList.take k) = if buf.length = 62 then ⟨true, false, true, []⟩ else ⟨true, false, false, buf ++ [c]⟩
  | _ => False
def kOf (L : Nat) (w : World) : Nat := match w.cell? ⟨L, 1, none⟩ with
  | some (.int _ n) => n.toNat
  | _ => 0
theorem kOf_crs {L : Nat} {t : ByteArray} {k : Nat} {w : World} (h : Crs L t k w) : kOf L w = k := by
  have h' : w.heap[L]? = some (.cells #[.string t, .int .i64 k] 103 (0, 0)) := h
  have c1 : w.cell? ⟨L, 1, none⟩ = some (.int .i64 k) := by simp only [World.cell?, h']; rfl
  unfold kOf
  rw [c1]
  simp
theorem hears_heardS (buf : List UInt8) : ((⟨true, false, false, buf⟩ : Wr).hears 126).map bytesOf = heardS buf := by
  unfold Wr.hears heardS Wr.heard
  by_cases h : 3 ≤ buf.length ∧ checkL (buf.take (buf.length - 2)) = buf.drop (buf.length - 2)
  · rw [if_pos h]
    simp only [true_and, h, and_self, if_true]
    rw [if_pos]
    · rfl
    · intro e
      have := congrArg List.length e
      rw [List.length_take] at this
      simp only [List.length_nil] at this
      omega
  · rw [if_neg h]
    simp only [true_and]
    rw [if_neg h]
    simp
def rankH (l : Nat) : Nat := if l = 4 ∨ l = 5 then 1 else 0
end Go.Proofs.Ytiaphaghjklhaaa
