/- OWN ROWS of bytes told by their numbers: read, written, and turned to a text. -/
import Derived.Test.YtklpaleghanhhaaProg
import Derived.Test.YtklpaleghanhhaaQdOwnM
import Derived.Test.YtklpaleghanhhaaQdBox
namespace Go.Proofs.Ytklpaleghanhhaa
open Go.RowKit
set_option linter.unusedVariables false

def OwnU (w : World) (base : Nat) (v : Value) (zs : List Int) : Prop := w.ownsRow base 5 1 v zs.length (zs.map (Value.int .u8))
theorem OwnU.cell {w : World} {base : Nat} {a : Option Addr} {n cap : Nat} {zs : List Int} (h : OwnU w base (.slice a n cap) zs) (k : Nat) (hk : k < zs.length) : ∃ g, a = some ⟨g, 0, none⟩ ∧ base ≤ g ∧ g < w.heap.size ∧ w.cell? ⟨g, k, none⟩ = some (.int .u8 zs[k]) ∧ w.frozen? ⟨g, k, none⟩ = false := by
  obtain ⟨_, ⟨h1, h0⟩ | ⟨g, cap, cur, h1, hb, hg, _, _, _, ht⟩⟩ := h
  · omega
  · cases h1
    have hg' := (Array.getElem?_eq_some_iff.1 hg).1
    have e : cur[k]? = some (.int .u8 zs[k]) := by
      have : (cur.toList.take (zs.length * 1))[k]? = some (.int .u8 zs[k]) := by rw [ht, List.getElem?_map, List.getElem?_eq_getElem hk]; rfl
      rw [List.getElem?_take_of_lt (by omega)] at this
      simpa using this
    exact ⟨g, rfl, hb, hg', by simp [World.cell?, hg, e], by simp [World.frozen?, hg]⟩
theorem OwnU.below {w w' : World} {base : Nat} {v : Value} {zs : List Int} (h : OwnU w base v zs) (hb : Below w.heap.size w w') : OwnU w' base v zs := by
  refine ⟨h.1, h.2.imp id ?_⟩
  rintro ⟨g, cap, cur, e1, e2, e3, e4⟩
  exact ⟨g, cap, cur, e1, e2, (hb.block g (Array.getElem?_eq_some_iff.1 e3).1).trans e3, e4⟩
theorem OwnU.set {w : World} {base g n cap : Nat} {zs : List Int} (h : OwnU w base (.slice (some ⟨g, 0, none⟩) n cap) zs) (j : Nat) (hj : j < zs.length) (m : Int) : OwnU (w.setCell ⟨g, j, none⟩ (.int .u8 m)) base (.slice (some ⟨g, 0, none⟩) n cap) (zs.set j m) := by
  obtain ⟨h0, ⟨h1, _⟩ | ⟨g, cap, cur, h1, hb, hg, h2, h3, h4, ht⟩⟩ := h
  · cases h1
  · cases h1
    refine ⟨by simp, .inr ⟨g, cap, cur.setIfInBounds j (.int .u8 m), by rw [List.length_set], hb, ?_, by rw [List.length_set]; exact h2, h3, by simpa using h4, ?_⟩⟩
    · rw [setCell_eq_setRow w g j cur _ (0, 0) _ hg, setRow_heap w g cur _ _ _ hg]
    · rw [List.length_set, Array.toList_setIfInBounds, List.take_set, ht, List.map_set]
theorem OwnU.text {w : World} {base : Nat} {v : Value} {l : List UInt8} (h : OwnU w base v (l.map fun b => (b.toNat : Int))) : (convert 155 9 v).run Try.prog w = .ok (.string ⟨l.toArray⟩) w := by
  refine OwnM.conv _ _ Try.underlying155 Try.underlying5 Try.underlying9 (OwnM.own (w := w) (base := base) ?_)
  have := h
  unfold OwnU at this
  rw [List.length_map, List.map_map] at this
  exact this
theorem info8 : (Try.prog.info? 5).map (fun i => (i.zero, i.size, i.bytes)) = some (some (.int .u8 0), 1, 1) := by kernel_rfl
theorem zeros_list8 (n : Nat) : (madeCells (Value.int .u8 0).cells (n * 1)).toList = (List.replicate n (0 : Int)).map (Value.int .u8) := by
  rw [show (Value.int .u8 0).cells = #[Value.int .u8 0] from rfl, toList_madeCells_one, List.map_replicate, Nat.mul_one]
end Go.Proofs.Ytklpaleghanhhaa
