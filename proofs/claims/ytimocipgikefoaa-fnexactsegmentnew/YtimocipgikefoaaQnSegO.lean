/- A SEGMENT THAT CAME IN: opened. Written by mksego.py. -/
import Derived.Test.YtimocipgikefoaaQnSegX
import Derived.Test.YtimocipgikefoaaQnStnO
import Derived.Deep.Slices
namespace Go.Proofs.Ytimocipgikefoaa
open Go.RowKit Go.ChangeShapes Go.WideShapes Go.ChangeAt
set_option linter.unusedVariables false
set_option linter.unusedSimpArgs false

theorem list19 {α : Type} {l : List α} (h : l.length = 19) : ∃ c0 c1 c2 c3 c4 c5 c6 c7 c8 c9 c10 c11 c12 c13 c14 c15 c16 c17 c18, l = [c0, c1, c2, c3, c4, c5, c6, c7, c8, c9, c10, c11, c12, c13, c14, c15, c16, c17, c18] := by
  match l, h with
  | [c0, c1, c2, c3, c4, c5, c6, c7, c8, c9, c10, c11, c12, c13, c14, c15, c16, c17, c18], _ => exact ⟨c0, c1, c2, c3, c4, c5, c6, c7, c8, c9, c10, c11, c12, c13, c14, c15, c16, c17, c18, rfl⟩
theorem list3s {α : Type} {l : List α} (h : l.length = 3) : ∃ c0 c1 c2, l = [c0, c1, c2] := by
  match l, h with
  | [c0, c1, c2], _ => exact ⟨c0, c1, c2, rfl⟩
theorem array3s {α : Type} {l : Array α} (h : l.size = 3) : ∃ c0 c1 c2, l = #[c0, c1, c2] := by
  obtain ⟨l⟩ := l
  match l, h with
  | [c0, c1, c2], _ => exact ⟨c0, c1, c2, rfl⟩
theorem list1s {α : Type} {l : List α} (h : l.length = 1) : ∃ c0, l = [c0] := by
  match l, h with
  | [c0], _ => exact ⟨c0, rfl⟩
theorem cellsBo : Try.prog.cellsOf 4 = 1 := by kernel_rfl
theorem cellsBs : Try.prog.cellsOf 44 = 1 := by kernel_rfl
theorem range_cells {w : World} {base : Nat} {a : Addr} {i n : Nat} {cs : List Value} {g o : Nat} (ha : a = ⟨g, o, none⟩) (h : w.cells? base (a.add (i * n)) n = some cs) : cs.length = n ∧ w.rangeAt g (o + i * n) cs := by
  subst ha
  obtain ⟨_, hl, hc⟩ := World.cells?_some h
  refine ⟨hl, fun j v hv => ?_⟩
  have hj : j < n := by rw [← hl]; exact (List.getElem?_eq_some_iff.1 hv).1
  have := hc j hj
  rw [addN, addN, hv] at this
  exact this
theorem spotC {w : World} {base : Nat} {a : Addr} {n : Nat} {cs : List Value} (hn : 0 < n) (h : w.cells? base (a.add (0 * n)) n = some cs) : ∃ g o, a = ⟨g, o, none⟩ ∧ g < w.heap.size := by
  obtain ⟨_, hl, hc⟩ := World.cells?_some h
  have := hc 0 hn
  rw [List.getElem?_eq_getElem (by omega), Nat.zero_mul] at this
  have e : (a.add 0).add 0 = a.add 0 := by rw [Go.Deep.add_add]
  rw [e] at this
  exact spot0 this
set_option maxRecDepth 100000 in
theorem open_bools {H : Type} {enc : TypeId × Value → H} {W : World} {base : Nat} {held : Bool} {c : Value} {y : _} {n : Nat} (h : DataW.trod enc Try.prog W base (fun _ => true) held n 44 [c] = some y) :
    ∃ (us : List Bool) (p : Option Addr) (k : Nat), c = .slice p us.length k ∧ InBo W p us := by
  rcases Go.Deep.open_slice Try.underlying44 h with ⟨hcs, _⟩ | ⟨a, len, cap, m, n, D, Pl, hcs, _, hl, hm, hmm, _, hx⟩
  · simp at hcs
    exact ⟨[], none, 0, hcs, by simp, fun k hk => by simp at hk⟩
  · simp at hcs hmm
    unfold maxLen at hm
    rw [cellsBo] at hx
    by_cases h0 : len = 0
    · subst h0
      exact ⟨[], some a, cap, hcs, by simp, fun k hk => by simp at hk⟩
    obtain ⟨g, o, rfl, hg⟩ : ∃ g o, a = ⟨g, o, none⟩ ∧ g < W.heap.size := by
      obtain ⟨cs', h1, _⟩ := hx 0 (by omega)
      exact spotC (by omega) h1
    have H : ∀ i, ∃ b : Bool, ∀ (hi : i < len), W.cell? ⟨g, o + i, none⟩ = some (.bool b) := fun i => by
      by_cases hi : i < len
      · obtain ⟨cs', h1, h2⟩ := hx i (by omega)
        obtain ⟨hl', hr⟩ := range_cells rfl h1
        obtain ⟨c0, rfl⟩ := list1s hl'
        obtain ⟨b, e, _⟩ := DataW.trod_bool Try.underlying4 h2
        cases e
        exact ⟨b, fun _ => by simpa using hr 0 _ rfl⟩
      · exact ⟨false, fun h => absurd h hi⟩
    obtain ⟨f, hf⟩ := Classical.axiomOfChoice H
    have hlen : ((List.range len).map f).length = len := by simp
    refine ⟨(List.range len).map f, some ⟨g, o, none⟩, cap, by rw [hlen]; exact hcs, by rw [hlen]; omega, fun k hk => ?_⟩
    rw [hlen] at hk
    have eG : ((List.range len).map f)[k]'(by rw [hlen]; exact hk) = f k := by simp
    rw [eG]
    exact ⟨g, o, rfl, hg, hf k hk⟩
end Go.Proofs.Ytimocipgikefoaa
