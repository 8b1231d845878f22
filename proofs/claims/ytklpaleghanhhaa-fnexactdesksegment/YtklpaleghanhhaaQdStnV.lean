/- A TABLE THAT CAME IN: opened; copied, counted and held against another by the law itself; marked, still marked. -/
import Derived.Test.YtklpaleghanhhaaQdBox
import Derived.Test.YtklpaleghanhhaaQdPlainTb
import Derived.WalkKit
import Derived.WalkSpells
import Derived.Outline
import Derived.Below
import Derived.OpenShut
import Derived.ShutString
import Derived.ChangeOld
import Derived.Lib.SmallJoins
import Derived.Deep.RegionHeld3
import Derived.Deep.DeepCutAuto
namespace Go.Proofs.Ytklpaleghanhhaa
open Go.RowKit Go.ChangeShapes Go.WideShapes Go.ChangeAt
set_option linter.unusedVariables false
set_option linter.unusedSimpArgs false

theorem array2t {α : Type} {cs : Array α} (h : cs.size = 2) : ∃ c0 c1, cs = #[c0, c1] := by
  obtain ⟨l⟩ := cs
  match l, h with
  | [c0, c1], _ => exact ⟨c0, c1, rfl⟩
theorem list2t {α : Type} {l : List α} (h : l.length = 2) : ∃ c0 c1, l = [c0, c1] := by
  match l, h with
  | [c0, c1], _ => exact ⟨c0, c1, rfl⟩
theorem cellsIt : Try.prog.cellsOf 2 = 1 := by kernel_rfl
theorem cellsRt : Try.prog.cellsOf 78 = 1 := by kernel_rfl
set_option maxRecDepth 100000 in
theorem open_row {H : Type} {enc : TypeId × Value → H} {W : World} {base : Nat} {held : Bool} {c : Value} {y : _} {n : Nat} (h : DataW.trod enc Try.prog W base (fun _ => true) held n 78 [c] = some y) :
    ∃ (zs : List Int) (p : Option Addr) (k : Nat), c = .slice p zs.length k ∧ InI W p zs := by
  obtain ⟨a, len, cap, ys, e7, hrow⟩ : ∃ a len cap zs, c = .slice a len cap ∧ IsRowN .i64 W a len cap zs := by
    rcases open_ints Try.underlying78 Try.underlying2 cellsIt h with ⟨hcs, _⟩ | ⟨x, l, c, zs, hcs, _, hl, hm, hz, _, hcell, hwz⟩
    · simp at hcs
      exact ⟨none, 0, 0, [], hcs, .inl ⟨rfl, rfl, rfl, rfl⟩⟩
    · simp at hcs
      exact ⟨some x, l, c, zs, hcs, .inr ⟨_, rfl, hl, hm, by simpa using hz, hcell, hwz⟩⟩
  subst e7
  obtain ⟨ws, rfl, hini, _⟩ := hrow.ini
  exact ⟨ws, a, cap, rfl, hini⟩
/-- what the law counts of a table -/
def leftT (t : Tb) : Int := if t.cs.length + t.rs.length ≤ 1048576 then 1048576 - (t.cs.length : Int) - (t.rs.length : Int) else -1
/-- two lists of a table's own, that lie apart -/
structure OwnT (w : World) (base : Nat) (v1 v2 : Value) (t : Tb) : Prop where
  c : OwnI w base v1 t.cs
  r : OwnI w base v2 t.rs
  ne : ∀ a b, v1.ownBlock = some a → v2.ownBlock = some b → a ≠ b
theorem OwnT.below {w w' : World} {base : Nat} {v1 v2 : Value} {t : Tb} (h : OwnT w base v1 v2 t) (hb : Below w.heap.size w w') : OwnT w' base v1 v2 t := ⟨h.c.below hb, h.r.below hb, h.ne⟩
theorem OwnI.farT {w : World} {base : Nat} {v : Value} {zs : List Int} (h : OwnI w base v zs) {a : Addr} (ha : a.block < base) (x : Value) : OwnI (w.setCell a x) base v zs := by
  refine ⟨h.1, h.2.imp id ?_⟩
  rintro ⟨g, cap, cur, e1, e2, e3, e4⟩
  exact ⟨g, cap, cur, e1, e2, (Below.heap_setCell _ _ _ _ (by omega)).trans e3, e4⟩
theorem OwnI.leT {w : World} {base B : Nat} {v : Value} {zs : List Int} (h : OwnI w base v zs) (hB : B ≤ base) : OwnI w B v zs := by
  refine ⟨h.1, h.2.imp id ?_⟩
  rintro ⟨g, cap, cur, e1, e2, e3⟩
  exact ⟨g, cap, cur, e1, Nat.le_trans hB e2, e3⟩
theorem OwnT.farT {w : World} {base : Nat} {v1 v2 : Value} {t : Tb} (h : OwnT w base v1 v2 t) {a : Addr} (ha : a.block < base) (x : Value) : OwnT (w.setCell a x) base v1 v2 t := ⟨h.c.farT ha x, h.r.farT ha x, h.ne⟩
theorem OwnT.leT {w : World} {base B : Nat} {v1 v2 : Value} {t : Tb} (h : OwnT w base v1 v2 t) (hB : B ≤ base) : OwnT w B v1 v2 t := ⟨h.c.leT hB, h.r.leT hB, h.ne⟩
/-- one made behind the other -/
theorem OwnT.mk2 {w : World} {b m : Nat} {v1 v2 : Value} {t : Tb} (h1 : OwnI w b v1 t.cs) (h2 : OwnI w m v2 t.rs) (hb : b ≤ m) (hlt : ∀ k, v1.ownBlock = some k → k < m) : OwnT w b v1 v2 t :=
  ⟨h1, h2.leT hb, fun a c ha hc e => by have := hlt a ha; have := (OwnI.lt h2 c hc).1; omega⟩
theorem blk_set {W : World} {G : Nat} {cs : Array Value} {t : TypeId} (h : W.heap[G]? = some (.cells cs t (0, 0))) (o : Nat) (v : Value) : (W.setCell ⟨G, o, none⟩ v).heap[G]? = some (.cells (cs.setIfInBounds o v) t (0, 0)) := by
  rw [setCell_eq_setRow W G o cs _ (0, 0) _ h, setRow_heap W G cs _ _ _ h]
theorem blk_far {W : World} {G : Nat} {o : Obj} (h : W.heap[G]? = some o) {a : Addr} (ha : G ≠ a.block) (v : Value) : (W.setCell a v).heap[G]? = some o := (Below.heap_setCell _ _ _ _ (by omega)).trans h
end Go.Proofs.Ytklpaleghanhhaa
/- THE LAW'S OWN COPIES: of what others told all, and of texts. -/
namespace Go.Proofs.Ytklpaleghanhhaa
open Go.RowKit
set_option linter.unusedVariables false
set_option linter.unusedSimpArgs false

theorem OwnT4.cell {w : World} {base : Nat} {a : Option Addr} {n cap : Nat} {ss : List ByteArray} (h : OwnT4 w base (.slice a n cap) ss) (k : Nat) (hk : k < ss.length) : ∃ g, a = some ⟨g, 0, none⟩ ∧ base ≤ g ∧ g < w.heap.size ∧ w.cell? ⟨g, k, none⟩ = some (.string ss[k]) ∧ w.frozen? ⟨g, k, none⟩ = false := by
  rcases h.2 with ⟨h1, h0⟩ | ⟨g, cap', cur, h1, hb, hg, _⟩
  · omega
  · cases h1
    refine ⟨g, rfl, hb, (Array.getElem?_eq_some_iff.1 hg).1, ?_, World.ownsRow.frozenAt h k⟩
    rw [World.ownsRow.cellAt h k (by omega), List.getElem?_map, List.getElem?_eq_getElem hk]
    rfl
theorem OwnT4.below {w w' : World} {base : Nat} {v : Value} {ss : List ByteArray} (h : OwnT4 w base v ss) (hb : Below w.heap.size w w') : OwnT4 w' base v ss := by
  refine ⟨h.1, h.2.imp id ?_⟩
  rintro ⟨g, cap, cur, e1, e2, e3, e4⟩
  exact ⟨g, cap, cur, e1, e2, (hb.block g (Array.getElem?_eq_some_iff.1 e3).1).trans e3, e4⟩
theorem OwnT4.set {w : World} {base g n cap : Nat} {ss : List ByteArray} (h : OwnT4 w base (.slice (some ⟨g, 0, none⟩) n cap) ss) (j : Nat) (hj : j < ss.length) (m : ByteArray) : OwnT4 (w.setCell ⟨g, j, none⟩ (.string m)) base (.slice (some ⟨g, 0, none⟩) n cap) (ss.set j m) := by
  have hn : n = ss.length := by rcases h.2 with ⟨h1, _⟩ | ⟨g, cap, cur, h1, _⟩ <;> cases h1; rfl
  subst hn
  have := (World.ownsRow.stored h j (.string m)).1
  unfold OwnT4
  rw [List.length_set, List.map_set]
  exact this
theorem OwnT4.lt {w : World} {base : Nat} {v : Value} {ss : List ByteArray} (h : OwnT4 w base v ss) : ∀ k, v.ownBlock = some k → base ≤ k ∧ k < w.heap.size := World.ownsRow.lt h
theorem infoT4 : (Try.prog.info? 9).map (fun i => (i.zero, i.size, i.bytes)) = some (some (.string ⟨#[]⟩), 1, 16) := by kernel_rfl
theorem infoG4 : (Try.prog.info? 175).map (fun i => (i.zero, i.size, i.bytes)) = some (some (.agg #[.int .i64 0, .slice none 0 0]), 2, 32) := by kernel_rfl
theorem set_midS {l m : List ByteArray} {c : ByteArray} (h : m ≠ []) : (l ++ m).set l.length c = (l ++ [c]) ++ m.drop 1 := by
  cases m with
  | nil => exact absurd rfl h
  | cons a m => simp
theorem copy_stepS (zs : List ByteArray) (j : Nat) (h : j < zs.length) : (zs.take j ++ List.replicate (zs.length - j) (⟨#[]⟩ : ByteArray)).set j zs[j] = zs.take (j + 1) ++ List.replicate (zs.length - (j + 1)) ⟨#[]⟩ := by
  have := set_midS (l := zs.take j) (m := List.replicate (zs.length - j) (⟨#[]⟩ : ByteArray)) (c := zs[j]) (by intro e; have := congrArg List.length e; simp at this; omega)
  rw [List.length_take, Nat.min_eq_left (by omega)] at this
  rw [this, List.take_succ_eq_append_getElem h, List.drop_replicate, Nat.sub_sub]
theorem zeros_listS (n : Nat) : (madeCells (Value.string ⟨#[]⟩).cells (n * 1)).toList = (List.replicate n (⟨#[]⟩ : ByteArray)).map Value.string := by
  rw [show (Value.string ⟨#[]⟩).cells = #[Value.string ⟨#[]⟩] from rfl, toList_madeCells_one, List.map_replicate, Nat.mul_one]
end Go.Proofs.Ytklpaleghanhhaa
