/- A STATION'S OWN MEMORY: each of its lists lies in a stretch of its own. -/
import Derived.Test.YtancfnpmbddfoaaStnX
namespace Go.Proofs.Ytancfnpmbddfoaa
open Go.RowKit
set_option linter.unusedVariables false
set_option linter.unusedSimpArgs false

/-- what lies in a stretch has stayed -/
def Same (w w' : World) (lo hi : Nat) : Prop := ∀ k, lo ≤ k → k < hi → w'.heap[k]? = w.heap[k]?
def OwnIB (w : World) (lo hi : Nat) (v : Value) (zs : List Int) : Prop := OwnI w lo v zs ∧ ∀ k, v.ownBlock = some k → k < hi
def OwnTB (w : World) (lo hi : Nat) (v : Value) (ss : List ByteArray) : Prop := OwnT4 w lo v ss ∧ ∀ k, v.ownBlock = some k → k < hi
def OwnGB (w : World) (lo hi : Nat) (v : Value) (gs : List (Int × List Int)) : Prop :=
  ∃ ps : List (Int × Value), ps.length = gs.length ∧ w.ownsRow lo 79 2 v gs.length (flatP ps) ∧
    (∀ k (h : k < gs.length) (h' : k < ps.length), ps[k].1 = gs[k].1 ∧ OwnIB w lo hi ps[k].2 gs[k].2) ∧
    (∀ i j a (hi : i < ps.length) (hj : j < ps.length), ps[i].2.ownBlock = some a → ps[j].2.ownBlock = some a → i = j) ∧
    (∀ i a (hi : i < ps.length), ps[i].2.ownBlock = some a → v.ownBlock ≠ some a) ∧ (∀ k, v.ownBlock = some k → k < hi)
theorem owns_same {w w' : World} {lo hi : Nat} {e : TypeId} {k : Nat} {v : Value} {n : Nat} {xs : List Value} (h : w.ownsRow lo e k v n xs) (hh : ∀ k, v.ownBlock = some k → k < hi) (hs : Same w w' lo hi) : w'.ownsRow lo e k v n xs := by
  refine ⟨h.1, h.2.imp id ?_⟩
  rintro ⟨g, cap, cur, e1, e2, e3, e4⟩
  exact ⟨g, cap, cur, e1, e2, (hs g e2 (hh g (by rw [e1]; rfl))).trans e3, e4⟩
theorem OwnIB.same {w w' : World} {lo hi : Nat} {v : Value} {zs : List Int} (h : OwnIB w lo hi v zs) (hs : Same w w' lo hi) : OwnIB w' lo hi v zs := ⟨owns_same h.1 h.2 hs, h.2⟩
theorem OwnTB.same {w w' : World} {lo hi : Nat} {v : Value} {ss : List ByteArray} (h : OwnTB w lo hi v ss) (hs : Same w w' lo hi) : OwnTB w' lo hi v ss := ⟨owns_same h.1 h.2 hs, h.2⟩
theorem OwnGB.same {w w' : World} {lo hi : Nat} {v : Value} {gs : List (Int × List Int)} (h : OwnGB w lo hi v gs) (hs : Same w w' lo hi) : OwnGB w' lo hi v gs := by
  obtain ⟨ps, hl, hr, hk, hd, hn, hh⟩ := h
  exact ⟨ps, hl, owns_same hr hh hs, fun k h1 h2 => ⟨(hk k h1 h2).1, (hk k h1 h2).2.same hs⟩, hd, hn, hh⟩
theorem Same.below {w w' : World} {lo hi : Nat} (hb : Below w.heap.size w w') (hh : hi ≤ w.heap.size) : Same w w' lo hi := fun k _ h2 => hb.block k (by omega)
theorem Same.far {w : World} {lo hi : Nat} {a : Addr} (ha : a.block < lo ∨ hi ≤ a.block) (x : Value) : Same w (w.setCell a x) lo hi := fun k h1 h2 => Below.heap_setCell _ _ _ _ (by omega)
theorem Same.trans {w a b : World} {lo hi : Nat} (h1 : Same w a lo hi) (h2 : Same a b lo hi) : Same w b lo hi := fun k x y => (h2 k x y).trans (h1 k x y)
theorem OwnI.ib {w : World} {lo : Nat} {v : Value} {zs : List Int} (h : OwnI w lo v zs) : OwnIB w lo w.heap.size v zs := ⟨h, fun k e => (OwnI.lt h k e).2⟩
theorem OwnT4.tb {w : World} {lo : Nat} {v : Value} {ss : List ByteArray} (h : OwnT4 w lo v ss) : OwnTB w lo w.heap.size v ss := ⟨h, fun k e => (h.lt k e).2⟩
theorem OwnG.gb {w : World} {lo : Nat} {v : Value} {gs : List (Int × List Int)} (h : OwnG w lo v gs) : OwnGB w lo w.heap.size v gs := by
  obtain ⟨ps, hl, hr, hk, hd, hn⟩ := h
  exact ⟨ps, hl, hr, fun k h1 h2 => ⟨(hk k h1 h2).1, (hk k h1 h2).2.ib⟩, hd, hn, fun k e => (hr.lt k e).2⟩
theorem OwnGB.g {w : World} {lo hi : Nat} {v : Value} {gs : List (Int × List Int)} (h : OwnGB w lo hi v gs) : OwnG w lo v gs := by
  obtain ⟨ps, hl, hr, hk, hd, hn, hh⟩ := h
  exact ⟨ps, hl, hr, fun k h1 h2 => ⟨(hk k h1 h2).1, (hk k h1 h2).2.1⟩, hd, hn⟩
/-- a station's own lists, each in its stretch -/
structure OwnStn (w : World) (base : Nat) (v1 v2 v3 v4 : Value) (s : Stn) : Prop where
  all : ∃ l1 h1 l2 h2 l3 h3 l4 h4, (base ≤ l1 ∧ base ≤ l2 ∧ base ≤ l3 ∧ base ≤ l4) ∧ (h1 ≤ w.heap.size ∧ h2 ≤ w.heap.size ∧ h3 ≤ w.heap.size ∧ h4 ≤ w.heap.size) ∧
    OwnIB w l1 h1 v1 s.kn ∧ OwnIB w l2 h2 v2 s.ws ∧ OwnGB w l3 h3 v3 s.gs ∧ OwnTB w l4 h4 v4 s.os ∧
    (h1 ≤ l2 ∨ h2 ≤ l1) ∧ (h1 ≤ l3 ∨ h3 ≤ l1) ∧ (h1 ≤ l4 ∨ h4 ≤ l1) ∧ (h2 ≤ l3 ∨ h3 ≤ l2) ∧ (h2 ≤ l4 ∨ h4 ≤ l2) ∧ (h3 ≤ l4 ∨ h4 ≤ l3)
theorem OwnStn.rows {w : World} {base : Nat} {v1 v2 v3 v4 : Value} {s : Stn} (h : OwnStn w base v1 v2 v3 v4 s) : RowI w v1 s.kn ∧ RowI w v2 s.ws ∧ RowG w v3 s.gs ∧ RowS w v4 s.os := by
  obtain ⟨l1, h1, l2, h2, l3, h3, l4, h4, _, _, o1, o2, o3, o4, _⟩ := h.all
  exact ⟨o1.1.row, o2.1.row, o3.g.row, o4.1.row⟩
theorem OwnStn.below {w w' : World} {base : Nat} {v1 v2 v3 v4 : Value} {s : Stn} (h : OwnStn w base v1 v2 v3 v4 s) (hb : Below w.heap.size w w') : OwnStn w' base v1 v2 v3 v4 s := by
  obtain ⟨l1, h1, l2, h2, l3, h3, l4, h4, hl, hh, o1, o2, o3, o4, d⟩ := h.all
  have := hb.size
  exact ⟨l1, h1, l2, h2, l3, h3, l4, h4, hl, ⟨by omega, by omega, by omega, by omega⟩, o1.same (Same.below hb hh.1), o2.same (Same.below hb hh.2.1), o3.same (Same.below hb hh.2.2.1), o4.same (Same.below hb hh.2.2.2), d⟩
theorem Below.setRow {B : Nat} {w w' : World} (h : Below B w w') {g : Nat} (hg : B ≤ g) (cs : Array Value) : Below B w (w'.setRow g cs) :=
  ⟨h.os, h.tape, h.output, by rw [setRow_size]; exact h.size, fun k hk => (setRow_other w' g k cs (by omega)).trans (h.block k hk)⟩
theorem Same.setRow {w : World} {lo hi g : Nat} (hg : g < lo ∨ hi ≤ g) (cs : Array Value) : Same w (w.setRow g cs) lo hi := fun k h1 h2 => setRow_other w g k cs (by omega)
end Go.Proofs.Ytancfnpmbddfoaa
