/- THE LAW'S OWN COPY of what others told all. -/
import Derived.Test.YtklpaleghanhhaaQdStnV
import Derived.Test.YtklpaleghanhhaaQdPlainTb
import Derived.Deep.DeepCutAuto
import Derived.Deep.RegionHeld3
namespace Go.Proofs.Ytklpaleghanhhaa
open Go.RowKit
set_option linter.unusedVariables false
set_option linter.unusedSimpArgs false

theorem owns_below {w w' : World} {base : Nat} {e : TypeId} {k : Nat} {v : Value} {n : Nat} {xs : List Value} (h : w.ownsRow base e k v n xs) (hb : Below w.heap.size w w') : w'.ownsRow base e k v n xs := by
  refine ⟨h.1, h.2.imp id ?_⟩
  rintro ⟨g, cap, cur, e1, e2, e3, e4⟩
  exact ⟨g, cap, cur, e1, e2, (hb.block g (Array.getElem?_eq_some_iff.1 e3).1).trans e3, e4⟩
theorem owns_far {w : World} {base : Nat} {e : TypeId} {k : Nat} {v : Value} {n : Nat} {xs : List Value} (h : w.ownsRow base e k v n xs) {a : Addr} (ha : a.block < base) (x : Value) : (w.setCell a x).ownsRow base e k v n xs := by
  refine ⟨h.1, h.2.imp id ?_⟩
  rintro ⟨g, cap, cur, e1, e2, e3, e4⟩
  exact ⟨g, cap, cur, e1, e2, (Below.heap_setCell _ _ _ _ (by omega)).trans e3, e4⟩
theorem owns_le {w : World} {base B : Nat} {e : TypeId} {k : Nat} {v : Value} {n : Nat} {xs : List Value} (h : w.ownsRow base e k v n xs) (hB : B ≤ base) : w.ownsRow B e k v n xs := by
  refine ⟨h.1, h.2.imp id ?_⟩
  rintro ⟨g, cap, cur, e1, e2, e3⟩
  exact ⟨g, cap, cur, e1, Nat.le_trans hB e2, e3⟩
theorem OwnG.below {w w' : World} {base : Nat} {v : Value} {gs : List (Int × List Int)} (h : OwnG w base v gs) (hb : Below w.heap.size w w') : OwnG w' base v gs := by
  obtain ⟨ps, hl, hr, hk, hd, hn⟩ := h
  exact ⟨ps, hl, owns_below hr hb, fun k h1 h2 => ⟨(hk k h1 h2).1, (hk k h1 h2).2.below hb⟩, hd, hn⟩
theorem OwnG.farT {w : World} {base : Nat} {v : Value} {gs : List (Int × List Int)} (h : OwnG w base v gs) {a : Addr} (ha : a.block < base) (x : Value) : OwnG (w.setCell a x) base v gs := by
  obtain ⟨ps, hl, hr, hk, hd, hn⟩ := h
  exact ⟨ps, hl, owns_far hr ha x, fun k h1 h2 => ⟨(hk k h1 h2).1, (hk k h1 h2).2.farT ha x⟩, hd, hn⟩
theorem OwnG.leT {w : World} {base B : Nat} {v : Value} {gs : List (Int × List Int)} (h : OwnG w base v gs) (hB : B ≤ base) : OwnG w B v gs := by
  obtain ⟨ps, hl, hr, hk, hd, hn⟩ := h
  exact ⟨ps, hl, owns_le hr hB, fun k h1 h2 => ⟨(hk k h1 h2).1, (hk k h1 h2).2.leT hB⟩, hd, hn⟩
theorem OwnT4.farT {w : World} {base : Nat} {v : Value} {ss : List ByteArray} (h : OwnT4 w base v ss) {a : Addr} (ha : a.block < base) (x : Value) : OwnT4 (w.setCell a x) base v ss := owns_far h ha x
theorem OwnT4.leT {w : World} {base B : Nat} {v : Value} {ss : List ByteArray} (h : OwnT4 w base v ss) (hB : B ≤ base) : OwnT4 w B v ss := owns_le h hB
/-- the first of them copied -/
def PartG (w : World) (r n : Nat) (gs : List (Int × List Int)) (j : Nat) : Prop :=
  ∃ ps : List (Int × Value), ps.length = n ∧ w.ownsRow r 175 2 (.slice (some ⟨r, 0, none⟩) n n) n (flatP ps) ∧
    (∀ k (hk : k < j) (h : k < gs.length) (h' : k < ps.length), ps[k].1 = gs[k].1 ∧ OwnI w (r + 1) ps[k].2 gs[k].2) ∧
    (∀ i k a (hi : i < j) (hk : k < j) (h1 : i < ps.length) (h2 : k < ps.length), ps[i].2.ownBlock = some a → ps[k].2.ownBlock = some a → i = k)
theorem PartG.step {w w2 : World} {r n j : Nat} {gs : List (Int × List Int)} (h : PartG w r n gs j) (hn : n = gs.length) (hj : j < gs.length) (hb : Below w.heap.size w w2) (v : Value) (ho : OwnI w2 w.heap.size v gs[j].2) :
    PartG ((w2.setCell ⟨r, j * 2, none⟩ (.int .i64 gs[j].1)).setCell ⟨r, j * 2 + 1, none⟩ v) r n gs (j + 1) := by
  obtain ⟨ps, hl, hr, hk, hd⟩ := h
  have hrw : r < w.heap.size := (hr.lt r rfl).2
  refine ⟨ps.set j (gs[j].1, v), by rw [List.length_set]; exact hl, ?_, ?_, ?_⟩
  · have h1 := (World.ownsRow.stored (owns_below hr hb) (j * 2) (.int .i64 gs[j].1)).1
    have h2 := (World.ownsRow.stored h1 (j * 2 + 1) v).1
    rw [flatP_set ps j gs[j].1 v (by omega)] at h2
    exact h2
  · intro k hk1 h1 h2
    by_cases hkj : k = j
    · subst hkj
      rw [List.getElem_set_self]
      exact ⟨rfl, OwnI.farT (OwnI.farT (OwnI.leT ho (by omega)) (by simp only; omega) _) (by simp only; omega) _⟩
    · rw [List.getElem_set_ne (fun e => hkj e.symm)]
      obtain ⟨a1, a2⟩ := hk k (by omega) h1 (by omega)
      exact ⟨a1, OwnI.farT (OwnI.farT (a2.below hb) (by simp only; omega) _) (by simp only; omega) _⟩
  · intro i k a hi hk1 h1 h2 e1 e2
    have key : ∀ m (hm : m < j) (h3 : m < ps.length), ps[m].2.ownBlock = some a → a < w.heap.size := fun m hm h3 e => (OwnI.lt (hk m hm (by omega) h3).2 a e).2
    have h1' : i < ps.length := by simpa using h1
    have h2' : k < ps.length := by simpa using h2
    by_cases hij : i = j
    · by_cases hkj : k = j
      · omega
      · subst hij
        rw [List.getElem_set_self] at e1
        rw [List.getElem_set_ne (fun e => hkj e.symm)] at e2
        have := key k (by omega) h2' e2
        have := (OwnI.lt ho a e1).1
        omega
    · by_cases hkj : k = j
      · subst hkj
        rw [List.getElem_set_self] at e2
        rw [List.getElem_set_ne (fun e => hij e.symm)] at e1
        have := key i (by omega) h1' e1
        have := (OwnI.lt ho a e2).1
        omega
      · rw [List.getElem_set_ne (fun e => hij e.symm)] at e1
        rw [List.getElem_set_ne (fun e => hkj e.symm)] at e2
        exact hd i k a (by omega) (by omega) h1' h2' e1 e2
theorem PartG.all {w : World} {r n : Nat} {gs : List (Int × List Int)} (h : PartG w r n gs n) (hn : n = gs.length) : OwnG w r (.slice (some ⟨r, 0, none⟩) n n) gs := by
  subst hn
  obtain ⟨ps, hl, hr, hk, hd⟩ := h
  refine ⟨ps, hl, hr, fun k h1 h2 => ⟨(hk k h1 h1 h2).1, (hk k h1 h1 h2).2.leT (by omega)⟩, fun i j a hi hj e1 e2 => hd i j a (by omega) (by omega) hi hj e1 e2, fun i a hi e1 e2 => ?_⟩
  have := (OwnI.lt (hk i (by omega) (by omega) hi).2 a e1).1
  have e3 : r = a := by simpa [Value.ownBlock] using e2
  omega
theorem PartG.cells {w : World} {r n j : Nat} {gs : List (Int × List Int)} (h : PartG w r n gs j) (k : Nat) (hk : k < n) : (∃ x, w.cell? ⟨r, k * 2, none⟩ = some (.int .i64 x)) ∧ (∃ u, w.cell? ⟨r, k * 2 + 1, none⟩ = some u) ∧ w.frozen? ⟨r, k * 2, none⟩ = false ∧ w.frozen? ⟨r, k * 2 + 1, none⟩ = false ∧ r < w.heap.size := by
  obtain ⟨ps, hl, hr, _⟩ := h
  refine ⟨⟨ps[k].1, ?_⟩, ⟨ps[k].2, ?_⟩, hr.frozenAt _, hr.frozenAt _, (hr.lt r rfl).2⟩
  · rw [hr.cellAt (k * 2) (by omega), flatP_even ps k (by omega)]
  · rw [hr.cellAt (k * 2 + 1) (by omega), flatP_odd ps k (by omega)]
theorem PartG.below {w w' : World} {r n j : Nat} {gs : List (Int × List Int)} (h : PartG w r n gs j) (hb : Below w.heap.size w w') : PartG w' r n gs j := by
  obtain ⟨ps, hl, hr, hk, hd⟩ := h
  exact ⟨ps, hl, owns_below hr hb, fun k h1 h2 h3 => ⟨(hk k h1 h2 h3).1, (hk k h1 h2 h3).2.below hb⟩, hd⟩
end Go.Proofs.Ytklpaleghanhhaa
/- A STATION'S OWN MEMORY: each of its lists lies in a stretch of its own. -/
namespace Go.Proofs.Ytklpaleghanhhaa
open Go.RowKit
set_option linter.unusedVariables false
set_option linter.unusedSimpArgs false

/-- what lies in a stretch has stayed -/
def Same (w w' : World) (lo hi : Nat) : Prop := ∀ k, lo ≤ k → k < hi → w'.heap[k]? = w.heap[k]?
def OwnIB (w : World) (lo hi : Nat) (v : Value) (zs : List Int) : Prop := OwnI w lo v zs ∧ ∀ k, v.ownBlock = some k → k < hi
def OwnTB (w : World) (lo hi : Nat) (v : Value) (ss : List ByteArray) : Prop := OwnT4 w lo v ss ∧ ∀ k, v.ownBlock = some k → k < hi
def OwnGB (w : World) (lo hi : Nat) (v : Value) (gs : List (Int × List Int)) : Prop :=
  ∃ ps : List (Int × Value), ps.length = gs.length ∧ w.ownsRow lo 175 2 v gs.length (flatP ps) ∧
    (∀ k (h : k < gs.length) (h' : k < ps.length), ps[k].1 = gs[k].1 ∧ OwnIB w lo hi ps[k].2 gs[k].2) ∧
    (∀ i j a (hi : i < ps.length) (hj : j < ps.length), ps[i].2.ownBlock = some a → ps[j].2.ownBlock = some a → i = j) ∧
    (∀ i a (hi : i < ps.length), ps[i].2.ownBlock = some a → v.ownBlock ≠ some a) ∧ (∀ k, v.ownBlock = some k → k < hi)
theorem owns_same {w w' : World} {lo hi : Nat} {e : TypeId} {k : Nat} {v : Value} {n : Nat} {xs : List Value} (h : w.ownsRow lo e k v n xs) (hh : ∀ k, v.ownBlock = some k → k < hi) (hs : Same w w' lo hi) : w'.ownsRow lo e k v n xs := by
  refine ⟨h.1, h.2.imp id ?_⟩
  rintro ⟨g, cap, cur, e1, e2, e3, e4⟩
  exact ⟨g, cap, cur, e1, e2, (hs g e2 (hh g (by rw [e1]; rfl))).trans e3, e4⟩
theorem OwnIB.same {w w' : World} {lo hi : Nat} {v : Value} {zs : List Int} (h : OwnIB w lo hi v zs) (hs : Same w w' lo hi) : OwnIB w' lo hi v zs := ⟨owns_same h.1 h.2 hs, h.2⟩
theorem OwnTB.same {w w' : World} {lo hi : Nat} {v : Value} {ss : List ByteArray} (h : OwnTB w lo hi v ss) (hs : Same w w' lo hi) : OwnTB w' lo hi v ss := ⟨owns_same h.1 h.2 hs, h.2⟩
theorem OwnGB.same {w w' : World} {lo hi : Nat} {v : Value} {gs : List (Int × List Int)} (h : OwnGB w lo hi v gs) (hs : Same w w' lo hi) : OwnGB w' lo hi v gs := by
  obtain ⟨ps, hl, hr, hk, hd, hn, hh⟩ := h
  exact ⟨ps, hl, owns_same hr hh hs, fun k h1 h2 => ⟨(hk k h1 h2).1, (hk k h1 h2).2.same hs⟩, hd, hn, hh⟩
theorem Same.below {w w' : World} {lo hi : Nat} (hb : Below w.heap.size w w') (hh : hi ≤ w.heap.size) : Same w w' lo hi := fun k _ h2 => hb.block k (by omega)
theorem Same.far {w : World} {lo hi : Nat} {a : Addr} (ha : a.block < lo ∨ hi ≤ a.block) (x : Value) : Same w (w.setCell a x) lo hi := fun k h1 h2 => Below.heap_setCell _ _ _ _ (by omega)
theorem Same.trans {w a b : World} {lo hi : Nat} (h1 : Same w a lo hi) (h2 : Same a b lo hi) : Same w b lo hi := fun k x y => (h2 k x y).trans (h1 k x y)
theorem OwnI.ib {w : World} {lo : Nat} {v : Value} {zs : List Int} (h : OwnI w lo v zs) : OwnIB w lo w.heap.size v zs := ⟨h, fun k e => (OwnI.lt h k e).2⟩
theorem OwnT4.tb {w : World} {lo : Nat} {v : Value} {ss : List ByteArray} (h : OwnT4 w lo v ss) : OwnTB w lo w.heap.size v ss := ⟨h, fun k e => (h.lt k e).2⟩
theorem OwnG.gb {w : World} {lo : Nat} {v : Value} {gs : List (Int × List Int)} (h : OwnG w lo v gs) : OwnGB w lo w.heap.size v gs := by
  obtain ⟨ps, hl, hr, hk, hd, hn⟩ := h
  exact ⟨ps, hl, hr, fun k h1 h2 => ⟨(hk k h1 h2).1, (hk k h1 h2).2.ib⟩, hd, hn, fun k e => (hr.lt k e).2⟩
theorem OwnGB.g {w : World} {lo hi : Nat} {v : Value} {gs : List (Int × List Int)} (h : OwnGB w lo hi v gs) : OwnG w lo v gs := by
  obtain ⟨ps, hl, hr, hk, hd, hn, hh⟩ := h
  exact ⟨ps, hl, hr, fun k h1 h2 => ⟨(hk k h1 h2).1, (hk k h1 h2).2.1⟩, hd, hn⟩
/-- a station's own lists, each in its stretch -/
structure OwnStn (w : World) (base : Nat) (v1 v2 v3 v4 : Value) (s : Stn) : Prop where
  all : ∃ l1 h1 l2 h2 l3 h3 l4 h4, (base ≤ l1 ∧ base ≤ l2 ∧ base ≤ l3 ∧ base ≤ l4) ∧ (h1 ≤ w.heap.size ∧ h2 ≤ w.heap.size ∧ h3 ≤ w.heap.size ∧ h4 ≤ w.heap.size) ∧
    OwnIB w l1 h1 v1 s.kn ∧ OwnIB w l2 h2 v2 s.ws ∧ OwnGB w l3 h3 v3 s.gs ∧ OwnTB w l4 h4 v4 s.os ∧
    (h1 ≤ l2 ∨ h2 ≤ l1) ∧ (h1 ≤ l3 ∨ h3 ≤ l1) ∧ (h1 ≤ l4 ∨ h4 ≤ l1) ∧ (h2 ≤ l3 ∨ h3 ≤ l2) ∧ (h2 ≤ l4 ∨ h4 ≤ l2) ∧ (h3 ≤ l4 ∨ h4 ≤ l3)
theorem OwnStn.rows {w : World} {base : Nat} {v1 v2 v3 v4 : Value} {s : Stn} (h : OwnStn w base v1 v2 v3 v4 s) : RowI w v1 s.kn ∧ RowI w v2 s.ws ∧ RowG w v3 s.gs ∧ RowS w v4 s.os := by
  obtain ⟨l1, h1, l2, h2, l3, h3, l4, h4, _, _, o1, o2, o3, o4, _⟩ := h.all
  exact ⟨o1.1.row, o2.1.row, o3.g.row, o4.1.row⟩
theorem OwnStn.below {w w' : World} {base : Nat} {v1 v2 v3 v4 : Value} {s : Stn} (h : OwnStn w base v1 v2 v3 v4 s) (hb : Below w.heap.size w w') : OwnStn w' base v1 v2 v3 v4 s := by
  obtain ⟨l1, h1, l2, h2, l3, h3, l4, h4, hl, hh, o1, o2, o3, o4, d⟩ := h.all
  have := hb.size
  exact ⟨l1, h1, l2, h2, l3, h3, l4, h4, hl, ⟨by omega, by omega, by omega, by omega⟩, o1.same (Same.below hb hh.1), o2.same (Same.below hb hh.2.1), o3.same (Same.below hb hh.2.2.1), o4.same (Same.below hb hh.2.2.2), d⟩
theorem Below.setRow {B : Nat} {w w' : World} (h : Below B w w') {g : Nat} (hg : B ≤ g) (cs : Array Value) : Below B w (w'.setRow g cs) :=
  ⟨h.os, h.tape, h.output, by rw [setRow_size]; exact h.size, fun k hk => (setRow_other w' g k cs (by omega)).trans (h.block k hk)⟩
theorem Same.setRow {w : World} {lo hi g : Nat} (hg : g < lo ∨ hi ≤ g) (cs : Array Value) : Same w (w.setRow g cs) lo hi := fun k h1 h2 => setRow_other w g k cs (by omega)
end Go.Proofs.Ytklpaleghanhhaa
/- THE LAW'S OWN COUNT of a station. -/
namespace Go.Proofs.Ytklpaleghanhhaa
open Go.RowKit
set_option linter.unusedVariables false
set_option linter.unusedSimpArgs false

def wsum (gs : List (Int × List Int)) : Nat := (gs.map fun g => g.2.length).sum
def bsum (ss : List ByteArray) : Nat := (ss.map fun s => s.size).sum
theorem wsum_take (gs : List (Int × List Int)) (k : Nat) (h : k < gs.length) : wsum (gs.take (k + 1)) = wsum (gs.take k) + gs[k].2.length := by
  unfold wsum
  rw [List.take_succ_eq_append_getElem h, List.map_append, List.sum_append]
  simp
theorem bsum_take (ss : List ByteArray) (k : Nat) (h : k < ss.length) : bsum (ss.take (k + 1)) = bsum (ss.take k) + ss[k].size := by
  unfold bsum
  rw [List.take_succ_eq_append_getElem h, List.map_append, List.sum_append]
  simp
theorem wsum_le (gs : List (Int × List Int)) (k : Nat) : wsum (gs.take k) ≤ wsum gs := by
  have : wsum gs = wsum (gs.take k) + wsum (gs.drop k) := by
    unfold wsum
    rw [← List.sum_append, ← List.map_append, List.take_append_drop]
  omega
theorem bsum_le (ss : List ByteArray) (k : Nat) : bsum (ss.take k) ≤ bsum ss := by
  have : bsum ss = bsum (ss.take k) + bsum (ss.drop k) := by
    unfold bsum
    rw [← List.sum_append, ← List.map_append, List.take_append_drop]
  omega
theorem wsum_each {gs : List (Int × List Int)} {g : Int × List Int} (h : g ∈ gs) : g.2.length ≤ wsum gs := by
  obtain ⟨k, hk, rfl⟩ := List.getElem_of_mem h
  have h1 := wsum_take gs k hk
  have h2 := wsum_le gs (k + 1)
  omega
theorem bsum_each {ss : List ByteArray} {s : ByteArray} (h : s ∈ ss) : s.size ≤ bsum ss := by
  obtain ⟨k, hk, rfl⟩ := List.getElem_of_mem h
  have h1 := bsum_take ss k hk
  have h2 := bsum_le ss (k + 1)
  omega
end Go.Proofs.Ytklpaleghanhhaa
/- A REGION THAT DRAWS ITS ORDER, where a guard says no: what is not wanted is taken first. -/
namespace Go
section
variable {P : Program} {ops : Array Oper} {Q : Exit → Act → World → Prop} {md : Region.Mode} {S : World → Prop}
theorem Proofs.Ytklpaleghanhhaa.skipH {i : Nat} {oi : Oper} {fuel : Nat} {listed : Array Bool} {a : Act} {w : World} (hi : ops[i]? = some oi)
    (hs : Region.noSelect ops = true) (hf : Region.free md ops listed i = true) (hr : (Region.ready md ops listed).contains i = true)
    (hQ : ∀ c a w, Q (.panic c) (a.put oi.dst undef) w → Q (.panic c) a w) (hw : Region.wanted oi (yielded ops a.tmps) = false) (hS : S w)
    (h : wpAnyH P md ops Q S fuel (listed.setIfInBounds i true) (a.put oi.dst undef) w) : wpAnyH P md ops Q S (fuel + 1) listed a w :=
  wpAnyH_take hi hs hf hr hQ (Or.inr ⟨hw, rfl⟩) hS h
theorem Proofs.Ytklpaleghanhhaa.yieldH {i : Nat} {oi : Oper} {v : Value} {fuel : Nat} {listed : Array Bool} {a : Act} {w : World} (hi : ops[i]? = some oi)
    (hs : Region.noSelect ops = true) (hf : Region.free md ops listed i = true) (hr : (Region.ready md ops listed).contains i = true)
    (hQ : ∀ c a w, Q (.panic c) (a.put oi.dst v) w → Q (.panic c) a w) (hw : Region.wanted oi (yielded ops a.tmps) = true) (hy : ∀ w, S w → (execOp a.eval oi).run P w = .ok (.value v) w) (hS : S w)
    (h : wpAnyH P md ops Q S fuel (listed.setIfInBounds i true) (a.put oi.dst v) w) : wpAnyH P md ops Q S (fuel + 1) listed a w :=
  wpAnyH_take hi hs hf hr hQ (Or.inl ⟨hw, hy⟩) hS h
end
end Go
