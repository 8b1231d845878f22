/- ROWS OF RECORDS, each of m cells: to be read, ones that came in, own ones. -/
import Derived.Test.YtghchcipobcpjaaQtTabIn
import Derived.Deep.MidRow
import Derived.Laws.Tables
import Derived.Deep.RegionHeld3
namespace Go.Proofs.Ytghchcipobcpjaa
open Go.RowKit
set_option linter.unusedVariables false
set_option linter.unusedSimpArgs false

/-- what lies in a stretch has stayed -/
def SameR (w w' : World) (lo hi : Nat) : Prop := ∀ k, lo ≤ k → k < hi → w'.heap[k]? = w.heap[k]?
theorem SameR.below {w w' : World} {lo hi : Nat} (hb : Below w.heap.size w w') (hh : hi ≤ w.heap.size) : SameR w w' lo hi := fun k _ h2 => hb.block k (by omega)
theorem SameR.far {w : World} {lo hi : Nat} {a : Addr} (ha : a.block < lo ∨ hi ≤ a.block) (x : Value) : SameR w (w.setCell a x) lo hi := fun k h1 h2 => Below.heap_setCell _ _ _ _ (by omega)
theorem SameR.trans {w a b : World} {lo hi : Nat} (h1 : SameR w a lo hi) (h2 : SameR a b lo hi) : SameR w b lo hi := fun k x y => (h2 k x y).trans (h1 k x y)
theorem SameR.mono {w a : World} {lo hi lo' hi' : Nat} (h : SameR w a lo hi) (h1 : lo ≤ lo') (h2 : hi' ≤ hi) : SameR w a lo' hi' := fun k x y => h k (by omega) (by omega)
theorem SameR.refl (w : World) (lo hi : Nat) : SameR w w lo hi := fun _ _ _ => rfl
theorem rcRange_below {w w' : World} {g o : Nat} {cs : List Value} (h : w.rangeAt g o cs) (hg : g < w.heap.size) (hb : Below w.heap.size w w') : w'.rangeAt g o cs := fun j v hv => (hb.cell (p := ⟨g, o + j, none⟩) hg).trans (h j v hv)
theorem rcRange_same {w w' : World} {lo hi g o : Nat} {cs : List Value} (h : w.rangeAt g o cs) (h1 : lo ≤ g) (h2 : g < hi) (hs : SameR w w' lo hi) : w'.rangeAt g o cs := fun j v hv => by
  have := h j v hv
  unfold World.cell? at this ⊢
  rw [hs g h1 h2]
  exact this
/-- records, to be read -/
def RowC {α : Type} (m : Nat) (cell : α → List Value) (w : World) (v : Value) (l : List α) : Prop :=
  ∃ (p : Option Addr) (c : Nat), v = .slice p l.length c ∧ ∀ k (h : k < l.length), ∃ g o, p = some ⟨g, o, none⟩ ∧ g < w.heap.size ∧ w.rangeAt g (o + k * m) (cell l[k])
theorem RowC.below {α : Type} {m : Nat} {cell : α → List Value} {w w' : World} {v : Value} {l : List α} (h : RowC m cell w v l) (hb : Below w.heap.size w w') : RowC m cell w' v l := by
  obtain ⟨p, c, e, h⟩ := h
  refine ⟨p, c, e, fun k hk => ?_⟩
  obtain ⟨g, o, e1, h1, h2⟩ := h k hk
  exact ⟨g, o, e1, Nat.lt_of_lt_of_le h1 hb.size, rcRange_below h2 h1 hb⟩
theorem RowC.shape {α : Type} {m : Nat} {cell : α → List Value} {w : World} {v : Value} {l : List α} (h : RowC m cell w v l) : ∃ p c, v = .slice p l.length c := by
  obtain ⟨p, c, e, _⟩ := h
  exact ⟨p, c, e⟩
theorem RowC.at {α : Type} {m : Nat} {cell : α → List Value} {w : World} {v : Value} {l : List α} (h : RowC m cell w v l) (k : Nat) (hk : k < l.length) : ∃ g o c, v = .slice (some ⟨g, o, none⟩) l.length c ∧ ∀ W, Below w.heap.size w W → W.rangeAt g (o + k * m) (cell l[k]) := by
  obtain ⟨p, c, rfl, h⟩ := h
  obtain ⟨g, o, rfl, hl, q⟩ := h k hk
  exact ⟨g, o, c, rfl, fun W hW => rcRange_below q hl hW⟩
/-- the like, that came in -/
def InC {α : Type} (m : Nat) (cell : α → List Value) (w : World) (p : Option Addr) (l : List α) : Prop :=
  l.length ≤ 9223372036854775807 ∧ ∀ k (h : k < l.length), ∃ g o, p = some ⟨g, o, none⟩ ∧ g < w.heap.size ∧ w.rangeAt g (o + k * m) (cell l[k])
theorem InC.below {α : Type} {m : Nat} {cell : α → List Value} {w w' : World} {p : Option Addr} {l : List α} (h : InC m cell w p l) (hb : Below w.heap.size w w') : InC m cell w' p l := by
  refine ⟨h.1, fun k hk => ?_⟩
  obtain ⟨g, o, e, h1, h2⟩ := h.2 k hk
  exact ⟨g, o, e, Nat.lt_of_lt_of_le h1 hb.size, rcRange_below h2 h1 hb⟩
/-- own records -/
def OwnC {α : Type} (m : Nat) (ty : TypeId) (cell : α → List Value) (w : World) (lo hi : Nat) (v : Value) (l : List α) : Prop :=
  hi ≤ w.heap.size ∧ ((v = .slice none 0 0 ∧ l = []) ∨ ∃ g o c cur, v = .slice (some ⟨g, o, none⟩) l.length c ∧ lo ≤ g ∧ g < hi ∧ w.heap[g]? = some (.cells cur ty (0, 0)) ∧ cur.size = o + c * m ∧ l.length ≤ c ∧ ∀ k (h : k < l.length), w.rangeAt g (o + k * m) (cell l[k]))
theorem OwnC.same {α : Type} {m : Nat} {ty : TypeId} {cell : α → List Value} {w w' : World} {lo hi : Nat} {v : Value} {l : List α} (h : OwnC m ty cell w lo hi v l) (hs : SameR w w' lo hi) (hz : w.heap.size ≤ w'.heap.size) : OwnC m ty cell w' lo hi v l := by
  obtain ⟨h0, h | ⟨g, o, c, cur, e, h1, h2, h3, h4, h5, h6⟩⟩ := h
  · exact ⟨by omega, .inl h⟩
  · exact ⟨by omega, .inr ⟨g, o, c, cur, e, h1, h2, (hs g h1 h2).trans h3, h4, h5, fun k hk => rcRange_same (h6 k hk) h1 h2 hs⟩⟩
theorem OwnC.below {α : Type} {m : Nat} {ty : TypeId} {cell : α → List Value} {w w' : World} {lo hi : Nat} {v : Value} {l : List α} (h : OwnC m ty cell w lo hi v l) (hb : Below w.heap.size w w') : OwnC m ty cell w' lo hi v l := h.same (SameR.below hb h.1) hb.size
theorem OwnC.row {α : Type} {m : Nat} {ty : TypeId} {cell : α → List Value} {w : World} {lo hi : Nat} {v : Value} {l : List α} (h : OwnC m ty cell w lo hi v l) : RowC m cell w v l := by
  obtain ⟨h0, ⟨rfl, rfl⟩ | ⟨g, o, c, cur, rfl, h1, h2, h3, h4, h5, h6⟩⟩ := h
  · exact ⟨none, 0, rfl, fun k hk => absurd hk (by simp)⟩
  · exact ⟨some ⟨g, o, none⟩, c, rfl, fun k hk => ⟨g, o, rfl, by omega, h6 k hk⟩⟩
theorem OwnC.shape {α : Type} {m : Nat} {ty : TypeId} {cell : α → List Value} {w : World} {lo hi : Nat} {v : Value} {l : List α} (h : OwnC m ty cell w lo hi v l) : ∃ p c, v = .slice p l.length c := h.row.shape
theorem OwnC.wide {α : Type} {m : Nat} {ty : TypeId} {cell : α → List Value} {w : World} {lo hi lo' hi' : Nat} {v : Value} {l : List α} (h : OwnC m ty cell w lo hi v l) (h1 : lo' ≤ lo) (h2 : hi ≤ hi') (h3 : hi' ≤ w.heap.size) : OwnC m ty cell w lo' hi' v l := by
  obtain ⟨h0, h | ⟨g, o, c, cur, e, q1, q2, q3, q4, q5, q6⟩⟩ := h
  · exact ⟨h3, .inl h⟩
  · exact ⟨h3, .inr ⟨g, o, c, cur, e, by omega, by omega, q3, q4, q5, q6⟩⟩
theorem rcSetCells_far (b : Nat) : ∀ (vs : List Value) (o : Nat) (w : World) (k : Nat), k ≠ b → (w.setCells b o vs).heap[k]? = w.heap[k]?
  | [], _, _, _, _ => rfl
  | v :: r, o, w, k, h => by
    rw [World.setCells, rcSetCells_far b r (o + 1) _ k h]
    exact Below.heap_setCell _ _ _ _ (by simpa using h)
theorem rcSetCells_row (b : Nat) (t : TypeId) : ∀ (vs : List Value) (o : Nat) (w : World) (cur : Array Value), w.heap[b]? = some (.cells cur t (0, 0)) → ∃ cur', (w.setCells b o vs).heap[b]? = some (.cells cur' t (0, 0)) ∧ cur'.size = cur.size
  | [], _, _, cur, h => ⟨cur, h, rfl⟩
  | v :: r, o, w, cur, h => by
    rw [World.setCells]
    obtain ⟨c, h1, h2⟩ := rcSetCells_row b t r (o + 1) _ _ (blk_set h o v)
    exact ⟨c, h1, by rw [h2, Array.size_setIfInBounds]⟩
theorem rcSetCells_size (b : Nat) : ∀ (vs : List Value) (o : Nat) (w : World), (w.setCells b o vs).heap.size = w.heap.size
  | [], _, _ => rfl
  | v :: r, o, w => by
    rw [World.setCells, rcSetCells_size b r (o + 1)]
    simp [World.setCell]
theorem rcBelow_setCells {B : Nat} {w : World} (b : Nat) (hB : B ≤ b) : ∀ (vs : List Value) (o : Nat) (w' : World), Below B w w' → Below B w (w'.setCells b o vs)
  | [], _, _, h => h
  | v :: r, o, w', h => by
    rw [World.setCells]
    exact rcBelow_setCells b hB r (o + 1) _ (h.setCell hB v)
theorem SameR.setCells {w : World} {lo hi g : Nat} (hg : g < lo ∨ hi ≤ g) (o : Nat) (cs : List Value) : SameR w (w.setCells g o cs) lo hi := fun k h1 h2 => rcSetCells_far g cs o w k (by omega)
theorem rcThere {w : World} {r : Nat} {cur : Array Value} {t : TypeId} (h : w.heap[r]? = some (.cells cur t (0, 0))) (o n : Nat) (hn : o + n ≤ cur.size) : w.there r o n := fun j hj => by
  refine ⟨?_, frozenW h (o + j) w (Below.refl _ _)⟩
  rw [cell_of_row w r (o + j) cur t (0, 0) h, Array.getElem?_eq_getElem (by omega)]
  rfl
theorem rcMul {k j m : Nat} (h : k < j) : k * m + m ≤ j * m := by
  have := Nat.mul_le_mul_right m (show k + 1 ≤ j from h)
  rw [Nat.add_mul, Nat.one_mul] at this
  exact this
/-- one more record stored into a row -/
theorem rcStep {w : World} {r m n j o : Nat} {t : TypeId} {cur : Array Value} (hg : w.heap[r]? = some (.cells cur t (0, 0))) (hs : cur.size = o + n * m) (hj : j < n) (c : List Value) (hc : c.length = m) :
    w.there r (o + j * m) m ∧ (∃ cur', (w.setCells r (o + j * m) c).heap[r]? = some (.cells cur' t (0, 0)) ∧ cur'.size = o + n * m) ∧ (w.setCells r (o + j * m) c).rangeAt r (o + j * m) c ∧
    ∀ k, k ≠ j → ∀ d : List Value, d.length = m → w.rangeAt r (o + k * m) d → (w.setCells r (o + j * m) c).rangeAt r (o + k * m) d := by
  have h1 := rcMul (m := m) hj
  have ht : w.there r (o + j * m) m := rcThere hg _ _ (by omega)
  obtain ⟨cur', h2, h3⟩ := rcSetCells_row r t c (o + j * m) w cur hg
  refine ⟨ht, ⟨cur', h2, by omega⟩, World.rangeAt_setCells_same w r (o + j * m) c (by rw [hc]; exact ht), fun k hk d hd hr => ?_⟩
  rcases Nat.lt_or_gt_of_ne hk with h | h
  · have h4 := rcMul (m := m) h
    exact World.rangeAt_setCells_apart hr r (o + j * m) c (.inr (.inl (by omega)))
  · have h4 := rcMul (m := m) h
    exact World.rangeAt_setCells_apart hr r (o + j * m) c (.inr (.inr (by omega)))
/-- how much records count -/
def csum {α : Type} (f : α → Nat) (l : List α) : Int := (l.map fun x => (f x : Int)).sum
theorem csum_take {α : Type} (f : α → Nat) (l : List α) (k : Nat) (h : k < l.length) : csum f (l.take (k + 1)) = csum f (l.take k) + (f l[k] : Int) := by
  unfold csum
  rw [List.take_succ_eq_append_getElem h, List.map_append, List.sum_append]
  simp
theorem csum_pos {α : Type} (f : α → Nat) : ∀ l : List α, 0 ≤ csum f l
  | [] => by simp [csum]
  | s :: ss => by have := csum_pos f ss; unfold csum at *; rw [List.map_cons, List.sum_cons]; omega
theorem csum_le {α : Type} (f : α → Nat) (l : List α) (k : Nat) : csum f (l.take k) ≤ csum f l := by
  have e : csum f l = csum f (l.take k) + csum f (l.drop k) := by
    unfold csum
    rw [← List.sum_append, ← List.map_append, List.take_append_drop]
  have := csum_pos f (l.drop k)
  omega
theorem csum_each {α : Type} (f : α → Nat) {l : List α} {n : α} (h : n ∈ l) : (f n : Int) ≤ csum f l := by
  obtain ⟨k, hk, rfl⟩ := List.getElem_of_mem h
  have h1 := csum_take f l k hk
  have h2 := csum_le f l (k + 1)
  have := csum_pos f (l.take k)
  omega
theorem rcOwns_block {w : World} {base : Nat} {e : TypeId} {k g n c m : Nat} {xs : List Value} (h : w.ownsRow base e k (.slice (some ⟨g, 0, none⟩) n c) m xs) : ∃ cur, w.heap[g]? = some (.cells cur e (0, 0)) ∧ cur.size = c * k := by
  rcases h.2 with ⟨e0, _⟩ | ⟨g', cap, cur, e0, h1, h2, h3, h4, h5, _⟩
  · cases e0
  · cases e0
    exact ⟨cur, h2, h5⟩
theorem rcRange_cells {w : World} {g o : Nat} {cs : List Value} (h : w.rangeAt g o cs) (j : Nat) (v : Value) (hv : cs[j]? = some v) : w.cell? ⟨g, o + j, none⟩ = some v := h j v hv
end Go.Proofs.Ytghchcipobcpjaa
namespace Go
theorem Proofs.Ytghchcipobcpjaa.rcExec_load {P : Program} {o : Oper} {a : Act} {w : World} (ty : TypeId) (x : Operand) (ho : o.op = .load ty x)
    (b f : Nat) (hx : a.eval x = .pointer (some ⟨b, f, none⟩)) (cs : List Value) (d : TypeDesc) (hc : w.rangeAt b f cs)
    (hu : P.underlying ty = some d) (hd : d.isRow = true) (hi : (P.info? ty).map (·.size) = some cs.length) :
    (execOp a.eval o).run P w = .ok (.value (.agg cs.toArray)) w := by
  unfold execOp
  simp only [ho, hx, Instr.loadAt, Instr.sureAddr, Sem.run_bind, Sem.run_pure, Result.andThen_ok, run_loadVar_mid w b f ty cs d hc hu hd hi]
end Go
/- A REGION THAT DRAWS ITS ORDER, where a guard says no: what is not wanted is taken first. -/
namespace Go
section
variable {P : Program} {ops : Array Oper} {Q : Exit → Act → World → Prop} {md : Region.Mode} {S : World → Prop}
theorem Proofs.Ytghchcipobcpjaa.skipH {i : Nat} {oi : Oper} {fuel : Nat} {listed : Array Bool} {a : Act} {w : World} (hi : ops[i]? = some oi)
    (hs : Region.noSelect ops = true) (hf : Region.free md ops listed i = true) (hr : (Region.ready md ops listed).contains i = true)
    (hQ : ∀ c a w, Q (.panic c) (a.put oi.dst undef) w → Q (.panic c) a w) (hw : Region.wanted oi (yielded ops a.tmps) = false) (hS : S w)
    (h : wpAnyH P md ops Q S fuel (listed.setIfInBounds i true) (a.put oi.dst undef) w) : wpAnyH P md ops Q S (fuel + 1) listed a w :=
  wpAnyH_take hi hs hf hr hQ (Or.inr ⟨hw, rfl⟩) hS h
theorem Proofs.Ytghchcipobcpjaa.yieldH {i : Nat} {oi : Oper} {v : Value} {fuel : Nat} {listed : Array Bool} {a : Act} {w : World} (hi : ops[i]? = some oi)
    (hs : Region.noSelect ops = true) (hf : Region.free md ops listed i = true) (hr : (Region.ready md ops listed).contains i = true)
    (hQ : ∀ c a w, Q (.panic c) (a.put oi.dst v) w → Q (.panic c) a w) (hw : Region.wanted oi (yielded ops a.tmps) = true) (hy : ∀ w, S w → (execOp a.eval oi).run P w = .ok (.value v) w) (hS : S w)
    (h : wpAnyH P md ops Q S fuel (listed.setIfInBounds i true) (a.put oi.dst v) w) : wpAnyH P md ops Q S (fuel + 1) listed a w :=
  wpAnyH_take hi hs hf hr hQ (Or.inl ⟨hw, hy⟩) hS h
end
end Go
