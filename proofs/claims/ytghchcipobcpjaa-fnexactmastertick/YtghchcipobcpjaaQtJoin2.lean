/- MARKS IN ROWS OF RECORDS: what stays, cell by cell. -/
import Derived.Test.YtghchcipobcpjaaQtOwnM
import Derived.Test.YtghchcipobcpjaaQtMarksQ
import Derived.Test.YtghchcipobcpjaaProg
import Derived.Test.YtghchcipobcpjaaQtInts
import Derived.Laws.AppendOwn
import Derived.Laws.OwnMore
import Derived.WalkKit
import Derived.WalkSpells
import Derived.Outline
namespace Go.Proofs.Ytghchcipobcpjaa
open Go.RowKit
set_option linter.unusedVariables false
set_option linter.unusedSimpArgs false

/-- nothing has turned but what lies in a stretch -/
structure OnlyR (w w' : World) (lo hi : Nat) : Prop where
  os : w'.os = w.os
  tape : w'.tape = w.tape
  output : w'.output = w.output
  size : w.heap.size ≤ w'.heap.size
  block : ∀ k, k < w.heap.size → (k < lo ∨ hi ≤ k) → w'.heap[k]? = w.heap[k]?
theorem OnlyR.refl (w : World) (lo hi : Nat) : OnlyR w w lo hi := ⟨rfl, rfl, rfl, Nat.le_refl _, fun _ _ _ => rfl⟩
theorem OnlyR.trans {w a b : World} {lo hi : Nat} (h : OnlyR w a lo hi) (g : OnlyR a b lo hi) : OnlyR w b lo hi :=
  ⟨g.os.trans h.os, g.tape.trans h.tape, g.output.trans h.output, Nat.le_trans h.size g.size, fun k hk ho => (g.block k (Nat.lt_of_lt_of_le hk h.size) ho).trans (h.block k hk ho)⟩
theorem OnlyR.mono {w a : World} {lo hi lo' hi' : Nat} (h : OnlyR w a lo hi) (h1 : lo' ≤ lo) (h2 : hi ≤ hi') : OnlyR w a lo' hi' :=
  ⟨h.os, h.tape, h.output, h.size, fun k hk ho => h.block k hk (by omega)⟩
theorem OnlyR.below {w a : World} {lo hi : Nat} (h : Below w.heap.size w a) : OnlyR w a lo hi := ⟨h.os, h.tape, h.output, h.size, fun k hk _ => h.block k hk⟩
theorem OnlyR.grown {w a : World} {lo hi : Nat} {row : Option Nat} (h : w.grownBy a row) (hr : ∀ k, row = some k → lo ≤ k ∧ k < hi) : OnlyR w a lo hi :=
  ⟨h.os, h.tape, h.output, h.size, fun k hk ho => h.block k hk (fun e => by have := hr k e.symm; omega)⟩
theorem OnlyR.set {w : World} {lo hi : Nat} {a : Addr} (h1 : lo ≤ a.block) (h2 : a.block < hi) (x : Value) : OnlyR w (w.setCell a x) lo hi :=
  ⟨rfl, rfl, rfl, by simp [World.setCell], fun k hk ho => Below.heap_setCell _ _ _ _ (by omega)⟩
theorem OnlyR.same {w a : World} {lo hi l h : Nat} (o : OnlyR w a lo hi) (hd : h ≤ lo ∨ hi ≤ l) (hs : h ≤ w.heap.size) : SameR w a l h := fun k h1 h2 => o.block k (by omega) (by omega)
theorem OnlyR.frame {w a : World} {lo hi : Nat} (o : OnlyR w a lo hi) {B : Nat} (hB : B ≤ lo) (hs : B ≤ w.heap.size) : Below B w a := ⟨o.os, o.tape, o.output, o.size, fun k hk => o.block k (by omega) (by omega)⟩
/-- a row of a box, whatever it holds -/
def RowAny (W : World) (g n : Nat) (t : TypeId) : Prop := ∃ cur, W.heap[g]? = some (.cells cur t (0, 0)) ∧ cur.size = n
theorem RowAny.set {W : World} {g n : Nat} {t : TypeId} (h : RowAny W g n t) (o : Nat) (x : Value) : RowAny (W.setCell ⟨g, o, none⟩ x) g n t := by
  obtain ⟨cur, h1, h2⟩ := h
  exact ⟨_, blk_set h1 o x, by rw [Array.size_setIfInBounds]; exact h2⟩
theorem RowAny.cell {W : World} {g n : Nat} {t : TypeId} (h : RowAny W g n t) {o : Nat} (ho : o < n) : ∃ v, W.cell? ⟨g, o, none⟩ = some v ∧ W.frozen? ⟨g, o, none⟩ = false := by
  obtain ⟨cur, h1, h2⟩ := h
  exact ⟨cur[o], cellW h1 o _ (Array.getElem?_eq_getElem (by omega)) W (Below.refl _ _), frozenW h1 o W (Below.refl _ _)⟩
theorem RowAny.below {W W' : World} {g n : Nat} {t : TypeId} (h : RowAny W g n t) (hb : Below W.heap.size W W') : RowAny W' g n t := by
  obtain ⟨cur, h1, h2⟩ := h
  exact ⟨cur, (hb.block g (Array.getElem?_eq_some_iff.1 h1).1).trans h1, h2⟩
theorem RowAny.lt {W : World} {g n : Nat} {t : TypeId} (h : RowAny W g n t) : g < W.heap.size := by
  obtain ⟨cur, h1, h2⟩ := h
  exact (Array.getElem?_eq_some_iff.1 h1).1
theorem rcSet_out {w : World} {b o a : Nat} {x v : Value} (h : w.cell? ⟨b, a, none⟩ = some v) (ho : a ≠ o) : (w.setCell ⟨b, o, none⟩ x).cell? ⟨b, a, none⟩ = some v :=
  (World.cell?_setCell_other _ _ _ _ (by intro e; injection e with e1 e2 e3; omega)).trans h
theorem rcRange_set {w : World} {g a o : Nat} {cs : List Value} (h : w.rangeAt g a cs) (ho : o < a ∨ a + cs.length ≤ o) (x : Value) : (w.setCell ⟨g, o, none⟩ x).rangeAt g a cs := fun j v hv =>
  rcSet_out (h j v hv) (by have := (List.getElem?_eq_some_iff.1 hv).1; omega)
/-- the first records of a row, marked from a number on -/
def MarkedC {α : Type} (m : Nat) (cell : α → List Value) (mk : Int → α) (st : Int) (W : World) (g o : Nat) (k : Int) (j : Nat) : Prop :=
  ∀ i, i < j → W.rangeAt g (o + i * m) (cell (mk (k + st * (i : Int))))
theorem MarkedC.set {α : Type} {m : Nat} {cell : α → List Value} {mk : Int → α} {st : Int} {W : World} {g o : Nat} {k : Int} {j : Nat} (h : MarkedC m cell mk st W g o k j) (hm : ∀ x, (cell x).length = m) {p : Nat} (hp : o + j * m ≤ p) (x : Value) : MarkedC m cell mk st (W.setCell ⟨g, p, none⟩ x) g o k j := fun i hi =>
  rcRange_set (h i hi) (.inr (by rw [hm]; have := rcMul (m := m) hi; omega)) x
theorem MarkedC.below {α : Type} {m : Nat} {cell : α → List Value} {mk : Int → α} {st : Int} {W W' : World} {g o : Nat} {k : Int} {j : Nat} (h : MarkedC m cell mk st W g o k j) (hg : g < W.heap.size) (hb : Below W.heap.size W W') : MarkedC m cell mk st W' g o k j := fun i hi => rcRange_below (h i hi) hg hb
theorem MarkedC.more {α : Type} {m : Nat} {cell : α → List Value} {mk : Int → α} {st : Int} {W : World} {g o : Nat} {k : Int} {j : Nat} (h : MarkedC m cell mk st W g o k j) (hn : W.rangeAt g (o + j * m) (cell (mk (k + st * (j : Int))))) : MarkedC m cell mk st W g o k (j + 1) := fun i hi => by
  by_cases h1 : i < j
  · exact h i h1
  · obtain rfl : i = j := by omega
    exact hn
/-- a whole row marked -/
def marksC {α : Type} (mk : Int → α) (st : Int) (k : Int) (n : Nat) : List α := (List.range n).map fun (i : Nat) => mk (k + st * (i : Int))
theorem marksC_len {α : Type} (mk : Int → α) (st : Int) (k : Int) (n : Nat) : (marksC mk st k n).length = n := by simp [marksC]
theorem marksC_at {α : Type} (mk : Int → α) (st : Int) (k : Int) (n i : Nat) (h : i < (marksC mk st k n).length) : (marksC mk st k n)[i] = mk (k + st * (i : Int)) := by simp [marksC]
end Go.Proofs.Ytghchcipobcpjaa
/- ROWS OF RECORDS THAT A CALL PUTS TOGETHER: rows put behind rows, and where they lie then. -/
namespace Go.Proofs.Ytghchcipobcpjaa
open Go.RowKit
set_option linter.unusedVariables false
set_option linter.unusedSimpArgs false

/-- a row of records that a call has made, and may grow -/
def OwnK {α : Type} (m : Nat) (ty : TypeId) (cell : α → List Value) (w : World) (base : Nat) (v : Value) (l : List α) : Prop := w.ownsRow base ty m v l.length (l.flatMap cell)
theorem flat_len {α : Type} {m : Nat} {cell : α → List Value} (hm : ∀ x, (cell x).length = m) (l : List α) : (l.flatMap cell).length = l.length * m := by
  induction l with
  | nil => simp
  | cons a l ih => rw [List.flatMap_cons, List.length_append, ih, hm, List.length_cons, Nat.add_mul, Nat.one_mul, Nat.add_comm]
theorem flat_at {α : Type} {m : Nat} {cell : α → List Value} (hm : ∀ x, (cell x).length = m) : ∀ (l : List α) (k j : Nat) (hk : k < l.length) (hj : j < m), (l.flatMap cell)[k * m + j]? = (cell l[k])[j]?
  | a :: l, 0, j, _, hj => by
    rw [List.flatMap_cons, Nat.zero_mul, Nat.zero_add, List.getElem?_append_left (by rw [hm]; exact hj)]
    rfl
  | a :: l, k + 1, j, hk, hj => by
    have ih := flat_at hm l k j (by simpa using hk) hj
    have e : (k + 1) * m + j = m + (k * m + j) := by rw [Nat.add_mul, Nat.one_mul]; omega
    rw [List.flatMap_cons, e, List.getElem?_append_right (by rw [hm]; omega), hm, show m + (k * m + j) - m = k * m + j by omega, ih]
    rfl
theorem OwnK.nil {α : Type} (m : Nat) (ty : TypeId) (cell : α → List Value) (w : World) (base : Nat) : OwnK m ty cell w base (.slice none 0 0) [] := ⟨by simp, .inl ⟨rfl, rfl⟩⟩
theorem OwnK.lt {α : Type} {m : Nat} {ty : TypeId} {cell : α → List Value} {w : World} {base : Nat} {v : Value} {l : List α} (h : OwnK m ty cell w base v l) : ∀ k, v.ownBlock = some k → base ≤ k ∧ k < w.heap.size := World.ownsRow.lt h
theorem OwnK.shape {α : Type} {m : Nat} {ty : TypeId} {cell : α → List Value} {w : World} {base : Nat} {v : Value} {l : List α} (h : OwnK m ty cell w base v l) : ∃ p c, v = .slice p l.length c := by
  rcases h.2 with ⟨rfl, h0⟩ | ⟨g, cap, cur, rfl, _⟩
  · exact ⟨none, 0, by rw [h0]⟩
  · exact ⟨_, _, rfl⟩
theorem OwnK.keep {α : Type} {m : Nat} {ty : TypeId} {cell : α → List Value} {w w' : World} {base : Nat} {v : Value} {l : List α} (h : OwnK m ty cell w base v l) (hk : ∀ k, v.ownBlock = some k → w'.heap[k]? = w.heap[k]?) : OwnK m ty cell w' base v l := by
  refine ⟨h.1, h.2.imp id ?_⟩
  rintro ⟨g, cap, cur, e1, e2, e3, e4⟩
  exact ⟨g, cap, cur, e1, e2, (hk g (by rw [e1]; rfl)).trans e3, e4⟩
theorem OwnK.below {α : Type} {m : Nat} {ty : TypeId} {cell : α → List Value} {w w' : World} {base : Nat} {v : Value} {l : List α} (h : OwnK m ty cell w base v l) (hb : Below w.heap.size w w') : OwnK m ty cell w' base v l :=
  h.keep fun k e => hb.block k (h.lt k e).2
theorem OwnK.far {α : Type} {m : Nat} {ty : TypeId} {cell : α → List Value} {w : World} {base : Nat} {v : Value} {l : List α} (h : OwnK m ty cell w base v l) {a : Addr} (ha : ∀ k, v.ownBlock = some k → k ≠ a.block) (x : Value) : OwnK m ty cell (w.setCell a x) base v l :=
  h.keep fun k e => Below.heap_setCell _ _ _ _ (by simpa using ha k e)
theorem OwnK.low {α : Type} {m : Nat} {ty : TypeId} {cell : α → List Value} {w : World} {base B : Nat} {v : Value} {l : List α} (h : OwnK m ty cell w base v l) (hB : B ≤ base) : OwnK m ty cell w B v l := by
  refine ⟨h.1, h.2.imp id ?_⟩
  rintro ⟨g, cap, cur, e1, e2, e3⟩
  exact ⟨g, cap, cur, e1, by omega, e3⟩
theorem OwnK.grown {α : Type} {m : Nat} {ty : TypeId} {cell : α → List Value} {w w' : World} {base : Nat} {u v : Value} {l : List α} (h : OwnK m ty cell w base v l) (g : w.grownBy w' u.ownBlock) (hne : ∀ a b, u.ownBlock = some a → v.ownBlock = some b → a ≠ b) : OwnK m ty cell w' base v l :=
  h.keep fun k e => g.block k (h.lt k e).2 (fun e2 => hne k k e2.symm e rfl)
/-- such a row as one that is read and marked -/
theorem OwnK.c {α : Type} {m : Nat} {ty : TypeId} {cell : α → List Value} (hm : ∀ x, (cell x).length = m) {w : World} {base top : Nat} {v : Value} {l : List α} (h : OwnK m ty cell w base v l) (ht : ∀ k, v.ownBlock = some k → k < top) (hz : top ≤ w.heap.size) : OwnC m ty cell w base top v l := by
  rcases h.2 with ⟨rfl, h0⟩ | ⟨g, cap, cur, rfl, h1, h2, h3, h4, h5, h6⟩
  · exact ⟨hz, .inl ⟨rfl, List.eq_nil_of_length_eq_zero h0⟩⟩
  · refine ⟨hz, .inr ⟨g, 0, cap, cur, rfl, h1, ht g rfl, h2, by rw [h5, Nat.zero_add], h3, fun k hk j x hj => ?_⟩⟩
    have hjm : j < m := by rw [← hm l[k]]; exact (List.getElem?_eq_some_iff.1 hj).1
    have e := flat_at hm l k j hk hjm
    rw [hj, ← h6] at e
    have hlt : k * m + j < l.length * m := by have := rcMul (m := m) hk; omega
    rw [List.getElem?_take_of_lt hlt] at e
    rw [Nat.zero_add, World.cell?]
    simp only [h2]
    simpa using e
/-- records to be read, as cells that lie one behind the other -/
theorem RowC.cells {α : Type} {m : Nat} {cell : α → List Value} (hm : ∀ x, (cell x).length = m) {w : World} {p : Addr} {n c : Nat} {l : List α} (h : RowC m cell w (.slice (some p) n c) l) : n = l.length ∧ ∀ j u, (l.flatMap cell)[j]? = some u → w.cell? (p.add j) = some u := by
  obtain ⟨p', c', e, hr⟩ := h
  cases e
  refine ⟨rfl, fun j u hj => ?_⟩
  have hlt : j < l.length * m := by rw [← flat_len hm l]; exact (List.getElem?_eq_some_iff.1 hj).1
  have hm0 : 0 < m := by
    rcases Nat.eq_zero_or_pos m with h | h
    · rw [h] at hlt; omega
    · exact h
  have hk : j / m < l.length := Nat.div_lt_of_lt_mul (by rw [Nat.mul_comm]; exact hlt)
  have hjm : j % m < m := Nat.mod_lt _ hm0
  have e := flat_at hm l (j / m) (j % m) hk hjm
  rw [Nat.div_add_mod' j m, hj] at e
  obtain ⟨g, o, e1, _, q⟩ := hr (j / m) hk
  cases e1
  have := q (j % m) u e.symm
  rw [rcAddN]
  rwa [Nat.add_assoc, Nat.div_add_mod' j m] at this
/-- what is to be put behind a row: its type's numbers -/
structure RecTy (m bytes : Nat) (ty sl : TypeId) (i : TypeInfo) (z : Value) : Prop where
  u : Try.prog.underlying sl = some (.slice ty)
  hi : Try.prog.info? ty = some i
  hz : i.zero = some z
  size : i.size = m
  by' : i.bytes = bytes
  zs : z.cells.size = m
  pos : 0 < m
  small : bytes ≤ 64
theorem app_recK {α : Type} {m bytes : Nat} {ty sl : TypeId} {i : TypeInfo} {z : Value} (T : RecTy m bytes ty sl i z) {cell : α → List Value} (hm : ∀ x, (cell x).length = m) (h1 : ∀ x, ∀ u ∈ cell x, u.oneCell' = true)
    (w : World) (rt : TypeId) (base : Nat) (v u : Value) (xs zs : List α) (hown : OwnK m ty cell w base v xs) (hs : RowC m cell w u zs) (hl : xs.length ≤ 1100000) (hz : zs.length ≤ 1100000) (hb : base ≤ w.heap.size) :
    ∃ v' w', (Builtin.append_ #[sl, sl] rt #[v, u]).run Try.prog w = .ok v' w' ∧ OwnK m ty cell w' base v' (xs ++ zs) ∧ w.grownBy w' v.ownBlock ∧ (v'.ownBlock = v.ownBlock ∨ v'.ownBlock = some w.heap.size) := by
  obtain ⟨p, c, rfl, hc⟩ := hs
  cases p with
  | none =>
    obtain rfl : zs = [] := by
      cases zs with
      | nil => rfl
      | cons z zs => obtain ⟨g, o, e, _⟩ := hc 0 (by simp); cases e
    by_cases h0 : c = 0
    · subst h0
      exact ⟨v, w, run_append_owned_none w base sl rt ty i m T.u T.hi v xs.length _ hown, by rw [List.append_nil]; exact hown, ⟨rfl, rfl, rfl, Nat.le_refl _, fun _ _ _ => rfl⟩, .inl rfl⟩
    · rcases hown.2 with ⟨rfl, hx0⟩ | ⟨k, cap, cur, rfl, hbk, hk, hnc, hcm, hcs, htake⟩
      · refine ⟨.slice none 0 0, w, ?_, by rw [List.append_nil]; exact hown, ⟨rfl, rfl, rfl, Nat.le_refl _, fun _ _ _ => rfl⟩, .inl rfl⟩
        simp [Builtin.append_, run_underlying T.u, sizeOf, typeInfo, T.hi, Builtin.lenOf, Builtin.firstCells, loadCells, loadCellsFrom]
      · refine ⟨.slice (some ⟨k, 0, none⟩) xs.length cap, w, ?_, by rw [List.append_nil]; exact hown, ⟨rfl, rfl, rfl, Nat.le_refl _, fun _ _ _ => rfl⟩, .inl rfl⟩
        simp [Builtin.append_, run_underlying T.u, sizeOf, typeInfo, T.hi, Builtin.lenOf, Builtin.firstCells, hnc, storeCells]
  | some p =>
    obtain ⟨_, hnews⟩ := RowC.cells hm (⟨some p, c, rfl, hc⟩ : RowC m cell w (.slice (some p) zs.length c) zs)
    have hone : ∀ u ∈ zs.flatMap cell, u.oneCell' = true := fun u hu => by
      obtain ⟨x, _, hx⟩ := List.mem_flatMap.1 hu
      exact h1 x u hx
    have hbm : (xs.length + zs.length) * bytes ≤ 2200000 * 64 := Nat.mul_le_mul (by omega) T.small
    obtain ⟨v', w', hrun, r1, r2, _⟩ := run_append_own (P := Try.prog) w base sl rt ty i z m bytes T.u T.hi T.hz T.size T.by' T.zs T.pos v xs.length (xs.flatMap cell) hown p zs.length c (zs.flatMap cell) (flat_len hm zs) hnews hone (by unfold maxLen; omega) (by omega) hb
    refine ⟨v', w', hrun, ?_, r2, ?_⟩
    · unfold OwnK
      rw [List.length_append, List.flatMap_append]
      exact r1
    rcases hown.2 with ⟨rfl, hx0⟩ | ⟨k, cap, cur, rfl, hbk, hk, hnc, hcm, hcs, htake⟩
    · by_cases h0 : zs.length = 0
      · have hz0 : zs = [] := List.eq_nil_of_length_eq_zero h0
        subst hz0
        have hr : (Builtin.append_ #[sl, sl] rt #[.slice none 0 0, .slice (some p) 0 c]).run Try.prog w = .ok (.slice none 0 0) w := by
          simp [Builtin.append_, run_underlying T.u, sizeOf, typeInfo, T.hi, Builtin.lenOf, Builtin.firstCells, loadCells, loadCellsFrom]
        rw [show ([] : List α).length = 0 from rfl, hr] at hrun
        cases hrun
        exact .inl rfl
      · have hr := run_append_nil (P := Try.prog) w sl rt ty i z T.u T.hi T.hz p zs.length c (zs.flatMap cell) (by rw [T.size]; exact flat_len hm zs) hnews (by omega) (by omega) (by rw [T.by']; have := Nat.mul_le_mul (show zs.length ≤ 1100000 from hz) T.small; omega)
        rw [hr] at hrun
        cases hrun
        exact .inr rfl
    · by_cases hroom : xs.length + zs.length ≤ cap
      · have hfit : xs.length * i.size + (zs.flatMap cell).length ≤ cur.size := by rw [flat_len hm, T.size, hcs, ← Nat.add_mul]; exact Nat.mul_le_mul_right _ hroom
        have hr := run_append_room (P := Try.prog) w sl rt ty i T.u T.hi k xs.length cap cur hk p zs.length c (zs.flatMap cell) (by rw [T.size]; exact flat_len hm zs) hnews hone hroom hfit
        rw [hr] at hrun
        cases hrun
        exact .inl rfl
      · have holds : ∀ j u, (xs.flatMap cell)[j]? = some u → w.cell? ((⟨k, 0, none⟩ : Addr).add j) = some u := World.ownsRow.cells (g := k) hown rfl
        have hr := run_append_grow (P := Try.prog) w sl rt ty i z T.u T.hi T.hz ⟨k, 0, none⟩ xs.length cap (xs.flatMap cell) (by rw [T.size]; exact flat_len hm xs) holds p zs.length c (zs.flatMap cell) (by rw [T.size]; exact flat_len hm zs) hnews (by omega) (by omega) (growslice_fits (by omega) (by rw [T.by']; omega))
        rw [hr] at hrun
        cases hrun
        exact .inr rfl
end Go.Proofs.Ytghchcipobcpjaa
/- THE WALKS of the program's texts put together: joinTexts answers the texts of a row, one behind the other, and copyText the same text; nothing that was there turns. -/
namespace Go.Proofs.Ytghchcipobcpjaa
open Go.RowKit
set_option linter.unusedVariables false

theorem info5 : (Try.prog.info? 5).map (fun i => (i.zero, i.size, i.bytes)) = some (some (.int .u8 0), 1, 1) := by kernel_rfl
theorem size5 : (Try.prog.info? 5).map (·.size) = some 1 := by kernel_rfl

/-- texts one behind the other -/
def joinT (ss : List ByteArray) : ByteArray := ss.foldl (· ++ ·) ByteArray.empty
theorem joinT_snoc (ss : List ByteArray) (s : ByteArray) : joinT (ss ++ [s]) = joinT ss ++ s := by simp [joinT, List.foldl_append]
theorem joinT_size_snoc (ss : List ByteArray) (s : ByteArray) : (joinT (ss ++ [s])).size = (joinT ss).size + s.size := by rw [joinT_snoc, ByteArray.size_append]
theorem take_more (ss : List ByteArray) (k : Nat) (h : k < ss.length) : ss.take (k + 1) = ss.take k ++ [ss[k]] := by
  rw [List.take_succ_eq_append_getElem h]
theorem joinT_le (ss : List ByteArray) (hz : ∀ s ∈ ss, s.size ≤ 1000000) : ∀ k, k ≤ ss.length → (joinT (ss.take k)).size ≤ 1000000 * k := by
  intro k
  induction k with
  | zero => intro _; simp [joinT]
  | succ k ih =>
    intro hk
    rw [take_more ss k hk, joinT_size_snoc]
    have := ih (by omega)
    have := hz ss[k] (List.getElem_mem _)
    omega
theorem joinT_mono (ss : List ByteArray) (k : Nat) (h : k ≤ ss.length) : (joinT (ss.take k)).size ≤ (joinT ss).size := by
  have key : ∀ (m : List ByteArray) (l : List ByteArray), (joinT l).size ≤ (joinT (l ++ m)).size := by
    intro m
    induction m with
    | nil => intro l; simp
    | cons c m ih =>
      intro l
      have h1 := ih (l ++ [c])
      rw [joinT_size_snoc, List.append_assoc] at h1
      exact Nat.le_trans (Nat.le_add_right _ _) h1
  have := key (ss.drop k) (ss.take k)
  rwa [List.take_append_drop] at this
theorem splice_more (cur : List Value) (a b : ByteArray) (off : Nat) (ho : a.size = off) (h : cur.take off = cellsB a) (hl : off + b.size ≤ cur.length) : (splice cur off (cellsB b)).take (off + b.size) = cellsB (a ++ b) := by
  rw [cellsB_append]
  simp only [splice]
  rw [h]
  have e : (cellsB a ++ cellsB b).length = off + b.size := by rw [List.length_append, cellsB_length, cellsB_length, ho]
  rw [← e, ← List.append_assoc]
  exact List.take_left
theorem row_str {w : World} {g : Nat} {ss : List ByteArray} {t : TypeId} {fz : Nat × Nat} (hg : w.heap[g]? = some (.cells (ss.map Value.string).toArray t fz)) (k : Nat) (hk : k < ss.length) : w.cell? ⟨g, k, none⟩ = some (.string ss[k]) := by
  simp [World.cell?, hg, hk]

set_option maxRecDepth 100000 in
set_option maxHeartbeats 1600000 in
theorem join_row (g : Nat) (fz : Nat × Nat) (ss : List ByteArray) (w : World) (hg : w.heap[g]? = some (.cells (ss.map Value.string).toArray 9 fz)) (hl : ss.length ≤ 8) (hz : ∀ s ∈ ss, s.size ≤ 1000000) :
    Calls Try.prog 69 #[.slice (some ⟨g, 0, none⟩) ss.length ss.length] w fun e w' => e = .returned (.string (joinT ss)) ∧ Below w.heap.size w w' := by
  obtain ⟨i0, hi, hz0, hz1, hz2⟩ := info_parts info5
  have HG : Hid _ := hg
  have HM : Hid _ := joinT_mono ss
  have HLE : Hid _ := joinT_le ss hz
  have htot : (joinT ss).size ≤ 8000000 := by have := joinT_le ss hz ss.length (Nat.le_refl _); rw [List.take_length] at this; omega
  have hgl : g < w.heap.size := by
    rcases Nat.lt_or_ge g w.heap.size with h | h
    · exact h
    · simp [Array.getElem?_eq_none h] at hg
  clear hg hz
  obtain ⟨J, HJ⟩ : ∃ J : Nat, Hid ((joinT ss).size = J) := ⟨_, show _ = _ from rfl⟩
  have htJ : J ≤ 8000000 := by rw [← HJ.out]; exact htot
  clear htot
  go_enter Try.func69, Try.ntmps69
  go_wp2
  go_loop [3, 12] (fun x i => ∃ k L : Nat, k ≤ ss.length ∧ i = .int .i64 k ∧ x = .int .i64 L ∧ L ≤ 8000000 ∧ Hid (L = (joinT (ss.take k)).size)) (fun _ i => ss.length - (intOf i).toNat)
  case atStart => exact ⟨0, 0, Nat.zero_le _, rfl, rfl, by omega, rfl⟩
  case round =>
    obtain ⟨k, L, hk, rfl, rfl, hL, HL⟩ := hrel
    by_cases hlt : k < ss.length
    · have hc := row_str HG.out k hlt
      have hle := HLE.out (k + 1) hlt
      have HS : Hid ((joinT (ss.take (k + 1))).size = L + ss[k].size) := by rw [take_more ss k hlt, joinT_size_snoc, HL.out]; rfl
      rw [HS.out] at hle
      obtain ⟨s, HSK⟩ : ∃ s, Hid (ss[k] = s) := ⟨_, show _ = _ from rfl⟩
      rw [HSK.out] at hc HS hle
      have hle2 : L + s.size ≤ 8000000 := by omega
      clear hle
      go_wp2
      go_round
      case rel => exact ⟨k + 1, L + s.size, by omega, by go_num, by go_num, by omega, HS.out.symm⟩
      case measure => simp [intOf]; omega
    · have hLJ : L = J := by rw [HL.out, ← HJ.out, List.take_of_length_le (by omega)]
      subst hLJ
      go_wp2_with (at_make; refine wpList_make_full _ rfl (.tmp 21) (.tmp 21) 96 rfl w.heap.size 5 i0 (.int .u8 0) 1 Try.underlying96 hi hz0 hz1 .i64 .i64 _ _ L rfl rfl (by omega) (by omega) (by rw [hz2]; omega) (by unfold maxLen; omega) (Nat.le_refl _) ?_; intro w1 hown1 hgrow1; have hB1 := (Below.refl w.heap.size w).grown hgrow1 (Nat.le_refl _) (fun k e => by cases e); obtain ⟨cur, HG1, hcl, _⟩ := own_block hown1; clear hown1 hgrow1)
      go_loopw [7, 25] (fun x i wr => ∃ (k A : Nat) (cs : List Value), k ≤ ss.length ∧ i = .int .i64 k ∧ x = .int .i64 A ∧ A ≤ L ∧ Hid (A = (joinT (ss.take k)).size) ∧ Hid (wr.heap[w.heap.size]? = some (.cells cs.toArray 5 (0, 0))) ∧ cs.length = L ∧ Hid (cs.take A = cellsB (joinT (ss.take k))) ∧ Below w.heap.size w wr) (fun _ i _ => ss.length - (intOf i).toNat)
      case atStart => exact ⟨0, 0, cur, Nat.zero_le _, rfl, rfl, by omega, rfl, HG1.out, hcl, rfl, hB1⟩
      case round =>
        obtain ⟨k, A, cs, hk, rfl, rfl, hA, HA, HW, hcs, HT, hbel⟩ := hrel
        by_cases hlt2 : k < ss.length
        · have hc := (hbel.cell (p := ⟨g, k, none⟩) hgl).trans (row_str HG.out k hlt2)
          have hmo := HM.out (k + 1) hlt2
          rw [HJ.out] at hmo
          have HS : Hid (joinT (ss.take (k + 1)) = joinT (ss.take k) ++ ss[k]) := by rw [take_more ss k hlt2, joinT_snoc]; rfl
          rw [HS.out, ByteArray.size_append, ← HA.out] at hmo
          obtain ⟨s, HSK⟩ : ∃ s, Hid (ss[k] = s) := ⟨_, show _ = _ from rfl⟩
          rw [HSK.out] at hc HS hmo
          by_cases hA0 : A = L
          all_goals
            go_wp2_with (refine wpList_copy_str rfl (.tmp 32) (.tmp 33) 96 9 rfl 5 Try.underlying96 size5 _ _ _ s rfl rfl (by omega) w.heap.size A cs 5 HW.out (by intro h; first | rfl | omega) (by omega) w.heap.size w hbel (Nat.le_refl _) ?_; intro w3 HG3 hB3)
            go_roundw
            case rel => exact ⟨k + 1, A + s.size, splice cs A (cellsB s), by omega, by go_num, by go_num, by omega, (show _ = _ by rw [HS.out, ByteArray.size_append, HA.out]), HG3.out, by rw [length_splice _ _ _ (by rw [cellsB_length]; omega)]; exact hcs, (show _ = _ by rw [HS.out]; exact splice_more cs _ s A HA.out.symm HT.out (by omega)), hB3⟩
            case measure => simp [intOf]; omega
        · have e1 : joinT (ss.take k) = joinT ss := by rw [List.take_of_length_le (by omega)]
          have hcv := Lib.run_convert_whole (P := Try.prog) wr 96 5 9 Try.underlying96 Try.underlying5 Try.underlying9 w.heap.size 0 (joinT ss) (bytes_of_cells (joinT ss) HW.out (by have h1 := HT.out; rw [HA.out, e1] at h1; exact h1)) L
          rw [HJ.out] at hcv
          go_wp2
          go_ret
          exact ⟨rfl, hbel⟩
theorem copy_cells (cur : List Value) (a : ByteArray) (h : cur.length = a.size) : (splice cur 0 (cellsB a)).take a.size = cellsB a := by
  have ha := cellsB_length a
  simp only [splice, List.take_zero, List.nil_append, Nat.zero_add]
  rw [ha, List.drop_of_length_le (by omega), List.append_nil]
  exact List.take_of_length_le (by omega)
set_option maxHeartbeats 800000 in
theorem copyText_any (a : ByteArray) (w : World) (ha : a.size ≤ 1073741824) :
    Calls Try.prog 56 #[.string a] w fun e w' => e = .returned (.string a) ∧ Below w.heap.size w w' := by
  obtain ⟨i0, hi, hz0, hz1, hz2⟩ := info_parts info5
  have hmax : a.size ≤ maxLen := by unfold maxLen; omega
  go_enter Try.func56, Try.ntmps56
  go_wp2_with (first
    | (at_make; refine wpList_make_full _ rfl (.tmp 5) (.tmp 5) 96 rfl w.heap.size 5 i0 (.int .u8 0) 1 Try.underlying96 hi hz0 hz1 .i64 .i64 _ _ a.size rfl rfl (by omega) (by omega) (by rw [hz2]; omega) hmax (Nat.le_refl _) ?_; intro w1 hown1 hgrow1; have hB1 := (Below.refl w.heap.size w).grown hgrow1 (Nat.le_refl _) (fun k e => by cases e); obtain ⟨cur, HG1, hcl, _⟩ := own_block hown1; clear hown1 hgrow1)
    | (refine wpList_copy_str rfl (.tmp 7) (.tmp 8) 96 9 rfl 5 Try.underlying96 size5 _ _ _ a rfl rfl (by omega) w.heap.size 0 cur 5 HG1.out (fun _ => rfl) (by omega) w.heap.size w hB1 (Nat.le_refl _) ?_; intro w2 HG2 hB2; have hcv := Lib.run_convert_whole (P := Try.prog) w2 96 5 9 Try.underlying96 Try.underlying5 Try.underlying9 w.heap.size 0 a (bytes_of_cells a HG2.out (copy_cells cur a hcl)) a.size))
  go_ret
  exact ⟨rfl, hB2⟩
theorem join_two (a b : ByteArray) (W : World) (ha : a.size ≤ 1000000) (hb : b.size ≤ 1000000) :
    Calls Try.prog 69 #[.slice (some ⟨W.heap.size, 0, none⟩) 2 2] (W.alloc (.cells #[.string a, .string b] 9)) fun e w' => e = .returned (.string (a ++ b)) ∧ Below W.heap.size W w' := by
  refine (join_row W.heap.size (0, 0) [a, b] _ (heap_alloc_new W _) (by simp) (by intro s hs; simp at hs; rcases hs with rfl | rfl <;> assumption)).mono ?_
  rintro e w' ⟨rfl, hb⟩
  refine ⟨by simp [joinT], ((Below.refl W.heap.size W).alloc (Nat.le_refl _) _).trans (hb.mono (by simp))⟩
end Go.Proofs.Ytghchcipobcpjaa
