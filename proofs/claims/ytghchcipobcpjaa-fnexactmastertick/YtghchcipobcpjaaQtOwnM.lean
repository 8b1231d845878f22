/- ROWS OF RECORDS, a Slave and a Master that came in: opened. Written by mkreco.py. -/
import Derived.Test.YtghchcipobcpjaaQtRecD
import Derived.Test.YtghchcipobcpjaaQtRecW
import Derived.Test.YtghchcipobcpjaaQtTail
import Derived.Test.YtghchcipobcpjaaQtInts
import Derived.Deep.Slices
import Derived.WalkKit
import Derived.WalkSpells
import Derived.Below
import Derived.Laws.AppendOwn
import Derived.Lib.ConvBytes
namespace Go.Proofs.Ytghchcipobcpjaa
open Go.RowKit Go.ChangeShapes Go.WideShapes Go.ChangeAt
set_option linter.unusedVariables false
set_option linter.unusedSimpArgs false

theorem rcList2 {α : Type} {l : List α} (h : l.length = 2) : ∃ c0 c1, l = [c0, c1] := by
  match l, h with
  | [c0, c1], _ => exact ⟨c0, c1, rfl⟩
theorem rcList3 {α : Type} {l : List α} (h : l.length = 3) : ∃ c0 c1 c2, l = [c0, c1, c2] := by
  match l, h with
  | [c0, c1, c2], _ => exact ⟨c0, c1, c2, rfl⟩
theorem rcList4 {α : Type} {l : List α} (h : l.length = 4) : ∃ c0 c1 c2 c3, l = [c0, c1, c2, c3] := by
  match l, h with
  | [c0, c1, c2, c3], _ => exact ⟨c0, c1, c2, c3, rfl⟩
theorem rcArray3 {α : Type} {l : Array α} (h : l.size = 3) : ∃ c0 c1 c2, l = #[c0, c1, c2] := by
  obtain ⟨l⟩ := l
  match l, h with
  | [c0, c1, c2], _ => exact ⟨c0, c1, c2, rfl⟩
theorem rcArray5 {α : Type} {l : Array α} (h : l.size = 5) : ∃ c0 c1 c2 c3 c4, l = #[c0, c1, c2, c3, c4] := by
  obtain ⟨l⟩ := l
  match l, h with
  | [c0, c1, c2, c3, c4], _ => exact ⟨c0, c1, c2, c3, c4, rfl⟩
theorem rcCellsIt : Try.prog.cellsOf 2 = 1 := by kernel_rfl
theorem rcCellsTs : Try.prog.cellsOf 9 = 1 := by kernel_rfl
theorem rcCellsD : Try.prog.cellsOf 77 = 2 := by kernel_rfl
theorem rcCellsW : Try.prog.cellsOf 75 = 4 := by kernel_rfl
theorem rcCellsDs : Try.prog.cellsOf 23 = 1 := by kernel_rfl
theorem rcCellsWs : Try.prog.cellsOf 22 = 1 := by kernel_rfl
theorem rcCellsMs : Try.prog.cellsOf 25 = 3 := by kernel_rfl
theorem rcAddN (g o k : Nat) : (⟨g, o, none⟩ : Addr).add k = ⟨g, o + k, none⟩ := by unfold Addr.add; split <;> simp_all
theorem rcSpot {w : World} {a : Addr} {v : Value} (h : w.cell? (a.add 0) = some v) : ∃ g o, a = ⟨g, o, none⟩ ∧ g < w.heap.size := by
  obtain ⟨g, o, sp⟩ := a
  have hsp : sp = none := by simpa [Addr.add] using World.cell?_spot h
  subst hsp
  refine ⟨g, o, rfl, ?_⟩
  rcases Nat.lt_or_ge g w.heap.size with h1 | h1
  · exact h1
  · simp [World.cell?, Addr.add, Array.getElem?_eq_none h1] at h
theorem rcCells {w : World} {base : Nat} {a : Addr} {i n : Nat} {cs : List Value} {g o : Nat} (ha : a = ⟨g, o, none⟩) (h : w.cells? base (a.add (i * n)) n = some cs) : cs.length = n ∧ w.rangeAt g (o + i * n) cs := by
  subst ha
  obtain ⟨_, hl, hc⟩ := World.cells?_some h
  refine ⟨hl, fun j v hv => ?_⟩
  have hj : j < n := by rw [← hl]; exact (List.getElem?_eq_some_iff.1 hv).1
  have := hc j hj
  rw [rcAddN, rcAddN, hv] at this
  exact this
theorem rcSpotC {w : World} {base : Nat} {a : Addr} {n : Nat} {cs : List Value} (hn : 0 < n) (h : w.cells? base (a.add (0 * n)) n = some cs) : ∃ g o, a = ⟨g, o, none⟩ ∧ g < w.heap.size := by
  obtain ⟨_, hl, hc⟩ := World.cells?_some h
  have := hc 0 hn
  rw [List.getElem?_eq_getElem (by omega), Nat.zero_mul] at this
  have e : (a.add 0).add 0 = a.add 0 := by rw [Go.Deep.add_add]
  rw [e] at this
  exact rcSpot this
set_option maxRecDepth 100000 in
theorem open_DoneS {H : Type} {enc : TypeId × Value → H} {W : World} {base : Nat} {held : Bool} {c : Value} {y : _} {n : Nat} (h : DataW.trod enc Try.prog W base (fun _ => true) held n 23 [c] = some y) :
    ∃ (l : List Dn) (p : Option Addr) (k : Nat), c = .slice p l.length k ∧ InD W p l := by
  rcases Go.Deep.open_slice Try.underlying23 h with ⟨hcs, _⟩ | ⟨a, len, cap, m, n, D, Pl, hcs, _, hl, hm, hmm, _, hx⟩
  · simp at hcs
    exact ⟨[], none, 0, hcs, fun n hn => by simp at hn, by simp, fun k hk => by simp at hk⟩
  · simp at hcs hmm
    unfold maxLen at hm
    rw [rcCellsD] at hx
    by_cases h0 : len = 0
    · subst h0
      exact ⟨[], some a, cap, hcs, fun n hn => by simp at hn, by simp, fun k hk => by simp at hk⟩
    obtain ⟨g, o, rfl, hg⟩ : ∃ g o, a = ⟨g, o, none⟩ ∧ g < W.heap.size := by
      obtain ⟨cs', h1, _⟩ := hx 0 (by omega)
      exact rcSpotC (by omega) h1
    have H : ∀ i, ∃ b : Dn, ∀ (hi : i < len), b.a.size ≤ maxLen ∧ W.rangeAt g (o + i * 2) (dnC b) := fun i => by
      by_cases hi : i < len
      · obtain ⟨cs', h1, h2⟩ := hx i (by omega)
        obtain ⟨hl', hr⟩ := rcCells rfl h1
        obtain ⟨c0, c1, rfl⟩ := rcList2 hl'
        obtain ⟨xs, n', _, _, _, hlen, hfl⟩ := DataW.trod_struct Try.underlying77 h2
        obtain ⟨y0, y1, rfl⟩ := rcList2 hlen
        have g0 : DataW.trod enc Try.prog W base (fun _ => true) held n' 2 [c0] = some y0 := by have := hfl 0 _ rfl; simpa [Value.cells, rcCellsIt, rcCellsTs] using this
        have g1 : DataW.trod enc Try.prog W base (fun _ => true) held n' 9 [c1] = some y1 := by have := hfl 1 _ rfl; simpa [Value.cells, rcCellsIt, rcCellsTs] using this
        obtain ⟨z0, r0, _, _⟩ := DataW.trod_int Try.underlying2 g0
        obtain ⟨z1, r1, _, hb⟩ := DataW.trod_string Try.underlying9 g1
        cases r0; cases r1
        exact ⟨⟨z0, z1⟩, fun _ => ⟨hb, hr⟩⟩
      · exact ⟨⟨0, ByteArray.empty⟩, fun h => absurd h hi⟩
    obtain ⟨f, hf⟩ := Classical.axiomOfChoice H
    have hlen : ((List.range len).map f).length = len := by simp
    refine ⟨(List.range len).map f, some ⟨g, o, none⟩, cap, by rw [hlen]; exact hcs, fun x hx => ?_, by rw [hlen]; omega, fun k hk => ?_⟩
    · obtain ⟨i, hi, rfl⟩ := List.mem_map.1 hx
      exact (hf i (List.mem_range.1 hi)).1
    · rw [hlen] at hk
      have eG : ((List.range len).map f)[k]'(by rw [hlen]; exact hk) = f k := by simp
      rw [eG]
      exact ⟨g, o, rfl, hg, (hf k hk).2⟩
set_option maxRecDepth 100000 in
theorem open_WaitS {H : Type} {enc : TypeId × Value → H} {W : World} {base : Nat} {held : Bool} {c : Value} {y : _} {n : Nat} (h : DataW.trod enc Try.prog W base (fun _ => true) held n 22 [c] = some y) :
    ∃ (l : List Wt) (p : Option Addr) (k : Nat), c = .slice p l.length k ∧ InW W p l := by
  rcases Go.Deep.open_slice Try.underlying22 h with ⟨hcs, _⟩ | ⟨a, len, cap, m, n, D, Pl, hcs, _, hl, hm, hmm, _, hx⟩
  · simp at hcs
    exact ⟨[], none, 0, hcs, fun n hn => by simp at hn, by simp, fun k hk => by simp at hk⟩
  · simp at hcs hmm
    unfold maxLen at hm
    rw [rcCellsW] at hx
    by_cases h0 : len = 0
    · subst h0
      exact ⟨[], some a, cap, hcs, fun n hn => by simp at hn, by simp, fun k hk => by simp at hk⟩
    obtain ⟨g, o, rfl, hg⟩ : ∃ g o, a = ⟨g, o, none⟩ ∧ g < W.heap.size := by
      obtain ⟨cs', h1, _⟩ := hx 0 (by omega)
      exact rcSpotC (by omega) h1
    have H : ∀ i, ∃ b : Wt, ∀ (hi : i < len), b.t.size ≤ maxLen ∧ W.rangeAt g (o + i * 4) (wtC b) := fun i => by
      by_cases hi : i < len
      · obtain ⟨cs', h1, h2⟩ := hx i (by omega)
        obtain ⟨hl', hr⟩ := rcCells rfl h1
        obtain ⟨c0, c1, c2, c3, rfl⟩ := rcList4 hl'
        obtain ⟨xs, n', _, _, _, hlen, hfl⟩ := DataW.trod_struct Try.underlying75 h2
        obtain ⟨y0, y1, y2, y3, rfl⟩ := rcList4 hlen
        have g0 : DataW.trod enc Try.prog W base (fun _ => true) held n' 2 [c0] = some y0 := by have := hfl 0 _ rfl; simpa [Value.cells, rcCellsIt, rcCellsTs] using this
        have g1 : DataW.trod enc Try.prog W base (fun _ => true) held n' 9 [c1] = some y1 := by have := hfl 1 _ rfl; simpa [Value.cells, rcCellsIt, rcCellsTs] using this
        have g2 : DataW.trod enc Try.prog W base (fun _ => true) held n' 2 [c2] = some y2 := by have := hfl 2 _ rfl; simpa [Value.cells, rcCellsIt, rcCellsTs] using this
        have g3 : DataW.trod enc Try.prog W base (fun _ => true) held n' 2 [c3] = some y3 := by have := hfl 3 _ rfl; simpa [Value.cells, rcCellsIt, rcCellsTs] using this
        obtain ⟨z0, r0, _, _⟩ := DataW.trod_int Try.underlying2 g0
        obtain ⟨z1, r1, _, hb⟩ := DataW.trod_string Try.underlying9 g1
        obtain ⟨z2, r2, _, _⟩ := DataW.trod_int Try.underlying2 g2
        obtain ⟨z3, r3, _, _⟩ := DataW.trod_int Try.underlying2 g3
        cases r0; cases r1; cases r2; cases r3
        exact ⟨⟨z0, z1, z2, z3⟩, fun _ => ⟨hb, hr⟩⟩
      · exact ⟨⟨0, ByteArray.empty, 0, 0⟩, fun h => absurd h hi⟩
    obtain ⟨f, hf⟩ := Classical.axiomOfChoice H
    have hlen : ((List.range len).map f).length = len := by simp
    refine ⟨(List.range len).map f, some ⟨g, o, none⟩, cap, by rw [hlen]; exact hcs, fun x hx => ?_, by rw [hlen]; omega, fun k hk => ?_⟩
    · obtain ⟨i, hi, rfl⟩ := List.mem_map.1 hx
      exact (hf i (List.mem_range.1 hi)).1
    · rw [hlen] at hk
      have eG : ((List.range len).map f)[k]'(by rw [hlen]; exact hk) = f k := by simp
      rw [eG]
      exact ⟨g, o, rfl, hg, (hf k hk).2⟩
/-- a slave, and a master -/
structure Slv where
  t : Tb
  lo : Int
  cs : List Dn
  ru : Int
structure Mst where
  nx : Int
  op : List Wt
  dn : List Dn
def Slv.tot (s : Slv) : Int := (s.t.cs.length : Int) + (s.t.rs.length : Int) + ((s.cs.length : Int) + csum Dn.sz s.cs)
def Mst.tot (m : Mst) : Int := ((m.op.length : Int) + csum Wt.sz m.op) + ((m.dn.length : Int) + csum Dn.sz m.dn)
set_option maxRecDepth 100000 in
set_option maxHeartbeats 1600000 in
theorem open_master {H : Type} {enc : TypeId × Value → H} {W : World} {base : Nat} {held : Bool} {b0 : Nat} {r : Reach} {v : Value} {d : DataW H} {pl : List MemPlace}
    (hv : Value.okWide Try.prog W r b0 25 v) (h : DataW.Trod enc Try.prog W base (fun _ => true) held 25 v d pl) :
    ∃ (s : Mst) (p1 p2 : Option Addr) (k1 k2 : Nat), v = .agg #[.int .i64 s.nx, .slice p1 s.op.length k1, .slice p2 s.dn.length k2] ∧ InW W p1 s.op ∧ InD W p2 s.dn := by
  obtain ⟨cs, rfl, hsz⟩ := okWide_struct Try.underlying25 hv
  obtain ⟨c0, c1, c2, rfl⟩ := rcArray3 (hsz.trans rcCellsMs)
  obtain ⟨fuel, hf⟩ := h
  obtain ⟨xs, n, _, _, hl, hlen, hfl⟩ := DataW.trod_struct Try.underlying25 hf
  obtain ⟨y0, y1, y2, rfl⟩ := rcList3 hlen
  have h0 : DataW.trod enc Try.prog W base (fun _ => true) held n 2 [c0] = some y0 := by have := hfl 0 _ rfl; simpa [Value.cells, rcCellsIt] using this
  have h1 : DataW.trod enc Try.prog W base (fun _ => true) held n 22 [c1] = some y1 := by have := hfl 1 _ rfl; simpa [Value.cells, rcCellsIt, rcCellsWs] using this
  have h2 : DataW.trod enc Try.prog W base (fun _ => true) held n 23 [c2] = some y2 := by have := hfl 2 _ rfl; simpa [Value.cells, rcCellsIt, rcCellsDs, rcCellsWs] using this
  obtain ⟨nx, r0, _, _⟩ := DataW.trod_int Try.underlying2 h0
  cases r0
  obtain ⟨l1, p1, k1, rfl, i1⟩ := open_WaitS h1
  obtain ⟨l2, p2, k2, rfl, i2⟩ := open_DoneS h2
  exact ⟨⟨nx, l1, l2⟩, p1, p2, k1, k2, rfl, i1, i2⟩
end Go.Proofs.Ytghchcipobcpjaa
/- A WHOLE ROW of a box written: what lies below stays. -/
namespace Go.Proofs.Ytghchcipobcpjaa
open Go.RowKit

theorem rcBelow_setRow {B : Nat} {w w' : World} (h : Below B w w') {g : Nat} (hg : B ≤ g) (cs : Array Value) : Below B w (w'.setRow g cs) :=
  ⟨h.os, h.tape, h.output, by rw [setRow_size]; exact h.size, fun k hk => (setRow_other w' g k cs (by omega)).trans (h.block k hk)⟩
theorem rcRow_fresh {w : World} (o c : Array Value) (t : TypeId) : Below w.heap.size w ((w.alloc (.cells o t)).setRow w.heap.size c) := rcBelow_setRow (all_alloc w _) (Nat.le_refl _) _
end Go.Proofs.Ytghchcipobcpjaa
/- ROWS of bytes that a call made for itself, by append or by a conversion of a text: what they read as, and a byte put behind. -/
namespace Go.Proofs.Ytghchcipobcpjaa
open Go.RowKit
set_option linter.unusedVariables false

def cellsC (l : List UInt8) : List Value := l.map fun b => Value.int .u8 (b.toNat : Int)
theorem cellsC_length (l : List UInt8) : (cellsC l).length = l.length := by simp [cellsC]
theorem cellsC_append (l m : List UInt8) : cellsC (l ++ m) = cellsC l ++ cellsC m := by simp [cellsC]
def OwnM (w : World) (base : Nat) (e : TypeId) (v : Value) (l : List UInt8) : Prop :=
  (v = .slice none 0 0 ∧ l = []) ∨
  ∃ (g cap : Nat) (cur : Array Value) (fz : Nat × Nat), v = .slice (some ⟨g, 0, none⟩) l.length cap ∧ base ≤ g ∧ w.heap[g]? = some (.cells cur e fz) ∧ (fz = (0, 0) ∨ cap ≤ fz.1) ∧ l.length ≤ cap ∧ cap ≤ maxLen ∧ cur.size = cap ∧ cur.toList.take l.length = cellsC l
theorem OwnM.nil (w : World) (base : Nat) (e : TypeId) : OwnM w base e (.slice none 0 0) [] := .inl ⟨rfl, rfl⟩
theorem OwnM.own {w : World} {base : Nat} {e : TypeId} {v : Value} {l : List UInt8} (h : w.ownsRow base e 1 v l.length (cellsC l)) : OwnM w base e v l := by
  obtain ⟨_, ⟨rfl, h0⟩ | ⟨g, cap, cur, rfl, h1, h2, h3, h4, h5, h6⟩⟩ := h
  · exact .inl ⟨rfl, List.eq_nil_of_length_eq_zero h0⟩
  · exact .inr ⟨g, cap, cur, (0, 0), rfl, h1, h2, .inl rfl, h3, h4, by simpa using h5, by simpa using h6⟩
theorem OwnM.mono {w : World} {base B : Nat} {e : TypeId} {v : Value} {l : List UInt8} (h : OwnM w base e v l) (hB : B ≤ base) : OwnM w B e v l := by
  rcases h with h | ⟨g, cap, cur, fz, h1, h2, h3⟩
  · exact .inl h
  · exact .inr ⟨g, cap, cur, fz, h1, Nat.le_trans hB h2, h3⟩
theorem OwnM.shape {w : World} {base : Nat} {e : TypeId} {v : Value} {l : List UInt8} (h : OwnM w base e v l) : ∃ a cap, v = .slice a l.length cap := by
  rcases h with ⟨rfl, rfl⟩ | ⟨g, cap, _, _, rfl, _⟩
  · exact ⟨_, _, rfl⟩
  · exact ⟨_, _, rfl⟩
theorem OwnM.lt {w : World} {base : Nat} {e : TypeId} {v : Value} {l : List UInt8} (h : OwnM w base e v l) : ∀ k, v.ownBlock = some k → base ≤ k ∧ k < w.heap.size := by
  intro k hk
  rcases h with ⟨rfl, rfl⟩ | ⟨g, cap, cur, fz, rfl, hb, hg, _⟩
  · simp [Value.ownBlock] at hk
  · simp [Value.ownBlock] at hk
    subst hk
    exact ⟨hb, (Array.getElem?_eq_some_iff.1 hg).1⟩
theorem OwnM.kept {w w' : World} {base : Nat} {e : TypeId} {v : Value} {l : List UInt8} (h : OwnM w base e v l) (hk : ∀ g, v.ownBlock = some g → w'.heap[g]? = w.heap[g]?) : OwnM w' base e v l := by
  rcases h with h | ⟨g, cap, cur, fz, rfl, hb, hg, rest⟩
  · exact .inl h
  · exact .inr ⟨g, cap, cur, fz, rfl, hb, (hk g rfl).trans hg, rest⟩
theorem OwnM.below {w w' : World} {base B : Nat} {e : TypeId} {v : Value} {l : List UInt8} (h : OwnM w base e v l) (hb : Below B w w') (hB : w.heap.size ≤ B) : OwnM w' base e v l :=
  h.kept fun g hg => hb.block g (by have := (h.lt g hg).2; omega)
theorem OwnM.alloc {w : World} {base : Nat} {e : TypeId} {v : Value} {l : List UInt8} (h : OwnM w base e v l) (o : Obj) : OwnM (w.alloc o) base e v l :=
  h.kept fun g hg => heap_alloc_old w o (h.lt g hg).2
theorem OwnM.grown {w w' : World} {base : Nat} {e : TypeId} {v : Value} {l : List UInt8} {row : Option Nat} (h : OwnM w base e v l) (hg : w.grownBy w' row) (hne : v.ownBlock = none ∨ v.ownBlock ≠ row) : OwnM w' base e v l :=
  h.kept fun g hk => hg.block g (h.lt g hk).2 (by
    rcases hne with hn | hn
    · rw [hn] at hk; cases hk
    · rw [← hk]; exact hn)
theorem OwnM.conv {P : Program} {w : World} {base : Nat} {v : Value} {l : List UInt8} {e : TypeId} (src dst : TypeId) (hs : P.underlying src = some (.slice e)) (he : P.underlying e = some (.int .u8)) (hd : P.underlying dst = some .string)
    (h : OwnM w base e v l) : (convert src dst v).run P w = .ok (.string ⟨l.toArray⟩) w := by
  rcases h with ⟨rfl, rfl⟩ | ⟨g, cap, cur, fz, rfl, _, hg, _, _, _, _, ht⟩
  · rw [run_convert_bytes_string w src dst e none 0 0 hs he hd]
    simp [Conv.bytesToString, Sem.run_pure]
    rfl
  · have hz : (⟨l.toArray⟩ : ByteArray).size = l.length := by simp [ByteArray.size]
    have hc : cellsB ⟨l.toArray⟩ = cellsC l := by simp [cellsB, cellsC]
    have := Lib.run_convert_whole w src e dst hs he hd g 0 ⟨l.toArray⟩ (bytes_of_cells (cs := cur.toList) (fr := fz) _ (by simpa using hg) (by rw [hz, hc]; simpa using ht)) cap
    rw [hz] at this
    exact this
/-- '[]byte(s)' -/
theorem OwnM.made {P : Program} (w : World) (src dst e : TypeId) (s : ByteArray) {u : TypeDesc} (base : Nat) (hs : P.underlying src = some u) (hd : P.underlying dst = some (.slice e)) (he : P.underlying e = some (.int .u8)) (hb : base ≤ w.heap.size) (hm : s.size ≤ maxLen) :
    ∃ v w', (convert src dst (.string s)).run P w = .ok v w' ∧ OwnM w' base e v s.data.toList ∧ Below w.heap.size w w' ∧ w'.heap.size = w.heap.size + 1 ∧ v.ownBlock = some w.heap.size := by
  have hge : s.size ≤ grownCap w s.size 0 e := grownCap_ge w s.size 0 e
  have hle : grownCap w s.size 0 e ≤ maxLen := grownCap_le_maxLen w s.size 0 e hm
  have hsz : (Lib.bytesCells w e s).size = grownCap w s.size 0 e := by
    unfold Lib.bytesCells
    rw [Array.size_append, Array.size_map, Array.size_replicate]
    show s.size + _ = _
    omega
  refine ⟨_, _, Lib.run_convert_string_bytes w src dst e s hs hd he, .inr ⟨w.heap.size, _, _, _, ?_, hb, Lib.bytesWorld_at_new w e s, .inr ?_, ?_, hle, hsz, ?_⟩, ⟨rfl, rfl, rfl, by rw [Lib.bytesWorld_size]; omega, fun k hk => Lib.bytesWorld_at_old w e s k hk⟩, Lib.bytesWorld_size w e s, rfl⟩
  · rw [Array.length_toList]; rfl
  · show _ ≤ (Lib.bytesCells w e s).size
    omega
  · rw [Array.length_toList]; exact hge
  · unfold Lib.bytesCells cellsC
    rw [Array.toList_append, Array.toList_map]
    exact List.take_left' (by rw [List.length_map])
/-- a byte behind a row -/
theorem OwnM.append {P : Program} (w : World) (base : Nat) (t ty e : TypeId) (i : TypeInfo) (z : Value) (ht : P.underlying t = some (.slice e)) (hi : P.info? e = some i) (hz : i.zero = some z)
    (hsize : i.size = 1) (hby : i.bytes = 1) (hzs : z.cells.size = 1) (v : Value) (l : List UInt8) (hown : OwnM w base e v l) (a : Addr) (c : Nat) (x : UInt8) (hx : w.cell? (a.add 0) = some (.int .u8 (x.toNat : Int))) (hl : l.length ≤ 1000000) (hbase : base ≤ w.heap.size) :
    ∃ v' w', (Builtin.append_ #[t, t] ty #[v, .slice (some a) 1 c]).run P w = .ok v' w' ∧ OwnM w' base e v' (l ++ [x]) ∧ w.grownBy w' v.ownBlock ∧ (v'.ownBlock = v.ownBlock ∨ ∃ k, v'.ownBlock = some k ∧ w.heap.size ≤ k) := by
  have hnews : ∀ j u, [Value.int .u8 (x.toNat : Int)][j]? = some u → w.cell? (a.add j) = some u := by
    intro j u h
    match j, h with
    | 0, h => simp at h; subst h; exact hx
  have h1 : ∀ u ∈ [Value.int .u8 (x.toNat : Int)], u.oneCell' = true := by intro u hu; simp at hu; subst hu; rfl
  have hcx : cellsC l ++ [Value.int .u8 (x.toNat : Int)] = cellsC (l ++ [x]) := by simp [cellsC]
  rcases hown with ⟨rfl, rfl⟩ | ⟨g, cap, cur, fz, rfl, hbg, hg, hfz, hnc, hcm, hcs, htake⟩
  · obtain ⟨v', w', r1, r2, r3, r4⟩ := run_append_own (P := P) w w.heap.size t ty e i z 1 1 ht hi hz hsize hby hzs (by decide) (.slice none 0 0) 0 [] ⟨by simp, .inl ⟨rfl, rfl⟩⟩ a 1 c _ rfl hnews h1 (by unfold maxLen; omega) (by omega) (Nat.le_refl _)
    refine ⟨v', w', r1, OwnM.mono (.own r2) hbase, r3, ?_⟩
    cases hq : v'.ownBlock with
    | none => exact .inl rfl
    | some k => exact .inr ⟨k, rfl, (r2.lt k hq).1⟩
  · by_cases hroom : l.length + 1 ≤ cap
    · have hf := run_firstCells_some (P := P) w 1 1 a 1 c [Value.int .u8 (x.toNat : Int)] rfl hnews
      have hlt : l.length < cur.size := by omega
      have hcell : w.cell? ⟨g, l.length, none⟩ = some cur[l.length] := by simp [World.cell?, hg, hlt]
      have hfro : w.frozen? ⟨g, l.length, none⟩ = false := by
        obtain ⟨lo, hi'⟩ := fz
        simp only [World.frozen?, hg, Bool.and_eq_false_iff, decide_eq_false_iff_not]
        rcases hfz with h | h
        · cases h; right; omega
        · left; simp only at h; omega
      have hst : (storeCells ⟨g, l.length, none⟩ [Value.int .u8 (x.toNat : Int)] 0).run P w = .ok () (w.setRow g (cur.setIfInBounds l.length (.int .u8 (x.toNat : Int)))) := by
        have hadd : (⟨g, l.length, none⟩ : Addr).add 0 = ⟨g, l.length, none⟩ := by unfold Addr.add; split <;> simp_all
        simp only [storeCells, Sem.run_bind]
        rw [hadd, run_store P w _ _ _ rfl, hcell]
        simp [hfro, setCell_eq_setRow w g l.length cur e fz _ hg]
      refine ⟨.slice (some ⟨g, 0, none⟩) (l.length + 1) cap, w.setRow g (cur.setIfInBounds l.length (.int .u8 (x.toNat : Int))), ?_, .inr ⟨g, cap, _, fz, by rw [List.length_append]; rfl, hbg, setRow_heap w g cur _ e _ hg, hfz, by rw [List.length_append]; exact hroom, hcm, by simpa using hcs, ?_⟩, ⟨rfl, rfl, rfl, by simp, fun k _ hk => setRow_other w g k _ (fun e => hk (by simp [Value.ownBlock, e]))⟩, .inl rfl⟩
      · simp [Builtin.append_, run_underlying ht, sizeOf, typeInfo, hi, hsize, Builtin.lenOf, hroom, hf, Addr.add_lit, hst]
      · rw [← hcx, ← htake, List.length_append]
        have := take_set (cs := cur.toList) (k := l.length) (.int .u8 (x.toNat : Int)) (by simpa using hlt)
        simpa using this
    · have holds : ∀ j u, (cellsC l)[j]? = some u → w.cell? ((⟨g, 0, none⟩ : Addr).add j) = some u := by
        intro j u hu
        have hadd : (⟨g, 0, none⟩ : Addr).add j = ⟨g, j, none⟩ := by unfold Addr.add; split <;> simp_all
        rw [hadd, cell_of_row w g j cur e fz hg]
        rw [← htake, List.getElem?_take] at hu
        split at hu
        · simpa using hu
        · cases hu
      have hr := run_append_grow (P := P) w t ty e i z ht hi hz ⟨g, 0, none⟩ l.length cap (cellsC l) (by rw [hsize, cellsC_length]; omega) holds a 1 c [Value.int .u8 (x.toNat : Int)] (by rw [hsize]; rfl) hnews (by omega) (by omega) (growslice_fits (by omega) (by rw [hby]; omega))
      have hge := grownCap_ge w (l.length + 1) cap e
      have hcm2 : grownCap w (l.length + 1) cap e ≤ maxLen := grownCap_le_maxLen w (l.length + 1) cap e (by unfold maxLen; omega)
      refine ⟨_, _, hr, .inr ⟨w.heap.size, _, _, (0, 0), by rw [List.length_append]; rfl, hbase, heap_alloc_new w.drew _, .inl rfl, by rw [List.length_append]; exact hge, hcm2, ?_, ?_⟩, ⟨rfl, rfl, rfl, by simp, fun k hk _ => heap_alloc_old w.drew _ hk⟩, .inr ⟨w.heap.size, rfl, Nat.le_refl _⟩⟩
      · simp only [Array.size_append, List.size_toArray, size_zeroCells, hzs, cellsC_length, List.length_cons, List.length_nil]
        omega
      · simp only [Array.toList_append, List.append_assoc]
        rw [← hcx, ← List.append_assoc, List.length_append]
        exact List.take_left' (by rw [List.length_append, cellsC_length]; rfl)
theorem wpList_append_M {P : Program} {w : World} {ops : Array Oper} {rest : List Oper} {o : Oper} {a : Act} {Q : Exit → Act → World → Prop} (hgd : o.guard = none) (s x : Operand) (t : TypeId)
    (ho : o.op = .call { callee := .builtin .append, args := #[s, x], argTypes := #[t, t] })
    (base : Nat) (e : TypeId) (i : TypeInfo) (z : Value) (ht : P.underlying t = some (.slice e)) (hi : P.info? e = some i) (hz : i.zero = some z) (hsize : i.size = 1) (hby : i.bytes = 1) (hzs : z.cells.size = 1)
    (v : Value) (l : List UInt8) (hs : a.eval s = v) (hown : OwnM w base e v l) (ad : Addr) (c : Nat) (b : UInt8) (hx : a.eval x = .slice (some ad) 1 c) (hcell : w.cell? (ad.add 0) = some (.int .u8 (b.toNat : Int))) (hl : l.length ≤ 1000000) (hbase : base ≤ w.heap.size)
    (h : ∀ v' w', OwnM w' base e v' (l ++ [b]) → w.grownBy w' v.ownBlock → (v'.ownBlock = v.ownBlock ∨ ∃ k, v'.ownBlock = some k ∧ w.heap.size ≤ k) → wpList P ops Q rest (a.put o.dst v') w') : wpList P ops Q (o :: rest) a w := by
  refine wpList_plain hgd fun K hK => ?_
  obtain ⟨v', w', hr, h2, h3, h4⟩ := OwnM.append (P := P) w base t o.type e i z ht hi hz hsize hby hzs v l hown ad c b hcell hl hbase
  unfold Oper.wp execOp
  simp only [ho, resolve, invoke, builtin, Sem.run_bind, Sem.run_pure, Result.andThen_ok, List.map_toArray, List.map_cons, List.map_nil, hs, hx, hr]
  exact hK _ _ (h v' w' h2 h3 h4)
end Go.Proofs.Ytghchcipobcpjaa
