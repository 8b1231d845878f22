/- ROWS OF RECORDS, a Slave and a Master that came in: opened. Written by mkreco.py. -/
import Derived.Test.YtineecongiplgaaRecD
import Derived.Test.YtineecongiplgaaRecW
import Derived.Deep.Slices
namespace Go.Proofs.Ytineecongiplgaa
open Go.RowKit Go.ChangeShapes Go.WideShapes Go.ChangeAt
set_option linter.unusedVariables false
set_option linter.unusedSimpArgs false

theorem rcList2 {α : Type} {l : List α} (h : l.length = 2) : ∃ c0 c1, l = [c0, c1] := by
  match l, h with
  | [c0, c1], _ => exact ⟨c0, c1, rfl⟩
theorem rcList3 {α : Type} {l : List α} (h : l.length = 3) : ∃ c0 c1 c2, l = [c0, c1, c2] := by
  match l, h with
  | [c0, c1, c2], _ => exact ⟨c0, c1, c2, rfl⟩
theorem rcList4 {α : Type} {l : List α} (h : l.length = 4) : ∃ c0 c1 c2 c3, l = [c0, c1, c2, c3] := by
  match l, h with
  | [c0, c1, c2, c3], _ => exact ⟨c0, c1, c2, c3, rfl⟩
theorem rcArray3 {α : Type} {l : Array α} (h : l.size = 3) : ∃ c0 c1 c2, l = #[c0, c1, c2] := by
  obtain ⟨l⟩ := l
  match l, h with
  | [c0, c1, c2], _ => exact ⟨c0, c1, c2, rfl⟩
theorem rcArray5 {α : Type} {l : Array α} (h : l.size = 5) : ∃ c0 c1 c2 c3 c4, l = #[c0, c1, c2, c3, c4] := by
  obtain ⟨l⟩ := l
  match l, h with
  | [c0, c1, c2, c3, c4], _ => exact ⟨c0, c1, c2, c3, c4, rfl⟩
theorem rcCellsIt : Try.prog.cellsOf 2 = 1 := by kernel_rfl
theorem rcCellsTs : Try.prog.cellsOf 9 = 1 := by kernel_rfl
theorem rcCellsD : Try.prog.cellsOf 121 = 2 := by kernel_rfl
theorem rcCellsW : Try.prog.cellsOf 119 = 4 := by kernel_rfl
theorem rcCellsDs : Try.prog.cellsOf 44 = 1 := by kernel_rfl
theorem rcCellsWs : Try.prog.cellsOf 43 = 1 := by kernel_rfl
theorem rcCellsTb : Try.prog.cellsOf 57 = 2 := by kernel_rfl
theorem rcCellsSl : Try.prog.cellsOf 59 = 5 := by kernel_rfl
theorem rcCellsMs : Try.prog.cellsOf 46 = 3 := by kernel_rfl
theorem rcAddN (g o k : Nat) : (⟨g, o, none⟩ : Addr).add k = ⟨g, o + k, none⟩ := by unfold Addr.add; split <;> simp_all
theorem rcSpot {w : World} {a : Addr} {v : Value} (h : w.cell? (a.add 0) = some v) : ∃ g o, a = ⟨g, o, none⟩ ∧ g < w.heap.size := by
  obtain ⟨g, o, sp⟩ := a
  have hsp : sp = none := by simpa [Addr.add] using World.cell?_spot h
  subst hsp
  refine ⟨g, o, rfl, ?_⟩
  rcases Nat.lt_or_ge g w.heap.size with h1 | h1
  · exact h1
  · simp [World.cell?, Addr.add, Array.getElem?_eq_none h1] at h
theorem rcCells {w : World} {base : Nat} {a : Addr} {i n : Nat} {cs : List Value} {g o : Nat} (ha : a = ⟨g, o, none⟩) (h : w.cells? base (a.add (i * n)) n = some cs) : cs.length = n ∧ w.rangeAt g (o + i * n) cs := by
  subst ha
  obtain ⟨_, hl, hc⟩ := World.cells?_some h
  refine ⟨hl, fun j v hv => ?_⟩
  have hj : j < n := by rw [← hl]; exact (List.getElem?_eq_some_iff.1 hv).1
  have := hc j hj
  rw [rcAddN, rcAddN, hv] at this
  exact this
theorem rcSpotC {w : World} {base : Nat} {a : Addr} {n : Nat} {cs : List Value} (hn : 0 < n) (h : w.cells? base (a.add (0 * n)) n = some cs) : ∃ g o, a = ⟨g, o, none⟩ ∧ g < w.heap.size := by
  obtain ⟨_, hl, hc⟩ := World.cells?_some h
  have := hc 0 hn
  rw [List.getElem?_eq_getElem (by omega), Nat.zero_mul] at this
  have e : (a.add 0).add 0 = a.add 0 := by rw [Go.Deep.add_add]
  rw [e] at this
  exact rcSpot this
set_option maxRecDepth 100000 in
theorem open_DoneS {H : Type} {enc : TypeId × Value → H} {W : World} {base : Nat} {held : Bool} {c : Value} {y : _} {n : Nat} (h : DataW.trod enc Try.prog W base (fun _ => true) held n 44 [c] = some y) :
    ∃ (l : List Dn) (p : Option Addr) (k : Nat), c = .slice p l.length k ∧ InD W p l := by
  rcases Go.Deep.open_slice Try.underlying44 h with ⟨hcs, _⟩ | ⟨a, len, cap, m, n, D, Pl, hcs, _, hl, hm, hmm, _, hx⟩
  · simp at hcs
    exact ⟨[], none, 0, hcs, fun n hn => by simp at hn, by simp, fun k hk => by simp at hk⟩
  · simp at hcs hmm
    unfold maxLen at hm
    rw [rcCellsD] at hx
    by_cases h0 : len = 0
    · subst h0
      exact ⟨[], some a, cap, hcs, fun n hn => by simp at hn, by simp, fun k hk => by simp at hk⟩
    obtain ⟨g, o, rfl, hg⟩ : ∃ g o, a = ⟨g, o, none⟩ ∧ g < W.heap.size := by
      obtain ⟨cs', h1, _⟩ := hx 0 (by omega)
      exact rcSpotC (by omega) h1
    have H : ∀ i, ∃ b : Dn, ∀ (hi : i < len), b.a.size ≤ maxLen ∧ W.rangeAt g (o + i * 2) (dnC b) := fun i => by
      by_cases hi : i < len
      · obtain ⟨cs', h1, h2⟩ := hx i (by omega)
        obtain ⟨hl', hr⟩ := rcCells rfl h1
        obtain ⟨c0, c1, rfl⟩ := rcList2 hl'
        obtain ⟨xs, n', _, _, _, hlen, hfl⟩ := DataW.trod_struct Try.underlying121 h2
        obtain ⟨y0, y1, rfl⟩ := rcList2 hlen
        have g0 : DataW.trod enc Try.prog W base (fun _ => true) held n' 2 [c0] = some y0 := by have := hfl 0 _ rfl; simpa [Value.cells, rcCellsIt, rcCellsTs] using this
        have g1 : DataW.trod enc Try.prog W base (fun _ => true) held n' 9 [c1] = some y1 := by have := hfl 1 _ rfl; simpa [Value.cells, rcCellsIt, rcCellsTs] using this
        obtain ⟨z0, r0, _, _⟩ := DataW.trod_int Try.underlying2 g0
        obtain ⟨z1, r1, _, hb⟩ := DataW.trod_string Try.underlying9 g1
        cases r0; cases r1
        exact ⟨⟨z0, z1⟩, fun _ => ⟨hb, hr⟩⟩
      · exact ⟨⟨0, ByteArray.empty⟩, fun h => absurd h hi⟩
    obtain ⟨f, hf⟩ := Classical.axiomOfChoice H
    have hlen : ((List.range len).map f).length = len := by simp
    refine ⟨(List.range len).map f, some ⟨g, o, none⟩, cap, by rw [hlen]; exact hcs, fun x hx => ?_, by rw [hlen]; omega, fun k hk => ?_⟩
    · obtain ⟨i, hi, rfl⟩ := List.mem_map.1 hx
      exact (hf i (List.mem_range.1 hi)).1
    · rw [hlen] at hk
      have eG : ((List.range len).map f)[k]'(by rw [hlen]; exact hk) = f k := by simp
      rw [eG]
      exact ⟨g, o, rfl, hg, (hf k hk).2⟩
set_option maxRecDepth 100000 in
theorem open_WaitS {H : Type} {enc : TypeId × Value → H} {W : World} {base : Nat} {held : Bool} {c : Value} {y : _} {n : Nat} (h : DataW.trod enc Try.prog W base (fun _ => true) held n 43 [c] = some y) :
    ∃ (l : List Wt) (p : Option Addr) (k : Nat), c = .slice p l.length k ∧ InW W p l := by
  rcases Go.Deep.open_slice Try.underlying43 h with ⟨hcs, _⟩ | ⟨a, len, cap, m, n, D, Pl, hcs, _, hl, hm, hmm, _, hx⟩
  · simp at hcs
    exact ⟨[], none, 0, hcs, fun n hn => by simp at hn, by simp, fun k hk => by simp at hk⟩
  · simp at hcs hmm
    unfold maxLen at hm
    rw [rcCellsW] at hx
    by_cases h0 : len = 0
    · subst h0
      exact ⟨[], some a, cap, hcs, fun n hn => by simp at hn, by simp, fun k hk => by simp at hk⟩
    obtain ⟨g, o, rfl, hg⟩ : ∃ g o, a = ⟨g, o, none⟩ ∧ g < W.heap.size := by
      obtain ⟨cs', h1, _⟩ := hx 0 (by omega)
      exact rcSpotC (by omega) h1
    have H : ∀ i, ∃ b : Wt, ∀ (hi : i < len), b.t.size ≤ maxLen ∧ W.rangeAt g (o + i * 4) (wtC b) := fun i => by
      by_cases hi : i < len
      · obtain ⟨cs', h1, h2⟩ := hx i (by omega)
        obtain ⟨hl', hr⟩ := rcCells rfl h1
        obtain ⟨c0, c1, c2, c3, rfl⟩ := rcList4 hl'
        obtain ⟨xs, n', _, _, _, hlen, hfl⟩ := DataW.trod_struct Try.underlying119 h2
        obtain ⟨y0, y1, y2, y3, rfl⟩ := rcList4 hlen
        have g0 : DataW.trod enc Try.prog W base (fun _ => true) held n' 2 [c0] = some y0 := by have := hfl 0 _ rfl; simpa [Value.cells, rcCellsIt, rcCellsTs] using this
        have g1 : DataW.trod enc Try.prog W base (fun _ => true) held n' 9 [c1] = some y1 := by have := hfl 1 _ rfl; simpa [Value.cells, rcCellsIt, rcCellsTs] using this
        have g2 : DataW.trod enc Try.prog W base (fun _ => true) held n' 2 [c2] = some y2 := by have := hfl 2 _ rfl; simpa [Value.cells, rcCellsIt, rcCellsTs] using this
        have g3 : DataW.trod enc Try.prog W base (fun _ => true) held n' 2 [c3] = some y3 := by have := hfl 3 _ rfl; simpa [Value.cells, rcCellsIt, rcCellsTs] using this
        obtain ⟨z0, r0, _, _⟩ := DataW.trod_int Try.underlying2 g0
        obtain ⟨z1, r1, _, hb⟩ := DataW.trod_string Try.underlying9 g1
        obtain ⟨z2, r2, _, _⟩ := DataW.trod_int Try.underlying2 g2
        obtain ⟨z3, r3, _, _⟩ := DataW.trod_int Try.underlying2 g3
        cases r0; cases r1; cases r2; cases r3
        exact ⟨⟨z0, z1, z2, z3⟩, fun _ => ⟨hb, hr⟩⟩
      · exact ⟨⟨0, ByteArray.empty, 0, 0⟩, fun h => absurd h hi⟩
    obtain ⟨f, hf⟩ := Classical.axiomOfChoice H
    have hlen : ((List.range len).map f).length = len := by simp
    refine ⟨(List.range len).map f, some ⟨g, o, none⟩, cap, by rw [hlen]; exact hcs, fun x hx => ?_, by rw [hlen]; omega, fun k hk => ?_⟩
    · obtain ⟨i, hi, rfl⟩ := List.mem_map.1 hx
      exact (hf i (List.mem_range.1 hi)).1
    · rw [hlen] at hk
      have eG : ((List.range len).map f)[k]'(by rw [hlen]; exact hk) = f k := by simp
      rw [eG]
      exact ⟨g, o, rfl, hg, (hf k hk).2⟩
/-- a slave, and a master -/
structure Slv where
  t : Tb
  lo : Int
  cs : List Dn
  ru : Int
structure Mst where
  nx : Int
  op : List Wt
  dn : List Dn
def Slv.tot (s : Slv) : Int := (s.t.cs.length : Int) + (s.t.rs.length : Int) + ((s.cs.length : Int) + csum Dn.sz s.cs)
def Mst.tot (m : Mst) : Int := ((m.op.length : Int) + csum Wt.sz m.op) + ((m.dn.length : Int) + csum Dn.sz m.dn)
set_option maxRecDepth 100000 in
set_option maxHeartbeats 1600000 in
theorem open_slave {H : Type} {enc : TypeId × Value → H} {W : World} {base : Nat} {held : Bool} {b0 : Nat} {r : Reach} {v : Value} {d : DataW H} {pl : List MemPlace}
    (hv : Value.okWide Try.prog W r b0 59 v) (h : DataW.Trod enc Try.prog W base (fun _ => true) held 59 v d pl) :
    ∃ (s : Slv) (p1 p2 p3 : Option Addr) (k1 k2 k3 : Nat), v = .agg #[.slice p1 s.t.cs.length k1, .slice p2 s.t.rs.length k2, .int .i64 s.lo, .slice p3 s.cs.length k3, .int .i64 s.ru] ∧ InI W p1 s.t.cs ∧ InI W p2 s.t.rs ∧ InD W p3 s.cs := by
  obtain ⟨cs, rfl, hsz⟩ := okWide_struct Try.underlying59 hv
  obtain ⟨c0, c1, c2, c3, c4, rfl⟩ := rcArray5 (hsz.trans rcCellsSl)
  obtain ⟨fuel, hf⟩ := h
  obtain ⟨xs, n, _, _, hl, hlen, hfl⟩ := DataW.trod_struct Try.underlying59 hf
  obtain ⟨y0, y1, y2, y3, rfl⟩ := rcList4 hlen
  have h0 : DataW.trod enc Try.prog W base (fun _ => true) held n 57 [c0, c1] = some y0 := by have := hfl 0 _ rfl; simpa [Value.cells, rcCellsTb] using this
  have h1 : DataW.trod enc Try.prog W base (fun _ => true) held n 2 [c2] = some y1 := by have := hfl 1 _ rfl; simpa [Value.cells, rcCellsIt, rcCellsTb] using this
  have h2 : DataW.trod enc Try.prog W base (fun _ => true) held n 44 [c3] = some y2 := by have := hfl 2 _ rfl; simpa [Value.cells, rcCellsIt, rcCellsDs, rcCellsTb] using this
  have h3 : DataW.trod enc Try.prog W base (fun _ => true) held n 2 [c4] = some y3 := by have := hfl 3 _ rfl; simpa [Value.cells, rcCellsIt, rcCellsDs, rcCellsTb] using this
  obtain ⟨lo, r1, _, _⟩ := DataW.trod_int Try.underlying2 h1
  obtain ⟨ru, r3, _, _⟩ := DataW.trod_int Try.underlying2 h3
  cases r1; cases r3
  obtain ⟨l, p3, k3, rfl, i3⟩ := open_DoneS h2
  obtain ⟨xs, n', _, _, _, hlen', hft⟩ := DataW.trod_struct Try.underlying57 h0
  obtain ⟨z0, z1, rfl⟩ := rcList2 hlen'
  have q0 : DataW.trod enc Try.prog W base (fun _ => true) held n' 23 [c0] = some z0 := by have := hft 0 _ rfl; simpa [Value.cells, cellsRt] using this
  have q1 : DataW.trod enc Try.prog W base (fun _ => true) held n' 23 [c1] = some z1 := by have := hft 1 _ rfl; simpa [Value.cells, cellsRt] using this
  obtain ⟨t0, p1, k1, rfl, i1⟩ := open_row q0
  obtain ⟨t1, p2, k2, rfl, i2⟩ := open_row q1
  exact ⟨⟨⟨t0, t1⟩, lo, l, ru⟩, p1, p2, p3, k1, k2, k3, rfl, i1, i2, i3⟩
set_option maxRecDepth 100000 in
set_option maxHeartbeats 1600000 in
theorem open_master {H : Type} {enc : TypeId × Value → H} {W : World} {base : Nat} {held : Bool} {b0 : Nat} {r : Reach} {v : Value} {d : DataW H} {pl : List MemPlace}
    (hv : Value.okWide Try.prog W r b0 46 v) (h : DataW.Trod enc Try.prog W base (fun _ => true) held 46 v d pl) :
    ∃ (s : Mst) (p1 p2 : Option Addr) (k1 k2 : Nat), v = .agg #[.int .i64 s.nx, .slice p1 s.op.length k1, .slice p2 s.dn.length k2] ∧ InW W p1 s.op ∧ InD W p2 s.dn := by
  obtain ⟨cs, rfl, hsz⟩ := okWide_struct Try.underlying46 hv
  obtain ⟨c0, c1, c2, rfl⟩ := rcArray3 (hsz.trans rcCellsMs)
  obtain ⟨fuel, hf⟩ := h
  obtain ⟨xs, n, _, _, hl, hlen, hfl⟩ := DataW.trod_struct Try.underlying46 hf
  obtain ⟨y0, y1, y2, rfl⟩ := rcList3 hlen
  have h0 : DataW.trod enc Try.prog W base (fun _ => true) held n 2 [c0] = some y0 := by have := hfl 0 _ rfl; simpa [Value.cells, rcCellsIt] using this
  have h1 : DataW.trod enc Try.prog W base (fun _ => true) held n 43 [c1] = some y1 := by have := hfl 1 _ rfl; simpa [Value.cells, rcCellsIt, rcCellsWs] using this
  have h2 : DataW.trod enc Try.prog W base (fun _ => true) held n 44 [c2] = some y2 := by have := hfl 2 _ rfl; simpa [Value.cells, rcCellsIt, rcCellsDs, rcCellsWs] using this
  obtain ⟨nx, r0, _, _⟩ := DataW.trod_int Try.underlying2 h0
  cases r0
  obtain ⟨l1, p1, k1, rfl, i1⟩ := open_WaitS h1
  obtain ⟨l2, p2, k2, rfl, i2⟩ := open_DoneS h2
  exact ⟨⟨nx, l1, l2⟩, p1, p2, k1, k2, rfl, i1, i2⟩
end Go.Proofs.Ytineecongiplgaa
