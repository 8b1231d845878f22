/- ROWS of stations, of bools and of notes: to be read, and ones that came in. -/
import Derived.Test.YtklpaleghanhhaaQdTail
import Derived.Test.YtklpaleghanhhaaQdStnQ
import Derived.Test.YtklpaleghanhhaaQdKeep
import Derived.Deep.MidRow
import Derived.WalkKit
import Derived.WalkSpells
import Derived.Below
import Derived.Laws.AppendOwn
import Derived.Lib.ConvBytes
namespace Go.Proofs.Ytklpaleghanhhaa
open Go.RowKit
set_option linter.unusedVariables false
set_option linter.unusedSimpArgs false

/-- a station's four lists in memory -/
structure Vs where
  a : Value
  b : Value
  c : Value
  d : Value
def stC (s : Stn) (u : Vs) : List Value := [.int .i64 s.ad, .int .i64 s.bo, .int .i64 s.st, .int .i64 s.s.g, .int .i64 s.s.o, .int .i64 s.s.b, .int .i64 s.s.h, .int .i64 s.t.g, .int .i64 s.t.o, .int .i64 s.t.b, .int .i64 s.t.h, .int .i64 s.qu, .int .i64 s.tr, .int .i64 s.he, .int .i64 s.po, u.a, u.b, u.c, u.d]
theorem stC_len (s : Stn) (u : Vs) : (stC s u).length = 19 := rfl
/-- a note -/
structure Nt where
  f : Int
  t : Int
  b : ByteArray
theorem range_below {w w' : World} {g o : Nat} {cs : List Value} (h : w.rangeAt g o cs) (hg : g < w.heap.size) (hb : Below w.heap.size w w') : w'.rangeAt g o cs := fun j v hv => (hb.cell (p := ⟨g, o + j, none⟩) hg).trans (h j v hv)
/-- stations, to be read -/
def RowSt (w : World) (v : Value) (ss : List Stn) : Prop :=
  ∃ (p : Option Addr) (c : Nat), v = .slice p ss.length c ∧ ∀ k (h : k < ss.length), ∃ g u, p = some ⟨g, 0, none⟩ ∧ g < w.heap.size ∧ w.rangeAt g (k * 19) (stC ss[k] u) ∧ RowI w u.a ss[k].kn ∧ RowI w u.b ss[k].ws ∧ RowG w u.c ss[k].gs ∧ RowS w u.d ss[k].os
theorem RowSt.below {w w' : World} {v : Value} {ss : List Stn} (h : RowSt w v ss) (hb : Below w.heap.size w w') : RowSt w' v ss := by
  obtain ⟨p, c, e, h⟩ := h
  refine ⟨p, c, e, fun k hk => ?_⟩
  obtain ⟨g, u, e1, h1, h2, r1, r2, r3, r4⟩ := h k hk
  exact ⟨g, u, e1, Nat.lt_of_lt_of_le h1 hb.size, range_below h2 h1 hb, r1.below hb, r2.below hb, r3.below hb, r4.below hb⟩
/-- bools, to be read -/
def RowBo (w : World) (v : Value) (us : List Bool) : Prop :=
  ∃ (p : Option Addr) (c : Nat), v = .slice p us.length c ∧ ∀ k (h : k < us.length), ∃ g, p = some ⟨g, 0, none⟩ ∧ g < w.heap.size ∧ w.cell? ⟨g, k, none⟩ = some (.bool us[k])
theorem RowBo.below {w w' : World} {v : Value} {us : List Bool} (h : RowBo w v us) (hb : Below w.heap.size w w') : RowBo w' v us := by
  obtain ⟨p, c, e, h⟩ := h
  refine ⟨p, c, e, fun k hk => ?_⟩
  obtain ⟨g, e1, h1, h2⟩ := h k hk
  exact ⟨g, e1, Nat.lt_of_lt_of_le h1 hb.size, (hb.cell (p := ⟨g, k, none⟩) h1).trans h2⟩
/-- notes, to be read -/
def RowN (w : World) (v : Value) (ns : List Nt) : Prop :=
  ∃ (p : Option Addr) (c : Nat), v = .slice p ns.length c ∧ ∀ k (h : k < ns.length), ∃ g, p = some ⟨g, 0, none⟩ ∧ g < w.heap.size ∧ w.cell? ⟨g, k * 3, none⟩ = some (.int .i64 ns[k].f) ∧ w.cell? ⟨g, k * 3 + 1, none⟩ = some (.int .i64 ns[k].t) ∧ w.cell? ⟨g, k * 3 + 2, none⟩ = some (.string ns[k].b)
theorem RowN.below {w w' : World} {v : Value} {ns : List Nt} (h : RowN w v ns) (hb : Below w.heap.size w w') : RowN w' v ns := by
  obtain ⟨p, c, e, h⟩ := h
  refine ⟨p, c, e, fun k hk => ?_⟩
  obtain ⟨g, e1, h1, h2, h3, h4⟩ := h k hk
  exact ⟨g, e1, Nat.lt_of_lt_of_le h1 hb.size, (hb.cell (p := ⟨g, k * 3, none⟩) h1).trans h2, (hb.cell (p := ⟨g, k * 3 + 1, none⟩) h1).trans h3, (hb.cell (p := ⟨g, k * 3 + 2, none⟩) h1).trans h4⟩
/-- the like, that came in -/
def InSt (w : World) (a : Option Addr) (ss : List Stn) : Prop :=
  ss.length ≤ 9223372036854775807 ∧ ∀ k (h : k < ss.length), ∃ g o p1 p2 p3 p4 c1 c2 c3 c4, a = some ⟨g, o, none⟩ ∧ g < w.heap.size ∧ w.rangeAt g (o + k * 19) (stC ss[k] ⟨.slice p1 ss[k].kn.length c1, .slice p2 ss[k].ws.length c2, .slice p3 ss[k].gs.length c3, .slice p4 ss[k].os.length c4⟩) ∧ InI w p1 ss[k].kn ∧ InI w p2 ss[k].ws ∧ InG w p3 ss[k].gs ∧ InS w p4 ss[k].os
theorem InSt.below {w w' : World} {a : Option Addr} {ss : List Stn} (h : InSt w a ss) (hb : Below w.heap.size w w') : InSt w' a ss := by
  refine ⟨h.1, fun k hk => ?_⟩
  obtain ⟨g, o, p1, p2, p3, p4, c1, c2, c3, c4, e, h1, h2, i1, i2, i3, i4⟩ := h.2 k hk
  exact ⟨g, o, p1, p2, p3, p4, c1, c2, c3, c4, e, Nat.lt_of_lt_of_le h1 hb.size, range_below h2 h1 hb, i1.below hb, i2.below hb, i3.below hb, i4.below hb⟩
def InBo (w : World) (a : Option Addr) (us : List Bool) : Prop :=
  us.length ≤ 9223372036854775807 ∧ ∀ k (h : k < us.length), ∃ g o, a = some ⟨g, o, none⟩ ∧ g < w.heap.size ∧ w.cell? ⟨g, o + k, none⟩ = some (.bool us[k])
theorem InBo.below {w w' : World} {a : Option Addr} {us : List Bool} (h : InBo w a us) (hb : Below w.heap.size w w') : InBo w' a us := by
  refine ⟨h.1, fun k hk => ?_⟩
  obtain ⟨g, o, e, h1, h2⟩ := h.2 k hk
  exact ⟨g, o, e, Nat.lt_of_lt_of_le h1 hb.size, (hb.cell (p := ⟨g, o + k, none⟩) h1).trans h2⟩
def InN (w : World) (a : Option Addr) (ns : List Nt) : Prop :=
  ns.length ≤ 9223372036854775807 ∧ (∀ n ∈ ns, n.b.size ≤ maxLen) ∧ ∀ k (h : k < ns.length), ∃ g o, a = some ⟨g, o, none⟩ ∧ g < w.heap.size ∧ w.cell? ⟨g, o + k * 3, none⟩ = some (.int .i64 ns[k].f) ∧ w.cell? ⟨g, o + k * 3 + 1, none⟩ = some (.int .i64 ns[k].t) ∧ w.cell? ⟨g, o + k * 3 + 2, none⟩ = some (.string ns[k].b)
theorem InN.below {w w' : World} {a : Option Addr} {ns : List Nt} (h : InN w a ns) (hb : Below w.heap.size w w') : InN w' a ns := by
  refine ⟨h.1, h.2.1, fun k hk => ?_⟩
  obtain ⟨g, o, e, h1, h2, h3, h4⟩ := h.2.2 k hk
  exact ⟨g, o, e, Nat.lt_of_lt_of_le h1 hb.size, (hb.cell (p := ⟨g, o + k * 3, none⟩) h1).trans h2, (hb.cell (p := ⟨g, o + k * 3 + 1, none⟩) h1).trans h3, (hb.cell (p := ⟨g, o + k * 3 + 2, none⟩) h1).trans h4⟩
/-- how much stations count, and notes -/
def ssum (ss : List Stn) : Int := (ss.map Stn.tot).sum
def nsum (ns : List Nt) : Int := (ns.map fun n => (n.b.size : Int)).sum
theorem tot_pos (s : Stn) : 0 ≤ s.tot := by unfold Stn.tot; omega
theorem ssum_take (ss : List Stn) (k : Nat) (h : k < ss.length) : ssum (ss.take (k + 1)) = ssum (ss.take k) + ss[k].tot := by
  unfold ssum
  rw [List.take_succ_eq_append_getElem h, List.map_append, List.sum_append]
  simp
theorem ssum_pos : ∀ ss : List Stn, 0 ≤ ssum ss
  | [] => by simp [ssum]
  | s :: ss => by have := ssum_pos ss; have := tot_pos s; unfold ssum at *; rw [List.map_cons, List.sum_cons]; omega
theorem ssum_le (ss : List Stn) (k : Nat) : ssum (ss.take k) ≤ ssum ss := by
  have e : ssum ss = ssum (ss.take k) + ssum (ss.drop k) := by
    unfold ssum
    rw [← List.sum_append, ← List.map_append, List.take_append_drop]
  have := ssum_pos (ss.drop k)
  omega
theorem ssum_each {ss : List Stn} {s : Stn} (h : s ∈ ss) : s.tot ≤ ssum ss := by
  obtain ⟨k, hk, rfl⟩ := List.getElem_of_mem h
  have h1 := ssum_take ss k hk
  have h2 := ssum_le ss (k + 1)
  have := ssum_pos (ss.take k)
  omega
theorem nsum_take (ns : List Nt) (k : Nat) (h : k < ns.length) : nsum (ns.take (k + 1)) = nsum (ns.take k) + (ns[k].b.size : Int) := by
  unfold nsum
  rw [List.take_succ_eq_append_getElem h, List.map_append, List.sum_append]
  simp
theorem nsum_pos : ∀ ns : List Nt, 0 ≤ nsum ns
  | [] => by simp [nsum]
  | s :: ss => by have := nsum_pos ss; unfold nsum at *; rw [List.map_cons, List.sum_cons]; omega
theorem nsum_le (ns : List Nt) (k : Nat) : nsum (ns.take k) ≤ nsum ns := by
  have e : nsum ns = nsum (ns.take k) + nsum (ns.drop k) := by
    unfold nsum
    rw [← List.sum_append, ← List.map_append, List.take_append_drop]
  have := nsum_pos (ns.drop k)
  omega
theorem nsum_each {ns : List Nt} {n : Nt} (h : n ∈ ns) : (n.b.size : Int) ≤ nsum ns := by
  obtain ⟨k, hk, rfl⟩ := List.getElem_of_mem h
  have h1 := nsum_take ns k hk
  have h2 := nsum_le ns (k + 1)
  have := nsum_pos (ns.take k)
  omega
/-- a segment -/
structure Seg where
  ss : List Stn
  us : List Bool
  ns : List Nt
def Seg.tot (s : Seg) : Int := (s.ss.length : Int) + ssum s.ss + (s.us.length : Int) + ((s.ns.length : Int) + nsum s.ns)
end Go.Proofs.Ytklpaleghanhhaa
/- A RIGHT SEGMENT, over lists. Written by mksegi.py. -/
namespace Go.Proofs.Ytklpaleghanhhaa
set_option linter.unusedVariables false
set_option linter.unusedSimpArgs false

def noteB (n : Nt) : Bool := addrB n.f && (addrB n.t && bodyQ n.b)
def notesB (ns : List Nt) : Bool := decide (ns.length ≤ 20) && ns.all noteB
def riseF (l : List Int) (k : Nat) : Bool := decide ((0 :: l).getD k 0 < l.getD k 0)
def riseQ (l : List Int) : Bool := (List.range l.length).all (riseF l)
def Seg.right (s : Seg) : Bool := decide (1 ≤ s.ss.length) && (decide (s.ss.length ≤ 4) && (decide (s.us.length = s.ss.length) && (notesB s.ns && (s.ss.all Stn.right && riseQ (s.ss.map Stn.ad)))))
theorem allSeg_no {α : Type} {l : List α} {f : α → Bool} {k : Nat} (h : k < l.length) (hk : f l[k] = false) : l.all f = false := by
  rw [Bool.eq_false_iff]
  intro h1
  rw [List.all_eq_true] at h1
  rw [h1 _ (List.getElem_mem h)] at hk
  cases hk
theorem allSeg_more {α : Type} {l : List α} {f : α → Bool} {k : Nat} (h : k < l.length) (ha : (l.take k).all f = true) (hk : f l[k] = true) : (l.take (k + 1)).all f = true := by
  rw [List.take_succ_eq_append_getElem h, List.all_append, ha, Bool.true_and]
  simp [hk]
theorem riseF_at (l : List Int) (k : Nat) (h : k < l.length) : riseF l k = decide ((0 :: l).getD k 0 < l[k]) := by
  unfold riseF
  rw [getD_at l 0 h]
end Go.Proofs.Ytklpaleghanhhaa
/- ROWS of bytes that a call made for itself, by append or by a conversion of a text: what they read as, and a byte put behind. -/
namespace Go.Proofs.Ytklpaleghanhhaa
open Go.RowKit
set_option linter.unusedVariables false

def cellsC (l : List UInt8) : List Value := l.map fun b => Value.int .u8 (b.toNat : Int)
theorem cellsC_length (l : List UInt8) : (cellsC l).length = l.length := by simp [cellsC]
theorem cellsC_append (l m : List UInt8) : cellsC (l ++ m) = cellsC l ++ cellsC m := by simp [cellsC]
def OwnM (w : World) (base : Nat) (e : TypeId) (v : Value) (l : List UInt8) : Prop :=
  (v = .slice none 0 0 ∧ l = []) ∨
  ∃ (g cap : Nat) (cur : Array Value) (fz : Nat × Nat), v = .slice (some ⟨g, 0, none⟩) l.length cap ∧ base ≤ g ∧ w.heap[g]? = some (.cells cur e fz) ∧ (fz = (0, 0) ∨ cap ≤ fz.1) ∧ l.length ≤ cap ∧ cap ≤ maxLen ∧ cur.size = cap ∧ cur.toList.take l.length = cellsC l
theorem OwnM.nil (w : World) (base : Nat) (e : TypeId) : OwnM w base e (.slice none 0 0) [] := .inl ⟨rfl, rfl⟩
theorem OwnM.own {w : World} {base : Nat} {e : TypeId} {v : Value} {l : List UInt8} (h : w.ownsRow base e 1 v l.length (cellsC l)) : OwnM w base e v l := by
  obtain ⟨_, ⟨rfl, h0⟩ | ⟨g, cap, cur, rfl, h1, h2, h3, h4, h5, h6⟩⟩ := h
  · exact .inl ⟨rfl, List.eq_nil_of_length_eq_zero h0⟩
  · exact .inr ⟨g, cap, cur, (0, 0), rfl, h1, h2, .inl rfl, h3, h4, by simpa using h5, by simpa using h6⟩
theorem OwnM.mono {w : World} {base B : Nat} {e : TypeId} {v : Value} {l : List UInt8} (h : OwnM w base e v l) (hB : B ≤ base) : OwnM w B e v l := by
  rcases h with h | ⟨g, cap, cur, fz, h1, h2, h3⟩
  · exact .inl h
  · exact .inr ⟨g, cap, cur, fz, h1, Nat.le_trans hB h2, h3⟩
theorem OwnM.shape {w : World} {base : Nat} {e : TypeId} {v : Value} {l : List UInt8} (h : OwnM w base e v l) : ∃ a cap, v = .slice a l.length cap := by
  rcases h with ⟨rfl, rfl⟩ | ⟨g, cap, _, _, rfl, _⟩
  · exact ⟨_, _, rfl⟩
  · exact ⟨_, _, rfl⟩
theorem OwnM.lt {w : World} {base : Nat} {e : TypeId} {v : Value} {l : List UInt8} (h : OwnM w base e v l) : ∀ k, v.ownBlock = some k → base ≤ k ∧ k < w.heap.size := by
  intro k hk
  rcases h with ⟨rfl, rfl⟩ | ⟨g, cap, cur, fz, rfl, hb, hg, _⟩
  · simp [Value.ownBlock] at hk
  · simp [Value.ownBlock] at hk
    subst hk
    exact ⟨hb, (Array.getElem?_eq_some_iff.1 hg).1⟩
theorem OwnM.kept {w w' : World} {base : Nat} {e : TypeId} {v : Value} {l : List UInt8} (h : OwnM w base e v l) (hk : ∀ g, v.ownBlock = some g → w'.heap[g]? = w.heap[g]?) : OwnM w' base e v l := by
  rcases h with h | ⟨g, cap, cur, fz, rfl, hb, hg, rest⟩
  · exact .inl h
  · exact .inr ⟨g, cap, cur, fz, rfl, hb, (hk g rfl).trans hg, rest⟩
theorem OwnM.below {w w' : World} {base B : Nat} {e : TypeId} {v : Value} {l : List UInt8} (h : OwnM w base e v l) (hb : Below B w w') (hB : w.heap.size ≤ B) : OwnM w' base e v l :=
  h.kept fun g hg => hb.block g (by have := (h.lt g hg).2; omega)
theorem OwnM.alloc {w : World} {base : Nat} {e : TypeId} {v : Value} {l : List UInt8} (h : OwnM w base e v l) (o : Obj) : OwnM (w.alloc o) base e v l :=
  h.kept fun g hg => heap_alloc_old w o (h.lt g hg).2
theorem OwnM.grown {w w' : World} {base : Nat} {e : TypeId} {v : Value} {l : List UInt8} {row : Option Nat} (h : OwnM w base e v l) (hg : w.grownBy w' row) (hne : v.ownBlock = none ∨ v.ownBlock ≠ row) : OwnM w' base e v l :=
  h.kept fun g hk => hg.block g (h.lt g hk).2 (by
    rcases hne with hn | hn
    · rw [hn] at hk; cases hk
    · rw [← hk]; exact hn)
theorem OwnM.conv {P : Program} {w : World} {base : Nat} {v : Value} {l : List UInt8} {e : TypeId} (src dst : TypeId) (hs : P.underlying src = some (.slice e)) (he : P.underlying e = some (.int .u8)) (hd : P.underlying dst = some .string)
    (h : OwnM w base e v l) : (convert src dst v).run P w = .ok (.string ⟨l.toArray⟩) w := by
  rcases h with ⟨rfl, rfl⟩ | ⟨g, cap, cur, fz, rfl, _, hg, _, _, _, _, ht⟩
  · rw [run_convert_bytes_string w src dst e none 0 0 hs he hd]
    simp [Conv.bytesToString, Sem.run_pure]
    rfl
  · have hz : (⟨l.toArray⟩ : ByteArray).size = l.length := by simp [ByteArray.size]
    have hc : cellsB ⟨l.toArray⟩ = cellsC l := by simp [cellsB, cellsC]
    have := Lib.run_convert_whole w src e dst hs he hd g 0 ⟨l.toArray⟩ (bytes_of_cells (cs := cur.toList) (fr := fz) _ (by simpa using hg) (by rw [hz, hc]; simpa using ht)) cap
    rw [hz] at this
    exact this
/-- '[]byte(s)' -/
theorem OwnM.made {P : Program} (w : World) (src dst e : TypeId) (s : ByteArray) {u : TypeDesc} (base : Nat) (hs : P.underlying src = some u) (hd : P.underlying dst = some (.slice e)) (he : P.underlying e = some (.int .u8)) (hb : base ≤ w.heap.size) (hm : s.size ≤ maxLen) :
    ∃ v w', (convert src dst (.string s)).run P w = .ok v w' ∧ OwnM w' base e v s.data.toList ∧ Below w.heap.size w w' ∧ w'.heap.size = w.heap.size + 1 ∧ v.ownBlock = some w.heap.size := by
  have hge : s.size ≤ grownCap w s.size 0 e := grownCap_ge w s.size 0 e
  have hle : grownCap w s.size 0 e ≤ maxLen := grownCap_le_maxLen w s.size 0 e hm
  have hsz : (Lib.bytesCells w e s).size = grownCap w s.size 0 e := by
    unfold Lib.bytesCells
    rw [Array.size_append, Array.size_map, Array.size_replicate]
    show s.size + _ = _
    omega
  refine ⟨_, _, Lib.run_convert_string_bytes w src dst e s hs hd he, .inr ⟨w.heap.size, _, _, _, ?_, hb, Lib.bytesWorld_at_new w e s, .inr ?_, ?_, hle, hsz, ?_⟩, ⟨rfl, rfl, rfl, by rw [Lib.bytesWorld_size]; omega, fun k hk => Lib.bytesWorld_at_old w e s k hk⟩, Lib.bytesWorld_size w e s, rfl⟩
  · rw [Array.length_toList]; rfl
  · show _ ≤ (Lib.bytesCells w e s).size
    omega
  · rw [Array.length_toList]; exact hge
  · unfold Lib.bytesCells cellsC
    rw [Array.toList_append, Array.toList_map]
    exact List.take_left' (by rw [List.length_map])
/-- a byte behind a row -/
theorem OwnM.append {P : Program} (w : World) (base : Nat) (t ty e : TypeId) (i : TypeInfo) (z : Value) (ht : P.underlying t = some (.slice e)) (hi : P.info? e = some i) (hz : i.zero = some z)
    (hsize : i.size = 1) (hby : i.bytes = 1) (hzs : z.cells.size = 1) (v : Value) (l : List UInt8) (hown : OwnM w base e v l) (a : Addr) (c : Nat) (x : UInt8) (hx : w.cell? (a.add 0) = some (.int .u8 (x.toNat : Int))) (hl : l.length ≤ 1000000) (hbase : base ≤ w.heap.size) :
    ∃ v' w', (Builtin.append_ #[t, t] ty #[v, .slice (some a) 1 c]).run P w = .ok v' w' ∧ OwnM w' base e v' (l ++ [x]) ∧ w.grownBy w' v.ownBlock ∧ (v'.ownBlock = v.ownBlock ∨ ∃ k, v'.ownBlock = some k ∧ w.heap.size ≤ k) := by
  have hnews : ∀ j u, [Value.int .u8 (x.toNat : Int)][j]? = some u → w.cell? (a.add j) = some u := by
    intro j u h
    match j, h with
    | 0, h => simp at h; subst h; exact hx
  have h1 : ∀ u ∈ [Value.int .u8 (x.toNat : Int)], u.oneCell' = true := by intro u hu; simp at hu; subst hu; rfl
  have hcx : cellsC l ++ [Value.int .u8 (x.toNat : Int)] = cellsC (l ++ [x]) := by simp [cellsC]
  rcases hown with ⟨rfl, rfl⟩ | ⟨g, cap, cur, fz, rfl, hbg, hg, hfz, hnc, hcm, hcs, htake⟩
  · obtain ⟨v', w', r1, r2, r3, r4⟩ := run_append_own (P := P) w w.heap.size t ty e i z 1 1 ht hi hz hsize hby hzs (by decide) (.slice none 0 0) 0 [] ⟨by simp, .inl ⟨rfl, rfl⟩⟩ a 1 c _ rfl hnews h1 (by unfold maxLen; omega) (by omega) (Nat.le_refl _)
    refine ⟨v', w', r1, OwnM.mono (.own r2) hbase, r3, ?_⟩
    cases hq : v'.ownBlock with
    | none => exact .inl rfl
    | some k => exact .inr ⟨k, rfl, (r2.lt k hq).1⟩
  · by_cases hroom : l.length + 1 ≤ cap
    · have hf := run_firstCells_some (P := P) w 1 1 a 1 c [Value.int .u8 (x.toNat : Int)] rfl hnews
      have hlt : l.length < cur.size := by omega
      have hcell : w.cell? ⟨g, l.length, none⟩ = some cur[l.length] := by simp [World.cell?, hg, hlt]
      have hfro : w.frozen? ⟨g, l.length, none⟩ = false := by
        obtain ⟨lo, hi'⟩ := fz
        simp only [World.frozen?, hg, Bool.and_eq_false_iff, decide_eq_false_iff_not]
        rcases hfz with h | h
        · cases h; right; omega
        · left; simp only at h; omega
      have hst : (storeCells ⟨g, l.length, none⟩ [Value.int .u8 (x.toNat : Int)] 0).run P w = .ok () (w.setRow g (cur.setIfInBounds l.length (.int .u8 (x.toNat : Int)))) := by
        have hadd : (⟨g, l.length, none⟩ : Addr).add 0 = ⟨g, l.length, none⟩ := by unfold Addr.add; split <;> simp_all
        simp only [storeCells, Sem.run_bind]
        rw [hadd, run_store P w _ _ _ rfl, hcell]
        simp [hfro, setCell_eq_setRow w g l.length cur e fz _ hg]
      refine ⟨.slice (some ⟨g, 0, none⟩) (l.length + 1) cap, w.setRow g (cur.setIfInBounds l.length (.int .u8 (x.toNat : Int))), ?_, .inr ⟨g, cap, _, fz, by rw [List.length_append]; rfl, hbg, setRow_heap w g cur _ e _ hg, hfz, by rw [List.length_append]; exact hroom, hcm, by simpa using hcs, ?_⟩, ⟨rfl, rfl, rfl, by simp, fun k _ hk => setRow_other w g k _ (fun e => hk (by simp [Value.ownBlock, e]))⟩, .inl rfl⟩
      · simp [Builtin.append_, run_underlying ht, sizeOf, typeInfo, hi, hsize, Builtin.lenOf, hroom, hf, Addr.add_lit, hst]
      · rw [← hcx, ← htake, List.length_append]
        have := take_set (cs := cur.toList) (k := l.length) (.int .u8 (x.toNat : Int)) (by simpa using hlt)
        simpa using this
    · have holds : ∀ j u, (cellsC l)[j]? = some u → w.cell? ((⟨g, 0, none⟩ : Addr).add j) = some u := by
        intro j u hu
        have hadd : (⟨g, 0, none⟩ : Addr).add j = ⟨g, j, none⟩ := by unfold Addr.add; split <;> simp_all
        rw [hadd, cell_of_row w g j cur e fz hg]
        rw [← htake, List.getElem?_take] at hu
        split at hu
        · simpa using hu
        · cases hu
      have hr := run_append_grow (P := P) w t ty e i z ht hi hz ⟨g, 0, none⟩ l.length cap (cellsC l) (by rw [hsize, cellsC_length]; omega) holds a 1 c [Value.int .u8 (x.toNat : Int)] (by rw [hsize]; rfl) hnews (by omega) (by omega) (growslice_fits (by omega) (by rw [hby]; omega))
      have hge := grownCap_ge w (l.length + 1) cap e
      have hcm2 : grownCap w (l.length + 1) cap e ≤ maxLen := grownCap_le_maxLen w (l.length + 1) cap e (by unfold maxLen; omega)
      refine ⟨_, _, hr, .inr ⟨w.heap.size, _, _, (0, 0), by rw [List.length_append]; rfl, hbase, heap_alloc_new w.drew _, .inl rfl, by rw [List.length_append]; exact hge, hcm2, ?_, ?_⟩, ⟨rfl, rfl, rfl, by simp, fun k hk _ => heap_alloc_old w.drew _ hk⟩, .inr ⟨w.heap.size, rfl, Nat.le_refl _⟩⟩
      · simp only [Array.size_append, List.size_toArray, size_zeroCells, hzs, cellsC_length, List.length_cons, List.length_nil]
        omega
      · simp only [Array.toList_append, List.append_assoc]
        rw [← hcx, ← List.append_assoc, List.length_append]
        exact List.take_left' (by rw [List.length_append, cellsC_length]; rfl)
theorem wpList_append_M {P : Program} {w : World} {ops : Array Oper} {rest : List Oper} {o : Oper} {a : Act} {Q : Exit → Act → World → Prop} (hgd : o.guard = none) (s x : Operand) (t : TypeId)
    (ho : o.op = .call { callee := .builtin .append, args := #[s, x], argTypes := #[t, t] })
    (base : Nat) (e : TypeId) (i : TypeInfo) (z : Value) (ht : P.underlying t = some (.slice e)) (hi : P.info? e = some i) (hz : i.zero = some z) (hsize : i.size = 1) (hby : i.bytes = 1) (hzs : z.cells.size = 1)
    (v : Value) (l : List UInt8) (hs : a.eval s = v) (hown : OwnM w base e v l) (ad : Addr) (c : Nat) (b : UInt8) (hx : a.eval x = .slice (some ad) 1 c) (hcell : w.cell? (ad.add 0) = some (.int .u8 (b.toNat : Int))) (hl : l.length ≤ 1000000) (hbase : base ≤ w.heap.size)
    (h : ∀ v' w', OwnM w' base e v' (l ++ [b]) → w.grownBy w' v.ownBlock → (v'.ownBlock = v.ownBlock ∨ ∃ k, v'.ownBlock = some k ∧ w.heap.size ≤ k) → wpList P ops Q rest (a.put o.dst v') w') : wpList P ops Q (o :: rest) a w := by
  refine wpList_plain hgd fun K hK => ?_
  obtain ⟨v', w', hr, h2, h3, h4⟩ := OwnM.append (P := P) w base t o.type e i z ht hi hz hsize hby hzs v l hown ad c b hcell hl hbase
  unfold Oper.wp execOp
  simp only [ho, resolve, invoke, builtin, Sem.run_bind, Sem.run_pure, Result.andThen_ok, List.map_toArray, List.map_cons, List.map_nil, hs, hx, hr]
  exact hK _ _ (h v' w' h2 h3 h4)
end Go.Proofs.Ytklpaleghanhhaa
