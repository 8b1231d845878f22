/- ROWS of stations, of bools and of notes: to be read, and ones that came in. -/
import Derived.Test.YtggdjiijcoklgaaHTail
import Derived.Test.YtggdjiijcoklgaaHStnQ
import Derived.Deep.MidRow
namespace Go.Proofs.Ytggdjiijcoklgaa
open Go.RowKit
set_option linter.unusedVariables false
set_option linter.unusedSimpArgs false

/-- a station's four lists in memory -/
structure Vs where
  a : Value
  b : Value
  c : Value
  d : Value
def stC (s : Stn) (u : Vs) : List Value := [.int .i64 s.ad, .int .i64 s.bo, .int .i64 s.st, .int .i64 s.s.g, .int .i64 s.s.o, .int .i64 s.s.b, .int .i64 s.s.h, .int .i64 s.t.g, .int .i64 s.t.o, .int .i64 s.t.b, .int .i64 s.t.h, .int .i64 s.qu, .int .i64 s.tr, .int .i64 s.he, .int .i64 s.po, u.a, u.b, u.c, u.d]
theorem stC_len (s : Stn) (u : Vs) : (stC s u).length = 19 := rfl
/-- a note -/
structure Nt where
  f : Int
  t : Int
  b : ByteArray
theorem range_below {w w' : World} {g o : Nat} {cs : List Value} (h : w.rangeAt g o cs) (hg : g < w.heap.size) (hb : Below w.heap.size w w') : w'.rangeAt g o cs := fun j v hv => (hb.cell (p := ⟨g, o + j, none⟩) hg).trans (h j v hv)
/-- stations, to be read -/
def RowSt (w : World) (v : Value) (ss : List Stn) : Prop :=
  ∃ (p : Option Addr) (c : Nat), v = .slice p ss.length c ∧ ∀ k (h : k < ss.length), ∃ g u, p = some ⟨g, 0, none⟩ ∧ g < w.heap.size ∧ w.rangeAt g (k * 19) (stC ss[k] u) ∧ RowI w u.a ss[k].kn ∧ RowI w u.b ss[k].ws ∧ RowG w u.c ss[k].gs ∧ RowS w u.d ss[k].os
theorem RowSt.below {w w' : World} {v : Value} {ss : List Stn} (h : RowSt w v ss) (hb : Below w.heap.size w w') : RowSt w' v ss := by
  obtain ⟨p, c, e, h⟩ := h
  refine ⟨p, c, e, fun k hk => ?_⟩
  obtain ⟨g, u, e1, h1, h2, r1, r2, r3, r4⟩ := h k hk
  exact ⟨g, u, e1, Nat.lt_of_lt_of_le h1 hb.size, range_below h2 h1 hb, r1.below hb, r2.below hb, r3.below hb, r4.below hb⟩
/-- bools, to be read -/
def RowBo (w : World) (v : Value) (us : List Bool) : Prop :=
  ∃ (p : Option Addr) (c : Nat), v = .slice p us.length c ∧ ∀ k (h : k < us.length), ∃ g, p = some ⟨g, 0, none⟩ ∧ g < w.heap.size ∧ w.cell? ⟨g, k, none⟩ = some (.bool us[k])
theorem RowBo.below {w w' : World} {v : Value} {us : List Bool} (h : RowBo w v us) (hb : Below w.heap.size w w') : RowBo w' v us := by
  obtain ⟨p, c, e, h⟩ := h
  refine ⟨p, c, e, fun k hk => ?_⟩
  obtain ⟨g, e1, h1, h2⟩ := h k hk
  exact ⟨g, e1, Nat.lt_of_lt_of_le h1 hb.size, (hb.cell (p := ⟨g, k, none⟩) h1).trans h2⟩
/-- notes, to be read -/
def RowN (w : World) (v : Value) (ns : List Nt) : Prop :=
  ∃ (p : Option Addr) (c : Nat), v = .slice p ns.length c ∧ ∀ k (h : k < ns.length), ∃ g, p = some ⟨g, 0, none⟩ ∧ g < w.heap.size ∧ w.cell? ⟨g, k * 3, none⟩ = some (.int .i64 ns[k].f) ∧ w.cell? ⟨g, k * 3 + 1, none⟩ = some (.int .i64 ns[k].t) ∧ w.cell? ⟨g, k * 3 + 2, none⟩ = some (.string ns[k].b)
theorem RowN.below {w w' : World} {v : Value} {ns : List Nt} (h : RowN w v ns) (hb : Below w.heap.size w w') : RowN w' v ns := by
  obtain ⟨p, c, e, h⟩ := h
  refine ⟨p, c, e, fun k hk => ?_⟩
  obtain ⟨g, e1, h1, h2, h3, h4⟩ := h k hk
  exact ⟨g, e1, Nat.lt_of_lt_of_le h1 hb.size, (hb.cell (p := ⟨g, k * 3, none⟩) h1).trans h2, (hb.cell (p := ⟨g, k * 3 + 1, none⟩) h1).trans h3, (hb.cell (p := ⟨g, k * 3 + 2, none⟩) h1).trans h4⟩
/-- the like, that came in -/
def InSt (w : World) (a : Option Addr) (ss : List Stn) : Prop :=
  ss.length ≤ 9223372036854775807 ∧ ∀ k (h : k < ss.length), ∃ g o p1 p2 p3 p4 c1 c2 c3 c4, a = some ⟨g, o, none⟩ ∧ g < w.heap.size ∧ w.rangeAt g (o + k * 19) (stC ss[k] ⟨.slice p1 ss[k].kn.length c1, .slice p2 ss[k].ws.length c2, .slice p3 ss[k].gs.length c3, .slice p4 ss[k].os.length c4⟩) ∧ InI w p1 ss[k].kn ∧ InI w p2 ss[k].ws ∧ InG w p3 ss[k].gs ∧ InS w p4 ss[k].os
theorem InSt.below {w w' : World} {a : Option Addr} {ss : List Stn} (h : InSt w a ss) (hb : Below w.heap.size w w') : InSt w' a ss := by
  refine ⟨h.1, fun k hk => ?_⟩
  obtain ⟨g, o, p1, p2, p3, p4, c1, c2, c3, c4, e, h1, h2, i1, i2, i3, i4⟩ := h.2 k hk
  exact ⟨g, o, p1, p2, p3, p4, c1, c2, c3, c4, e, Nat.lt_of_lt_of_le h1 hb.size, range_below h2 h1 hb, i1.below hb, i2.below hb, i3.below hb, i4.below hb⟩
def InBo (w : World) (a : Option Addr) (us : List Bool) : Prop :=
  us.length ≤ 9223372036854775807 ∧ ∀ k (h : k < us.length), ∃ g o, a = some ⟨g, o, none⟩ ∧ g < w.heap.size ∧ w.cell? ⟨g, o + k, none⟩ = some (.bool us[k])
theorem InBo.below {w w' : World} {a : Option Addr} {us : List Bool} (h : InBo w a us) (hb : Below w.heap.size w w') : InBo w' a us := by
  refine ⟨h.1, fun k hk => ?_⟩
  obtain ⟨g, o, e, h1, h2⟩ := h.2 k hk
  exact ⟨g, o, e, Nat.lt_of_lt_of_le h1 hb.size, (hb.cell (p := ⟨g, o + k, none⟩) h1).trans h2⟩
def InN (w : World) (a : Option Addr) (ns : List Nt) : Prop :=
  ns.length ≤ 9223372036854775807 ∧ (∀ n ∈ ns, n.b.size ≤ maxLen) ∧ ∀ k (h : k < ns.length), ∃ g o, a = some ⟨g, o, none⟩ ∧ g < w.heap.size ∧ w.cell? ⟨g, o + k * 3, none⟩ = some (.int .i64 ns[k].f) ∧ w.cell? ⟨g, o + k * 3 + 1, none⟩ = some (.int .i64 ns[k].t) ∧ w.cell? ⟨g, o + k * 3 + 2, none⟩ = some (.string ns[k].b)
theorem InN.below {w w' : World} {a : Option Addr} {ns : List Nt} (h : InN w a ns) (hb : Below w.heap.size w w') : InN w' a ns := by
  refine ⟨h.1, h.2.1, fun k hk => ?_⟩
  obtain ⟨g, o, e, h1, h2, h3, h4⟩ := h.2.2 k hk
  exact ⟨g, o, e, Nat.lt_of_lt_of_le h1 hb.size, (hb.cell (p := ⟨g, o + k * 3, none⟩) h1).trans h2, (hb.cell (p := ⟨g, o + k * 3 + 1, none⟩) h1).trans h3, (hb.cell (p := ⟨g, o + k * 3 + 2, none⟩) h1).trans h4⟩
/-- how much stations count, and notes -/
def ssum (ss : List Stn) : Int := (ss.map Stn.tot).sum
def nsum (ns : List Nt) : Int := (ns.map fun n => (n.b.size : Int)).sum
theorem tot_pos (s : Stn) : 0 ≤ s.tot := by unfold Stn.tot; omega
theorem ssum_take (ss : List Stn) (k : Nat) (h : k < ss.length) : ssum (ss.take (k + 1)) = ssum (ss.take k) + ss[k].tot := by
  unfold ssum
  rw [List.take_succ_eq_append_getElem h, List.map_append, List.sum_append]
  simp
theorem ssum_pos : ∀ ss : List Stn, 0 ≤ ssum ss
  | [] => by simp [ssum]
  | s :: ss => by have := ssum_pos ss; have := tot_pos s; unfold ssum at *; rw [List.map_cons, List.sum_cons]; omega
theorem ssum_le (ss : List Stn) (k : Nat) : ssum (ss.take k) ≤ ssum ss := by
  have e : ssum ss = ssum (ss.take k) + ssum (ss.drop k) := by
    unfold ssum
    rw [← List.sum_append, ← List.map_append, List.take_append_drop]
  have := ssum_pos (ss.drop k)
  omega
theorem ssum_each {ss : List Stn} {s : Stn} (h : s ∈ ss) : s.tot ≤ ssum ss := by
  obtain ⟨k, hk, rfl⟩ := List.getElem_of_mem h
  have h1 := ssum_take ss k hk
  have h2 := ssum_le ss (k + 1)
  have := ssum_pos (ss.take k)
  omega
theorem nsum_take (ns : List Nt) (k : Nat) (h : k < ns.length) : nsum (ns.take (k + 1)) = nsum (ns.take k) + (ns[k].b.size : Int) := by
  unfold nsum
  rw [List.take_succ_eq_append_getElem h, List.map_append, List.sum_append]
  simp
theorem nsum_pos : ∀ ns : List Nt, 0 ≤ nsum ns
  | [] => by simp [nsum]
  | s :: ss => by have := nsum_pos ss; unfold nsum at *; rw [List.map_cons, List.sum_cons]; omega
theorem nsum_le (ns : List Nt) (k : Nat) : nsum (ns.take k) ≤ nsum ns := by
  have e : nsum ns = nsum (ns.take k) + nsum (ns.drop k) := by
    unfold nsum
    rw [← List.sum_append, ← List.map_append, List.take_append_drop]
  have := nsum_pos (ns.drop k)
  omega
theorem nsum_each {ns : List Nt} {n : Nt} (h : n ∈ ns) : (n.b.size : Int) ≤ nsum ns := by
  obtain ⟨k, hk, rfl⟩ := List.getElem_of_mem h
  have h1 := nsum_take ns k hk
  have h2 := nsum_le ns (k + 1)
  have := nsum_pos (ns.take k)
  omega
/-- a segment -/
structure Seg where
  ss : List Stn
  us : List Bool
  ns : List Nt
def Seg.tot (s : Seg) : Int := (s.ss.length : Int) + ssum s.ss + (s.us.length : Int) + ((s.ns.length : Int) + nsum s.ns)
end Go.Proofs.Ytggdjiijcoklgaa
