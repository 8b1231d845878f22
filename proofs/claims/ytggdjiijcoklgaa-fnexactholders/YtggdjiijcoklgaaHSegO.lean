/- A SEGMENT THAT CAME IN: opened. Written by mksego.py. -/
import Derived.Test.YtggdjiijcoklgaaHSt
import Derived.Test.YtggdjiijcoklgaaHStnO
import Derived.Deep.Slices
namespace Go.Proofs.Ytggdjiijcoklgaa
open Go.RowKit Go.ChangeShapes Go.WideShapes Go.ChangeAt
set_option linter.unusedVariables false
set_option linter.unusedSimpArgs false

theorem list19 {α : Type} {l : List α} (h : l.length = 19) : ∃ c0 c1 c2 c3 c4 c5 c6 c7 c8 c9 c10 c11 c12 c13 c14 c15 c16 c17 c18, l = [c0, c1, c2, c3, c4, c5, c6, c7, c8, c9, c10, c11, c12, c13, c14, c15, c16, c17, c18] := by
  match l, h with
  | [c0, c1, c2, c3, c4, c5, c6, c7, c8, c9, c10, c11, c12, c13, c14, c15, c16, c17, c18], _ => exact ⟨c0, c1, c2, c3, c4, c5, c6, c7, c8, c9, c10, c11, c12, c13, c14, c15, c16, c17, c18, rfl⟩
theorem list3s {α : Type} {l : List α} (h : l.length = 3) : ∃ c0 c1 c2, l = [c0, c1, c2] := by
  match l, h with
  | [c0, c1, c2], _ => exact ⟨c0, c1, c2, rfl⟩
theorem array3s {α : Type} {l : Array α} (h : l.size = 3) : ∃ c0 c1 c2, l = #[c0, c1, c2] := by
  obtain ⟨l⟩ := l
  match l, h with
  | [c0, c1, c2], _ => exact ⟨c0, c1, c2, rfl⟩
theorem list1s {α : Type} {l : List α} (h : l.length = 1) : ∃ c0, l = [c0] := by
  match l, h with
  | [c0], _ => exact ⟨c0, rfl⟩
theorem cellsBo : Try.prog.cellsOf 4 = 1 := by kernel_rfl
theorem cellsNt : Try.prog.cellsOf 129 = 3 := by kernel_rfl
theorem cellsSg : Try.prog.cellsOf 48 = 3 := by kernel_rfl
theorem cellsSs : Try.prog.cellsOf 44 = 1 := by kernel_rfl
theorem cellsBs : Try.prog.cellsOf 45 = 1 := by kernel_rfl
theorem cellsNs : Try.prog.cellsOf 46 = 1 := by kernel_rfl
set_option maxRecDepth 100000 in
set_option maxHeartbeats 1600000 in
theorem open_stationC {H : Type} {enc : TypeId × Value → H} {W : World} {base : Nat} {held : Bool} {cs : List Value} {y : _} {fuel : Nat} (hlen0 : cs.length = 19)
    (hf : DataW.trod enc Try.prog W base (fun _ => true) held fuel 28 cs = some y) :
    ∃ (s : Stn) (p1 p2 p3 p4 : Option Addr) (k1 k2 k3 k4 : Nat), cs = stC s ⟨.slice p1 s.kn.length k1, .slice p2 s.ws.length k2, .slice p3 s.gs.length k3, .slice p4 s.os.length k4⟩ ∧ InI W p1 s.kn ∧ InI W p2 s.ws ∧ InG W p3 s.gs ∧ InS W p4 s.os := by
  obtain ⟨c0, c1, c2, c3, c4, c5, c6, c7, c8, c9, c10, c11, c12, c13, c14, c15, c16, c17, c18, rfl⟩ := list19 hlen0
  obtain ⟨xs, n, _, _, hl, hlen, hfl⟩ := DataW.trod_struct Try.underlying28 hf
  obtain ⟨y0, y1, y2, y3, y4, y5, y6, y7, y8, y9, y10, y11, y12, rfl⟩ := list13 hlen
  have h0 : DataW.trod enc Try.prog W base (fun _ => true) held n 2 [c0] = some y0 := by have := hfl 0 _ rfl; simpa [Value.cells, cellsIt] using this
  have h1 : DataW.trod enc Try.prog W base (fun _ => true) held n 2 [c1] = some y1 := by have := hfl 1 _ rfl; simpa [Value.cells, cellsIt] using this
  have h2 : DataW.trod enc Try.prog W base (fun _ => true) held n 2 [c2] = some y2 := by have := hfl 2 _ rfl; simpa [Value.cells, cellsIt] using this
  have h3 : DataW.trod enc Try.prog W base (fun _ => true) held n 23 [c3, c4, c5, c6] = some y3 := by have := hfl 3 _ rfl; simpa [Value.cells, cellsSts] using this
  have h4 : DataW.trod enc Try.prog W base (fun _ => true) held n 23 [c7, c8, c9, c10] = some y4 := by have := hfl 4 _ rfl; simpa [Value.cells, cellsSts] using this
  have h5 : DataW.trod enc Try.prog W base (fun _ => true) held n 2 [c11] = some y5 := by have := hfl 5 _ rfl; simpa [Value.cells, cellsIt] using this
  have h6 : DataW.trod enc Try.prog W base (fun _ => true) held n 2 [c12] = some y6 := by have := hfl 6 _ rfl; simpa [Value.cells, cellsIt] using this
  have h7 : DataW.trod enc Try.prog W base (fun _ => true) held n 2 [c13] = some y7 := by have := hfl 7 _ rfl; simpa [Value.cells, cellsIt] using this
  have h8 : DataW.trod enc Try.prog W base (fun _ => true) held n 2 [c14] = some y8 := by have := hfl 8 _ rfl; simpa [Value.cells, cellsIt] using this
  have h9 : DataW.trod enc Try.prog W base (fun _ => true) held n 24 [c15] = some y9 := by have := hfl 9 _ rfl; simpa [Value.cells, cellsRt] using this
  have h10 : DataW.trod enc Try.prog W base (fun _ => true) held n 24 [c16] = some y10 := by have := hfl 10 _ rfl; simpa [Value.cells, cellsRt] using this
  have h11 : DataW.trod enc Try.prog W base (fun _ => true) held n 25 [c17] = some y11 := by have := hfl 11 _ rfl; simpa [Value.cells, cellsGs] using this
  have h12 : DataW.trod enc Try.prog W base (fun _ => true) held n 26 [c18] = some y12 := by have := hfl 12 _ rfl; simpa [Value.cells, cellsLs] using this
  obtain ⟨a0, q0, _, _⟩ := DataW.trod_int Try.underlying2 h0
  obtain ⟨a1, q1, _, _⟩ := DataW.trod_int Try.underlying2 h1
  obtain ⟨a2, q2, _, _⟩ := DataW.trod_int Try.underlying2 h2
  obtain ⟨a5, q5, _, _⟩ := DataW.trod_int Try.underlying2 h5
  obtain ⟨a6, q6, _, _⟩ := DataW.trod_int Try.underlying2 h6
  obtain ⟨a7, q7, _, _⟩ := DataW.trod_int Try.underlying2 h7
  obtain ⟨a8, q8, _, _⟩ := DataW.trod_int Try.underlying2 h8
  obtain ⟨s3, rfl, rfl, rfl, rfl⟩ := open_stamp4 h3
  obtain ⟨s4, rfl, rfl, rfl, rfl⟩ := open_stamp4 h4
  cases q0; cases q1; cases q2; cases q5; cases q6; cases q7; cases q8
  obtain ⟨kn, p1, k1, rfl, i1⟩ := open_row h9
  obtain ⟨ws, p2, k2, rfl, i2⟩ := open_row h10
  obtain ⟨gs, p3, k3, rfl, i3⟩ := open_globs h11
  obtain ⟨os, p4, k4, rfl, i4⟩ := open_texts h12
  exact ⟨⟨a0, a1, a2, s3, s4, a5, a6, a7, a8, kn, ws, gs, os⟩, p1, p2, p3, p4, k1, k2, k3, k4, rfl, i1, i2, i3, i4⟩
theorem range_cells {w : World} {base : Nat} {a : Addr} {i n : Nat} {cs : List Value} {g o : Nat} (ha : a = ⟨g, o, none⟩) (h : w.cells? base (a.add (i * n)) n = some cs) : cs.length = n ∧ w.rangeAt g (o + i * n) cs := by
  subst ha
  obtain ⟨_, hl, hc⟩ := World.cells?_some h
  refine ⟨hl, fun j v hv => ?_⟩
  have hj : j < n := by rw [← hl]; exact (List.getElem?_eq_some_iff.1 hv).1
  have := hc j hj
  rw [addN, addN, hv] at this
  exact this
theorem spotC {w : World} {base : Nat} {a : Addr} {n : Nat} {cs : List Value} (hn : 0 < n) (h : w.cells? base (a.add (0 * n)) n = some cs) : ∃ g o, a = ⟨g, o, none⟩ ∧ g < w.heap.size := by
  obtain ⟨_, hl, hc⟩ := World.cells?_some h
  have := hc 0 hn
  rw [List.getElem?_eq_getElem (by omega), Nat.zero_mul] at this
  have e : (a.add 0).add 0 = a.add 0 := by rw [Go.Deep.add_add]
  rw [e] at this
  exact spot0 this
set_option maxRecDepth 100000 in
theorem open_stations {H : Type} {enc : TypeId × Value → H} {W : World} {base : Nat} {held : Bool} {c : Value} {y : _} {n : Nat} (h : DataW.trod enc Try.prog W base (fun _ => true) held n 44 [c] = some y) :
    ∃ (ss : List Stn) (p : Option Addr) (k : Nat), c = .slice p ss.length k ∧ InSt W p ss := by
  rcases Go.Deep.open_slice Try.underlying44 h with ⟨hcs, _⟩ | ⟨a, len, cap, m, n, D, Pl, hcs, _, hl, hm, hmm, _, hx⟩
  · simp at hcs
    exact ⟨[], none, 0, hcs, by simp, fun k hk => by simp at hk⟩
  · simp at hcs hmm
    unfold maxLen at hm
    rw [cellsStn] at hx
    by_cases h0 : len = 0
    · subst h0
      exact ⟨[], some a, cap, hcs, by simp, fun k hk => by simp at hk⟩
    obtain ⟨g, o, rfl, hg⟩ : ∃ g o, a = ⟨g, o, none⟩ ∧ g < W.heap.size := by
      obtain ⟨cs', h1, _⟩ := hx 0 (by omega)
      exact spotC (by omega) h1
    have each : ∀ i, i < len → ∃ s : Stn, ∃ p1 p2 p3 p4 k1 k2 k3 k4, W.rangeAt g (o + i * 19) (stC s ⟨.slice p1 s.kn.length k1, .slice p2 s.ws.length k2, .slice p3 s.gs.length k3, .slice p4 s.os.length k4⟩) ∧ InI W p1 s.kn ∧ InI W p2 s.ws ∧ InG W p3 s.gs ∧ InS W p4 s.os := fun i hi => by
      obtain ⟨cs', h1, h2⟩ := hx i (by omega)
      obtain ⟨hl', hr⟩ := range_cells rfl h1
      obtain ⟨s, p1, p2, p3, p4, k1, k2, k3, k4, rfl, i1, i2, i3, i4⟩ := open_stationC hl' h2
      exact ⟨s, p1, p2, p3, p4, k1, k2, k3, k4, hr, i1, i2, i3, i4⟩
    obtain ⟨s0, _⟩ := each 0 (by omega)
    have H : ∀ i, ∃ s : Stn, ∀ (hi : i < len), ∃ p1 p2 p3 p4 k1 k2 k3 k4, W.rangeAt g (o + i * 19) (stC s ⟨.slice p1 s.kn.length k1, .slice p2 s.ws.length k2, .slice p3 s.gs.length k3, .slice p4 s.os.length k4⟩) ∧ InI W p1 s.kn ∧ InI W p2 s.ws ∧ InG W p3 s.gs ∧ InS W p4 s.os := fun i => by
      by_cases hi : i < len
      · obtain ⟨s, r⟩ := each i hi; exact ⟨s, fun _ => r⟩
      · exact ⟨s0, fun h => absurd h hi⟩
    obtain ⟨f, hf⟩ := Classical.axiomOfChoice H
    have hlen : ((List.range len).map f).length = len := by simp
    refine ⟨(List.range len).map f, some ⟨g, o, none⟩, cap, by rw [hlen]; exact hcs, by rw [hlen]; omega, fun k hk => ?_⟩
    rw [hlen] at hk
    have eG : ((List.range len).map f)[k]'(by rw [hlen]; exact hk) = f k := by simp
    rw [eG]
    obtain ⟨p1, p2, p3, p4, k1, k2, k3, k4, r⟩ := hf k hk
    exact ⟨g, o, p1, p2, p3, p4, k1, k2, k3, k4, rfl, hg, r⟩
set_option maxRecDepth 100000 in
theorem open_bools {H : Type} {enc : TypeId × Value → H} {W : World} {base : Nat} {held : Bool} {c : Value} {y : _} {n : Nat} (h : DataW.trod enc Try.prog W base (fun _ => true) held n 45 [c] = some y) :
    ∃ (us : List Bool) (p : Option Addr) (k : Nat), c = .slice p us.length k ∧ InBo W p us := by
  rcases Go.Deep.open_slice Try.underlying45 h with ⟨hcs, _⟩ | ⟨a, len, cap, m, n, D, Pl, hcs, _, hl, hm, hmm, _, hx⟩
  · simp at hcs
    exact ⟨[], none, 0, hcs, by simp, fun k hk => by simp at hk⟩
  · simp at hcs hmm
    unfold maxLen at hm
    rw [cellsBo] at hx
    by_cases h0 : len = 0
    · subst h0
      exact ⟨[], some a, cap, hcs, by simp, fun k hk => by simp at hk⟩
    obtain ⟨g, o, rfl, hg⟩ : ∃ g o, a = ⟨g, o, none⟩ ∧ g < W.heap.size := by
      obtain ⟨cs', h1, _⟩ := hx 0 (by omega)
      exact spotC (by omega) h1
    have H : ∀ i, ∃ b : Bool, ∀ (hi : i < len), W.cell? ⟨g, o + i, none⟩ = some (.bool b) := fun i => by
      by_cases hi : i < len
      · obtain ⟨cs', h1, h2⟩ := hx i (by omega)
        obtain ⟨hl', hr⟩ := range_cells rfl h1
        obtain ⟨c0, rfl⟩ := list1s hl'
        obtain ⟨b, e, _⟩ := DataW.trod_bool Try.underlying4 h2
        cases e
        exact ⟨b, fun _ => by simpa using hr 0 _ rfl⟩
      · exact ⟨false, fun h => absurd h hi⟩
    obtain ⟨f, hf⟩ := Classical.axiomOfChoice H
    have hlen : ((List.range len).map f).length = len := by simp
    refine ⟨(List.range len).map f, some ⟨g, o, none⟩, cap, by rw [hlen]; exact hcs, by rw [hlen]; omega, fun k hk => ?_⟩
    rw [hlen] at hk
    have eG : ((List.range len).map f)[k]'(by rw [hlen]; exact hk) = f k := by simp
    rw [eG]
    exact ⟨g, o, rfl, hg, hf k hk⟩
set_option maxRecDepth 100000 in
theorem open_notes {H : Type} {enc : TypeId × Value → H} {W : World} {base : Nat} {held : Bool} {c : Value} {y : _} {n : Nat} (h : DataW.trod enc Try.prog W base (fun _ => true) held n 46 [c] = some y) :
    ∃ (ns : List Nt) (p : Option Addr) (k : Nat), c = .slice p ns.length k ∧ InN W p ns := by
  rcases Go.Deep.open_slice Try.underlying46 h with ⟨hcs, _⟩ | ⟨a, len, cap, m, n, D, Pl, hcs, _, hl, hm, hmm, _, hx⟩
  · simp at hcs
    exact ⟨[], none, 0, hcs, by simp, fun n hn => by simp at hn, fun k hk => by simp at hk⟩
  · simp at hcs hmm
    unfold maxLen at hm
    rw [cellsNt] at hx
    by_cases h0 : len = 0
    · subst h0
      exact ⟨[], some a, cap, hcs, by simp, fun n hn => by simp at hn, fun k hk => by simp at hk⟩
    obtain ⟨g, o, rfl, hg⟩ : ∃ g o, a = ⟨g, o, none⟩ ∧ g < W.heap.size := by
      obtain ⟨cs', h1, _⟩ := hx 0 (by omega)
      exact spotC (by omega) h1
    have H : ∀ i, ∃ b : Nt, ∀ (hi : i < len), b.b.size ≤ maxLen ∧ W.cell? ⟨g, o + i * 3, none⟩ = some (.int .i64 b.f) ∧ W.cell? ⟨g, o + i * 3 + 1, none⟩ = some (.int .i64 b.t) ∧ W.cell? ⟨g, o + i * 3 + 2, none⟩ = some (.string b.b) := fun i => by
      by_cases hi : i < len
      · obtain ⟨cs', h1, h2⟩ := hx i (by omega)
        obtain ⟨hl', hr⟩ := range_cells rfl h1
        obtain ⟨c0, c1, c2, rfl⟩ := list3s hl'
        obtain ⟨xs, n', _, _, _, hlen, hfl⟩ := DataW.trod_struct Try.underlying129 h2
        obtain ⟨y0, y1, y2, rfl⟩ := list3s hlen
        have g0 : DataW.trod enc Try.prog W base (fun _ => true) held n' 2 [c0] = some y0 := by have := hfl 0 _ rfl; simpa [Value.cells, cellsIt] using this
        have g1 : DataW.trod enc Try.prog W base (fun _ => true) held n' 2 [c1] = some y1 := by have := hfl 1 _ rfl; simpa [Value.cells, cellsIt] using this
        have g2 : DataW.trod enc Try.prog W base (fun _ => true) held n' 9 [c2] = some y2 := by have := hfl 2 _ rfl; simpa [Value.cells, cellsTs] using this
        obtain ⟨f, r0, _, _⟩ := DataW.trod_int Try.underlying2 g0
        obtain ⟨t, r1, _, _⟩ := DataW.trod_int Try.underlying2 g1
        obtain ⟨b, r2, _, hb⟩ := DataW.trod_string Try.underlying9 g2
        cases r0; cases r1; cases r2
        exact ⟨⟨f, t, b⟩, fun _ => ⟨hb, by simpa using hr 0 _ rfl, hr 1 _ rfl, hr 2 _ rfl⟩⟩
      · exact ⟨⟨0, 0, ByteArray.empty⟩, fun h => absurd h hi⟩
    obtain ⟨f, hf⟩ := Classical.axiomOfChoice H
    have hlen : ((List.range len).map f).length = len := by simp
    refine ⟨(List.range len).map f, some ⟨g, o, none⟩, cap, by rw [hlen]; exact hcs, by rw [hlen]; omega, fun x hx => ?_, fun k hk => ?_⟩
    · obtain ⟨i, hi, rfl⟩ := List.mem_map.1 hx
      exact (hf i (List.mem_range.1 hi)).1
    · rw [hlen] at hk
      have eG : ((List.range len).map f)[k]'(by rw [hlen]; exact hk) = f k := by simp
      rw [eG]
      exact ⟨g, o, rfl, hg, (hf k hk).2⟩
set_option maxRecDepth 100000 in
set_option maxHeartbeats 1600000 in
theorem open_segment {H : Type} {enc : TypeId × Value → H} {W : World} {base b0 : Nat} {held : Bool} {r : Reach} {v : Value} {d : DataW H} {pl : List MemPlace}
    (hv : Value.okWide Try.prog W r b0 48 v) (h : DataW.Trod enc Try.prog W base (fun _ => true) held 48 v d pl) :
    ∃ (s : Seg) (p1 p2 p3 : Option Addr) (k1 k2 k3 : Nat), v = .agg #[.slice p1 s.ss.length k1, .slice p2 s.us.length k2, .slice p3 s.ns.length k3] ∧ InSt W p1 s.ss ∧ InBo W p2 s.us ∧ InN W p3 s.ns := by
  obtain ⟨cs, rfl, hsz⟩ := okWide_struct Try.underlying48 hv
  obtain ⟨c0, c1, c2, rfl⟩ := array3s (hsz.trans cellsSg)
  obtain ⟨fuel, hf⟩ := h
  obtain ⟨xs, n, _, _, hl, hlen, hfl⟩ := DataW.trod_struct Try.underlying48 hf
  obtain ⟨y0, y1, y2, rfl⟩ := list3s hlen
  have h0 : DataW.trod enc Try.prog W base (fun _ => true) held n 44 [c0] = some y0 := by have := hfl 0 _ rfl; simpa [Value.cells, cellsSs] using this
  have h1 : DataW.trod enc Try.prog W base (fun _ => true) held n 45 [c1] = some y1 := by have := hfl 1 _ rfl; simpa [Value.cells, cellsBs] using this
  have h2 : DataW.trod enc Try.prog W base (fun _ => true) held n 46 [c2] = some y2 := by have := hfl 2 _ rfl; simpa [Value.cells, cellsNs] using this
  obtain ⟨ss, p1, k1, rfl, i1⟩ := open_stations h0
  obtain ⟨us, p2, k2, rfl, i2⟩ := open_bools h1
  obtain ⟨ns, p3, k3, rfl, i3⟩ := open_notes h2
  exact ⟨⟨ss, us, ns⟩, p1, p2, p3, k1, k2, k3, rfl, i1, i2, i3⟩
end Go.Proofs.Ytggdjiijcoklgaa
