/- A STATION THAT CAME IN: opened. Written by mkstno.py. -/
import Derived.Test.YtggdjiijcoklgaaQTail
import Derived.Test.YtggdjiijcoklgaaQTabIn
import Derived.Test.YtggdjiijcoklgaaQKeep
import Derived.Test.YtggdjiijcoklgaaProg
import Derived.Test.YtggdjiijcoklgaaQBox
import Derived.WalkKit
import Derived.OpenShut
import Derived.ShutString
import Derived.ChangeOld
import Derived.Lib.SmallJoins
import Derived.SliceStrings
import Derived.Deep.SlicePairs
import Derived.Deep.Strs
import Derived.WalkSpells
import Derived.Below
import Derived.Laws.AppendOwn
import Derived.Lib.ConvBytes
namespace Go.Proofs.Ytggdjiijcoklgaa
open Go.RowKit Go.ChangeShapes Go.WideShapes Go.ChangeAt
set_option linter.unusedVariables false
set_option linter.unusedSimpArgs false

theorem array19 {α : Type} {cs : Array α} (h : cs.size = 19) : ∃ c0 c1 c2 c3 c4 c5 c6 c7 c8 c9 c10 c11 c12 c13 c14 c15 c16 c17 c18, cs = #[c0, c1, c2, c3, c4, c5, c6, c7, c8, c9, c10, c11, c12, c13, c14, c15, c16, c17, c18] := by
  obtain ⟨l⟩ := cs
  match l, h with
  | [c0, c1, c2, c3, c4, c5, c6, c7, c8, c9, c10, c11, c12, c13, c14, c15, c16, c17, c18], _ => exact ⟨c0, c1, c2, c3, c4, c5, c6, c7, c8, c9, c10, c11, c12, c13, c14, c15, c16, c17, c18, rfl⟩
theorem list13 {α : Type} {l : List α} (h : l.length = 13) : ∃ y0 y1 y2 y3 y4 y5 y6 y7 y8 y9 y10 y11 y12, l = [y0, y1, y2, y3, y4, y5, y6, y7, y8, y9, y10, y11, y12] := by
  match l, h with
  | [y0, y1, y2, y3, y4, y5, y6, y7, y8, y9, y10, y11, y12], _ => exact ⟨y0, y1, y2, y3, y4, y5, y6, y7, y8, y9, y10, y11, y12, rfl⟩
theorem list4s {α : Type} {l : List α} (h : l.length = 4) : ∃ c0 c1 c2 c3, l = [c0, c1, c2, c3] := by
  match l, h with
  | [c0, c1, c2, c3], _ => exact ⟨c0, c1, c2, c3, rfl⟩
theorem cellsTs : Try.prog.cellsOf 9 = 1 := by kernel_rfl
theorem cellsLs : Try.prog.cellsOf 26 = 1 := by kernel_rfl
theorem cellsGs : Try.prog.cellsOf 25 = 1 := by kernel_rfl
theorem cellsG1 : Try.prog.cellsOf 112 = 2 := by kernel_rfl
theorem cellsSts : Try.prog.cellsOf 23 = 4 := by kernel_rfl
theorem cellsStn : Try.prog.cellsOf 28 = 19 := by kernel_rfl
set_option maxRecDepth 100000 in
theorem open_stamp4 {H : Type} {enc : TypeId × Value → H} {W : World} {base : Nat} {held : Bool} {c0 c1 c2 c3 : Value} {y : _} {n : Nat} (h : DataW.trod enc Try.prog W base (fun _ => true) held n 23 [c0, c1, c2, c3] = some y) :
    ∃ s : St, c0 = .int .i64 s.g ∧ c1 = .int .i64 s.o ∧ c2 = .int .i64 s.b ∧ c3 = .int .i64 s.h := by
  obtain ⟨zs, m, _, _, _, hlen3, hfl3⟩ := DataW.trod_struct Try.underlying23 h
  obtain ⟨u0, u1, u2, u3, rfl⟩ := list4s hlen3
  have g0 : DataW.trod enc Try.prog W base (fun _ => true) held m 2 [c0] = some u0 := by have := hfl3 0 _ rfl; simpa [Value.cells, cellsIt] using this
  have g1 : DataW.trod enc Try.prog W base (fun _ => true) held m 2 [c1] = some u1 := by have := hfl3 1 _ rfl; simpa [Value.cells, cellsIt] using this
  have g2 : DataW.trod enc Try.prog W base (fun _ => true) held m 2 [c2] = some u2 := by have := hfl3 2 _ rfl; simpa [Value.cells, cellsIt] using this
  have g3 : DataW.trod enc Try.prog W base (fun _ => true) held m 2 [c3] = some u3 := by have := hfl3 3 _ rfl; simpa [Value.cells, cellsIt] using this
  obtain ⟨sg, r0, _, _⟩ := DataW.trod_int Try.underlying2 g0
  obtain ⟨so, r1, _, _⟩ := DataW.trod_int Try.underlying2 g1
  obtain ⟨sb, r2, _, _⟩ := DataW.trod_int Try.underlying2 g2
  obtain ⟨sh, r3, _, _⟩ := DataW.trod_int Try.underlying2 g3
  cases r0; cases r1; cases r2; cases r3
  exact ⟨⟨sg, so, sb, sh⟩, rfl, rfl, rfl, rfl⟩
theorem spot0 {w : World} {a : Addr} {v : Value} (h : w.cell? (a.add 0) = some v) : ∃ g o, a = ⟨g, o, none⟩ ∧ g < w.heap.size := by
  obtain ⟨g, o, sp⟩ := a
  have hsp : sp = none := by simpa [Addr.add] using World.cell?_spot h
  subst hsp
  refine ⟨g, o, rfl, ?_⟩
  rcases Nat.lt_or_ge g w.heap.size with h1 | h1
  · exact h1
  · simp [World.cell?, Addr.add, Array.getElem?_eq_none h1] at h
theorem addN (g o k : Nat) : (⟨g, o, none⟩ : Addr).add k = ⟨g, o + k, none⟩ := by unfold Addr.add; split <;> simp_all
set_option maxRecDepth 100000 in
theorem open_texts {H : Type} {enc : TypeId × Value → H} {W : World} {base : Nat} {held : Bool} {c : Value} {y : _} {n : Nat} (h : DataW.trod enc Try.prog W base (fun _ => true) held n 26 [c] = some y) :
    ∃ (ss : List ByteArray) (p : Option Addr) (k : Nat), c = .slice p ss.length k ∧ InS W p ss := by
  rcases open_strings Try.underlying26 Try.underlying9 cellsTs h with ⟨hcs, _⟩ | ⟨a, len, cap, ss, hcs, _, hl, hm, hz, _, hcell, hwz⟩
  · simp at hcs
    exact ⟨[], none, 0, hcs, by simp, by simp, fun k hk => by simp at hk⟩
  · simp at hcs hz
    have hlen : (ss.take len).length = len := by rw [List.length_take]; omega
    unfold maxLen at hm
    refine ⟨ss.take len, some a, cap, by rw [hlen]; exact hcs, by rw [hlen]; omega, fun s hs => hwz s (List.mem_of_mem_take hs), fun k hk => ?_⟩
    rw [hlen] at hk
    have hk2 : k < ss.length := by omega
    have q := hcell k hk2
    obtain ⟨g, o, rfl, hg⟩ := spot0 (hcell 0 (by omega))
    rw [addN] at q
    refine ⟨g, o, rfl, hg, ?_⟩
    rw [List.getElem_take, q]
    simp [List.getD, List.getElem?_eq_getElem hk2]
set_option maxRecDepth 100000 in
theorem open_globs {H : Type} {enc : TypeId × Value → H} {W : World} {base : Nat} {held : Bool} {c : Value} {y : _} {n : Nat} (h : DataW.trod enc Try.prog W base (fun _ => true) held n 25 [c] = some y) :
    ∃ (gs : List (Int × List Int)) (p : Option Addr) (k : Nat), c = .slice p gs.length k ∧ InG W p gs := by
  rcases Go.Deep.open_slice_pairs Try.underlying25 Try.underlying112 cellsG1 rfl rfl cellsIt cellsRt h with ⟨hcs, _⟩ | ⟨a, len, cap, m, n, V0, V1, D0, D1, P0, P1, hcs, _, hl, hm, hmm, _, hx⟩
  · simp at hcs
    exact ⟨[], none, 0, hcs, by simp, fun k hk => by simp at hk⟩
  · simp at hcs hmm
    unfold maxLen at hm
    have each : ∀ i, i < len → ∃ (g : Int × List Int) (u : Option Addr) (k : Nat), V0 i = .int .i64 g.1 ∧ V1 i = .slice u g.2.length k ∧ InI W u g.2 := fun i hi => by
      obtain ⟨_, _, h1, h2⟩ := hx i (by omega)
      obtain ⟨z, e0, _, _⟩ := DataW.trod_int Try.underlying2 h1
      obtain ⟨zs, p, k, e1, hin⟩ := open_row h2
      simp at e0
      exact ⟨(z, zs), p, k, e0, e1, hin⟩
    have ex : ∃ G : Nat → Int × List Int, ∀ i, i < len → ∃ (u : Option Addr) (k : Nat), V0 i = .int .i64 (G i).1 ∧ V1 i = .slice u (G i).2.length k ∧ InI W u (G i).2 := by
      refine ⟨fun i => if h : i < len then (each i h).choose else (0, []), fun i hi => ?_⟩
      simp only [hi, dif_pos]
      exact (each i hi).choose_spec
    obtain ⟨G, hG⟩ := ex
    have hlen : ((List.range len).map G).length = len := by simp
    refine ⟨(List.range len).map G, some a, cap, by rw [hlen]; exact hcs, by rw [hlen]; omega, fun k hk => ?_⟩
    rw [hlen] at hk
    obtain ⟨g, o, rfl, hg⟩ := spot0 (v := V0 0) (by have := (hx 0 (by omega)).1; simpa using this)
    obtain ⟨q1, q2, _, _⟩ := hx k (by omega)
    obtain ⟨u, ck, e1, e2, hin⟩ := hG k hk
    rw [addN] at q1 q2
    have eG : ((List.range len).map G)[k]'(by rw [hlen]; exact hk) = G k := by simp
    refine ⟨g, o, u, ck, rfl, hg, ?_, ?_, ?_⟩
    · rw [q1, e1, eG]
    · rw [show o + k * 2 + 1 = o + (k * 2 + 1) by omega, q2, e2, eG]
    · rw [eG]; exact hin
set_option maxRecDepth 100000 in
set_option maxHeartbeats 1600000 in
theorem open_station {H : Type} {enc : TypeId × Value → H} {W : World} {base b0 : Nat} {held : Bool} {r : Reach} {v : Value} {d : DataW H} {pl : List MemPlace}
    (hv : Value.okWide Try.prog W r b0 28 v) (h : DataW.Trod enc Try.prog W base (fun _ => true) held 28 v d pl) :
    ∃ (s : Stn) (p1 p2 p3 p4 : Option Addr) (k1 k2 k3 k4 : Nat), v = .agg #[.int .i64 s.ad, .int .i64 s.bo, .int .i64 s.st, .int .i64 s.s.g, .int .i64 s.s.o, .int .i64 s.s.b, .int .i64 s.s.h, .int .i64 s.t.g, .int .i64 s.t.o, .int .i64 s.t.b, .int .i64 s.t.h, .int .i64 s.qu, .int .i64 s.tr, .int .i64 s.he, .int .i64 s.po, .slice p1 s.kn.length k1, .slice p2 s.ws.length k2, .slice p3 s.gs.length k3, .slice p4 s.os.length k4] ∧ InI W p1 s.kn ∧ InI W p2 s.ws ∧ InG W p3 s.gs ∧ InS W p4 s.os := by
  obtain ⟨cs, rfl, hsz⟩ := okWide_struct Try.underlying28 hv
  obtain ⟨c0, c1, c2, c3, c4, c5, c6, c7, c8, c9, c10, c11, c12, c13, c14, c15, c16, c17, c18, rfl⟩ := array19 (hsz.trans cellsStn)
  obtain ⟨fuel, hf⟩ := h
  obtain ⟨xs, n, _, _, hl, hlen, hfl⟩ := DataW.trod_struct Try.underlying28 hf
  obtain ⟨y0, y1, y2, y3, y4, y5, y6, y7, y8, y9, y10, y11, y12, rfl⟩ := list13 hlen
  have h0 : DataW.trod enc Try.prog W base (fun _ => true) held n 2 [c0] = some y0 := by have := hfl 0 _ rfl; simpa [Value.cells, cellsIt] using this
  have h1 : DataW.trod enc Try.prog W base (fun _ => true) held n 2 [c1] = some y1 := by have := hfl 1 _ rfl; simpa [Value.cells, cellsIt] using this
  have h2 : DataW.trod enc Try.prog W base (fun _ => true) held n 2 [c2] = some y2 := by have := hfl 2 _ rfl; simpa [Value.cells, cellsIt] using this
  have h3 : DataW.trod enc Try.prog W base (fun _ => true) held n 23 [c3, c4, c5, c6] = some y3 := by have := hfl 3 _ rfl; simpa [Value.cells, cellsSts] using this
  have h4 : DataW.trod enc Try.prog W base (fun _ => true) held n 23 [c7, c8, c9, c10] = some y4 := by have := hfl 4 _ rfl; simpa [Value.cells, cellsSts] using this
  have h5 : DataW.trod enc Try.prog W base (fun _ => true) held n 2 [c11] = some y5 := by have := hfl 5 _ rfl; simpa [Value.cells, cellsIt] using this
  have h6 : DataW.trod enc Try.prog W base (fun _ => true) held n 2 [c12] = some y6 := by have := hfl 6 _ rfl; simpa [Value.cells, cellsIt] using this
  have h7 : DataW.trod enc Try.prog W base (fun _ => true) held n 2 [c13] = some y7 := by have := hfl 7 _ rfl; simpa [Value.cells, cellsIt] using this
  have h8 : DataW.trod enc Try.prog W base (fun _ => true) held n 2 [c14] = some y8 := by have := hfl 8 _ rfl; simpa [Value.cells, cellsIt] using this
  have h9 : DataW.trod enc Try.prog W base (fun _ => true) held n 24 [c15] = some y9 := by have := hfl 9 _ rfl; simpa [Value.cells, cellsRt] using this
  have h10 : DataW.trod enc Try.prog W base (fun _ => true) held n 24 [c16] = some y10 := by have := hfl 10 _ rfl; simpa [Value.cells, cellsRt] using this
  have h11 : DataW.trod enc Try.prog W base (fun _ => true) held n 25 [c17] = some y11 := by have := hfl 11 _ rfl; simpa [Value.cells, cellsGs] using this
  have h12 : DataW.trod enc Try.prog W base (fun _ => true) held n 26 [c18] = some y12 := by have := hfl 12 _ rfl; simpa [Value.cells, cellsLs] using this
  obtain ⟨a0, q0, _, _⟩ := DataW.trod_int Try.underlying2 h0
  obtain ⟨a1, q1, _, _⟩ := DataW.trod_int Try.underlying2 h1
  obtain ⟨a2, q2, _, _⟩ := DataW.trod_int Try.underlying2 h2
  obtain ⟨a5, q5, _, _⟩ := DataW.trod_int Try.underlying2 h5
  obtain ⟨a6, q6, _, _⟩ := DataW.trod_int Try.underlying2 h6
  obtain ⟨a7, q7, _, _⟩ := DataW.trod_int Try.underlying2 h7
  obtain ⟨a8, q8, _, _⟩ := DataW.trod_int Try.underlying2 h8
  obtain ⟨s3, rfl, rfl, rfl, rfl⟩ := open_stamp4 h3
  obtain ⟨s4, rfl, rfl, rfl, rfl⟩ := open_stamp4 h4
  cases q0; cases q1; cases q2; cases q5; cases q6; cases q7; cases q8
  obtain ⟨kn, p1, k1, rfl, i1⟩ := open_row h9
  obtain ⟨ws, p2, k2, rfl, i2⟩ := open_row h10
  obtain ⟨gs, p3, k3, rfl, i3⟩ := open_globs h11
  obtain ⟨os, p4, k4, rfl, i4⟩ := open_texts h12
  exact ⟨⟨a0, a1, a2, s3, s4, a5, a6, a7, a8, kn, ws, gs, os⟩, p1, p2, p3, p4, k1, k2, k3, k4, rfl, i1, i2, i3, i4⟩
end Go.Proofs.Ytggdjiijcoklgaa
/- ROWS of bytes that a call made for itself, by append or by a conversion of a text: what they read as, and a byte put behind. -/
namespace Go.Proofs.Ytggdjiijcoklgaa
open Go.RowKit
set_option linter.unusedVariables false

def cellsC (l : List UInt8) : List Value := l.map fun b => Value.int .u8 (b.toNat : Int)
theorem cellsC_length (l : List UInt8) : (cellsC l).length = l.length := by simp [cellsC]
theorem cellsC_append (l m : List UInt8) : cellsC (l ++ m) = cellsC l ++ cellsC m := by simp [cellsC]
def OwnM (w : World) (base : Nat) (e : TypeId) (v : Value) (l : List UInt8) : Prop :=
  (v = .slice none 0 0 ∧ l = []) ∨
  ∃ (g cap : Nat) (cur : Array Value) (fz : Nat × Nat), v = .slice (some ⟨g, 0, none⟩) l.length cap ∧ base ≤ g ∧ w.heap[g]? = some (.cells cur e fz) ∧ (fz = (0, 0) ∨ cap ≤ fz.1) ∧ l.length ≤ cap ∧ cap ≤ maxLen ∧ cur.size = cap ∧ cur.toList.take l.length = cellsC l
theorem OwnM.nil (w : World) (base : Nat) (e : TypeId) : OwnM w base e (.slice none 0 0) [] := .inl ⟨rfl, rfl⟩
theorem OwnM.own {w : World} {base : Nat} {e : TypeId} {v : Value} {l : List UInt8} (h : w.ownsRow base e 1 v l.length (cellsC l)) : OwnM w base e v l := by
  obtain ⟨_, ⟨rfl, h0⟩ | ⟨g, cap, cur, rfl, h1, h2, h3, h4, h5, h6⟩⟩ := h
  · exact .inl ⟨rfl, List.eq_nil_of_length_eq_zero h0⟩
  · exact .inr ⟨g, cap, cur, (0, 0), rfl, h1, h2, .inl rfl, h3, h4, by simpa using h5, by simpa using h6⟩
theorem OwnM.mono {w : World} {base B : Nat} {e : TypeId} {v : Value} {l : List UInt8} (h : OwnM w base e v l) (hB : B ≤ base) : OwnM w B e v l := by
  rcases h with h | ⟨g, cap, cur, fz, h1, h2, h3⟩
  · exact .inl h
  · exact .inr ⟨g, cap, cur, fz, h1, Nat.le_trans hB h2, h3⟩
theorem OwnM.shape {w : World} {base : Nat} {e : TypeId} {v : Value} {l : List UInt8} (h : OwnM w base e v l) : ∃ a cap, v = .slice a l.length cap := by
  rcases h with ⟨rfl, rfl⟩ | ⟨g, cap, _, _, rfl, _⟩
  · exact ⟨_, _, rfl⟩
  · exact ⟨_, _, rfl⟩
theorem OwnM.lt {w : World} {base : Nat} {e : TypeId} {v : Value} {l : List UInt8} (h : OwnM w base e v l) : ∀ k, v.ownBlock = some k → base ≤ k ∧ k < w.heap.size := by
  intro k hk
  rcases h with ⟨rfl, rfl⟩ | ⟨g, cap, cur, fz, rfl, hb, hg, _⟩
  · simp [Value.ownBlock] at hk
  · simp [Value.ownBlock] at hk
    subst hk
    exact ⟨hb, (Array.getElem?_eq_some_iff.1 hg).1⟩
theorem OwnM.kept {w w' : World} {base : Nat} {e : TypeId} {v : Value} {l : List UInt8} (h : OwnM w base e v l) (hk : ∀ g, v.ownBlock = some g → w'.heap[g]? = w.heap[g]?) : OwnM w' base e v l := by
  rcases h with h | ⟨g, cap, cur, fz, rfl, hb, hg, rest⟩
  · exact .inl h
  · exact .inr ⟨g, cap, cur, fz, rfl, hb, (hk g rfl).trans hg, rest⟩
theorem OwnM.below {w w' : World} {base B : Nat} {e : TypeId} {v : Value} {l : List UInt8} (h : OwnM w base e v l) (hb : Below B w w') (hB : w.heap.size ≤ B) : OwnM w' base e v l :=
  h.kept fun g hg => hb.block g (by have := (h.lt g hg).2; omega)
theorem OwnM.alloc {w : World} {base : Nat} {e : TypeId} {v : Value} {l : List UInt8} (h : OwnM w base e v l) (o : Obj) : OwnM (w.alloc o) base e v l :=
  h.kept fun g hg => heap_alloc_old w o (h.lt g hg).2
theorem OwnM.grown {w w' : World} {base : Nat} {e : TypeId} {v : Value} {l : List UInt8} {row : Option Nat} (h : OwnM w base e v l) (hg : w.grownBy w' row) (hne : v.ownBlock = none ∨ v.ownBlock ≠ row) : OwnM w' base e v l :=
  h.kept fun g hk => hg.block g (h.lt g hk).2 (by
    rcases hne with hn | hn
    · rw [hn] at hk; cases hk
    · rw [← hk]; exact hn)
theorem OwnM.conv {P : Program} {w : World} {base : Nat} {v : Value} {l : List UInt8} {e : TypeId} (src dst : TypeId) (hs : P.underlying src = some (.slice e)) (he : P.underlying e = some (.int .u8)) (hd : P.underlying dst = some .string)
    (h : OwnM w base e v l) : (convert src dst v).run P w = .ok (.string ⟨l.toArray⟩) w := by
  rcases h with ⟨rfl, rfl⟩ | ⟨g, cap, cur, fz, rfl, _, hg, _, _, _, _, ht⟩
  · rw [run_convert_bytes_string w src dst e none 0 0 hs he hd]
    simp [Conv.bytesToString, Sem.run_pure]
    rfl
  · have hz : (⟨l.toArray⟩ : ByteArray).size = l.length := by simp [ByteArray.size]
    have hc : cellsB ⟨l.toArray⟩ = cellsC l := by simp [cellsB, cellsC]
    have := Lib.run_convert_whole w src e dst hs he hd g 0 ⟨l.toArray⟩ (bytes_of_cells (cs := cur.toList) (fr := fz) _ (by simpa using hg) (by rw [hz, hc]; simpa using ht)) cap
    rw [hz] at this
    exact this
/-- '[]byte(s)' -/
theorem OwnM.made {P : Program} (w : World) (src dst e : TypeId) (s : ByteArray) {u : TypeDesc} (base : Nat) (hs : P.underlying src = some u) (hd : P.underlying dst = some (.slice e)) (he : P.underlying e = some (.int .u8)) (hb : base ≤ w.heap.size) (hm : s.size ≤ maxLen) :
    ∃ v w', (convert src dst (.string s)).run P w = .ok v w' ∧ OwnM w' base e v s.data.toList ∧ Below w.heap.size w w' ∧ w'.heap.size = w.heap.size + 1 ∧ v.ownBlock = some w.heap.size := by
  have hge : s.size ≤ grownCap w s.size 0 e := grownCap_ge w s.size 0 e
  have hle : grownCap w s.size 0 e ≤ maxLen := grownCap_le_maxLen w s.size 0 e hm
  have hsz : (Lib.bytesCells w e s).size = grownCap w s.size 0 e := by
    unfold Lib.bytesCells
    rw [Array.size_append, Array.size_map, Array.size_replicate]
    show s.size + _ = _
    omega
  refine ⟨_, _, Lib.run_convert_string_bytes w src dst e s hs hd he, .inr ⟨w.heap.size, _, _, _, ?_, hb, Lib.bytesWorld_at_new w e s, .inr ?_, ?_, hle, hsz, ?_⟩, ⟨rfl, rfl, rfl, by rw [Lib.bytesWorld_size]; omega, fun k hk => Lib.bytesWorld_at_old w e s k hk⟩, Lib.bytesWorld_size w e s, rfl⟩
  · rw [Array.length_toList]; rfl
  · show _ ≤ (Lib.bytesCells w e s).size
    omega
  · rw [Array.length_toList]; exact hge
  · unfold Lib.bytesCells cellsC
    rw [Array.toList_append, Array.toList_map]
    exact List.take_left' (by rw [List.length_map])
/-- a byte behind a row -/
theorem OwnM.append {P : Program} (w : World) (base : Nat) (t ty e : TypeId) (i : TypeInfo) (z : Value) (ht : P.underlying t = some (.slice e)) (hi : P.info? e = some i) (hz : i.zero = some z)
    (hsize : i.size = 1) (hby : i.bytes = 1) (hzs : z.cells.size = 1) (v : Value) (l : List UInt8) (hown : OwnM w base e v l) (a : Addr) (c : Nat) (x : UInt8) (hx : w.cell? (a.add 0) = some (.int .u8 (x.toNat : Int))) (hl : l.length ≤ 1000000) (hbase : base ≤ w.heap.size) :
    ∃ v' w', (Builtin.append_ #[t, t] ty #[v, .slice (some a) 1 c]).run P w = .ok v' w' ∧ OwnM w' base e v' (l ++ [x]) ∧ w.grownBy w' v.ownBlock ∧ (v'.ownBlock = v.ownBlock ∨ ∃ k, v'.ownBlock = some k ∧ w.heap.size ≤ k) := by
  have hnews : ∀ j u, [Value.int .u8 (x.toNat : Int)][j]? = some u → w.cell? (a.add j) = some u := by
    intro j u h
    match j, h with
    | 0, h => simp at h; subst h; exact hx
  have h1 : ∀ u ∈ [Value.int .u8 (x.toNat : Int)], u.oneCell' = true := by intro u hu; simp at hu; subst hu; rfl
  have hcx : cellsC l ++ [Value.int .u8 (x.toNat : Int)] = cellsC (l ++ [x]) := by simp [cellsC]
  rcases hown with ⟨rfl, rfl⟩ | ⟨g, cap, cur, fz, rfl, hbg, hg, hfz, hnc, hcm, hcs, htake⟩
  · obtain ⟨v', w', r1, r2, r3, r4⟩ := run_append_own (P := P) w w.heap.size t ty e i z 1 1 ht hi hz hsize hby hzs (by decide) (.slice none 0 0) 0 [] ⟨by simp, .inl ⟨rfl, rfl⟩⟩ a 1 c _ rfl hnews h1 (by unfold maxLen; omega) (by omega) (Nat.le_refl _)
    refine ⟨v', w', r1, OwnM.mono (.own r2) hbase, r3, ?_⟩
    cases hq : v'.ownBlock with
    | none => exact .inl rfl
    | some k => exact .inr ⟨k, rfl, (r2.lt k hq).1⟩
  · by_cases hroom : l.length + 1 ≤ cap
    · have hf := run_firstCells_some (P := P) w 1 1 a 1 c [Value.int .u8 (x.toNat : Int)] rfl hnews
      have hlt : l.length < cur.size := by omega
      have hcell : w.cell? ⟨g, l.length, none⟩ = some cur[l.length] := by simp [World.cell?, hg, hlt]
      have hfro : w.frozen? ⟨g, l.length, none⟩ = false := by
        obtain ⟨lo, hi'⟩ := fz
        simp only [World.frozen?, hg, Bool.and_eq_false_iff, decide_eq_false_iff_not]
        rcases hfz with h | h
        · cases h; right; omega
        · left; simp only at h; omega
      have hst : (storeCells ⟨g, l.length, none⟩ [Value.int .u8 (x.toNat : Int)] 0).run P w = .ok () (w.setRow g (cur.setIfInBounds l.length (.int .u8 (x.toNat : Int)))) := by
        have hadd : (⟨g, l.length, none⟩ : Addr).add 0 = ⟨g, l.length, none⟩ := by unfold Addr.add; split <;> simp_all
        simp only [storeCells, Sem.run_bind]
        rw [hadd, run_store P w _ _ _ rfl, hcell]
        simp [hfro, setCell_eq_setRow w g l.length cur e fz _ hg]
      refine ⟨.slice (some ⟨g, 0, none⟩) (l.length + 1) cap, w.setRow g (cur.setIfInBounds l.length (.int .u8 (x.toNat : Int))), ?_, .inr ⟨g, cap, _, fz, by rw [List.length_append]; rfl, hbg, setRow_heap w g cur _ e _ hg, hfz, by rw [List.length_append]; exact hroom, hcm, by simpa using hcs, ?_⟩, ⟨rfl, rfl, rfl, by simp, fun k _ hk => setRow_other w g k _ (fun e => hk (by simp [Value.ownBlock, e]))⟩, .inl rfl⟩
      · simp [Builtin.append_, run_underlying ht, sizeOf, typeInfo, hi, hsize, Builtin.lenOf, hroom, hf, Addr.add_lit, hst]
      · rw [← hcx, ← htake, List.length_append]
        have := take_set (cs := cur.toList) (k := l.length) (.int .u8 (x.toNat : Int)) (by simpa using hlt)
        simpa using this
    · have holds : ∀ j u, (cellsC l)[j]? = some u → w.cell? ((⟨g, 0, none⟩ : Addr).add j) = some u := by
        intro j u hu
        have hadd : (⟨g, 0, none⟩ : Addr).add j = ⟨g, j, none⟩ := by unfold Addr.add; split <;> simp_all
        rw [hadd, cell_of_row w g j cur e fz hg]
        rw [← htake, List.getElem?_take] at hu
        split at hu
        · simpa using hu
        · cases hu
      have hr := run_append_grow (P := P) w t ty e i z ht hi hz ⟨g, 0, none⟩ l.length cap (cellsC l) (by rw [hsize, cellsC_length]; omega) holds a 1 c [Value.int .u8 (x.toNat : Int)] (by rw [hsize]; rfl) hnews (by omega) (by omega) (growslice_fits (by omega) (by rw [hby]; omega))
      have hge := grownCap_ge w (l.length + 1) cap e
      have hcm2 : grownCap w (l.length + 1) cap e ≤ maxLen := grownCap_le_maxLen w (l.length + 1) cap e (by unfold maxLen; omega)
      refine ⟨_, _, hr, .inr ⟨w.heap.size, _, _, (0, 0), by rw [List.length_append]; rfl, hbase, heap_alloc_new w.drew _, .inl rfl, by rw [List.length_append]; exact hge, hcm2, ?_, ?_⟩, ⟨rfl, rfl, rfl, by simp, fun k hk _ => heap_alloc_old w.drew _ hk⟩, .inr ⟨w.heap.size, rfl, Nat.le_refl _⟩⟩
      · simp only [Array.size_append, List.size_toArray, size_zeroCells, hzs, cellsC_length, List.length_cons, List.length_nil]
        omega
      · simp only [Array.toList_append, List.append_assoc]
        rw [← hcx, ← List.append_assoc, List.length_append]
        exact List.take_left' (by rw [List.length_append, cellsC_length]; rfl)
theorem wpList_append_M {P : Program} {w : World} {ops : Array Oper} {rest : List Oper} {o : Oper} {a : Act} {Q : Exit → Act → World → Prop} (hgd : o.guard = none) (s x : Operand) (t : TypeId)
    (ho : o.op = .call { callee := .builtin .append, args := #[s, x], argTypes := #[t, t] })
    (base : Nat) (e : TypeId) (i : TypeInfo) (z : Value) (ht : P.underlying t = some (.slice e)) (hi : P.info? e = some i) (hz : i.zero = some z) (hsize : i.size = 1) (hby : i.bytes = 1) (hzs : z.cells.size = 1)
    (v : Value) (l : List UInt8) (hs : a.eval s = v) (hown : OwnM w base e v l) (ad : Addr) (c : Nat) (b : UInt8) (hx : a.eval x = .slice (some ad) 1 c) (hcell : w.cell? (ad.add 0) = some (.int .u8 (b.toNat : Int))) (hl : l.length ≤ 1000000) (hbase : base ≤ w.heap.size)
    (h : ∀ v' w', OwnM w' base e v' (l ++ [b]) → w.grownBy w' v.ownBlock → (v'.ownBlock = v.ownBlock ∨ ∃ k, v'.ownBlock = some k ∧ w.heap.size ≤ k) → wpList P ops Q rest (a.put o.dst v') w') : wpList P ops Q (o :: rest) a w := by
  refine wpList_plain hgd fun K hK => ?_
  obtain ⟨v', w', hr, h2, h3, h4⟩ := OwnM.append (P := P) w base t o.type e i z ht hi hz hsize hby hzs v l hown ad c b hcell hl hbase
  unfold Oper.wp execOp
  simp only [ho, resolve, invoke, builtin, Sem.run_bind, Sem.run_pure, Result.andThen_ok, List.map_toArray, List.map_cons, List.map_nil, hs, hx, hr]
  exact hK _ _ (h v' w' h2 h3 h4)
end Go.Proofs.Ytggdjiijcoklgaa
/- OWN ROWS of bytes told by their numbers: read, written, and turned to a text. -/
namespace Go.Proofs.Ytggdjiijcoklgaa
open Go.RowKit
set_option linter.unusedVariables false

def OwnU (w : World) (base : Nat) (v : Value) (zs : List Int) : Prop := w.ownsRow base 5 1 v zs.length (zs.map (Value.int .u8))
theorem OwnU.cell {w : World} {base : Nat} {a : Option Addr} {n cap : Nat} {zs : List Int} (h : OwnU w base (.slice a n cap) zs) (k : Nat) (hk : k < zs.length) : ∃ g, a = some ⟨g, 0, none⟩ ∧ base ≤ g ∧ g < w.heap.size ∧ w.cell? ⟨g, k, none⟩ = some (.int .u8 zs[k]) ∧ w.frozen? ⟨g, k, none⟩ = false := by
  obtain ⟨_, ⟨h1, h0⟩ | ⟨g, cap, cur, h1, hb, hg, _, _, _, ht⟩⟩ := h
  · omega
  · cases h1
    have hg' := (Array.getElem?_eq_some_iff.1 hg).1
    have e : cur[k]? = some (.int .u8 zs[k]) := by
      have : (cur.toList.take (zs.length * 1))[k]? = some (.int .u8 zs[k]) := by rw [ht, List.getElem?_map, List.getElem?_eq_getElem hk]; rfl
      rw [List.getElem?_take_of_lt (by omega)] at this
      simpa using this
    exact ⟨g, rfl, hb, hg', by simp [World.cell?, hg, e], by simp [World.frozen?, hg]⟩
theorem OwnU.below {w w' : World} {base : Nat} {v : Value} {zs : List Int} (h : OwnU w base v zs) (hb : Below w.heap.size w w') : OwnU w' base v zs := by
  refine ⟨h.1, h.2.imp id ?_⟩
  rintro ⟨g, cap, cur, e1, e2, e3, e4⟩
  exact ⟨g, cap, cur, e1, e2, (hb.block g (Array.getElem?_eq_some_iff.1 e3).1).trans e3, e4⟩
theorem OwnU.set {w : World} {base g n cap : Nat} {zs : List Int} (h : OwnU w base (.slice (some ⟨g, 0, none⟩) n cap) zs) (j : Nat) (hj : j < zs.length) (m : Int) : OwnU (w.setCell ⟨g, j, none⟩ (.int .u8 m)) base (.slice (some ⟨g, 0, none⟩) n cap) (zs.set j m) := by
  obtain ⟨h0, ⟨h1, _⟩ | ⟨g, cap, cur, h1, hb, hg, h2, h3, h4, ht⟩⟩ := h
  · cases h1
  · cases h1
    refine ⟨by simp, .inr ⟨g, cap, cur.setIfInBounds j (.int .u8 m), by rw [List.length_set], hb, ?_, by rw [List.length_set]; exact h2, h3, by simpa using h4, ?_⟩⟩
    · rw [setCell_eq_setRow w g j cur _ (0, 0) _ hg, setRow_heap w g cur _ _ _ hg]
    · rw [List.length_set, Array.toList_setIfInBounds, List.take_set, ht, List.map_set]
theorem OwnU.text {w : World} {base : Nat} {v : Value} {l : List UInt8} (h : OwnU w base v (l.map fun b => (b.toNat : Int))) : (convert 121 9 v).run Try.prog w = .ok (.string ⟨l.toArray⟩) w := by
  refine OwnM.conv _ _ Try.underlying121 Try.underlying5 Try.underlying9 (OwnM.own (w := w) (base := base) ?_)
  have := h
  unfold OwnU at this
  rw [List.length_map, List.map_map] at this
  exact this
theorem info8 : (Try.prog.info? 5).map (fun i => (i.zero, i.size, i.bytes)) = some (some (.int .u8 0), 1, 1) := by kernel_rfl
theorem zeros_list8 (n : Nat) : (madeCells (Value.int .u8 0).cells (n * 1)).toList = (List.replicate n (0 : Int)).map (Value.int .u8) := by
  rw [show (Value.int .u8 0).cells = #[Value.int .u8 0] from rfl, toList_madeCells_one, List.map_replicate, Nat.mul_one]
end Go.Proofs.Ytggdjiijcoklgaa
