/- A STATION THAT CAME IN: opened. Written by mkstno.py. -/
import Derived.Test.YtggdjiijcoklgaaRPlainTb
import Derived.Test.YtggdjiijcoklgaaRStnV
import Derived.WalkKit
import Derived.OpenShut
import Derived.ShutString
import Derived.ChangeOld
import Derived.Lib.SmallJoins
import Derived.SliceStrings
import Derived.Deep.SlicePairs
import Derived.Deep.Strs
namespace Go.Proofs.Ytggdjiijcoklgaa
open Go.RowKit Go.ChangeShapes Go.WideShapes Go.ChangeAt
set_option linter.unusedVariables false
set_option linter.unusedSimpArgs false

theorem array19 {α : Type} {cs : Array α} (h : cs.size = 19) : ∃ c0 c1 c2 c3 c4 c5 c6 c7 c8 c9 c10 c11 c12 c13 c14 c15 c16 c17 c18, cs = #[c0, c1, c2, c3, c4, c5, c6, c7, c8, c9, c10, c11, c12, c13, c14, c15, c16, c17, c18] := by
  obtain ⟨l⟩ := cs
  match l, h with
  | [c0, c1, c2, c3, c4, c5, c6, c7, c8, c9, c10, c11, c12, c13, c14, c15, c16, c17, c18], _ => exact ⟨c0, c1, c2, c3, c4, c5, c6, c7, c8, c9, c10, c11, c12, c13, c14, c15, c16, c17, c18, rfl⟩
theorem list13 {α : Type} {l : List α} (h : l.length = 13) : ∃ y0 y1 y2 y3 y4 y5 y6 y7 y8 y9 y10 y11 y12, l = [y0, y1, y2, y3, y4, y5, y6, y7, y8, y9, y10, y11, y12] := by
  match l, h with
  | [y0, y1, y2, y3, y4, y5, y6, y7, y8, y9, y10, y11, y12], _ => exact ⟨y0, y1, y2, y3, y4, y5, y6, y7, y8, y9, y10, y11, y12, rfl⟩
theorem list4s {α : Type} {l : List α} (h : l.length = 4) : ∃ c0 c1 c2 c3, l = [c0, c1, c2, c3] := by
  match l, h with
  | [c0, c1, c2, c3], _ => exact ⟨c0, c1, c2, c3, rfl⟩
theorem cellsTs : Try.prog.cellsOf 9 = 1 := by kernel_rfl
theorem cellsLs : Try.prog.cellsOf 26 = 1 := by kernel_rfl
theorem cellsGs : Try.prog.cellsOf 25 = 1 := by kernel_rfl
theorem cellsG1 : Try.prog.cellsOf 112 = 2 := by kernel_rfl
theorem cellsSts : Try.prog.cellsOf 23 = 4 := by kernel_rfl
theorem cellsStn : Try.prog.cellsOf 28 = 19 := by kernel_rfl
set_option maxRecDepth 100000 in
theorem open_stamp4 {H : Type} {enc : TypeId × Value → H} {W : World} {base : Nat} {held : Bool} {c0 c1 c2 c3 : Value} {y : _} {n : Nat} (h : DataW.trod enc Try.prog W base (fun _ => true) held n 23 [c0, c1, c2, c3] = some y) :
    ∃ s : St, c0 = .int .i64 s.g ∧ c1 = .int .i64 s.o ∧ c2 = .int .i64 s.b ∧ c3 = .int .i64 s.h := by
  obtain ⟨zs, m, _, _, _, hlen3, hfl3⟩ := DataW.trod_struct Try.underlying23 h
  obtain ⟨u0, u1, u2, u3, rfl⟩ := list4s hlen3
  have g0 : DataW.trod enc Try.prog W base (fun _ => true) held m 2 [c0] = some u0 := by have := hfl3 0 _ rfl; simpa [Value.cells, cellsIt] using this
  have g1 : DataW.trod enc Try.prog W base (fun _ => true) held m 2 [c1] = some u1 := by have := hfl3 1 _ rfl; simpa [Value.cells, cellsIt] using this
  have g2 : DataW.trod enc Try.prog W base (fun _ => true) held m 2 [c2] = some u2 := by have := hfl3 2 _ rfl; simpa [Value.cells, cellsIt] using this
  have g3 : DataW.trod enc Try.prog W base (fun _ => true) held m 2 [c3] = some u3 := by have := hfl3 3 _ rfl; simpa [Value.cells, cellsIt] using this
  obtain ⟨sg, r0, _, _⟩ := DataW.trod_int Try.underlying2 g0
  obtain ⟨so, r1, _, _⟩ := DataW.trod_int Try.underlying2 g1
  obtain ⟨sb, r2, _, _⟩ := DataW.trod_int Try.underlying2 g2
  obtain ⟨sh, r3, _, _⟩ := DataW.trod_int Try.underlying2 g3
  cases r0; cases r1; cases r2; cases r3
  exact ⟨⟨sg, so, sb, sh⟩, rfl, rfl, rfl, rfl⟩
theorem spot0 {w : World} {a : Addr} {v : Value} (h : w.cell? (a.add 0) = some v) : ∃ g o, a = ⟨g, o, none⟩ ∧ g < w.heap.size := by
  obtain ⟨g, o, sp⟩ := a
  have hsp : sp = none := by simpa [Addr.add] using World.cell?_spot h
  subst hsp
  refine ⟨g, o, rfl, ?_⟩
  rcases Nat.lt_or_ge g w.heap.size with h1 | h1
  · exact h1
  · simp [World.cell?, Addr.add, Array.getElem?_eq_none h1] at h
theorem addN (g o k : Nat) : (⟨g, o, none⟩ : Addr).add k = ⟨g, o + k, none⟩ := by unfold Addr.add; split <;> simp_all
set_option maxRecDepth 100000 in
theorem open_texts {H : Type} {enc : TypeId × Value → H} {W : World} {base : Nat} {held : Bool} {c : Value} {y : _} {n : Nat} (h : DataW.trod enc Try.prog W base (fun _ => true) held n 26 [c] = some y) :
    ∃ (ss : List ByteArray) (p : Option Addr) (k : Nat), c = .slice p ss.length k ∧ InS W p ss := by
  rcases open_strings Try.underlying26 Try.underlying9 cellsTs h with ⟨hcs, _⟩ | ⟨a, len, cap, ss, hcs, _, hl, hm, hz, _, hcell, hwz⟩
  · simp at hcs
    exact ⟨[], none, 0, hcs, by simp, by simp, fun k hk => by simp at hk⟩
  · simp at hcs hz
    have hlen : (ss.take len).length = len := by rw [List.length_take]; omega
    unfold maxLen at hm
    refine ⟨ss.take len, some a, cap, by rw [hlen]; exact hcs, by rw [hlen]; omega, fun s hs => hwz s (List.mem_of_mem_take hs), fun k hk => ?_⟩
    rw [hlen] at hk
    have hk2 : k < ss.length := by omega
    have q := hcell k hk2
    obtain ⟨g, o, rfl, hg⟩ := spot0 (hcell 0 (by omega))
    rw [addN] at q
    refine ⟨g, o, rfl, hg, ?_⟩
    rw [List.getElem_take, q]
    simp [List.getD, List.getElem?_eq_getElem hk2]
set_option maxRecDepth 100000 in
theorem open_globs {H : Type} {enc : TypeId × Value → H} {W : World} {base : Nat} {held : Bool} {c : Value} {y : _} {n : Nat} (h : DataW.trod enc Try.prog W base (fun _ => true) held n 25 [c] = some y) :
    ∃ (gs : List (Int × List Int)) (p : Option Addr) (k : Nat), c = .slice p gs.length k ∧ InG W p gs := by
  rcases Go.Deep.open_slice_pairs Try.underlying25 Try.underlying112 cellsG1 rfl rfl cellsIt cellsRt h with ⟨hcs, _⟩ | ⟨a, len, cap, m, n, V0, V1, D0, D1, P0, P1, hcs, _, hl, hm, hmm, _, hx⟩
  · simp at hcs
    exact ⟨[], none, 0, hcs, by simp, fun k hk => by simp at hk⟩
  · simp at hcs hmm
    unfold maxLen at hm
    have each : ∀ i, i < len → ∃ (g : Int × List Int) (u : Option Addr) (k : Nat), V0 i = .int .i64 g.1 ∧ V1 i = .slice u g.2.length k ∧ InI W u g.2 := fun i hi => by
      obtain ⟨_, _, h1, h2⟩ := hx i (by omega)
      obtain ⟨z, e0, _, _⟩ := DataW.trod_int Try.underlying2 h1
      obtain ⟨zs, p, k, e1, hin⟩ := open_row h2
      simp at e0
      exact ⟨(z, zs), p, k, e0, e1, hin⟩
    have ex : ∃ G : Nat → Int × List Int, ∀ i, i < len → ∃ (u : Option Addr) (k : Nat), V0 i = .int .i64 (G i).1 ∧ V1 i = .slice u (G i).2.length k ∧ InI W u (G i).2 := by
      refine ⟨fun i => if h : i < len then (each i h).choose else (0, []), fun i hi => ?_⟩
      simp only [hi, dif_pos]
      exact (each i hi).choose_spec
    obtain ⟨G, hG⟩ := ex
    have hlen : ((List.range len).map G).length = len := by simp
    refine ⟨(List.range len).map G, some a, cap, by rw [hlen]; exact hcs, by rw [hlen]; omega, fun k hk => ?_⟩
    rw [hlen] at hk
    obtain ⟨g, o, rfl, hg⟩ := spot0 (v := V0 0) (by have := (hx 0 (by omega)).1; simpa using this)
    obtain ⟨q1, q2, _, _⟩ := hx k (by omega)
    obtain ⟨u, ck, e1, e2, hin⟩ := hG k hk
    rw [addN] at q1 q2
    have eG : ((List.range len).map G)[k]'(by rw [hlen]; exact hk) = G k := by simp
    refine ⟨g, o, u, ck, rfl, hg, ?_, ?_, ?_⟩
    · rw [q1, e1, eG]
    · rw [show o + k * 2 + 1 = o + (k * 2 + 1) by omega, q2, e2, eG]
    · rw [eG]; exact hin
set_option maxRecDepth 100000 in
set_option maxHeartbeats 1600000 in
theorem open_station {H : Type} {enc : TypeId × Value → H} {W : World} {base b0 : Nat} {held : Bool} {r : Reach} {v : Value} {d : DataW H} {pl : List MemPlace}
    (hv : Value.okWide Try.prog W r b0 28 v) (h : DataW.Trod enc Try.prog W base (fun _ => true) held 28 v d pl) :
    ∃ (s : Stn) (p1 p2 p3 p4 : Option Addr) (k1 k2 k3 k4 : Nat), v = .agg #[.int .i64 s.ad, .int .i64 s.bo, .int .i64 s.st, .int .i64 s.s.g, .int .i64 s.s.o, .int .i64 s.s.b, .int .i64 s.s.h, .int .i64 s.t.g, .int .i64 s.t.o, .int .i64 s.t.b, .int .i64 s.t.h, .int .i64 s.qu, .int .i64 s.tr, .int .i64 s.he, .int .i64 s.po, .slice p1 s.kn.length k1, .slice p2 s.ws.length k2, .slice p3 s.gs.length k3, .slice p4 s.os.length k4] ∧ InI W p1 s.kn ∧ InI W p2 s.ws ∧ InG W p3 s.gs ∧ InS W p4 s.os := by
  obtain ⟨cs, rfl, hsz⟩ := okWide_struct Try.underlying28 hv
  obtain ⟨c0, c1, c2, c3, c4, c5, c6, c7, c8, c9, c10, c11, c12, c13, c14, c15, c16, c17, c18, rfl⟩ := array19 (hsz.trans cellsStn)
  obtain ⟨fuel, hf⟩ := h
  obtain ⟨xs, n, _, _, hl, hlen, hfl⟩ := DataW.trod_struct Try.underlying28 hf
  obtain ⟨y0, y1, y2, y3, y4, y5, y6, y7, y8, y9, y10, y11, y12, rfl⟩ := list13 hlen
  have h0 : DataW.trod enc Try.prog W base (fun _ => true) held n 2 [c0] = some y0 := by have := hfl 0 _ rfl; simpa [Value.cells, cellsIt] using this
  have h1 : DataW.trod enc Try.prog W base (fun _ => true) held n 2 [c1] = some y1 := by have := hfl 1 _ rfl; simpa [Value.cells, cellsIt] using this
  have h2 : DataW.trod enc Try.prog W base (fun _ => true) held n 2 [c2] = some y2 := by have := hfl 2 _ rfl; simpa [Value.cells, cellsIt] using this
  have h3 : DataW.trod enc Try.prog W base (fun _ => true) held n 23 [c3, c4, c5, c6] = some y3 := by have := hfl 3 _ rfl; simpa [Value.cells, cellsSts] using this
  have h4 : DataW.trod enc Try.prog W base (fun _ => true) held n 23 [c7, c8, c9, c10] = some y4 := by have := hfl 4 _ rfl; simpa [Value.cells, cellsSts] using this
  have h5 : DataW.trod enc Try.prog W base (fun _ => true) held n 2 [c11] = some y5 := by have := hfl 5 _ rfl; simpa [Value.cells, cellsIt] using this
  have h6 : DataW.trod enc Try.prog W base (fun _ => true) held n 2 [c12] = some y6 := by have := hfl 6 _ rfl; simpa [Value.cells, cellsIt] using this
  have h7 : DataW.trod enc Try.prog W base (fun _ => true) held n 2 [c13] = some y7 := by have := hfl 7 _ rfl; simpa [Value.cells, cellsIt] using this
  have h8 : DataW.trod enc Try.prog W base (fun _ => true) held n 2 [c14] = some y8 := by have := hfl 8 _ rfl; simpa [Value.cells, cellsIt] using this
  have h9 : DataW.trod enc Try.prog W base (fun _ => true) held n 24 [c15] = some y9 := by have := hfl 9 _ rfl; simpa [Value.cells, cellsRt] using this
  have h10 : DataW.trod enc Try.prog W base (fun _ => true) held n 24 [c16] = some y10 := by have := hfl 10 _ rfl; simpa [Value.cells, cellsRt] using this
  have h11 : DataW.trod enc Try.prog W base (fun _ => true) held n 25 [c17] = some y11 := by have := hfl 11 _ rfl; simpa [Value.cells, cellsGs] using this
  have h12 : DataW.trod enc Try.prog W base (fun _ => true) held n 26 [c18] = some y12 := by have := hfl 12 _ rfl; simpa [Value.cells, cellsLs] using this
  obtain ⟨a0, q0, _, _⟩ := DataW.trod_int Try.underlying2 h0
  obtain ⟨a1, q1, _, _⟩ := DataW.trod_int Try.underlying2 h1
  obtain ⟨a2, q2, _, _⟩ := DataW.trod_int Try.underlying2 h2
  obtain ⟨a5, q5, _, _⟩ := DataW.trod_int Try.underlying2 h5
  obtain ⟨a6, q6, _, _⟩ := DataW.trod_int Try.underlying2 h6
  obtain ⟨a7, q7, _, _⟩ := DataW.trod_int Try.underlying2 h7
  obtain ⟨a8, q8, _, _⟩ := DataW.trod_int Try.underlying2 h8
  obtain ⟨s3, rfl, rfl, rfl, rfl⟩ := open_stamp4 h3
  obtain ⟨s4, rfl, rfl, rfl, rfl⟩ := open_stamp4 h4
  cases q0; cases q1; cases q2; cases q5; cases q6; cases q7; cases q8
  obtain ⟨kn, p1, k1, rfl, i1⟩ := open_row h9
  obtain ⟨ws, p2, k2, rfl, i2⟩ := open_row h10
  obtain ⟨gs, p3, k3, rfl, i3⟩ := open_globs h11
  obtain ⟨os, p4, k4, rfl, i4⟩ := open_texts h12
  exact ⟨⟨a0, a1, a2, s3, s4, a5, a6, a7, a8, kn, ws, gs, os⟩, p1, p2, p3, p4, k1, k2, k3, k4, rfl, i1, i2, i3, i4⟩
end Go.Proofs.Ytggdjiijcoklgaa
