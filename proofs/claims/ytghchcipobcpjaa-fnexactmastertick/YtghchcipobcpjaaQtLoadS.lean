/- ROWS OF ANSWERS that came in, whose numbers are such: a master opened. Written out of RecO.lean. -/
import Derived.Test.YtghchcipobcpjaaQtOwnM
import Derived.Test.YtghchcipobcpjaaQtLoadR
import Derived.Laws.Tables
namespace Go.Proofs.Ytghchcipobcpjaa
open Go.RowKit Go.ChangeShapes Go.WideShapes Go.ChangeAt
set_option linter.unusedVariables false
set_option linter.unusedSimpArgs false

set_option maxRecDepth 100000 in
theorem open_DoneSw {H : Type} {enc : TypeId × Value → H} {W : World} {base : Nat} {held : Bool} {c : Value} {y : _} {n : Nat} (h : DataW.trod enc Try.prog W base (fun _ => true) held n 23 [c] = some y) :
    ∃ (l : List Dn) (p : Option Addr) (k : Nat), c = .slice p l.length k ∧ InD W p l ∧ ∀ x ∈ l, (Lit.int .i64 x.i).wf = true := by
  rcases Go.Deep.open_slice Try.underlying23 h with ⟨hcs, _⟩ | ⟨a, len, cap, m, n, D, Pl, hcs, _, hl, hm, hmm, _, hx⟩
  · simp at hcs
    exact ⟨[], none, 0, hcs, ⟨fun n hn => by simp at hn, by simp, fun k hk => by simp at hk⟩, fun n hn => by simp at hn⟩
  · simp at hcs hmm
    unfold maxLen at hm
    rw [rcCellsD] at hx
    by_cases h0 : len = 0
    · subst h0
      exact ⟨[], some a, cap, hcs, ⟨fun n hn => by simp at hn, by simp, fun k hk => by simp at hk⟩, fun n hn => by simp at hn⟩
    obtain ⟨g, o, rfl, hg⟩ : ∃ g o, a = ⟨g, o, none⟩ ∧ g < W.heap.size := by
      obtain ⟨cs', h1, _⟩ := hx 0 (by omega)
      exact rcSpotC (by omega) h1
    have H : ∀ i, ∃ b : Dn, ∀ (hi : i < len), (b.a.size ≤ maxLen ∧ (Lit.int .i64 b.i).wf = true) ∧ W.rangeAt g (o + i * 2) (dnC b) := fun i => by
      by_cases hi : i < len
      · obtain ⟨cs', h1, h2⟩ := hx i (by omega)
        obtain ⟨hl', hr⟩ := rcCells rfl h1
        obtain ⟨c0, c1, rfl⟩ := rcList2 hl'
        obtain ⟨xs, n', _, _, _, hlen, hfl⟩ := DataW.trod_struct Try.underlying77 h2
        obtain ⟨y0, y1, rfl⟩ := rcList2 hlen
        have g0 : DataW.trod enc Try.prog W base (fun _ => true) held n' 2 [c0] = some y0 := by have := hfl 0 _ rfl; simpa [Value.cells, rcCellsIt, rcCellsTs] using this
        have g1 : DataW.trod enc Try.prog W base (fun _ => true) held n' 9 [c1] = some y1 := by have := hfl 1 _ rfl; simpa [Value.cells, rcCellsIt, rcCellsTs] using this
        obtain ⟨z0, r0, _, hw0⟩ := DataW.trod_int Try.underlying2 g0
        obtain ⟨z1, r1, _, hb⟩ := DataW.trod_string Try.underlying9 g1
        cases r0; cases r1
        exact ⟨⟨z0, z1⟩, fun _ => ⟨⟨hb, hw0⟩, hr⟩⟩
      · exact ⟨⟨0, ByteArray.empty⟩, fun h => absurd h hi⟩
    obtain ⟨f, hf⟩ := Classical.axiomOfChoice H
    have hlen : ((List.range len).map f).length = len := by simp
    refine ⟨(List.range len).map f, some ⟨g, o, none⟩, cap, by rw [hlen]; exact hcs, ⟨fun x hx => ?_, by rw [hlen]; omega, fun k hk => ?_⟩, fun x hx => ?_⟩
    · obtain ⟨i, hi, rfl⟩ := List.mem_map.1 hx
      exact (hf i (List.mem_range.1 hi)).1.1
    · rw [hlen] at hk
      have eG : ((List.range len).map f)[k]'(by rw [hlen]; exact hk) = f k := by simp
      rw [eG]
      exact ⟨g, o, rfl, hg, (hf k hk).2⟩
    · obtain ⟨i, hi, rfl⟩ := List.mem_map.1 hx
      exact (hf i (List.mem_range.1 hi)).1.2
set_option maxRecDepth 100000 in
set_option maxHeartbeats 1600000 in
theorem open_masterw {H : Type} {enc : TypeId × Value → H} {W : World} {base : Nat} {held : Bool} {b0 : Nat} {r : Reach} {v : Value} {d : DataW H} {pl : List MemPlace}
    (hv : Value.okWide Try.prog W r b0 25 v) (h : DataW.Trod enc Try.prog W base (fun _ => true) held 25 v d pl) :
    ∃ (s : Mst) (p1 p2 : Option Addr) (k1 k2 : Nat), v = .agg #[.int .i64 s.nx, .slice p1 s.op.length k1, .slice p2 s.dn.length k2] ∧ InW W p1 s.op ∧ InD W p2 s.dn ∧ ∀ x ∈ s.dn, (Lit.int .i64 x.i).wf = true := by
  obtain ⟨cs, rfl, hsz⟩ := okWide_struct Try.underlying25 hv
  obtain ⟨c0, c1, c2, rfl⟩ := rcArray3 (hsz.trans rcCellsMs)
  obtain ⟨fuel, hf⟩ := h
  obtain ⟨xs, n, _, _, hl, hlen, hfl⟩ := DataW.trod_struct Try.underlying25 hf
  obtain ⟨y0, y1, y2, rfl⟩ := rcList3 hlen
  have h0 : DataW.trod enc Try.prog W base (fun _ => true) held n 2 [c0] = some y0 := by have := hfl 0 _ rfl; simpa [Value.cells, rcCellsIt] using this
  have h1 : DataW.trod enc Try.prog W base (fun _ => true) held n 22 [c1] = some y1 := by have := hfl 1 _ rfl; simpa [Value.cells, rcCellsIt, rcCellsWs] using this
  have h2 : DataW.trod enc Try.prog W base (fun _ => true) held n 23 [c2] = some y2 := by have := hfl 2 _ rfl; simpa [Value.cells, rcCellsIt, rcCellsDs, rcCellsWs] using this
  obtain ⟨nx, r0, _, _⟩ := DataW.trod_int Try.underlying2 h0
  cases r0
  obtain ⟨l1, p1, k1, rfl, i1⟩ := open_WaitS h1
  obtain ⟨l2, p2, k2, rfl, i2, i3⟩ := open_DoneSw h2
  exact ⟨⟨nx, l1, l2⟩, p1, p2, k1, k2, rfl, i1, i2, i3⟩
end Go.Proofs.Ytghchcipobcpjaa
/- A WHOLE BOX read at once in a region that draws. -/
namespace Go
theorem Proofs.Ytghchcipobcpjaa.exec_load_row {P : Program} {o : Oper} {a : Act} {w : World} (ty : TypeId) (x : Operand) (ho : o.op = .load ty x)
    (g : Nat) (hx : a.eval x = .pointer (some ⟨g, 0, none⟩)) (t : TypeId) (cs : Array Value) (fr : Nat × Nat) (d : TypeDesc) (hg : w.heap[g]? = some (.cells cs t fr))
    (hu : P.underlying ty = some d) (hd : (match d with | .struct _ | .array _ _ => true | _ => false) = true) (hi : (P.info? ty).map (·.size) = some cs.size) :
    (execOp a.eval o).run P w = .ok (.value (.agg cs)) w := by
  unfold execOp
  simp only [ho, hx, Instr.loadAt, Instr.sureAddr, Sem.run_bind, Sem.run_pure, Result.andThen_ok, run_loadVar_row w g t ty cs fr d hg hu hd hi]
end Go
