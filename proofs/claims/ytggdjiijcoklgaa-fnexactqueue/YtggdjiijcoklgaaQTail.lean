/- ROWS of what others told all, and of texts: to be read, own ones, ones that came in; the law's own questions of them. -/
import Derived.Test.YtggdjiijcoklgaaProg
import Derived.Test.YtggdjiijcoklgaaQKeep
import Derived.Test.YtggdjiijcoklgaaQBox
import Derived.Laws.OwnMore
import Derived.Deep.SlicePairs
import Derived.Deep.Strs
import Derived.Deep.RegionHeld3
namespace Go.Proofs.Ytggdjiijcoklgaa
open Go.RowKit
set_option linter.unusedVariables false
set_option linter.unusedSimpArgs false

def flatP (ps : List (Int × Value)) : List Value := ps.flatMap fun p => [.int .i64 p.1, p.2]
theorem flatP_cons (p : Int × Value) (ps : List (Int × Value)) : flatP (p :: ps) = .int .i64 p.1 :: p.2 :: flatP ps := rfl
theorem flatP_len : ∀ (ps : List (Int × Value)), (flatP ps).length = ps.length * 2
  | [] => rfl
  | p :: ps => by rw [flatP_cons, List.length_cons, List.length_cons, flatP_len ps, List.length_cons]; omega
theorem flatP_even : ∀ (ps : List (Int × Value)) (k : Nat) (h : k < ps.length), (flatP ps)[k * 2]? = some (.int .i64 ps[k].1)
  | p :: ps, 0, _ => rfl
  | p :: ps, k + 1, h => by
    rw [flatP_cons, show (k + 1) * 2 = k * 2 + 1 + 1 by omega, List.getElem?_cons_succ, List.getElem?_cons_succ, flatP_even ps k (by simpa using h)]
    rfl
theorem flatP_odd : ∀ (ps : List (Int × Value)) (k : Nat) (h : k < ps.length), (flatP ps)[k * 2 + 1]? = some ps[k].2
  | p :: ps, 0, _ => rfl
  | p :: ps, k + 1, h => by
    rw [flatP_cons, show (k + 1) * 2 + 1 = k * 2 + 1 + 1 + 1 by omega, List.getElem?_cons_succ, List.getElem?_cons_succ, flatP_odd ps k (by simpa using h)]
    rfl
theorem flatP_set : ∀ (ps : List (Int × Value)) (k : Nat) (a : Int) (u : Value), k < ps.length → ((flatP ps).set (k * 2) (.int .i64 a)).set (k * 2 + 1) u = flatP (ps.set k (a, u))
  | p :: ps, 0, a, u, _ => rfl
  | p :: ps, k + 1, a, u, h => by
    rw [flatP_cons, show (k + 1) * 2 + 1 = k * 2 + 1 + 1 + 1 by omega, show (k + 1) * 2 = k * 2 + 1 + 1 by omega, List.set_cons_succ, List.set_cons_succ, List.set_cons_succ, List.set_cons_succ, flatP_set ps k a u (by simpa using h), List.set_cons_succ, flatP_cons]
theorem flatP_set1 : ∀ (ps : List (Int × Value)) (k : Nat) (a : Int) (h : k < ps.length), (flatP ps).set (k * 2) (.int .i64 a) = flatP (ps.set k (a, ps[k].2))
  | p :: ps, 0, a, _ => rfl
  | p :: ps, k + 1, a, h => by
    rw [flatP_cons, show (k + 1) * 2 = k * 2 + 1 + 1 by omega, List.set_cons_succ, List.set_cons_succ, flatP_set1 ps k a (by simpa using h), List.set_cons_succ, flatP_cons]
    rfl
theorem flatP_append (ps qs : List (Int × Value)) : flatP (ps ++ qs) = flatP ps ++ flatP qs := by simp [flatP]
theorem flatP_zero : ∀ n : Nat, flatP (List.replicate n (0, .slice none 0 0)) = (madeCells (Value.agg #[.int .i64 0, .slice none 0 0]).cells (n * 2)).toList := by
  intro n
  apply List.ext_getElem?
  intro j
  rw [show (Value.agg #[.int .i64 0, .slice none 0 0]).cells = #[.int .i64 0, .slice none 0 0] from rfl]
  by_cases hj : j < n * 2
  · rcases Nat.mod_two_eq_zero_or_one j with h | h
    · have e : j = (j / 2) * 2 := by omega
      rw [e, flatP_even _ _ (by simp; omega)]
      simp [madeCells, show j / 2 * 2 < n * 2 by omega]
    · have e : j = (j / 2) * 2 + 1 := by omega
      rw [e, flatP_odd _ _ (by simp; omega)]
      have e3 : (j / 2 * 2 + 1) % 2 = 1 := by omega
      simp [madeCells, show j / 2 * 2 + 1 < n * 2 by omega, e3]
  · rw [List.getElem?_eq_none (by rw [flatP_len]; simp; omega), List.getElem?_eq_none (by simp [madeCells]; omega)]

/-- what others told all, to be read -/
def RowG (w : World) (v : Value) (gs : List (Int × List Int)) : Prop :=
  ∃ (p : Option Addr) (c : Nat), v = .slice p gs.length c ∧ ∀ k (h : k < gs.length), ∃ g u, p = some ⟨g, 0, none⟩ ∧ g < w.heap.size ∧ w.cell? ⟨g, k * 2, none⟩ = some (.int .i64 gs[k].1) ∧ w.cell? ⟨g, k * 2 + 1, none⟩ = some u ∧ RowI w u gs[k].2
theorem RowG.below {w w' : World} {v : Value} {gs : List (Int × List Int)} (h : RowG w v gs) (hb : Below w.heap.size w w') : RowG w' v gs := by
  obtain ⟨p, c, e, h⟩ := h
  refine ⟨p, c, e, fun k hk => ?_⟩
  obtain ⟨g, u, e1, h1, h2, h3, h4⟩ := h k hk
  exact ⟨g, u, e1, Nat.lt_of_lt_of_le h1 hb.size, (hb.cell (p := ⟨g, k * 2, none⟩) h1).trans h2, (hb.cell (p := ⟨g, k * 2 + 1, none⟩) h1).trans h3, h4.below hb⟩
/-- texts, to be read -/
def RowS (w : World) (v : Value) (ss : List ByteArray) : Prop :=
  ∃ (p : Option Addr) (c : Nat), v = .slice p ss.length c ∧ ∀ k (h : k < ss.length), ∃ g, p = some ⟨g, 0, none⟩ ∧ g < w.heap.size ∧ w.cell? ⟨g, k, none⟩ = some (.string ss[k])
theorem RowS.below {w w' : World} {v : Value} {ss : List ByteArray} (h : RowS w v ss) (hb : Below w.heap.size w w') : RowS w' v ss := by
  obtain ⟨p, c, e, h⟩ := h
  refine ⟨p, c, e, fun k hk => ?_⟩
  obtain ⟨g, e1, h1, h2⟩ := h k hk
  exact ⟨g, e1, Nat.lt_of_lt_of_le h1 hb.size, (hb.cell (p := ⟨g, k, none⟩) h1).trans h2⟩
/-- the like, that came in -/
def InG (w : World) (a : Option Addr) (gs : List (Int × List Int)) : Prop :=
  gs.length ≤ 9223372036854775807 ∧ ∀ k (h : k < gs.length), ∃ g o u c, a = some ⟨g, o, none⟩ ∧ g < w.heap.size ∧ w.cell? ⟨g, o + k * 2, none⟩ = some (.int .i64 gs[k].1) ∧ w.cell? ⟨g, o + k * 2 + 1, none⟩ = some (.slice u gs[k].2.length c) ∧ InI w u gs[k].2
theorem InG.below {w w' : World} {a : Option Addr} {gs : List (Int × List Int)} (h : InG w a gs) (hb : Below w.heap.size w w') : InG w' a gs := by
  refine ⟨h.1, fun k hk => ?_⟩
  obtain ⟨g, o, u, c, e, h1, h2, h3, h4⟩ := h.2 k hk
  exact ⟨g, o, u, c, e, Nat.lt_of_lt_of_le h1 hb.size, (hb.cell (p := ⟨g, o + k * 2, none⟩) h1).trans h2, (hb.cell (p := ⟨g, o + k * 2 + 1, none⟩) h1).trans h3, h4.below hb⟩
def InS (w : World) (a : Option Addr) (ss : List ByteArray) : Prop :=
  ss.length ≤ 9223372036854775807 ∧ (∀ s ∈ ss, s.size ≤ maxLen) ∧ ∀ k (h : k < ss.length), ∃ g o, a = some ⟨g, o, none⟩ ∧ g < w.heap.size ∧ w.cell? ⟨g, o + k, none⟩ = some (.string ss[k])
theorem InS.below {w w' : World} {a : Option Addr} {ss : List ByteArray} (h : InS w a ss) (hb : Below w.heap.size w w') : InS w' a ss := by
  refine ⟨h.1, h.2.1, fun k hk => ?_⟩
  obtain ⟨g, o, e, h1, h2⟩ := h.2.2 k hk
  exact ⟨g, o, e, Nat.lt_of_lt_of_le h1 hb.size, (hb.cell (p := ⟨g, o + k, none⟩) h1).trans h2⟩
/-- own ones: a row of pairs, and each pair's own row, none of them another one's -/
def OwnG (w : World) (base : Nat) (v : Value) (gs : List (Int × List Int)) : Prop :=
  ∃ ps : List (Int × Value), ps.length = gs.length ∧ w.ownsRow base 118 2 v gs.length (flatP ps) ∧
    (∀ k (h : k < gs.length) (h' : k < ps.length), ps[k].1 = gs[k].1 ∧ OwnI w base ps[k].2 gs[k].2) ∧
    (∀ i j a (hi : i < ps.length) (hj : j < ps.length), ps[i].2.ownBlock = some a → ps[j].2.ownBlock = some a → i = j) ∧
    (∀ i a (hi : i < ps.length), ps[i].2.ownBlock = some a → v.ownBlock ≠ some a)
theorem OwnG.shape {w : World} {base : Nat} {v : Value} {gs : List (Int × List Int)} (h : OwnG w base v gs) : ∃ a cap, v = .slice a gs.length cap := by
  obtain ⟨ps, hl, ⟨_, ⟨rfl, h0⟩ | ⟨g, cap, cur, rfl, _⟩⟩, _⟩ := h
  · rw [h0]; exact ⟨_, _, rfl⟩
  · exact ⟨_, _, rfl⟩
theorem OwnG.row {w : World} {base : Nat} {v : Value} {gs : List (Int × List Int)} (h : OwnG w base v gs) : RowG w v gs := by
  obtain ⟨p, c, rfl⟩ := h.shape
  obtain ⟨ps, hl, hr, hk, _⟩ := h
  refine ⟨p, c, rfl, fun k hk' => ?_⟩
  obtain ⟨h1, h2⟩ := hk k hk' (by omega)
  rcases hr.2 with ⟨e, e0⟩ | ⟨g, cap, cur, e, hb, hg, _⟩
  · omega
  · cases e
    refine ⟨g, ps[k].2, rfl, (Array.getElem?_eq_some_iff.1 hg).1, ?_, ?_, h2.row⟩
    · rw [hr.cellAt (k * 2) (by omega), flatP_even ps k (by omega), h1]
    · rw [hr.cellAt (k * 2 + 1) (by omega), flatP_odd ps k (by omega)]
def OwnT4 (w : World) (base : Nat) (v : Value) (ss : List ByteArray) : Prop := w.ownsRow base 9 1 v ss.length (ss.map Value.string)
theorem OwnT4.shape {w : World} {base : Nat} {v : Value} {ss : List ByteArray} (h : OwnT4 w base v ss) : ∃ a cap, v = .slice a ss.length cap := by
  obtain ⟨_, ⟨rfl, h0⟩ | ⟨g, cap, cur, rfl, _⟩⟩ := h
  · rw [h0]; exact ⟨_, _, rfl⟩
  · exact ⟨_, _, rfl⟩
theorem OwnT4.row {w : World} {base : Nat} {v : Value} {ss : List ByteArray} (h : OwnT4 w base v ss) : RowS w v ss := by
  obtain ⟨p, c, rfl⟩ := h.shape
  refine ⟨p, c, rfl, fun k hk => ?_⟩
  rcases h.2 with ⟨e, e0⟩ | ⟨g, cap, cur, e, hb, hg, _⟩
  · omega
  · cases e
    refine ⟨g, rfl, (Array.getElem?_eq_some_iff.1 hg).1, ?_⟩
    rw [World.ownsRow.cellAt h k (by omega), List.getElem?_map, List.getElem?_eq_getElem hk]
    rfl
end Go.Proofs.Ytggdjiijcoklgaa
/- A REGION THAT DRAWS ITS ORDER, where a guard says no: what is not wanted is taken first. -/
namespace Go
section
variable {P : Program} {ops : Array Oper} {Q : Exit → Act → World → Prop} {md : Region.Mode} {S : World → Prop}
theorem Proofs.Ytggdjiijcoklgaa.skipH {i : Nat} {oi : Oper} {fuel : Nat} {listed : Array Bool} {a : Act} {w : World} (hi : ops[i]? = some oi)
    (hs : Region.noSelect ops = true) (hf : Region.free md ops listed i = true) (hr : (Region.ready md ops listed).contains i = true)
    (hQ : ∀ c a w, Q (.panic c) (a.put oi.dst undef) w → Q (.panic c) a w) (hw : Region.wanted oi (yielded ops a.tmps) = false) (hS : S w)
    (h : wpAnyH P md ops Q S fuel (listed.setIfInBounds i true) (a.put oi.dst undef) w) : wpAnyH P md ops Q S (fuel + 1) listed a w :=
  wpAnyH_take hi hs hf hr hQ (Or.inr ⟨hw, rfl⟩) hS h
theorem Proofs.Ytggdjiijcoklgaa.yieldH {i : Nat} {oi : Oper} {v : Value} {fuel : Nat} {listed : Array Bool} {a : Act} {w : World} (hi : ops[i]? = some oi)
    (hs : Region.noSelect ops = true) (hf : Region.free md ops listed i = true) (hr : (Region.ready md ops listed).contains i = true)
    (hQ : ∀ c a w, Q (.panic c) (a.put oi.dst v) w → Q (.panic c) a w) (hw : Region.wanted oi (yielded ops a.tmps) = true) (hy : ∀ w, S w → (execOp a.eval oi).run P w = .ok (.value v) w) (hS : S w)
    (h : wpAnyH P md ops Q S fuel (listed.setIfInBounds i true) (a.put oi.dst v) w) : wpAnyH P md ops Q S (fuel + 1) listed a w :=
  wpAnyH_take hi hs hf hr hQ (Or.inl ⟨hw, hy⟩) hS h
end
end Go
