/- THE DRAW of a question: what it keeps in memory. -/
import Derived.Test.YtfpibedloodjlaaDrawB
import Derived.Test.YtfpibedloodjlaaAskIn
import Derived.Test.YtfpibedloodjlaaAppI
import Derived.Deep.DeepCutAuto
import Derived.Deep.RegionHeld3
import Derived.Deep.RegionLaw
import Derived.Deep.CutBlock
namespace Go.Proofs.Ytfpibedloodjlaa
open Go.RowKit
set_option linter.unusedVariables false
set_option linter.unusedSimpArgs false

theorem OwnI.keptH {w w' : World} {base : Nat} {v : Value} {zs : List Int} (h : OwnI w base v zs) (hk : ∀ g, base ≤ g → g < w.heap.size → w'.heap[g]? = w.heap[g]?) : OwnI w' base v zs := by
  refine ⟨h.1, h.2.imp id ?_⟩
  rintro ⟨g, cap, cur, e1, e2, e3, e4⟩
  exact ⟨g, cap, cur, e1, e2, (hk g e2 (Array.getElem?_eq_some_iff.1 e3).1).trans e3, e4⟩
/-- what is said in block V, the answer's place in block P, the words behind both -/
structure QV (b B : Nat) (a : Option Addr) (len cap : Nat) (w0 : World) (P V : Nat) (y : Ak) (v : Value) (w : World) : Prop where
  dr : Dr b B a len cap w0 w
  boxV : w.heap[V]? = some (.cells #[.int .i64 y.c, .int .i64 y.a, .int .i64 y.m, v] 25 (0, 0))
  boxP : w.heap[P]? = some (.cells #[.int .i64 0, .int .i64 0, .int .i64 0, .slice none 0 0] 25 (0, 0))
  row : OwnI w (V + 1) v y.vs
  bP : b < P
  wP : w0.heap.size ≤ P
  PV : P < V
theorem QV.grb {b B : Nat} {a : Option Addr} {len cap : Nat} {w0 : World} {P V : Nat} {y : Ak} {v : Value} {w : World} {w' : World} (k : QV b B a len cap w0 P V y v w) (hd : Dr b B a len cap w0 w') (hg : Grb b w w') : QV b B a len cap w0 P V y v w' :=
  ⟨hd, (hg.block V (Array.getElem?_eq_some_iff.1 k.boxV).1 (by have := k.bP; have := k.PV; omega)).trans k.boxV, (hg.block P (Array.getElem?_eq_some_iff.1 k.boxP).1 (by have := k.bP; omega)).trans k.boxP, k.row.keptH fun g h1 h2 => hg.block g h2 (by have := k.bP; have := k.PV; omega), k.bP, k.wP, k.PV⟩
theorem QV.below {b B : Nat} {a : Option Addr} {len cap : Nat} {w0 : World} {P V : Nat} {y : Ak} {v : Value} {w : World} {w' : World} (k : QV b B a len cap w0 P V y v w) (hb : Below w.heap.size w w') : QV b B a len cap w0 P V y v w' := k.grb (k.dr.below hb) (grb_of_below hb)
theorem QV.base {b B : Nat} {a : Option Addr} {len cap : Nat} {w0 : World} {P V : Nat} {y : Ak} {v : Value} {w : World} (k : QV b B a len cap w0 P V y v w) : V + 1 ≤ w.heap.size := (Array.getElem?_eq_some_iff.1 k.boxV).1
theorem QV.cellV {b B : Nat} {a : Option Addr} {len cap : Nat} {w0 : World} {P V : Nat} {y : Ak} {v : Value} {w : World} (k : QV b B a len cap w0 P V y v w) : w.cell? ⟨V, 0, none⟩ = some (.int .i64 y.c) ∧ w.cell? ⟨V, 1, none⟩ = some (.int .i64 y.a) ∧ w.cell? ⟨V, 2, none⟩ = some (.int .i64 y.m) ∧ w.cell? ⟨V, 3, none⟩ = some v ∧ ∀ i, w.frozen? ⟨V, i, none⟩ = false :=
  ⟨cellW k.boxV 0 _ rfl w (Below.refl _ _), cellW k.boxV 1 _ rfl w (Below.refl _ _), cellW k.boxV 2 _ rfl w (Below.refl _ _), cellW k.boxV 3 _ rfl w (Below.refl _ _), fun i => frozenW k.boxV i w (Below.refl _ _)⟩
theorem QV.cellP {b B : Nat} {a : Option Addr} {len cap : Nat} {w0 : World} {P V : Nat} {y : Ak} {v : Value} {w : World} (k : QV b B a len cap w0 P V y v w) : w.cell? ⟨P, 0, none⟩ = some (.int .i64 0) ∧ w.cell? ⟨P, 1, none⟩ = some (.int .i64 0) ∧ w.cell? ⟨P, 2, none⟩ = some (.int .i64 0) ∧ w.cell? ⟨P, 3, none⟩ = some (.slice none 0 0) ∧ ∀ i, w.frozen? ⟨P, i, none⟩ = false :=
  ⟨cellW k.boxP 0 _ rfl w (Below.refl _ _), cellW k.boxP 1 _ rfl w (Below.refl _ _), cellW k.boxP 2 _ rfl w (Below.refl _ _), cellW k.boxP 3 _ rfl w (Below.refl _ _), fun i => frozenW k.boxP i w (Below.refl _ _)⟩
theorem QV.set {b B : Nat} {a : Option Addr} {len cap : Nat} {w0 : World} {P V : Nat} {y : Ak} {v : Value} {w : World} (k : QV b B a len cap w0 P V y v w) (i : Nat) (x : Value) (y' : Ak) (v' : Value) (hc : (#[.int .i64 y.c, .int .i64 y.a, .int .i64 y.m, v] : Array Value).setIfInBounds i x = #[.int .i64 y'.c, .int .i64 y'.a, .int .i64 y'.m, v']) (hr : OwnI w (V + 1) v' y'.vs) : QV b B a len cap w0 P V y' v' (w.setCell ⟨V, i, none⟩ x) := by
  have h1 := k.bP
  have h2 := k.wP
  have h3 := k.PV
  refine ⟨k.dr.set (by omega) (by omega) _ _, ?_, ?_, hr.farQ (by show V < V + 1; omega) _, h1, h2, h3⟩
  · rw [← hc]; exact Joins.block_setCell k.boxV x
  · exact (Below.heap_setCell _ _ _ _ (by show P ≠ V; omega)).trans k.boxP
theorem QV.setM {b B : Nat} {a : Option Addr} {len cap : Nat} {w0 : World} {P V : Nat} {y : Ak} {v : Value} {w : World} (k : QV b B a len cap w0 P V y v w) (n : Int) : QV b B a len cap w0 P V { y with m := n } v (w.setCell ⟨V, 2, none⟩ (.int .i64 n)) := k.set 2 _ _ _ rfl k.row
theorem QV.setC {b B : Nat} {a : Option Addr} {len cap : Nat} {w0 : World} {P V : Nat} {y : Ak} {v : Value} {w : World} (k : QV b B a len cap w0 P V y v w) (n : Int) : QV b B a len cap w0 P V { y with c := n } v (w.setCell ⟨V, 0, none⟩ (.int .i64 n)) := k.set 0 _ _ _ rfl k.row
theorem QV.setA {b B : Nat} {a : Option Addr} {len cap : Nat} {w0 : World} {P V : Nat} {y : Ak} {v : Value} {w : World} (k : QV b B a len cap w0 P V y v w) (n : Int) : QV b B a len cap w0 P V { y with a := n } v (w.setCell ⟨V, 1, none⟩ (.int .i64 n)) := k.set 1 _ _ _ rfl k.row
theorem QV.setW {b B : Nat} {a : Option Addr} {len cap : Nat} {w0 : World} {P V : Nat} {y : Ak} {v : Value} {w : World} (k : QV b B a len cap w0 P V y v w) (l : List Int) (v' : Value) (hr : OwnI w (V + 1) v' l) : QV b B a len cap w0 P V { y with vs := l } v' (w.setCell ⟨V, 3, none⟩ v') := k.set 3 _ _ _ rfl hr
theorem QV.grown {b B : Nat} {a : Option Addr} {len cap : Nat} {w0 : World} {P V : Nat} {y : Ak} {v : Value} {w : World} {w' : World} (k : QV b B a len cap w0 P V y v w) (gr : w.grownBy w' v.ownBlock) {l : List Int} {v' : Value} (hr : OwnI w' (V + 1) v' l) : ∃ hk : Below (V + 1) w w', QV b B a len cap w0 P V { y with vs := l } v' (w'.setCell ⟨V, 3, none⟩ v') := by
  have h1 := k.bP
  have h2 := k.wP
  have h3 := k.PV
  have hb : Below (V + 1) w w' := (Below.refl _ _).grown gr k.base (fun j e => (World.ownsRow.lt k.row j e).1)
  have hd : Dr b B a len cap w0 w' := ⟨k.dr.src.of_block (hb.block b (by omega)), Rb_blw k.dr.rb (hb.mono (by have := k.dr.le; omega)), ⟨hb.os.trans k.dr.grb.os, hb.tape.trans k.dr.grb.tape, hb.output.trans k.dr.grb.output, Nat.le_trans k.dr.grb.size hb.size, fun i hi hib => (hb.block i (by omega)).trans (k.dr.grb.block i hi hib)⟩, Nat.lt_of_lt_of_le k.dr.lt hb.size, k.dr.le⟩
  refine ⟨hb, hd.set (by omega) (by omega) _ _, ?_, ?_, hr.farQ (by show V < V + 1; omega) _, h1, h2, h3⟩
  · exact Joins.block_setCell ((hb.block V (by omega)).trans k.boxV) v'
  · exact (Below.heap_setCell _ _ _ _ (by show P ≠ V; omega)).trans ((hb.block P (by omega)).trans k.boxP)
/-- something that may be said was drawn -/
def PAsk (b B : Nat) (a : Option Addr) (len cap : Nat) (w0 : World) (x : Ending) (w' : World) : Prop := ∃ (y : Ak) (p : Option Addr) (c g : Nat), x = .returned (.agg #[.int .i64 y.c, .int .i64 y.a, .int .i64 y.m, .slice p y.vs.length c]) ∧ OwnI w' g (.slice p y.vs.length c) y.vs ∧ w0.heap.size ≤ g ∧ y.vs.length ≤ 30 ∧ Dr b B a len cap w0 w'
/-- where the draw stands -/
def QAsk (b B : Nat) (a : Option Addr) (len cap : Nat) (w0 : World) (P V n : Nat) (wx : World) : Prop := ∃ (y : Ak) (p : Option Addr) (c : Nat), Hid (QV b B a len cap w0 P V y (.slice p y.vs.length c) wx) ∧ y.vs.length ≤ n
theorem QAsk.mk {b B : Nat} {a : Option Addr} {len cap : Nat} {w0 : World} {P V : Nat} {y : Ak} {v : Value} {w : World} {n : Nat} (k : QV b B a len cap w0 P V y v w) (h1 : y.vs.length ≤ n) : QAsk b B a len cap w0 P V n w := by
  obtain ⟨p, c, rfl⟩ := k.row.shape
  exact ⟨y, p, c, k, h1⟩
theorem PAsk.mk {b B : Nat} {a : Option Addr} {len cap : Nat} {w0 : World} {P V : Nat} {y : Ak} {p : Option Addr} {c : Nat} {w w' : World} (k : QV b B a len cap w0 P V y (.slice p y.vs.length c) w) (h1 : y.vs.length ≤ 30) (hw : Dr b B a len cap w0 w') (hk : ∀ g, V + 1 ≤ g → g < w.heap.size → w'.heap[g]? = w.heap[g]?) : PAsk b B a len cap w0 (.returned (.agg #[.int .i64 y.c, .int .i64 y.a, .int .i64 y.m, .slice p y.vs.length c])) w' :=
  ⟨y, p, c, V + 1, rfl, k.row.keptH hk, by have := k.wP; have := k.PV; omega, h1, hw⟩

end Go.Proofs.Ytfpibedloodjlaa
