/- THE LAW'S OWN COPY of a segment, whole. Written by mksegt.py. -/
import Derived.Test.YtklpaleghanhhaaQdSegW
import Derived.Test.YtklpaleghanhhaaQdSegE
import Derived.Test.YtklpaleghanhhaaQdOutS
import Derived.Test.YtklpaleghanhhaaQdStnV
namespace Go.Proofs.Ytklpaleghanhhaa
open Go.RowKit
set_option linter.unusedVariables false
set_option linter.unusedSimpArgs false

/-- a segment's own lists, each in its stretch, all of them below a top -/
structure OwnSegB (w : World) (base top : Nat) (v1 v2 v3 : Value) (s : Seg) : Prop where
  le : top ≤ w.heap.size
  all : ∃ l1 h1 l2 h2 l3 h3, (base ≤ l1 ∧ base ≤ l2 ∧ base ≤ l3) ∧ (h1 ≤ top ∧ h2 ≤ top ∧ h3 ≤ top) ∧ OwnStS w l1 h1 v1 s.ss ∧ OwnBS w l2 h2 v2 s.us ∧ OwnNS w l3 h3 v3 s.ns ∧ (h1 ≤ l2 ∨ h2 ≤ l1) ∧ (h1 ≤ l3 ∨ h3 ≤ l1) ∧ (h2 ≤ l3 ∨ h3 ≤ l2)
theorem OwnSegB.same {w w' : World} {base top : Nat} {v1 v2 v3 : Value} {s : Seg} (h : OwnSegB w base top v1 v2 v3 s) (hs : Same w w' base top) (hz : w.heap.size ≤ w'.heap.size) : OwnSegB w' base top v1 v2 v3 s := by
  obtain ⟨l1, h1, l2, h2, l3, h3, hl, hh, o1, o2, o3, d⟩ := h.all
  have := h.le
  exact ⟨by omega, l1, h1, l2, h2, l3, h3, hl, hh, o1.same (fun k a b => hs k (by omega) (by omega)) hz, o2.same (fun k a b => hs k (by omega) (by omega)) hz, o3.same (fun k a b => hs k (by omega) (by omega)) hz, d⟩
theorem OwnSegB.below {w w' : World} {base top : Nat} {v1 v2 v3 : Value} {s : Seg} (h : OwnSegB w base top v1 v2 v3 s) (hb : Below w.heap.size w w') : OwnSegB w' base top v1 v2 v3 s := h.same (Same.below hb h.le) hb.size
theorem OwnSegB.row {w : World} {base top : Nat} {v1 v2 v3 : Value} {s : Seg} (h : OwnSegB w base top v1 v2 v3 s) : RowSeg w v1 v2 v3 s := by
  obtain ⟨l1, h1, l2, h2, l3, h3, hl, hh, o1, o2, o3, d⟩ := h.all
  exact ⟨o1.row, o2.row, o3.row⟩
end Go.Proofs.Ytklpaleghanhhaa
