/- A STATION'S OWN LISTS MARKED, and still marked. Written by mkstnh.py. -/
import Derived.Test.YtklpaleghanhhaaQdStnY
namespace Go.Proofs.Ytklpaleghanhhaa
open Go.RowKit
set_option linter.unusedVariables false
set_option linter.unusedSimpArgs false

/-- a station's own lists, each in its stretch, all of them below a top -/
structure OwnStnB (w : World) (base top : Nat) (v1 v2 v3 v4 : Value) (s : Stn) : Prop where
  le : top ≤ w.heap.size
  all : ∃ l1 h1 l2 h2 l3 h3 l4 h4, (base ≤ l1 ∧ base ≤ l2 ∧ base ≤ l3 ∧ base ≤ l4) ∧ (h1 ≤ top ∧ h2 ≤ top ∧ h3 ≤ top ∧ h4 ≤ top) ∧
    OwnIB w l1 h1 v1 s.kn ∧ OwnIB w l2 h2 v2 s.ws ∧ OwnGB w l3 h3 v3 s.gs ∧ OwnTB w l4 h4 v4 s.os ∧
    (h1 ≤ l2 ∨ h2 ≤ l1) ∧ (h1 ≤ l3 ∨ h3 ≤ l1) ∧ (h1 ≤ l4 ∨ h4 ≤ l1) ∧ (h2 ≤ l3 ∨ h3 ≤ l2) ∧ (h2 ≤ l4 ∨ h4 ≤ l2) ∧ (h3 ≤ l4 ∨ h4 ≤ l3)
theorem OwnStn.top {w : World} {base : Nat} {v1 v2 v3 v4 : Value} {s : Stn} (h : OwnStn w base v1 v2 v3 v4 s) : OwnStnB w base w.heap.size v1 v2 v3 v4 s := ⟨Nat.le_refl _, h.all⟩
theorem OwnStnB.stn {w : World} {base top : Nat} {v1 v2 v3 v4 : Value} {s : Stn} (h : OwnStnB w base top v1 v2 v3 v4 s) : OwnStn w base v1 v2 v3 v4 s := by
  obtain ⟨l1, h1, l2, h2, l3, h3, l4, h4, hl, hh, r⟩ := h.all
  have := h.le
  exact ⟨l1, h1, l2, h2, l3, h3, l4, h4, hl, ⟨by omega, by omega, by omega, by omega⟩, r⟩
theorem OwnStnB.same {w w' : World} {base top : Nat} {v1 v2 v3 v4 : Value} {s : Stn} (h : OwnStnB w base top v1 v2 v3 v4 s) (hs : Same w w' base top) (hz : w.heap.size ≤ w'.heap.size) : OwnStnB w' base top v1 v2 v3 v4 s := by
  obtain ⟨l1, h1, l2, h2, l3, h3, l4, h4, hl, hh, o1, o2, o3, o4, d⟩ := h.all
  have := h.le
  exact ⟨by omega, l1, h1, l2, h2, l3, h3, l4, h4, hl, hh, o1.same (fun k a b => hs k (by omega) (by omega)), o2.same (fun k a b => hs k (by omega) (by omega)), o3.same (fun k a b => hs k (by omega) (by omega)), o4.same (fun k a b => hs k (by omega) (by omega)), d⟩
theorem OwnStnB.below {w w' : World} {base top : Nat} {v1 v2 v3 v4 : Value} {s : Stn} (h : OwnStnB w base top v1 v2 v3 v4 s) (hb : Below w.heap.size w w') : OwnStnB w' base top v1 v2 v3 v4 s := h.same (Same.below hb h.le) hb.size
/-- how many marks a station takes -/
def Stn.cnt (s : Stn) : Int := (s.kn.length : Int) + (s.ws.length : Int) + ((s.gs.length : Int) + (wsum s.gs : Int)) + (s.os.length : Int)
def Stn.marked (s : Stn) : Stn := { s with kn := countK 1 s.kn.length, ws := countK (1 + (s.kn.length : Int)) s.ws.length, gs := markG (1 + (s.kn.length : Int) + (s.ws.length : Int)) s.gs, os := marksK (1 + s.kn.length + s.ws.length + (s.gs.length + wsum s.gs)) s.os.length }
end Go.Proofs.Ytklpaleghanhhaa
