/- THE WALK of what others told all, right: the model's. Written by mkstns.py. -/
import Derived.Test.YtklpaleghanhhaaQdStnS
namespace Go.Proofs.Ytklpaleghanhhaa
open Go.RowKit
set_option linter.unusedVariables false
set_option linter.unusedSimpArgs false

theorem rowG_at {w : World} {v : Value} {gs : List (Int × List Int)} (h : RowG w v gs) (hn : 0 < gs.length) : ∃ g c, v = .slice (some ⟨g, 0, none⟩) gs.length c ∧ ∀ j (hj : j < gs.length), (∀ W, Below w.heap.size w W → W.cell? ⟨g, j * 2, none⟩ = some (.int .i64 gs[j].1)) ∧ ∃ pu cu, (∀ W, Below w.heap.size w W → W.cell? ⟨g, j * 2 + 1, none⟩ = some (.slice pu gs[j].2.length cu)) ∧ RowI w (.slice pu gs[j].2.length cu) gs[j].2 := by
  obtain ⟨p, c, rfl, h⟩ := h
  obtain ⟨g, _, rfl, _, _⟩ := h 0 hn
  refine ⟨g, c, rfl, fun j hj => ?_⟩
  obtain ⟨g', u, e', hl, q1, q2, hu⟩ := h j hj
  cases e'
  have hu' := hu
  obtain ⟨pu, cu, rfl, _⟩ := hu
  exact ⟨fun W hW => (hW.cell (p := ⟨g, j * 2, none⟩) hl).trans q1, pu, cu, fun W hW => (hW.cell (p := ⟨g, j * 2 + 1, none⟩) hl).trans q2, hu'⟩
end Go.Proofs.Ytklpaleghanhhaa
