/- THE WALKS of a station's parts: the model's. Written by mkstns.py. -/
import Derived.Test.YtklpaleghanhhaaQdPlainTb
import Derived.Test.YtklpaleghanhhaaQdStL
import Derived.Test.YtklpaleghanhhaaQdSay
import Derived.Test.YtklpaleghanhhaaQdTail
import Derived.Deep.RegionHeld3
import Derived.Deep.RegionWith
import Derived.Deep.DeepCutAuto
namespace Go.Proofs.Ytklpaleghanhhaa
open Go.RowKit
set_option linter.unusedVariables false
set_option linter.unusedSimpArgs false

theorem rowI_at {w : World} {v : Value} {zs : List Int} (h : RowI w v zs) (hn : 0 < zs.length) : ∃ g c, v = .slice (some ⟨g, 0, none⟩) zs.length c ∧ ∀ j (hj : j < zs.length), ∀ W, Below w.heap.size w W → W.cell? ⟨g, j, none⟩ = some (.int .i64 zs[j]) := by
  obtain ⟨p, c, rfl, h⟩ := h
  obtain ⟨g, rfl, _, _⟩ := h 0 hn
  refine ⟨g, c, rfl, fun j hj W hW => ?_⟩
  obtain ⟨g', e', hl, q⟩ := h j hj
  cases e'
  exact (hW.cell (p := ⟨g, j, none⟩) hl).trans q
theorem wrapS (n : Nat) (h : n < 9223372036854775808) : IntKind.i64.wrap (n : Int) = (n : Int) := by
  have e : (n : Int) % 2 ^ 64 = n := Int.emod_eq_of_lt (by omega) (by omega)
  simp only [IntKind.wrap, IntKind.bits, IntKind.signed, e]
  rw [if_neg]
  simp
  omega
theorem int_pred (k : Nat) (h : 0 < k) : ((k : Int) - 1).toNat = k - 1 := by omega
end Go.Proofs.Ytklpaleghanhhaa
