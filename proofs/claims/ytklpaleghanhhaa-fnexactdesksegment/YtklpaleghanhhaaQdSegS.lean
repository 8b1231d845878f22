/- A RIGHT SEGMENT: the model's. Written by mksegs.py. -/
import Derived.Test.YtklpaleghanhhaaQdSegK
import Derived.Test.YtklpaleghanhhaaQdStnU
namespace Go.Proofs.Ytklpaleghanhhaa
open Go.RowKit
set_option linter.unusedVariables false
set_option linter.unusedSimpArgs false

theorem right_pos {s : Stn} (h : s.right = true) : 0 < s.ad := by
  unfold Stn.right at h
  rw [Bool.and_eq_true] at h
  have := h.1
  unfold addrB at this
  simp at this
  omega
end Go.Proofs.Ytklpaleghanhhaa
