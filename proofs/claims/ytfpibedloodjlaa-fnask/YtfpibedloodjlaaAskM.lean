/- HOW MANY VALUES are read at most. -/
import Derived.Test.YtfpibedloodjlaaAskP
namespace Go.Proofs.Ytfpibedloodjlaa
open Go.RowKit
theorem outA_len (s : ByteArray) : (outA s).1.vs.length ≤ 10000 := by
  unfold outA
  by_cases h8 : 8000 < s.size
  · rw [if_pos h8]; decide
  · rw [if_neg h8]
    by_cases h5 : s.size < 5
    · rw [if_pos h5]; decide
    · rw [if_neg h5]
      unfold outOf
      by_cases h : (readS s).right = true ∧ askB (readS s) = s
      · rw [if_pos h]; exact readS_len s (by omega)
      · rw [if_neg h]; decide
end Go.Proofs.Ytfpibedloodjlaa
