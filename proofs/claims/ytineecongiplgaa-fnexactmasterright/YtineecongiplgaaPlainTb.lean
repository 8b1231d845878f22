/- CHAPTER 6 over lists: tables. -/
import Derived.Test.YtineecongiplgaaPlainBits
import Derived.Test.YtineecongiplgaaPlainSt
namespace Go.Proofs.Ytineecongiplgaa
open Go.RowKit
set_option linter.unusedVariables false
set_option linter.unusedSimpArgs false

/-- a table -/
structure Tb where
  cs : List Int
  rs : List Int
def Tb.right (t : Tb) : Bool := (decide (t.cs.length ≤ 24) && t.cs.all bitB) && (decide (t.rs.length ≤ 12) && t.rs.all wordB)
theorem Tb.right_iff (t : Tb) : t.right = true ↔ (t.cs.length ≤ 24 ∧ t.cs.all bitB = true) ∧ t.rs.length ≤ 12 ∧ t.rs.all wordB = true := by
  unfold Tb.right
  rw [Bool.and_eq_true, Bool.and_eq_true, Bool.and_eq_true, decide_eq_true_eq, decide_eq_true_eq]
def zeroT : Tb := ⟨[], []⟩
def newT (c r : Int) : Tb := if (0 ≤ c ∧ c ≤ 24) ∧ 0 ≤ r ∧ r ≤ 12 then ⟨List.replicate c.toNat 0, List.replicate r.toNat 0⟩ else zeroT
theorem newT_len (c r : Int) : (newT c r).cs.length ≤ 24 ∧ (newT c r).rs.length ≤ 12 := by
  unfold newT
  by_cases h : (0 ≤ c ∧ c ≤ 24) ∧ 0 ≤ r ∧ r ≤ 12
  · rw [if_pos h]; simp; omega
  · rw [if_neg h]; simp [zeroT]
def goodB (s : ByteArray) : Bool := (decide (1 ≤ s.size) && decide (s.size ≤ 8000)) && decide (byteAt s 0 < 128)
end Go.Proofs.Ytineecongiplgaa
