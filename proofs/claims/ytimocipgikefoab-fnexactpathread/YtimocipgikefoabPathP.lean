/- CHAPTER 9 over lists: paths (as tables: the numbers ahead, the numbers behind). -/
import Derived.Test.YtimocipgikefoabPlainTb
namespace Go.Proofs.Ytimocipgikefoab
open Go.RowKit
set_option linter.unusedVariables false
set_option linter.unusedSimpArgs false

def hopsB (l : List Int) : Bool := l.all addrB && decide (l.length ≤ 5)
def Tb.path (t : Tb) : Bool := hopsB (t.cs ++ t.rs)
theorem Tb.path_iff (t : Tb) : t.path = true ↔ (t.cs.all addrB = true ∧ t.rs.all addrB = true) ∧ t.cs.length + t.rs.length ≤ 5 := by
  unfold Tb.path hopsB
  rw [List.all_append, List.length_append]
  simp only [Bool.and_eq_true, decide_eq_true_eq]
theorem Tb.path_spec (t : Tb) : ((hopsB t.cs && hopsB t.rs) && decide (t.cs.length + t.rs.length ≤ 5)) = t.path := by
  rw [Bool.eq_iff_iff, Tb.path_iff]
  unfold hopsB
  simp only [Bool.and_eq_true, decide_eq_true_eq]
  constructor
  · rintro ⟨⟨⟨h1, h2⟩, h3, h4⟩, h5⟩; exact ⟨⟨h1, h3⟩, h5⟩
  · rintro ⟨⟨h1, h3⟩, h5⟩; exact ⟨⟨⟨h1, by omega⟩, h3, by omega⟩, h5⟩
/-- what is answered: the path, who it goes to, the code -/
structure Pout where
  t : Tb
  a : Int
  c : Int
def newP (l : List Int) : Pout := if 400 < l.length then ⟨zeroT, 0, 2⟩ else if l.length < 1 ∨ hopsB l = false then ⟨zeroT, 0, 1⟩ else ⟨⟨l, []⟩, 0, 0⟩
def stepP (t : Tb) (v : Int) : Pout := if t.path = false ∨ addrB v = false then ⟨zeroT, 0, 1⟩ else match t.cs with
  | [] => ⟨zeroT, 0, 6⟩
  | a :: l => ⟨⟨l, v :: t.rs⟩, a, 0⟩
def homeP (t : Tb) : Pout := if t.path = false then ⟨zeroT, 0, 1⟩ else ⟨⟨t.rs, []⟩, 0, 0⟩
theorem newP_len (l : List Int) : (newP l).t.cs.length ≤ 5 ∧ (newP l).t.rs.length ≤ 5 := by
  unfold newP hopsB
  split
  · simp [zeroT]
  · split
    · simp [zeroT]
    · rename_i h
      simp at h
      simp; omega
theorem stepP_len (t : Tb) (v : Int) : (stepP t v).t.cs.length ≤ 5 ∧ (stepP t v).t.rs.length ≤ 6 := by
  unfold stepP
  split
  · simp [zeroT]
  · rename_i h
    have hp : t.path = true := by cases hh : t.path <;> simp_all
    have := ((Tb.path_iff t).1 hp).2
    split
    · simp [zeroT]
    · rename_i a l e
      rw [e] at this
      simp at this ⊢
      omega
theorem homeP_len (t : Tb) : (homeP t).t.cs.length ≤ 5 ∧ (homeP t).t.rs.length ≤ 5 := by
  unfold homeP
  split
  · simp [zeroT]
  · rename_i h
    have hp : t.path = true := by cases hh : t.path <;> simp_all
    have := ((Tb.path_iff t).1 hp).2
    simp; omega
end Go.Proofs.Ytimocipgikefoab
