/- STAMPS over numbers: right, and below. -/
import Derived.WalkKit
namespace Go.Proofs.Ytineecongiplgaa
set_option linter.unusedVariables false
set_option linter.unusedSimpArgs false

def timeB (n : Int) : Bool := decide (0 ≤ n) && decide (n ≤ 1000000)
def addrB (n : Int) : Bool := decide (1 ≤ n) && decide (n ≤ 8)
def wordB (n : Int) : Bool := decide (0 ≤ n) && decide (n ≤ 65535)
/-- a stamp -/
structure St where
  g : Int
  o : Int
  b : Int
  h : Int
def St.none (s : St) : Bool := s.g == 0 && (s.o == 0 && (s.b == 0 && s.h == 0))
def St.same (s t : St) : Bool := s.g == t.g && (s.o == t.o && (s.b == t.b && s.h == t.h))
def St.right (s : St) : Bool := if s.o = 0 then s.none else addrB s.o && (timeB s.g && (timeB s.b && timeB s.h))
def St.lt (s t : St) : Bool :=
  if s.g ≠ t.g then decide (s.g < t.g) else if s.o ≠ t.o then decide (s.o < t.o) else if s.b ≠ t.b then decide (s.b < t.b) else decide (s.h < t.h)
def St.less (s t : St) : Bool := s.right && (t.right && s.lt t)
theorem St.same_iff (s t : St) : s.same t = true ↔ s = t := by
  cases s; cases t
  simp [St.same]
theorem St.lt_same {s t : St} (h : s.same t = true) : s.lt t = false := by
  rw [St.same_iff] at h
  subst h
  simp [St.lt]
theorem St.none_o {s : St} (hr : s.right = true) : s.none = decide (s.o = 0) := by
  unfold St.right at hr
  by_cases h : s.o = 0
  · rw [if_pos h] at hr; simp [hr, h]
  · simp [St.none, h]
/-- of two right ones that are not the same just one is below the other -/
theorem St.less_one {s t : St} (h1 : s.right = true) (h2 : t.right = true) (h : s.same t = false) : s.less t = !t.less s := by
  unfold St.less
  rw [h1, h2]
  simp only [Bool.true_and]
  unfold St.lt
  unfold St.same at h
  simp only [Bool.and_eq_false_iff, beq_eq_false_iff_ne, ne_eq] at h
  by_cases e1 : s.g = t.g
  · by_cases e2 : s.o = t.o
    · by_cases e3 : s.b = t.b
      · simp [e1, e2, e3] at h ⊢
        by_cases e4 : s.h < t.h <;> simp [e4] <;> omega
      · have e3' : ¬ t.b = s.b := fun e => e3 e.symm
        simp [e1, e2, e3, e3']
        by_cases e4 : s.b < t.b <;> simp [e4] <;> omega
    · have e2' : ¬ t.o = s.o := fun e => e2 e.symm
      simp [e1, e2, e2']
      by_cases e4 : s.o < t.o <;> simp [e4] <;> omega
  · have e1' : ¬ t.g = s.g := fun e => e1 e.symm
    simp [e1, e1']
    by_cases e4 : s.g < t.g <;> simp [e4] <;> omega
theorem St.lt_iff (s t : St) : s.lt t = true ↔ s.g < t.g ∨ (s.g = t.g ∧ (s.o < t.o ∨ (s.o = t.o ∧ (s.b < t.b ∨ (s.b = t.b ∧ s.h < t.h))))) := by
  unfold St.lt
  by_cases e1 : s.g = t.g
  · by_cases e2 : s.o = t.o
    · by_cases e3 : s.b = t.b
      · simp [e1, e2, e3]
      · simp [e1, e2, e3]
    · simp [e1, e2]
  · simp [e1]
/-- what is below what is below is below -/
theorem St.less_trans {s t u : St} (h1 : s.less t = true) (h2 : t.less u = true) : s.less u = true := by
  unfold St.less at h1 h2 ⊢
  simp only [Bool.and_eq_true] at h1 h2 ⊢
  refine ⟨h1.1, h2.2.1, ?_⟩
  have a := (St.lt_iff s t).1 h1.2.2
  have b := (St.lt_iff t u).1 h2.2.2
  rw [St.lt_iff]
  omega
end Go.Proofs.Ytineecongiplgaa
