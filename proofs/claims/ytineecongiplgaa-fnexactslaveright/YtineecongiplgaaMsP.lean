/- CHAPTER 10 over lists: what a slave keeps, and a right one. -/
import Derived.Test.YtineecongiplgaaRecO
import Derived.Test.YtineecongiplgaaLet
import Derived.Test.YtineecongiplgaaTab
namespace Go.Proofs.Ytineecongiplgaa
set_option linter.unusedVariables false
set_option linter.unusedSimpArgs false

/-- answers that rise, above a number -/
def riseD (lo : Int) : List Dn → Bool
  | [] => true
  | d :: l => decide (lo < d.i) && (decide (d.i ≤ 1000000) && (bodyB d.a && riseD d.i l))
def Slv.right (s : Slv) : Bool := s.t.right && (timeB s.lo && (timeB s.ru && (riseD s.lo s.cs && decide (s.cs.length ≤ 4))))
/-- the number ahead of place k -/
def lastD (lo : Int) (l : List Dn) (k : Nat) : Int := if k = 0 then lo else (l.getD (k - 1) ⟨0, ByteArray.empty⟩).i
theorem lastD_zero (lo : Int) (l : List Dn) : lastD lo l 0 = lo := rfl
theorem lastD_succ (lo : Int) (l : List Dn) (k : Nat) (h : k < l.length) : lastD lo l (k + 1) = l[k].i := by
  unfold lastD
  rw [if_neg (by omega), Nat.add_sub_cancel, List.getD_eq_getElem?_getD, List.getElem?_eq_getElem h]
  rfl
theorem riseD_drop {lo : Int} {l : List Dn} {k : Nat} (h : k < l.length) : riseD (lastD lo l k) (l.drop k) = (decide (lastD lo l k < l[k].i) && (decide (l[k].i ≤ 1000000) && (bodyB l[k].a && riseD (lastD lo l (k + 1)) (l.drop (k + 1))))) := by
  rw [List.drop_eq_getElem_cons h, lastD_succ lo l k h]
  rfl
end Go.Proofs.Ytineecongiplgaa
