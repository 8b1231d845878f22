/- THE WALK of a right station: the model's. Written by mkstnu.py. -/
import Derived.Test.YtklpaleghanhhaaQdStnT
import Derived.Test.YtklpaleghanhhaaQdOutS
namespace Go.Proofs.Ytklpaleghanhhaa
open Go.RowKit
set_option linter.unusedVariables false
set_option linter.unusedSimpArgs false

/-- right, in the model's order -/
def specQ (A1 T1 T2 T3 I1 I2 R1 R2 L : Bool) (o st he ad : Int) (AH K G W O : Bool) : Bool :=
  A1 && (T1 && (T2 && (T3 && (I1 && (I2 && (R1 && (R2 && (!L && (decide ((o == 0) = (st == 0)) && (!((decide (st = 2) && (!AH || decide (he = ad))) || (!decide (st = 2) && !decide (he = 0))) && (K && (G && (W && O)))))))))))))
theorem right_spec (s : Stn) : s.right = specQ (addrB s.ad) (timeB s.bo) (timeB s.qu) (timeB s.tr) (decide (0 ≤ s.st) && decide (s.st ≤ 2)) (decide (0 ≤ s.po) && decide (s.po ≤ 8)) s.s.right s.t.right (s.t.lt s.s) s.s.o s.st s.he s.ad (addrB s.he) (othersB s.ad s.kn) (globsB s.ad s.gs) (wordsQ s.ws) (outB s.os) := by
  unfold Stn.right tokB stateB specQ St.less
  cases h1 : s.s.right with
  | false => simp
  | true =>
    cases h2 : s.t.right with
    | false => simp
    | true =>
      rw [St.none_o h1]
      cases hL : s.t.lt s.s with
      | true => simp
      | false =>
        generalize addrB s.ad = A1
        generalize timeB s.bo = T1
        generalize timeB s.qu = T2
        generalize timeB s.tr = T3
        generalize addrB s.he = AH
        generalize othersB s.ad s.kn = K
        generalize globsB s.ad s.gs = G
        generalize wordsQ s.ws = W
        generalize outB s.os = O
        generalize s.s.o = o
        generalize s.he = he
        generalize s.ad = ad
        generalize s.st = st
        generalize s.po = po
        have e1 : (he == 0) = decide (he = 0) := by rw [Bool.eq_iff_iff]; simp
        have e2 : (he != ad) = !decide (he = ad) := by rw [Bool.eq_iff_iff]; simp
        have e0 : (o == 0) = decide (o = 0) := by rw [Bool.eq_iff_iff]; simp
        rw [e0, e1, e2]
        by_cases h0 : st = 0
        · subst h0
          by_cases ho : o = 0 <;> by_cases hh : he = 0 <;> simp [ho, hh] <;> ac_rfl
        · by_cases h1 : st = 1
          · subst h1
            by_cases ho : o = 0 <;> by_cases hh : he = 0 <;> simp [ho, hh] <;> ac_rfl
          · by_cases h2 : st = 2
            · subst h2
              by_cases ho : o = 0 <;> by_cases hh : he = ad <;> cases AH <;> simp [ho, hh] <;> ac_rfl
            · have hx : ¬ (0 ≤ st ∧ st ≤ 2) := by omega
              have e3 : (decide (0 ≤ st) && decide (st ≤ 2)) = false := by rw [Bool.eq_false_iff]; intro h; simp at h; exact hx h
              simp [h0, h1, h2, e3]
end Go.Proofs.Ytklpaleghanhhaa
