/- A NEW SEGMENT is small. -/
import Derived.Test.YtimocipgikefoaaQnSegY
import Derived.Test.YtimocipgikefoaaQnSegA
namespace Go.Proofs.Ytimocipgikefoaa
open Go.RowKit
set_option linter.unusedVariables false
set_option linter.unusedSimpArgs false

theorem tot_newS (a b : Int) : (newS a b).tot = 0 := rfl
theorem cnt_newS (a b : Int) : (newS a b).cnt = 0 := rfl
theorem ssum_new (zs : List Int) : ssum (zs.map fun a => newS a 0) = 0 := by
  induction zs with
  | nil => rfl
  | cons a l ih =>
    unfold ssum at ih ⊢
    rw [List.map_cons, List.map_cons, List.sum_cons, ih, tot_newS]
    rfl
theorem snSeg_small (zs : List Int) : (snSeg zs).tot ≤ 1048576 ∧ 1 + (snSeg zs).cnt ≤ 4900000 := by
  unfold snSeg
  by_cases h : snCode zs = 0
  · rw [if_pos h]
    have hl : zs.length ≤ 4 := by
      unfold snCode at h
      by_cases h4 : 400 < zs.length
      · rw [if_pos h4] at h; cases h
      · rw [if_neg h4] at h
        by_cases hn : newOK zs = true
        · unfold newOK at hn
          simp only [Bool.and_eq_true, decide_eq_true_eq] at hn
          exact hn.2.1
        · rw [if_neg hn] at h; cases h
    have ht : (segNew zs).tot = 2 * (zs.length : Int) := by
      unfold Seg.tot segNew
      show (((zs.map fun a => newS a 0).length : Int) + ssum (zs.map fun a => newS a 0) + ((zs.map fun _ => true).length : Int) + ((([] : List Nt).length : Int) + nsum [])) = _
      rw [ssum_new, List.length_map, List.length_map]
      show _ + 0 + _ + (0 + 0) = _
      omega
    have hm := (msum_le (segNew zs).ss).2
    rw [show (segNew zs).ss = zs.map fun a => newS a 0 from rfl, ssum_new, List.length_map] at hm
    have hc : (segNew zs).cnt ≤ 16 * (zs.length : Int) := by
      unfold Seg.cnt
      rw [show (segNew zs).ss = zs.map fun a => newS a 0 from rfl, show (segNew zs).us = zs.map fun _ => true from rfl, List.length_map, show (segNew zs).ns = [] from rfl, List.length_nil]
      omega
    rw [ht]
    omega
  · rw [if_neg h]
    exact ⟨of_decide_eq_true rfl, of_decide_eq_true rfl⟩
end Go.Proofs.Ytimocipgikefoaa
