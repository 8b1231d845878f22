/- WHAT IS TOLD ALL: what is given back is short. -/
import Derived.Test.YtggdjiijcoklgaaQPubS
import Derived.Test.YtggdjiijcoklgaaQQueI
import Derived.Test.YtggdjiijcoklgaaQQueS
namespace Go.Proofs.Ytggdjiijcoklgaa
set_option linter.unusedVariables false
theorem wsum_mul : ∀ (gs : List (Int × List Int)), (∀ g ∈ gs, g.2.length ≤ 1000) → wsum gs ≤ 1000 * gs.length
  | [], _ => by simp [wsum]
  | g :: gs, h => by
    have ih := wsum_mul gs (fun x hx => h x (List.mem_cons_of_mem _ hx))
    have h1 := h g List.mem_cons_self
    have e : wsum (g :: gs) = g.2.length + wsum gs := by simp [wsum]
    rw [e, List.length_cons]
    omega
theorem small_cnt {s : Stn} (h : s.small) : s.cnt ≤ 1048576 := by
  have h1 := h.kn
  have h2 := h.ws
  have h3 := h.gs
  have h4 := h.os
  have h5 := wsum_mul s.gs h.gw
  unfold Stn.cnt
  omega
theorem pub_small (s : Stn) (zs : List Int) : (pubStn s zs).small := by
  unfold pubStn
  by_cases h : pubCode s zs = 0
  · rw [if_pos h]
    unfold pubCode at h
    by_cases h4 : 400 < zs.length
    · rw [if_pos h4] at h; cases h
    · rw [if_neg h4] at h
      cases hr : s.right with
      | false => rw [hr] at h; simp at h
      | true =>
        have := right_small hr
        exact ⟨this.kn, by simp only; omega, this.gs, this.gw, this.os, this.ob⟩
  · rw [if_neg h]
    exact ⟨by simp [newS], by simp [newS], by simp [newS], fun g hg => by simp [newS] at hg, by simp [newS], fun b hb => by simp [newS] at hb⟩
end Go.Proofs.Ytggdjiijcoklgaa
/- A TEXT PUT OUT: what is given back is short. -/
namespace Go.Proofs.Ytggdjiijcoklgaa
set_option linter.unusedVariables false
theorem que_small (s : Stn) (b : ByteArray) : (queStn s b).small := by
  unfold queStn
  by_cases h : queCode s b = 0
  · rw [if_pos h]
    unfold queCode at h
    by_cases h4 : 8000 < b.size
    · rw [if_pos h4] at h; cases h
    · rw [if_neg h4] at h
      cases hr : s.right with
      | false => rw [hr] at h; simp at h
      | true =>
        have hs := right_small hr
        have ho := right_outs hr
        exact ⟨hs.kn, hs.ws, hs.gs, hs.gw, by simp only [List.length_append, List.length_singleton]; omega, fun x hx => by
          simp only [List.mem_append, List.mem_singleton] at hx
          rcases hx with hx | rfl
          · exact hs.ob x hx
          · rw [hr, Bool.true_and] at h
            cases hq : bodyQ x with
            | false => rw [hq] at h; simp at h
            | true =>
              unfold bodyQ at hq
              rw [Bool.and_eq_true] at hq
              have := of_decide_eq_true hq.2
              omega⟩
  · rw [if_neg h]
    exact ⟨by simp [newS], by simp [newS], by simp [newS], fun g hg => by simp [newS] at hg, by simp [newS], fun b hb => by simp [newS] at hb⟩
end Go.Proofs.Ytggdjiijcoklgaa
