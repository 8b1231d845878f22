/- WHAT A STATION WILL TELL ALL: the program's and the model's. Written by mkpub.py. -/
import Derived.Test.YtggdjiijcoklgaaQCopyL
import Derived.Test.YtggdjiijcoklgaaQStnC
import Derived.Test.YtggdjiijcoklgaaQNewS
namespace Go.Proofs.Ytggdjiijcoklgaa
open Go.RowKit
set_option linter.unusedVariables false
set_option linter.unusedSimpArgs false

theorem right_small {s : Stn} (h : s.right = true) : s.small := by
  have hg := right_globs h
  have h8 := right_eight h
  have hw := right_words h
  unfold Stn.right at h
  simp only [Bool.and_eq_true] at h
  obtain ⟨_, _, _, _, _, _, _, ho, hws, _, hos⟩ := h
  have hk := others_len ho
  unfold wordsQ at hws
  rw [Bool.and_eq_true] at hws
  have hw2 := of_decide_eq_true hws.1
  unfold outB at hos
  rw [Bool.and_eq_true] at hos
  have ho2 := of_decide_eq_true hos.2
  refine ⟨by omega, by omega, by omega, fun g hg => by have := hw g hg; omega, by omega, fun b hb => ?_⟩
  have := (List.all_eq_true.1 hos.1) b hb
  unfold bodyQ at this
  rw [Bool.and_eq_true] at this
  have := of_decide_eq_true this.2
  omega
def pubCode (s : Stn) (zs : List Int) : Int := if 400 < zs.length then 2 else if s.right && wordsQ zs then 0 else 1
def pubStn (s : Stn) (zs : List Int) : Stn := if pubCode s zs = 0 then { s with ws := zs } else newS 0 0
theorem pub_ok {s : Stn} {zs : List Int} (h1 : s.right = true) (h2 : wordsQ zs = true) (h3 : ¬ 400 < zs.length) : pubCode s zs = 0 ∧ pubStn s zs = { s with ws := zs } := by
  have e : pubCode s zs = 0 := by unfold pubCode; rw [if_neg h3, h1, h2]; rfl
  exact ⟨e, by unfold pubStn; rw [if_pos e]⟩
theorem pub_bad {s : Stn} {zs : List Int} (h1 : (s.right && wordsQ zs) = false) (h3 : ¬ 400 < zs.length) : pubCode s zs = 1 ∧ pubStn s zs = newS 0 0 := by
  have e : pubCode s zs = 1 := by unfold pubCode; rw [if_neg h3, h1]; rfl
  exact ⟨e, by unfold pubStn; rw [if_neg (by omega)]⟩
theorem pub_long {s : Stn} {zs : List Int} (h3 : 400 < zs.length) : pubCode s zs = 2 ∧ pubStn s zs = newS 0 0 := by
  have e : pubCode s zs = 2 := by unfold pubCode; rw [if_pos h3]
  exact ⟨e, by unfold pubStn; rw [if_neg (by omega)]⟩
theorem OwnStn.mono {w : World} {base b : Nat} {v1 v2 v3 v4 : Value} {s : Stn} (h : OwnStn w base v1 v2 v3 v4 s) (hb : b ≤ base) : OwnStn w b v1 v2 v3 v4 s := by
  obtain ⟨l1, h1, l2, h2, l3, h3, l4, h4, ⟨a1, a2, a3, a4⟩, r⟩ := h.all
  exact ⟨l1, h1, l2, h2, l3, h3, l4, h4, ⟨by omega, by omega, by omega, by omega⟩, r⟩
end Go.Proofs.Ytggdjiijcoklgaa
