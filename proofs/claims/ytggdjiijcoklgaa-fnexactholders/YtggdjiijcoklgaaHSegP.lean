/- A RIGHT SEGMENT, over lists. Written by mksegi.py. -/
import Derived.Test.YtggdjiijcoklgaaHSegG
import Derived.Test.YtggdjiijcoklgaaHKeep
namespace Go.Proofs.Ytggdjiijcoklgaa
set_option linter.unusedVariables false
set_option linter.unusedSimpArgs false

def noteB (n : Nt) : Bool := addrB n.f && (addrB n.t && bodyQ n.b)
def notesB (ns : List Nt) : Bool := decide (ns.length ≤ 20) && ns.all noteB
def riseF (l : List Int) (k : Nat) : Bool := decide ((0 :: l).getD k 0 < l.getD k 0)
def riseQ (l : List Int) : Bool := (List.range l.length).all (riseF l)
def Seg.right (s : Seg) : Bool := decide (1 ≤ s.ss.length) && (decide (s.ss.length ≤ 4) && (decide (s.us.length = s.ss.length) && (notesB s.ns && (s.ss.all Stn.right && riseQ (s.ss.map Stn.ad)))))
theorem allSeg_no {α : Type} {l : List α} {f : α → Bool} {k : Nat} (h : k < l.length) (hk : f l[k] = false) : l.all f = false := by
  rw [Bool.eq_false_iff]
  intro h1
  rw [List.all_eq_true] at h1
  rw [h1 _ (List.getElem_mem h)] at hk
  cases hk
theorem allSeg_more {α : Type} {l : List α} {f : α → Bool} {k : Nat} (h : k < l.length) (ha : (l.take k).all f = true) (hk : f l[k] = true) : (l.take (k + 1)).all f = true := by
  rw [List.take_succ_eq_append_getElem h, List.all_append, ha, Bool.true_and]
  simp [hk]
theorem riseF_at (l : List Int) (k : Nat) (h : k < l.length) : riseF l k = decide ((0 :: l).getD k 0 < l[k]) := by
  unfold riseF
  rw [getD_at l 0 h]
end Go.Proofs.Ytggdjiijcoklgaa
