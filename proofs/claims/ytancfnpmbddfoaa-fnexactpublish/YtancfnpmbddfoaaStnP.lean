/- A STATION over lists: what is right. -/
import Derived.WalkKit
import Derived.Test.YtancfnpmbddfoaaPlainSt
namespace Go.Proofs.Ytancfnpmbddfoaa
set_option linter.unusedVariables false
set_option linter.unusedSimpArgs false

/-- a station -/
structure Stn where
  ad : Int
  bo : Int
  st : Int
  s : St
  t : St
  qu : Int
  tr : Int
  he : Int
  po : Int
  kn : List Int
  ws : List Int
  gs : List (Int × List Int)
  os : List ByteArray
def wordsQ (zs : List Int) : Bool := decide (zs.length ≤ 4) && zs.all wordB
def bodyQ (b : ByteArray) : Bool := decide (1 ≤ b.size) && decide (b.size ≤ 20)
/-- one behind another: it rises, it is an address, it is not one's own -/
def riseB (own last a : Int) : Bool := decide (last < a) && (a != own && addrB a)
def othersF (own : Int) (l : List Int) (k : Nat) : Bool := riseB own ((0 :: l).getD k 0) (l.getD k 0)
def othersB (own : Int) (l : List Int) : Bool := (List.range l.length).all (othersF own l)
def globsF (own : Int) (gs : List (Int × List Int)) (k : Nat) : Bool := othersF own (gs.map Prod.fst) k && wordsQ (gs.getD k (0, [])).2
def globsB (own : Int) (gs : List (Int × List Int)) : Bool := gs.all (fun g => wordsQ g.2) && othersB own (gs.map Prod.fst)
def outB (os : List ByteArray) : Bool := os.all bodyQ && decide (os.length ≤ 3)
def stateB (s : Stn) : Bool := if s.st = 0 then s.s.none && s.he == 0 else if s.st = 1 then !s.s.none && s.he == 0 else if s.st = 2 then !s.s.none && (addrB s.he && s.he != s.ad) else false
def tokB (s : Stn) : Bool := (s.s.right && (s.t.right && !s.t.less s.s)) && stateB s
def Stn.right (s : Stn) : Bool :=
  addrB s.ad && (timeB s.bo && (timeB s.qu && (timeB s.tr && (tokB s && (decide (0 ≤ s.po) && (decide (s.po ≤ 8) && (othersB s.ad s.kn && (wordsQ s.ws && (globsB s.ad s.gs && outB s.os)))))))))
theorem getD_at {α : Type} (l : List α) (d : α) {k : Nat} (h : k < l.length) : l.getD k d = l[k] := by simp [List.getD, List.getElem?_eq_getElem h]
theorem all_range_no {n k : Nat} {f : Nat → Bool} (h : k < n) (hk : f k = false) : (List.range n).all f = false := by
  rw [Bool.eq_false_iff]
  intro h1
  rw [List.all_eq_true] at h1
  have := h1 k (List.mem_range.2 h)
  rw [hk] at this
  cases this
theorem all_range_more {k : Nat} {f : Nat → Bool} (h1 : (List.range k).all f = true) (hk : f k = true) : (List.range (k + 1)).all f = true := by
  rw [List.range_succ, List.all_append, h1]
  simp [hk]
theorem all_take_no {α : Type} {f : α → Bool} {l : List α} {k : Nat} (h : k < l.length) (hk : f l[k] = false) : l.all f = false := by
  rw [Bool.eq_false_iff]
  intro h1
  rw [List.all_eq_true] at h1
  have := h1 _ (List.getElem_mem h)
  rw [hk] at this
  cases this
theorem all_take_more {α : Type} {f : α → Bool} {l : List α} {k : Nat} (h : k < l.length) (h1 : (l.take k).all f = true) (hk : f l[k] = true) : (l.take (k + 1)).all f = true := by
  rw [List.take_succ_eq_append_getElem h, List.all_append, h1]
  simp [hk]
theorem othersF_zero (own : Int) (l : List Int) (h : 0 < l.length) : othersF own l 0 = (l[0] != own && addrB l[0]) := by
  unfold othersF riseB
  rw [getD_at _ _ h]
  simp only [List.getD_cons_zero]
  cases ha : addrB l[0] with
  | false => simp
  | true =>
    have : (0 : Int) < l[0] := by simp [addrB] at ha; omega
    simp [this]
theorem othersF_succ (own : Int) (l : List Int) (k : Nat) (h : k + 1 < l.length) : othersF own l (k + 1) = riseB own l[k] l[k + 1] := by
  unfold othersF
  rw [getD_at _ _ h, List.getD_cons_succ, getD_at _ _ (by omega)]
theorem othersF_at (own : Int) (l : List Int) (k : Nat) (h : k < l.length) : othersF own l k = riseB own ((0 :: l).getD k 0) l[k] := by
  unfold othersF
  rw [getD_at _ _ h]
theorem last_succ (l : List Int) (k : Nat) (h : k < l.length) : (0 :: l).getD (k + 1) 0 = l[k] := by
  rw [List.getD_cons_succ, getD_at _ _ h]
theorem globsB_range (own : Int) (gs : List (Int × List Int)) : (List.range gs.length).all (globsF own gs) = globsB own gs := by
  unfold globsB othersB globsF
  rw [Bool.eq_iff_iff]
  simp only [List.all_eq_true, List.mem_range, Bool.and_eq_true, List.length_map]
  constructor
  · intro h
    refine ⟨fun g hg => ?_, fun k hk => (h k hk).1⟩
    obtain ⟨k, hk, rfl⟩ := List.getElem_of_mem hg
    have := (h k hk).2
    rwa [getD_at _ _ hk] at this
  · rintro ⟨h1, h2⟩ k hk
    refine ⟨h2 k hk, ?_⟩
    rw [getD_at _ _ hk]
    exact h1 _ (List.getElem_mem hk)
theorem globsF_zero (own : Int) (gs : List (Int × List Int)) (h : 0 < gs.length) : globsF own gs 0 = ((gs[0].1 != own && addrB gs[0].1) && wordsQ gs[0].2) := by
  unfold globsF
  rw [othersF_zero own (gs.map Prod.fst) (by simpa using h), getD_at _ _ h]
  simp
theorem globsF_succ (own : Int) (gs : List (Int × List Int)) (k : Nat) (h : k + 1 < gs.length) : globsF own gs (k + 1) = (riseB own gs[k].1 gs[k + 1].1 && wordsQ gs[k + 1].2) := by
  unfold globsF
  rw [othersF_succ own (gs.map Prod.fst) k (by simpa using h), getD_at _ _ h]
  simp
end Go.Proofs.Ytancfnpmbddfoaa
