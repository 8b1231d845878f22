/- QUESTIONS over numbers and lists: right, their bytes, and what is read of bytes. -/
import Derived.Test.YtfpibedloodjlaaPlainBits
namespace Go.Proofs.Ytfpibedloodjlaa
open Go.RowKit
set_option linter.unusedVariables false
set_option linter.unusedSimpArgs false

/-- a question -/
structure Ak where
  c : Int
  a : Int
  m : Int
  vs : List Int
def Ak.fit (q : Ak) : Bool :=
    if q.c = 1 then (decide (1 ≤ q.m) && decide (q.m ≤ 64)) && decide (q.vs.length = 0)
    else if q.c = 3 then (decide (1 ≤ q.m) && decide (q.m ≤ 8)) && decide (q.vs.length = 0)
    else if q.c = 5 then decide (q.m = 1) && (decide (q.vs.length = 1) && q.vs.all bitB)
    else if q.c = 6 then decide (q.m = 1) && (decide (q.vs.length = 1) && q.vs.all wordB)
    else if q.c = 15 then (decide (1 ≤ q.m) && decide (q.m ≤ 16)) && (decide ((q.vs.length : Int) = q.m) && q.vs.all bitB)
    else if q.c = 16 then (decide (1 ≤ q.m) && decide (q.m ≤ 4)) && (decide ((q.vs.length : Int) = q.m) && q.vs.all wordB)
    else false
def Ak.right (q : Ak) : Bool := wordB q.a && q.fit
def twoL (n : Int) : List UInt8 := [UInt8.ofNat (n.toNat / 256), UInt8.ofNat (n.toNat % 256)]
def twoB (n : Int) : ByteArray := ⟨(twoL n).toArray⟩
def oneL (n : Int) : List UInt8 := [UInt8.ofNat n.toNat]
def oneB (n : Int) : ByteArray := ⟨(oneL n).toArray⟩
def wordsL (zs : List Int) : List UInt8 := zs.flatMap twoL
def wordsB (zs : List Int) : ByteArray := ⟨(wordsL zs).toArray⟩
def countedL (l : List UInt8) : List UInt8 := oneL (l.length : Int) ++ l
def Ak.tail (q : Ak) : List UInt8 :=
    if q.c = 1 ∨ q.c = 3 then twoL q.m
    else if q.c = 5 then twoL (65280 * q.vs.getD 0 0)
    else if q.c = 6 then twoL (q.vs.getD 0 0)
    else if q.c = 15 then twoL q.m ++ countedL (packL q.vs)
    else twoL q.m ++ countedL (wordsL q.vs)
def askL (q : Ak) : List UInt8 := oneL q.c ++ (twoL q.a ++ q.tail)
def askB (q : Ak) : ByteArray := if q.right then ⟨(askL q).toArray⟩ else ByteArray.empty
theorem wordsL_length (zs : List Int) : (wordsL zs).length = 2 * zs.length := by
  induction zs with
  | nil => rfl
  | cons a l ih => simp [wordsL, twoL] at ih ⊢; omega
theorem wordsL_snoc (l : List Int) (n : Int) : wordsL (l ++ [n]) = wordsL l ++ twoL n := by simp [wordsL]
theorem Ak.codes {q : Ak} (h : q.right = true) : q.c = 1 ∨ q.c = 3 ∨ q.c = 5 ∨ q.c = 6 ∨ q.c = 15 ∨ q.c = 16 := by
  unfold Ak.right Ak.fit at h
  rw [Bool.and_eq_true] at h
  have h := h.2
  repeat' split at h
  all_goals first | omega | simp at h

def wordAt (s : ByteArray) (i : Nat) : Int := ((256 * byteAt s i + byteAt s (i + 1) : Nat) : Int)
/-- so many words from a place on -/
def wordsAt (s : ByteArray) (i n : Nat) : List Int := (List.range n).map fun k => wordAt s (i + 2 * k)
/-- bits from a place on -/
def bitsAt (s : ByteArray) (p m : Nat) : List Int := (List.range m).map fun i => ((byteAt s (p + i / 8) / 2 ^ (i % 8) % 2 : Nat) : Int)
def readS (s : ByteArray) : Ak :=
  let c : Int := (byteAt s 0 : Int)
  let m := wordAt s 3
  if c = 5 then ⟨c, wordAt s 1, 1, [m / 65280]⟩
  else if c = 6 then ⟨c, wordAt s 1, 1, [m]⟩
  else if c = 15 then ⟨c, wordAt s 1, m, if 6 < s.size ∧ (1 ≤ m ∧ m ≤ 16) ∧ ((s.size - 6 : Nat) : Int) = (m + 7) / 8 then bitsAt s 6 m.toNat else []⟩
  else if c = 16 then ⟨c, wordAt s 1, m, wordsAt s 6 (min 7 ((s.size - 6) / 2))⟩
  else ⟨c, wordAt s 1, m, []⟩
def readI (s : ByteArray) : Ak :=
  let c : Int := (byteAt s 0 : Int)
  let m := wordAt s 3
  if c = 5 then ⟨c, wordAt s 1, 1, [m / 65280]⟩
  else if c = 6 then ⟨c, wordAt s 1, 1, [m]⟩
  else if c = 15 then ⟨c, wordAt s 1, m, if (1 ≤ m ∧ m ≤ 64) ∧ ((s.size - 6 : Nat) : Int) = (m + 7) / 8 then bitsAt s 6 m.toNat else []⟩
  else if c = 16 then ⟨c, wordAt s 1, m, wordsAt s 6 ((s.size - 6) / 2)⟩
  else ⟨c, wordAt s 1, m, []⟩
theorem wordsAt_length (s : ByteArray) (i n : Nat) : (wordsAt s i n).length = n := by simp [wordsAt]
theorem bitsAt_length (s : ByteArray) (p m : Nat) : (bitsAt s p m).length = m := by simp [bitsAt]
/-- the two readers part just where neither reads a right one -/
theorem reads (s : ByteArray) : readI s = readS s ∨ ((readI s).right = false ∧ (readS s).right = false) := by
  unfold readI readS
  generalize wordAt s 3 = m
  generalize wordAt s 1 = a
  generalize (byteAt s 0 : Int) = c
  dsimp only
  by_cases h5 : c = 5
  · rw [if_pos h5, if_pos h5]; exact .inl rfl
  rw [if_neg h5, if_neg h5]
  by_cases h6 : c = 6
  · rw [if_pos h6, if_pos h6]; exact .inl rfl
  rw [if_neg h6, if_neg h6]
  by_cases h15 : c = 15
  · rw [if_pos h15, if_pos h15]
    by_cases hm : m ≤ 16
    · left
      congr 1
      by_cases h1 : (1 ≤ m ∧ m ≤ 64) ∧ ((s.size - 6 : Nat) : Int) = (m + 7) / 8
      · rw [if_pos h1, if_pos ⟨by omega, by omega, h1.2⟩]
      · rw [if_neg h1, if_neg (by omega)]
    · right
      subst h15
      simp [Ak.right, Ak.fit, hm]
  rw [if_neg h15, if_neg h15]
  by_cases h16 : c = 16
  · rw [if_pos h16, if_pos h16]
    by_cases hz : (s.size - 6) / 2 ≤ 7
    · left
      rw [Nat.min_eq_right hz]
    · right
      subst h16
      have e : min 7 ((s.size - 6) / 2) = 7 := by omega
      rw [e]
      simp only [Ak.right, Ak.fit, wordsAt_length]
      constructor
      · by_cases hm : m ≤ 4
        · have : ¬ (((s.size - 6) / 2 : Nat) : Int) = m := by omega
          simp [this]
          omega
        · simp [hm]
      · by_cases hm : m ≤ 4
        · have : ¬ (7 : Int) = m := by omega
          simp [this]
        · simp [hm]
  rw [if_neg h16, if_neg h16]
  exact .inl rfl
theorem askB_size (q : Ak) (h : q.right = false) : askB q = ByteArray.empty := by unfold askB; rw [if_neg (by simp [h])]
end Go.Proofs.Ytfpibedloodjlaa
