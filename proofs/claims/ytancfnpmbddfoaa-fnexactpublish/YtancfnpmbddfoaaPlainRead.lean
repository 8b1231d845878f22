/- PLAIN: two ways to take escapes back answer the same; nothing of the program. -/
import Derived.WalkKit
import Derived.Test.YtancfnpmbddfoaaPlainWire
namespace Go.Proofs.Ytancfnpmbddfoaa

def needE (c : UInt8) : Bool := c == 126 || c == 125
theorem needE_iff (c : UInt8) : needE c = true ↔ c = 126 ∨ c = 125 := by simp [needE]
/-- escapes taken back, where they may have been made -/
def unT : List UInt8 → Option (List UInt8)
  | [] => some []
  | [c] => if c = 126 ∨ c = 125 then none else some [c]
  | c :: d :: l => if c = 126 then none else if c = 125 then (if needE (d ^^^ 32) then (unT l).map ((d ^^^ 32) :: ·) else none) else (unT (d :: l)).map (c :: ·)
theorem unT_flag (l : List UInt8) : unT (126 :: l) = none := by
  cases l with
  | nil => rfl
  | cons d l => rw [unT, if_pos rfl]
theorem unT_end : unT [125] = none := rfl
theorem unT_turn (d : UInt8) (l : List UInt8) (h : needE (d ^^^ 32) = true) : unT (125 :: d :: l) = (unT l).map ((d ^^^ 32) :: ·) := by
  rw [unT, if_neg (by decide), if_pos rfl, if_pos h]
theorem unT_no (d : UInt8) (l : List UInt8) (h : needE (d ^^^ 32) = false) : unT (125 :: d :: l) = none := by
  rw [unT, if_neg (by decide), if_pos rfl, if_neg (by simp [h])]
theorem unT_plain (c : UInt8) (l : List UInt8) (h1 : c ≠ 126) (h2 : c ≠ 125) : unT (c :: l) = (unT l).map (c :: ·) := by
  cases l with
  | nil => show (if _ then _ else _) = _; rw [if_neg (by simp [h1, h2])]; rfl
  | cons d l => rw [unT, if_neg h1, if_neg h2]
theorem unT_esc (p : List UInt8) : unT (escL p) = some p := by
  induction p with
  | nil => rfl
  | cons c l ih =>
    rw [escL_cons]
    unfold esc1
    split
    · rename_i h
      rw [List.cons_append, List.cons_append, List.nil_append, unT_turn _ _ (by rw [turn_twice]; exact (needE_iff c).2 h), ih, turn_twice]; rfl
    · rename_i h
      rw [List.cons_append, List.nil_append, unT_plain c _ (fun e => h (.inl e)) (fun e => h (.inr e)), ih]; rfl
theorem esc_unT : ∀ (l p : List UInt8), unT l = some p → escL p = l := by
  intro l
  induction l using unT.induct with
  | case1 => intro p h; rw [unT] at h; cases h; rfl
  | case2 c h0 => intro p h; rw [unT, if_pos h0] at h; cases h
  | case3 c h0 => intro p h; rw [unT, if_neg h0] at h; cases h; simp [escL, esc1, h0]
  | case4 d l => intro p h; rw [unT, if_pos rfl] at h; cases h
  | case5 d l h2 h1 ih =>
    intro p h
    rw [unT, if_neg h1, if_pos rfl, if_pos h2] at h
    cases hq : unT l with
    | none => rw [hq] at h; cases h
    | some q =>
      rw [hq] at h
      cases h
      rw [escL_cons, ih q hq]
      unfold esc1
      rw [if_pos ((needE_iff _).1 h2), turn_twice]; rfl
  | case6 d l h2 h1 => intro p h; rw [unT, if_neg h1, if_pos rfl, if_neg h2] at h; cases h
  | case7 c d l h1 h2 ih =>
    intro p h
    rw [unT, if_neg h1, if_neg h2] at h
    cases hq : unT (d :: l) with
    | none => rw [hq] at h; cases h
    | some q =>
      rw [hq] at h
      cases h
      rw [escL_cons, ih q hq]
      unfold esc1
      rw [if_neg (by simp [h1, h2])]; rfl
/-- a text that opens and ends with a flag -/
theorem flags_inner (t : List UInt8) (h1 : t.head? = some 126) (h2 : t.getLast? = some 126) (h3 : 2 ≤ t.length) : t = 126 :: (innerL t ++ [126]) := by
  cases t with
  | nil => simp at h1
  | cons c l =>
    simp at h1
    subst h1
    have hl : l ≠ [] := by intro e; rw [e] at h3; simp at h3
    have h4 : l.getLast? = some 126 := by rw [← h2]; exact (List.getLast?_cons_of_ne_nil hl).symm
    congr 1
    have e : innerL (126 :: l) = l.dropLast := by
      unfold innerL; rw [List.dropLast_eq_take]; simp
    rw [e]
    have h5 : l.getLast hl = 126 := by rw [List.getLast?_eq_some_getLast hl] at h4; exact Option.some.inj h4
    have := List.dropLast_concat_getLast hl
    rw [h5] at this
    exact this.symm
theorem frame_flags (p : List UInt8) : (frameL p).head? = some 126 ∧ (frameL p).getLast? = some 126 ∧ 2 ≤ (frameL p).length := by
  refine ⟨rfl, ?_, by rw [frameL_length]; omega⟩
  show (126 :: (escL p ++ [126])).getLast? = _
  rw [← List.cons_append, List.getLast?_append]
  rfl
/-- what the program asks of a frame -/
def readP (t : List UInt8) : List UInt8 × Int :=
  if 8000 < t.length then ([], 2)
  else if t.length < 2 ∨ t.head? ≠ some 126 ∨ t.getLast? ≠ some 126 then ([], 3)
  else match unT (innerL t) with
    | none => ([], 3)
    | some p => if p.length < 3 ∨ 62 < p.length then ([], 3) else if checkL (p.take (p.length - 2)) ≠ p.drop (p.length - 2) then ([], 5) else (p.take (p.length - 2), 0)
theorem readP_eq (t : List UInt8) : readP t = readL t := by
  unfold readP readL
  split
  · rfl
  · by_cases h : t.length < 2 ∨ t.head? ≠ some 126 ∨ t.getLast? ≠ some 126
    · rw [if_pos h, if_pos]
      right; right
      intro e
      have hf := frame_flags (unescL (innerL t))
      rw [e] at hf
      rcases h with h | h | h
      · omega
      · exact h hf.1
      · exact h hf.2.1
    · rw [if_neg h]
      simp only [not_or, Nat.not_lt, ne_eq, Decidable.not_not] at h
      have hi := flags_inner t h.2.1 h.2.2 h.1
      cases hq : unT (innerL t) with
      | none =>
        rw [if_pos]
        right; right
        intro e
        have e2 : innerL t = escL (unescL (innerL t)) := by rw [← inner_frame, e]
        rw [e2, unT_esc] at hq
        cases hq
      | some p =>
        have he := esc_unT _ _ hq
        have e2 : unescL (innerL t) = p := by rw [← he, unesc_esc]
        have e3 : frameL p = t := by unfold frameL; rw [he]; exact hi.symm
        rw [e2, e3]
        simp
end Go.Proofs.Ytancfnpmbddfoaa
