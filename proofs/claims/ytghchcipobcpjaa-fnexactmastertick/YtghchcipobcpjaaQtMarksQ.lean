/- PLAIN: frames on a wire over lists of bytes: the check, the escapes, what a wire hears; nothing of the program. -/
import Derived.Test.YtghchcipobcpjaaProg
import Derived.Test.YtghchcipobcpjaaQtInts
import Derived.Test.YtghchcipobcpjaaQtOwnM
import Derived.WalkKit
import Derived.Laws.BitsAllLaws
import Derived.WalkSpells
import Derived.Outline
import Derived.Below
import Derived.Deep.RegionHeld3
import Derived.Deep.QuietTactic
import Derived.BigQuiet
namespace Go.Proofs.Ytghchcipobcpjaa

def fcsStep (x : Nat) : Nat := if x % 2 = 1 then (x / 2) ^^^ 33800 else x / 2
def fcsSteps : Nat → Nat → Nat
  | 0, x => x
  | n + 1, x => fcsStep (fcsSteps n x)
def fcsB (r b : Nat) : Nat := fcsSteps 8 (r ^^^ b)
def fcsR (r : Nat) (l : List UInt8) : Nat := l.foldl (fun r c => fcsB r c.toNat) r
def fcsL (l : List UInt8) : Nat := 65535 - fcsR 65535 l
theorem xor_lt16 {a b : Nat} (ha : a < 65536) (hb : b < 65536) : a ^^^ b < 65536 := Nat.xor_lt_two_pow (n := 16) ha hb
theorem fcsStep_lt {x : Nat} (h : x < 65536) : fcsStep x < 65536 := by
  unfold fcsStep
  split
  · exact xor_lt16 (by omega) (by decide)
  · omega
theorem fcsSteps_lt (n : Nat) {x : Nat} (h : x < 65536) : fcsSteps n x < 65536 := by
  induction n with
  | zero => exact h
  | succ n ih => exact fcsStep_lt ih
theorem fcsB_lt {r b : Nat} (h : r < 65536) (hb : b < 256) : fcsB r b < 65536 := fcsSteps_lt 8 (xor_lt16 h (by omega))
theorem fcsR_lt (l : List UInt8) : ∀ {r : Nat}, r < 65536 → fcsR r l < 65536 := by
  induction l with
  | nil => intro r h; exact h
  | cons c l ih => intro r h; exact ih (fcsB_lt h c.toNat_lt)
theorem fcsR_snoc (r : Nat) (l : List UInt8) (c : UInt8) : fcsR r (l ++ [c]) = fcsB (fcsR r l) c.toNat := by
  simp [fcsR, List.foldl_append]
theorem fcsL_lt (l : List UInt8) : fcsL l < 65536 := by unfold fcsL; omega

def checkL (l : List UInt8) : List UInt8 := [UInt8.ofNat (fcsL l % 256), UInt8.ofNat (fcsL l / 256)]
theorem checkL_length (l : List UInt8) : (checkL l).length = 2 := rfl
def esc1 (c : UInt8) : List UInt8 := if c = 126 ∨ c = 125 then [125, c ^^^ 32] else [c]
def escL (l : List UInt8) : List UInt8 := l.flatMap esc1
theorem escL_nil : escL [] = [] := rfl
theorem escL_cons (c : UInt8) (l : List UInt8) : escL (c :: l) = esc1 c ++ escL l := by simp [escL]
theorem escL_append (l m : List UInt8) : escL (l ++ m) = escL l ++ escL m := by simp [escL]
theorem escL_snoc (l : List UInt8) (c : UInt8) : escL (l ++ [c]) = escL l ++ esc1 c := by simp [escL]
theorem esc1_length (c : UInt8) : 1 ≤ (esc1 c).length ∧ (esc1 c).length ≤ 2 := by unfold esc1; split <;> simp
theorem escL_length (l : List UInt8) : l.length ≤ (escL l).length ∧ (escL l).length ≤ 2 * l.length := by
  induction l with
  | nil => simp [escL]
  | cons c l ih => have := esc1_length c; rw [escL_cons, List.length_append, List.length_cons]; omega
def frameL (l : List UInt8) : List UInt8 := 126 :: (escL l ++ [126])
theorem frameL_length (l : List UInt8) : (frameL l).length = (escL l).length + 2 := by simp [frameL]
def unescL : List UInt8 → List UInt8
  | [] => []
  | [c] => [c]
  | c :: d :: l => if c = 125 then (d ^^^ 32) :: unescL l else c :: unescL (d :: l)
theorem turn_twice (c : UInt8) : c ^^^ 32 ^^^ 32 = c := by
  rw [UInt8.xor_assoc, UInt8.xor_self, UInt8.xor_zero]
theorem unescL_plain (c : UInt8) (l : List UInt8) (h : c ≠ 125) : unescL (c :: l) = c :: unescL l := by
  cases l with
  | nil => rfl
  | cons d l => rw [unescL, if_neg h]
theorem unescL_turned (d : UInt8) (l : List UInt8) : unescL (125 :: d :: l) = (d ^^^ 32) :: unescL l := by rw [unescL, if_pos rfl]
theorem unesc_esc (l : List UInt8) : unescL (escL l) = l := by
  induction l with
  | nil => rfl
  | cons c l ih =>
    rw [escL_cons]
    unfold esc1
    split
    · rw [List.cons_append, List.cons_append, List.nil_append, unescL_turned, ih, turn_twice]
    · rename_i h
      rw [List.cons_append, List.nil_append, unescL_plain c _ (fun e => h (.inr e)), ih]
/-- what stands between the first and the last byte -/
def innerL (t : List UInt8) : List UInt8 := (t.drop 1).take (t.length - 2)
theorem inner_frame (l : List UInt8) : innerL (frameL l) = escL l := by
  unfold innerL
  rw [frameL_length]
  show List.take _ (escL l ++ [126]) = _
  exact List.take_left' (by omega)

/-- the frame of a body -/
def frameT (b : List UInt8) : List UInt8 := if b.length < 1 ∨ 60 < b.length then [] else frameL (b ++ checkL b)
/-- what is told of a frame: the body, the code -/
def readL (t : List UInt8) : List UInt8 × Int :=
  if 8000 < t.length then ([], 2)
  else if (unescL (innerL t)).length < 3 ∨ 62 < (unescL (innerL t)).length ∨ frameL (unescL (innerL t)) ≠ t then ([], 3)
  else if checkL ((unescL (innerL t)).take ((unescL (innerL t)).length - 2)) ≠ (unescL (innerL t)).drop ((unescL (innerL t)).length - 2) then ([], 5)
  else ((unescL (innerL t)).take ((unescL (innerL t)).length - 2), 0)
theorem frameT_length (b : List UInt8) : (frameT b).length ≤ 126 := by
  unfold frameT
  split
  · simp
  · have := escL_length (b ++ checkL b)
    rw [frameL_length]
    simp only [List.length_append, checkL_length] at this
    omega
theorem read_frame (b : List UInt8) (h1 : 1 ≤ b.length) (h2 : b.length ≤ 60) : readL (frameT b) = (b, 0) := by
  have hl := frameT_length b
  have e : frameT b = frameL (b ++ checkL b) := by unfold frameT; rw [if_neg (by omega)]
  have e2 : unescL (innerL (frameT b)) = b ++ checkL b := by rw [e, inner_frame, unesc_esc]
  unfold readL
  rw [if_neg (by omega), e2]
  have e3 : (b ++ checkL b).length = b.length + 2 := by rw [List.length_append, checkL_length]
  rw [e3, if_neg (by rw [← e]; simp only [ne_eq, not_true_eq_false, or_false]; omega), Nat.add_sub_cancel, List.take_left, List.drop_left, if_neg (by simp)]
theorem frame_read {t x : List UInt8} (h : readL t = (x, 0)) : frameT x = t := by
  unfold readL at h
  split at h
  · exact absurd (congrArg Prod.snd h) (by simp)
  · split at h
    · exact absurd (congrArg Prod.snd h) (by simp)
    · rename_i h1 h2
      split at h
      · exact absurd (congrArg Prod.snd h) (by simp)
      · rename_i h3
        have hx := congrArg Prod.fst h
        simp only at hx
        simp only [ne_eq, not_or, Decidable.not_not] at h2 h3
        generalize unescL (innerL t) = p at h2 h3 hx
        have hlen : x.length = p.length - 2 := by rw [← hx, List.length_take]; omega
        unfold frameT
        rw [if_neg (by omega)]
        have : x ++ checkL x = p := by rw [← hx, h3, List.take_append_drop]
        rw [this]
        exact h2.2.2

/-- what a wire is -/
structure Wr where
  inn : Bool
  esc : Bool
  bad : Bool
  buf : List UInt8
def Wr.right (w : Wr) : Bool := if !w.inn || w.bad then w.buf.isEmpty && (w.inn || !w.esc && !w.bad) else w.buf.length ≤ 62
def Wr.heard (w : Wr) : List UInt8 :=
  if w.inn = true ∧ w.esc = false ∧ w.bad = false ∧ 3 ≤ w.buf.length ∧ checkL (w.buf.take (w.buf.length - 2)) = w.buf.drop (w.buf.length - 2) then w.buf.take (w.buf.length - 2) else []
/-- a wire behind a byte -/
def Wr.next (w : Wr) (c : UInt8) : Wr :=
  if c = 126 then ⟨true, false, false, []⟩
  else if w.inn = false ∨ w.bad = true then w
  else if c = 125 ∧ w.esc = false then ⟨w.inn, true, w.bad, w.buf⟩
  else if 62 ≤ w.buf.length then ⟨true, false, true, []⟩
  else ⟨w.inn, false, w.bad, w.buf ++ [if w.esc then c ^^^ 32 else c]⟩
/-- what is heard by a byte -/
def Wr.hears (w : Wr) (c : UInt8) : List (List UInt8) := if c = 126 ∧ w.heard ≠ [] then [w.heard] else []
def Wr.feed (w : Wr) : List UInt8 → Wr
  | [] => w
  | c :: l => (w.next c).feed l
def Wr.feeds (w : Wr) : List UInt8 → List (List UInt8)
  | [] => []
  | c :: l => w.hears c ++ (w.next c).feeds l
theorem Wr.feed_append (l m : List UInt8) : ∀ w : Wr, w.feed (l ++ m) = (w.feed l).feed m := by
  induction l with
  | nil => intro w; rfl
  | cons c l ih => intro w; exact ih _
theorem Wr.feeds_append (l m : List UInt8) : ∀ w : Wr, w.feeds (l ++ m) = w.feeds l ++ (w.feed l).feeds m := by
  induction l with
  | nil => intro w; rfl
  | cons c l ih => intro w; show _ ++ (w.next c).feeds (l ++ m) = _; rw [ih, ← List.append_assoc]; rfl
theorem Wr.feed_snoc (w : Wr) (l : List UInt8) (c : UInt8) : w.feed (l ++ [c]) = (w.feed l).next c := Wr.feed_append l [c] w
theorem Wr.feeds_snoc (w : Wr) (l : List UInt8) (c : UInt8) : w.feeds (l ++ [c]) = w.feeds l ++ (w.feed l).hears c := by
  rw [Wr.feeds_append]; show _ ++ (_ ++ []) = _; rw [List.append_nil]
theorem Wr.next_right (w : Wr) (c : UInt8) (h : w.right = true) : (w.next c).right = true := by
  unfold Wr.next
  split
  · simp [Wr.right]
  · split
    · exact h
    · rename_i h1 h2
      simp only [not_or, Bool.not_eq_false, Bool.not_eq_true] at h2
      have hb : w.buf.length ≤ 62 := by simpa [Wr.right, h2.1, h2.2] using h
      split
      · simpa [Wr.right, h2.1, h2.2] using hb
      · split
        · simp [Wr.right]
        · simp [Wr.right, h2.1, h2.2]; omega
theorem Wr.feed_right (l : List UInt8) : ∀ w : Wr, w.right = true → (w.feed l).right = true := by
  induction l with
  | nil => intro w h; exact h
  | cons c l ih => intro w h; exact ih _ (Wr.next_right w c h)
/-- a wire that is in hears bytes that stand escaped -/
theorem Wr.feed_esc (l : List UInt8) : ∀ b : List UInt8, b.length + l.length ≤ 62 → Wr.feed ⟨true, false, false, b⟩ (escL l) = ⟨true, false, false, b ++ l⟩ ∧ Wr.feeds ⟨true, false, false, b⟩ (escL l) = [] := by
  induction l with
  | nil => intro b _; exact ⟨by simp [escL, Wr.feed], rfl⟩
  | cons c l ih =>
    intro b hb
    rw [List.length_cons] at hb
    have key : Wr.feed ⟨true, false, false, b⟩ (esc1 c) = ⟨true, false, false, b ++ [c]⟩ ∧ Wr.feeds ⟨true, false, false, b⟩ (esc1 c) = [] := by
      unfold esc1
      split
      · rename_i h
        have h126 : c ^^^ 32 ≠ 126 := by rcases h with rfl | rfl <;> decide
        have e1 : Wr.next ⟨true, false, false, b⟩ 125 = ⟨true, true, false, b⟩ := by simp [Wr.next]
        have e2 : Wr.next ⟨true, true, false, b⟩ (c ^^^ 32) = ⟨true, false, false, b ++ [c]⟩ := by
          unfold Wr.next
          rw [if_neg h126, if_neg (by simp), if_neg (by simp), if_neg (by simp only; omega)]
          simp [turn_twice]
        constructor
        · show Wr.next (Wr.next _ _) _ = _; rw [e1, e2]
        · show Wr.hears _ _ ++ (Wr.hears (Wr.next _ _) _ ++ []) = _; simp [Wr.hears, h126]
      · rename_i h
        have h1 : c ≠ 126 := fun e => h (.inl e)
        have h2 : c ≠ 125 := fun e => h (.inr e)
        constructor
        · show Wr.next _ _ = _
          unfold Wr.next
          rw [if_neg h1, if_neg (by simp), if_neg (by simp [h2]), if_neg (by simp only; omega)]
          simp
        · show Wr.hears _ _ ++ [] = _; simp [Wr.hears, h1]
    obtain ⟨i1, i2⟩ := ih (b ++ [c]) (by simp; omega)
    rw [escL_cons, Wr.feed_append, Wr.feeds_append, key.1, key.2, i1, i2]
    simp
/-- a wire hears a body from its frame, whatever it heard ahead -/
theorem Wr.hears_frame (w : Wr) (b : List UInt8) (h1 : 1 ≤ b.length) (h2 : b.length ≤ 60) : w.feeds (frameT b) = w.hears 126 ++ [b] := by
  have e : frameT b = frameL (b ++ checkL b) := by unfold frameT; rw [if_neg (by omega)]
  rw [e]
  show w.hears 126 ++ (w.next 126).feeds (escL (b ++ checkL b) ++ [126]) = _
  have e0 : w.next 126 = ⟨true, false, false, []⟩ := by simp [Wr.next]
  have hlen : (b ++ checkL b).length = b.length + 2 := by rw [List.length_append, checkL_length]
  obtain ⟨k1, k2⟩ := Wr.feed_esc (b ++ checkL b) [] (by rw [hlen]; simp; omega)
  rw [e0, Wr.feeds_snoc, k1, k2, List.nil_append, List.nil_append]
  congr 1
  have hh : Wr.heard ⟨true, false, false, b ++ checkL b⟩ = b := by
    unfold Wr.heard
    simp only [hlen, Nat.add_sub_cancel, List.take_left, List.drop_left]
    rw [if_pos ⟨trivial, trivial, trivial, by omega, trivial⟩]
  unfold Wr.hears
  rw [hh, if_pos ⟨rfl, fun e => by rw [e] at h1; simp at h1⟩]
end Go.Proofs.Ytghchcipobcpjaa
/- PLAIN: two ways to take escapes back answer the same; nothing of the program. -/
namespace Go.Proofs.Ytghchcipobcpjaa

def needE (c : UInt8) : Bool := c == 126 || c == 125
theorem needE_iff (c : UInt8) : needE c = true ↔ c = 126 ∨ c = 125 := by simp [needE]
/-- escapes taken back, where they may have been made -/
def unT : List UInt8 → Option (List UInt8)
  | [] => some []
  | [c] => if c = 126 ∨ c = 125 then none else some [c]
  | c :: d :: l => if c = 126 then none else if c = 125 then (if needE (d ^^^ 32) then (unT l).map ((d ^^^ 32) :: ·) else none) else (unT (d :: l)).map (c :: ·)
theorem unT_flag (l : List UInt8) : unT (126 :: l) = none := by
  cases l with
  | nil => rfl
  | cons d l => rw [unT, if_pos rfl]
theorem unT_end : unT [125] = none := rfl
theorem unT_turn (d : UInt8) (l : List UInt8) (h : needE (d ^^^ 32) = true) : unT (125 :: d :: l) = (unT l).map ((d ^^^ 32) :: ·) := by
  rw [unT, if_neg (by decide), if_pos rfl, if_pos h]
theorem unT_no (d : UInt8) (l : List UInt8) (h : needE (d ^^^ 32) = false) : unT (125 :: d :: l) = none := by
  rw [unT, if_neg (by decide), if_pos rfl, if_neg (by simp [h])]
theorem unT_plain (c : UInt8) (l : List UInt8) (h1 : c ≠ 126) (h2 : c ≠ 125) : unT (c :: l) = (unT l).map (c :: ·) := by
  cases l with
  | nil => show (if _ then _ else _) = _; rw [if_neg (by simp [h1, h2])]; rfl
  | cons d l => rw [unT, if_neg h1, if_neg h2]
theorem unT_esc (p : List UInt8) : unT (escL p) = some p := by
  induction p with
  | nil => rfl
  | cons c l ih =>
    rw [escL_cons]
    unfold esc1
    split
    · rename_i h
      rw [List.cons_append, List.cons_append, List.nil_append, unT_turn _ _ (by rw [turn_twice]; exact (needE_iff c).2 h), ih, turn_twice]; rfl
    · rename_i h
      rw [List.cons_append, List.nil_append, unT_plain c _ (fun e => h (.inl e)) (fun e => h (.inr e)), ih]; rfl
theorem esc_unT : ∀ (l p : List UInt8), unT l = some p → escL p = l := by
  intro l
  induction l using unT.induct with
  | case1 => intro p h; rw [unT] at h; cases h; rfl
  | case2 c h0 => intro p h; rw [unT, if_pos h0] at h; cases h
  | case3 c h0 => intro p h; rw [unT, if_neg h0] at h; cases h; simp [escL, esc1, h0]
  | case4 d l => intro p h; rw [unT, if_pos rfl] at h; cases h
  | case5 d l h2 h1 ih =>
    intro p h
    rw [unT, if_neg h1, if_pos rfl, if_pos h2] at h
    cases hq : unT l with
    | none => rw [hq] at h; cases h
    | some q =>
      rw [hq] at h
      cases h
      rw [escL_cons, ih q hq]
      unfold esc1
      rw [if_pos ((needE_iff _).1 h2), turn_twice]; rfl
  | case6 d l h2 h1 => intro p h; rw [unT, if_neg h1, if_pos rfl, if_neg h2] at h; cases h
  | case7 c d l h1 h2 ih =>
    intro p h
    rw [unT, if_neg h1, if_neg h2] at h
    cases hq : unT (d :: l) with
    | none => rw [hq] at h; cases h
    | some q =>
      rw [hq] at h
      cases h
      rw [escL_cons, ih q hq]
      unfold esc1
      rw [if_neg (by simp [h1, h2])]; rfl
/-- a text that opens and ends with a flag -/
theorem flags_inner (t : List UInt8) (h1 : t.head? = some 126) (h2 : t.getLast? = some 126) (h3 : 2 ≤ t.length) : t = 126 :: (innerL t ++ [126]) := by
  cases t with
  | nil => simp at h1
  | cons c l =>
    simp at h1
    subst h1
    have hl : l ≠ [] := by intro e; rw [e] at h3; simp at h3
    have h4 : l.getLast? = some 126 := by rw [← h2]; exact (List.getLast?_cons_of_ne_nil hl).symm
    congr 1
    have e : innerL (126 :: l) = l.dropLast := by
      unfold innerL; rw [List.dropLast_eq_take]; simp
    rw [e]
    have h5 : l.getLast hl = 126 := by rw [List.getLast?_eq_some_getLast hl] at h4; exact Option.some.inj h4
    have := List.dropLast_concat_getLast hl
    rw [h5] at this
    exact this.symm
theorem frame_flags (p : List UInt8) : (frameL p).head? = some 126 ∧ (frameL p).getLast? = some 126 ∧ 2 ≤ (frameL p).length := by
  refine ⟨rfl, ?_, by rw [frameL_length]; omega⟩
  show (126 :: (escL p ++ [126])).getLast? = _
  rw [← List.cons_append, List.getLast?_append]
  rfl
/-- what the program asks of a frame -/
def readP (t : List UInt8) : List UInt8 × Int :=
  if 8000 < t.length then ([], 2)
  else if t.length < 2 ∨ t.head? ≠ some 126 ∨ t.getLast? ≠ some 126 then ([], 3)
  else match unT (innerL t) with
    | none => ([], 3)
    | some p => if p.length < 3 ∨ 62 < p.length then ([], 3) else if checkL (p.take (p.length - 2)) ≠ p.drop (p.length - 2) then ([], 5) else (p.take (p.length - 2), 0)
theorem readP_eq (t : List UInt8) : readP t = readL t := by
  unfold readP readL
  split
  · rfl
  · by_cases h : t.length < 2 ∨ t.head? ≠ some 126 ∨ t.getLast? ≠ some 126
    · rw [if_pos h, if_pos]
      right; right
      intro e
      have hf := frame_flags (unescL (innerL t))
      rw [e] at hf
      rcases h with h | h | h
      · omega
      · exact h hf.1
      · exact h hf.2.1
    · rw [if_neg h]
      simp only [not_or, Nat.not_lt, ne_eq, Decidable.not_not] at h
      have hi := flags_inner t h.2.1 h.2.2 h.1
      cases hq : unT (innerL t) with
      | none =>
        rw [if_pos]
        right; right
        intro e
        have e2 : innerL t = escL (unescL (innerL t)) := by rw [← inner_frame, e]
        rw [e2, unT_esc] at hq
        cases hq
      | some p =>
        have he := esc_unT _ _ hq
        have e2 : unescL (innerL t) = p := by rw [← he, unesc_esc]
        have e3 : frameL p = t := by unfold frameL; rw [he]; exact hi.symm
        rw [e2, e3]
        simp
end Go.Proofs.Ytghchcipobcpjaa
/- PLAIN: the check over numbers as the walks write them; nothing of the program. -/
namespace Go.Proofs.Ytghchcipobcpjaa

theorem ofInt_i64 (a : Nat) (ha : a < 9223372036854775808) : (BitVec.ofInt 64 (a : Int)).toNat = a := by
  rw [BitVec.ofInt_natCast, BitVec.toNat_ofNat]; exact Nat.mod_eq_of_lt (by omega)
theorem i64_xor_nat (a b : Nat) (ha : a < 65536) (hb : b < 65536) : bits .xor .i64 (a : Int) (b : Int) = ((a ^^^ b : Nat) : Int) := by
  have hx : a ^^^ b < 2 ^ 16 := Nat.xor_lt_two_pow (by omega) (by omega)
  show IntKind.i64.wrap ((BitVec.ofInt 64 (a : Int) ^^^ BitVec.ofInt 64 (b : Int)).toNat : Int) = _
  rw [BitVec.toNat_xor, ofInt_i64 a (by omega), ofInt_i64 b (by omega)]
  simp [IntKind.wrap, IntKind.bits, IntKind.signed]
  omega
theorem fcsSteps_zero (x : Nat) : fcsSteps 0 x = x := rfl
theorem odd_i (x : Nat) : (((x : Int) % 2) == 1) = decide (x % 2 = 1) := by
  rw [Bool.eq_iff_iff]; simp; omega
theorem fcs_start (x b : Nat) (hx : x < 65536) (hb : b < 256) : bits .xor .i64 (x : Int) (b : Int) = ((fcsSteps 0 (x ^^^ b) : Nat) : Int) := i64_xor_nat x b hx (by omega)
theorem fcs_yes {x : Nat} (hx : x < 65536) (h : (((x : Int) % 2) == 1) = true) : bits .xor .i64 ((x : Int) / 2) 33800 = ((fcsStep x : Nat) : Int) := by
  rw [odd_i] at h
  have e : (x : Int) / 2 = ((x / 2 : Nat) : Int) := by omega
  unfold fcsStep
  rw [if_pos (by simpa using h), e]
  exact i64_xor_nat (x / 2) 33800 (by omega) (by decide)
theorem fcs_no {x : Nat} (h : (((x : Int) % 2) == 1) = false) : (x : Int) / 2 = ((fcsStep x : Nat) : Int) := by
  rw [odd_i] at h
  unfold fcsStep
  rw [if_neg (by simpa using h)]
  omega
theorem fcs16_start (x b : Nat) (hx : x < 65536) (hb : b < 256) : bits .xor .u16 (x : Int) (b : Int) = ((fcsSteps 0 (x ^^^ b) : Nat) : Int) := u16_xor_nat x b hx (by omega)
theorem fcs16_yes {x : Nat} (hx : x < 65536) (h : (((x : Int) % 2) == 1) = true) : bits .xor .u16 ((x : Int) / 2) 33800 = ((fcsStep x : Nat) : Int) := by
  rw [odd_i] at h
  have e : (x : Int) / 2 = ((x / 2 : Nat) : Int) := by omega
  unfold fcsStep
  rw [if_pos (by simpa using h), e]
  exact u16_xor_nat (x / 2) 33800 (by omega) (by decide)
/-- the check of a text, where it is short enough -/
def fcsV (s : ByteArray) : Nat := if 8000 < s.size then 0 else fcsL s.data.toList
def checkB (s : ByteArray) : ByteArray := ⟨(checkL s.data.toList).toArray⟩
theorem checkB_size (s : ByteArray) : (checkB s).size = 2 := rfl
end Go.Proofs.Ytghchcipobcpjaa
/- PLAIN: frames as texts; nothing of the program. -/
namespace Go.Proofs.Ytghchcipobcpjaa

theorem xor32 (c : UInt8) : bits .xor .u8 (c.toNat : Int) 32 = ((c ^^^ 32).toNat : Int) := by
  rw [UInt8.toNat_xor]
  exact u8_xor_nat c.toNat 32 c.toNat_lt (by decide)
theorem eq_u8 (c : UInt8) (k : Nat) (hk : k < 256) : ((c.toNat : Int) == (k : Int)) = decide (c = UInt8.ofNat k) := by
  rw [Bool.eq_iff_iff]
  simp only [beq_iff_eq, decide_eq_true_eq]
  constructor
  · intro h
    apply UInt8.toNat_inj.1
    rw [UInt8.toNat_ofNat']
    omega
  · intro h
    rw [h, UInt8.toNat_ofNat']
    omega
theorem is126 (c : UInt8) : ((c.toNat : Int) == 126) = decide (c = 126) := eq_u8 c 126 (by decide)
theorem is125 (c : UInt8) : ((c.toNat : Int) == 125) = decide (c = 125) := eq_u8 c 125 (by decide)
def bytesOf (l : List UInt8) : ByteArray := ⟨l.toArray⟩
theorem bytesOf_size (l : List UInt8) : (bytesOf l).size = l.length := by simp [bytesOf, ByteArray.size]
theorem bytesOf_list (l : List UInt8) : (bytesOf l).data.toList = l := by simp [bytesOf]
theorem bytesOf_data (s : ByteArray) : bytesOf s.data.toList = s := by
  apply ByteArray.ext; simp [bytesOf]
theorem bytesOf_append (l m : List UInt8) : bytesOf l ++ bytesOf m = bytesOf (l ++ m) := by
  apply ByteArray.ext; simp [bytesOf, ByteArray.data_append]
theorem append_bytesOf (s : ByteArray) (m : List UInt8) : s ++ bytesOf m = bytesOf (s.data.toList ++ m) := by
  rw [← bytesOf_append, bytesOf_data]
theorem list_append (s t : ByteArray) : (s ++ t).data.toList = s.data.toList ++ t.data.toList := by simp [ByteArray.data_append]
theorem list_length (s : ByteArray) : s.data.toList.length = s.size := by rw [Array.length_toList]; rfl
def frameB (s : ByteArray) : ByteArray := bytesOf (frameT s.data.toList)
theorem frameB_in (s : ByteArray) (h1 : 1 ≤ s.size) (h2 : s.size ≤ 60) : frameB s = bytesOf (frameL (s.data.toList ++ checkL s.data.toList)) := by
  unfold frameB frameT
  rw [if_neg (by rw [list_length]; omega)]
theorem frameB_out (s : ByteArray) (h : s.size < 1 ∨ 60 < s.size) : frameB s = ByteArray.empty := by
  unfold frameB frameT
  rw [if_pos (by rw [list_length]; omega)]
  rfl
theorem frameB_size (s : ByteArray) : (frameB s).size ≤ 126 := by unfold frameB; rw [bytesOf_size]; exact frameT_length _
theorem frame_parts (s : ByteArray) : bytesOf [126] ++ bytesOf (escL s.data.toList) ++ bytesOf (escL (checkL s.data.toList)) ++ bytesOf [126] = bytesOf (frameL (s.data.toList ++ checkL s.data.toList)) := by
  rw [bytesOf_append, bytesOf_append, bytesOf_append]
  unfold frameL
  rw [escL_append]
  simp
end Go.Proofs.Ytghchcipobcpjaa
/- THE WALKS of the law's own marks: texts that are put into an answer's list and looked for again; lists of texts held against each other. -/
namespace Go.Proofs.Ytghchcipobcpjaa
open Go.RowKit
set_option linter.unusedVariables false
set_option linter.unusedSimpArgs false

def digsN (n : Nat) : List UInt8 := if h : n = 0 then [] else digsN (n / 10) ++ [UInt8.ofNat (48 + n % 10)]
termination_by n
decreasing_by omega
theorem digsN_pos {n : Nat} (h : 0 < n) : digsN n = digsN (n / 10) ++ [UInt8.ofNat (48 + n % 10)] := by rw [digsN, dif_neg (by omega)]
theorem digsN_zero : digsN 0 = [] := by rw [digsN, dif_pos rfl]
theorem digsN_len (n : Nat) : (digsN n).length ≤ n := by
  induction n using Nat.strongRecOn with
  | _ n ih =>
    rcases Nat.eq_zero_or_pos n with rfl | h
    · rw [digsN_zero]; simp
    · rw [digsN_pos h, List.length_append]
      have := ih (n / 10) (by omega)
      simp only [List.length_cons, List.length_nil]
      omega
/-- the mark of a number from 1 on -/
def markB (n : Nat) : ByteArray := bytesOf ([109] ++ digsN n)
theorem digit_conv (w : World) (n : Nat) : (convert 96 9 (.slice (some ⟨w.heap.size, 0, none⟩) 1 1)).run Try.prog (w.alloc (.cells #[.int .u8 (48 + (n : Int) % 10)] 5)) = .ok (.string (bytesOf [UInt8.ofNat (48 + n % 10)])) (w.alloc (.cells #[.int .u8 (48 + (n : Int) % 10)] 5)) := by
  have hc : cellsB (bytesOf [UInt8.ofNat (48 + n % 10)]) = [.int .u8 (48 + (n : Int) % 10)] := by
    simp only [cellsB, bytesOf, List.map_cons, List.map_nil]
    rw [show (UInt8.ofNat (48 + n % 10)).toNat = 48 + n % 10 by rw [UInt8.toNat_ofNat']; omega]
    rfl
  have h := Lib.run_convert_whole (P := Try.prog) (w.alloc (.cells [.int .u8 (48 + (n : Int) % 10)].toArray 5)) 96 5 9 Try.underlying96 Try.underlying5 Try.underlying9 w.heap.size 0 (bytesOf [UInt8.ofNat (48 + n % 10)]) (bytes_of_cells (bytesOf [UInt8.ofNat (48 + n % 10)]) (heap_alloc_new w _) (by rw [hc, bytesOf_size]; rfl)) 1
  rw [bytesOf_size] at h
  exact h
set_option maxRecDepth 100000 in
set_option maxHeartbeats 800000 in
theorem markText_any (K : Nat) (w : World) (h1 : 0 < K) (h2 : K ≤ 10000000) :
    Calls Try.prog 60 #[.int .i64 K] w fun e w' => e = .returned (.string (markB K)) ∧ Below w.heap.size w w' := by
  go_enter Try.func60, Try.ntmps60
  go_wp2
  go_loopw [0, 3] (fun x t wr => ∃ (n : Nat) (s : ByteArray), n ≤ K ∧ x = .int .i64 n ∧ t = .string s ∧ s.size ≤ 10000000 ∧ Hid (digsN n ++ s.data.toList = digsN K) ∧ Below w.heap.size w wr)
    (fun x _ _ => (intOf x).toNat)
  case atStart => exact ⟨K, ByteArray.empty, Nat.le_refl _, rfl, rfl, by simp, by simp [Hid], Below.refl _ _⟩
  case round =>
    obtain ⟨n, s, hn, rfl, rfl, hs, HL, hbel⟩ := hrel
    have hsz := hbel.size
    by_cases hlt : 0 < n
    · have hcv := digit_conv wr n
      have HD : Hid _ := digsN_pos hlt
      have hle : s.size + 1 ≤ 10000000 := by
        have h3 := congrArg List.length HL.out
        have h4 := digsN_len K
        rw [List.length_append, list_length, digsN_pos hlt, List.length_append, List.length_singleton] at h3
        omega
      have hz1 : (bytesOf [UInt8.ofNat (48 + n % 10)]).size = 1 := bytesOf_size _
      have HA : Hid _ := bytesOf_list [UInt8.ofNat (48 + n % 10)]
      generalize bytesOf [UInt8.ofNat (48 + n % 10)] = D at hcv hz1 HA
      go_wp2
      go_roundw
      case rel => exact ⟨n / 10, D ++ s, by omega, by go_num, rfl, by rw [ByteArray.size_append]; omega, (show _ = _ by rw [list_append, HA.out, ← List.append_assoc, ← HD.out]; exact HL.out), hbel.alloc hsz _⟩
      case measure => simp [intOf]; omega
    · have hz1 : (bytesOf [109]).size = 1 := bytesOf_size _
      have e : markB K = bytesOf [109] ++ s := by
        unfold markB
        rw [← bytesOf_append, ← HL.out, show n = 0 by omega, digsN_zero, List.nil_append, bytesOf_data]
      have he : Hid _ := e
      clear e
      go_wp2
      go_ret
      exact ⟨by rw [he.out]; rfl, hbel⟩
end Go.Proofs.Ytghchcipobcpjaa
