/- PLAIN: frames on a wire over lists of bytes: the check, the escapes, what a wire hears; nothing of the program. -/
import Derived.Test.YtineecongiplgaaProg
import Derived.Test.YtineecongiplgaaQpLaws
import Derived.Test.YtineecongiplgaaQpBits
import Derived.Test.YtineecongiplgaaQpPlainSt
import Derived.WalkKit
import Derived.WalkSpells
import Derived.Outline
import Derived.Below
namespace Go.Proofs.Ytineecongiplgaa

def fcsStep (x : Nat) : Nat := if x % 2 = 1 then (x / 2) ^^^ 33800 else x / 2
def fcsSteps : Nat → Nat → Nat
  | 0, x => x
  | n + 1, x => fcsStep (fcsSteps n x)
def fcsB (r b : Nat) : Nat := fcsSteps 8 (r ^^^ b)
def fcsR (r : Nat) (l : List UInt8) : Nat := l.foldl (fun r c => fcsB r c.toNat) r
def fcsL (l : List UInt8) : Nat := 65535 - fcsR 65535 l
theorem xor_lt16 {a b : Nat} (ha : a < 65536) (hb : b < 65536) : a ^^^ b < 65536 := Nat.xor_lt_two_pow (n := 16) ha hb
theorem fcsStep_lt {x : Nat} (h : x < 65536) : fcsStep x < 65536 := by
  unfold fcsStep
  split
  · exact xor_lt16 (by omega) (by decide)
  · omega
theorem fcsSteps_lt (n : Nat) {x : Nat} (h : x < 65536) : fcsSteps n x < 65536 := by
  induction n with
  | zero => exact h
  | succ n ih => exact fcsStep_lt ih
theorem fcsB_lt {r b : Nat} (h : r < 65536) (hb : b < 256) : fcsB r b < 65536 := fcsSteps_lt 8 (xor_lt16 h (by omega))
theorem fcsR_lt (l : List UInt8) : ∀ {r : Nat}, r < 65536 → fcsR r l < 65536 := by
  induction l with
  | nil => intro r h; exact h
  | cons c l ih => intro r h; exact ih (fcsB_lt h c.toNat_lt)
theorem fcsR_snoc (r : Nat) (l : List UInt8) (c : UInt8) : fcsR r (l ++ [c]) = fcsB (fcsR r l) c.toNat := by
  simp [fcsR, List.foldl_append]
theorem fcsL_lt (l : List UInt8) : fcsL l < 65536 := by unfold fcsL; omega

def checkL (l : List UInt8) : List UInt8 := [UInt8.ofNat (fcsL l % 256), UInt8.ofNat (fcsL l / 256)]
theorem checkL_length (l : List UInt8) : (checkL l).length = 2 := rfl
def esc1 (c : UInt8) : List UInt8 := if c = 126 ∨ c = 125 then [125, c ^^^ 32] else [c]
def escL (l : List UInt8) : List UInt8 := l.flatMap esc1
theorem escL_nil : escL [] = [] := rfl
theorem escL_cons (c : UInt8) (l : List UInt8) : escL (c :: l) = esc1 c ++ escL l := by simp [escL]
theorem escL_append (l m : List UInt8) : escL (l ++ m) = escL l ++ escL m := by simp [escL]
theorem escL_snoc (l : List UInt8) (c : UInt8) : escL (l ++ [c]) = escL l ++ esc1 c := by simp [escL]
theorem esc1_length (c : UInt8) : 1 ≤ (esc1 c).length ∧ (esc1 c).length ≤ 2 := by unfold esc1; split <;> simp
theorem escL_length (l : List UInt8) : l.length ≤ (escL l).length ∧ (escL l).length ≤ 2 * l.length := by
  induction l with
  | nil => simp [escL]
  | cons c l ih => have := esc1_length c; rw [escL_cons, List.length_append, List.length_cons]; omega
def frameL (l : List UInt8) : List UInt8 := 126 :: (escL l ++ [126])
theorem frameL_length (l : List UInt8) : (frameL l).length = (escL l).length + 2 := by simp [frameL]
def unescL : List UInt8 → List UInt8
  | [] => []
  | [c] => [c]
  | c :: d :: l => if c = 125 then (d ^^^ 32) :: unescL l else c :: unescL (d :: l)
theorem turn_twice (c : UInt8) : c ^^^ 32 ^^^ 32 = c := by
  rw [UInt8.xor_assoc, UInt8.xor_self, UInt8.xor_zero]
theorem unescL_plain (c : UInt8) (l : List UInt8) (h : c ≠ 125) : unescL (c :: l) = c :: unescL l := by
  cases l with
  | nil => rfl
  | cons d l => rw [unescL, if_neg h]
theorem unescL_turned (d : UInt8) (l : List UInt8) : unescL (125 :: d :: l) = (d ^^^ 32) :: unescL l := by rw [unescL, if_pos rfl]
theorem unesc_esc (l : List UInt8) : unescL (escL l) = l := by
  induction l with
  | nil => rfl
  | cons c l ih =>
    rw [escL_cons]
    unfold esc1
    split
    · rw [List.cons_append, List.cons_append, List.nil_append, unescL_turned, ih, turn_twice]
    · rename_i h
      rw [List.cons_append, List.nil_append, unescL_plain c _ (fun e => h (.inr e)), ih]
/-- what stands between the first and the last byte -/
def innerL (t : List UInt8) : List UInt8 := (t.drop 1).take (t.length - 2)
theorem inner_frame (l : List UInt8) : innerL (frameL l) = escL l := by
  unfold innerL
  rw [frameL_length]
  show List.take _ (escL l ++ [126]) = _
  exact List.take_left' (by omega)

/-- the frame of a body -/
def frameT (b : List UInt8) : List UInt8 := if b.length < 1 ∨ 60 < b.length then [] else frameL (b ++ checkL b)
/-- what is told of a frame: the body, the code -/
def readL (t : List UInt8) : List UInt8 × Int :=
  if 8000 < t.length then ([], 2)
  else if (unescL (innerL t)).length < 3 ∨ 62 < (unescL (innerL t)).length ∨ frameL (unescL (innerL t)) ≠ t then ([], 3)
  else if checkL ((unescL (innerL t)).take ((unescL (innerL t)).length - 2)) ≠ (unescL (innerL t)).drop ((unescL (innerL t)).length - 2) then ([], 5)
  else ((unescL (innerL t)).take ((unescL (innerL t)).length - 2), 0)
theorem frameT_length (b : List UInt8) : (frameT b).length ≤ 126 := by
  unfold frameT
  split
  · simp
  · have := escL_length (b ++ checkL b)
    rw [frameL_length]
    simp only [List.length_append, checkL_length] at this
    omega
theorem read_frame (b : List UInt8) (h1 : 1 ≤ b.length) (h2 : b.length ≤ 60) : readL (frameT b) = (b, 0) := by
  have hl := frameT_length b
  have e : frameT b = frameL (b ++ checkL b) := by unfold frameT; rw [if_neg (by omega)]
  have e2 : unescL (innerL (frameT b)) = b ++ checkL b := by rw [e, inner_frame, unesc_esc]
  unfold readL
  rw [if_neg (by omega), e2]
  have e3 : (b ++ checkL b).length = b.length + 2 := by rw [List.length_append, checkL_length]
  rw [e3, if_neg (by rw [← e]; simp only [ne_eq, not_true_eq_false, or_false]; omega), Nat.add_sub_cancel, List.take_left, List.drop_left, if_neg (by simp)]
theorem frame_read {t x : List UInt8} (h : readL t = (x, 0)) : frameT x = t := by
  unfold readL at h
  split at h
  · exact absurd (congrArg Prod.snd h) (by simp)
  · split at h
    · exact absurd (congrArg Prod.snd h) (by simp)
    · rename_i h1 h2
      split at h
      · exact absurd (congrArg Prod.snd h) (by simp)
      · rename_i h3
        have hx := congrArg Prod.fst h
        simp only at hx
        simp only [ne_eq, not_or, Decidable.not_not] at h2 h3
        generalize unescL (innerL t) = p at h2 h3 hx
        have hlen : x.length = p.length - 2 := by rw [← hx, List.length_take]; omega
        unfold frameT
        rw [if_neg (by omega)]
        have : x ++ checkL x = p := by rw [← hx, h3, List.take_append_drop]
        rw [this]
        exact h2.2.2

/-- what a wire is -/
structure Wr where
  inn : Bool
  esc : Bool
  bad : Bool
  buf : List UInt8
def Wr.right (w : Wr) : Bool := if !w.inn || w.bad then w.buf.isEmpty && (w.inn || !w.esc && !w.bad) else w.buf.length ≤ 62
def Wr.heard (w : Wr) : List UInt8 :=
  if w.inn = true ∧ w.esc = false ∧ w.bad = false ∧ 3 ≤ w.buf.length ∧ checkL (w.buf.take (w.buf.length - 2)) = w.buf.drop (w.buf.length - 2) then w.buf.take (w.buf.length - 2) else []
/-- a wire behind a byte -/
def Wr.next (w : Wr) (c : UInt8) : Wr :=
  if c = 126 then ⟨true, false, false, []⟩
  else if w.inn = false ∨ w.bad = true then w
  else if c = 125 ∧ w.esc = false then ⟨w.inn, true, w.bad, w.buf⟩
  else if 62 ≤ w.buf.length then ⟨true, false, true, []⟩
  else ⟨w.inn, false, w.bad, w.buf ++ [if w.esc then c ^^^ 32 else c]⟩
/-- what is heard by a byte -/
def Wr.hears (w : Wr) (c : UInt8) : List (List UInt8) := if c = 126 ∧ w.heard ≠ [] then [w.heard] else []
def Wr.feed (w : Wr) : List UInt8 → Wr
  | [] => w
  | c :: l => (w.next c).feed l
def Wr.feeds (w : Wr) : List UInt8 → List (List UInt8)
  | [] => []
  | c :: l => w.hears c ++ (w.next c).feeds l
theorem Wr.feed_append (l m : List UInt8) : ∀ w : Wr, w.feed (l ++ m) = (w.feed l).feed m := by
  induction l with
  | nil => intro w; rfl
  | cons c l ih => intro w; exact ih _
theorem Wr.feeds_append (l m : List UInt8) : ∀ w : Wr, w.feeds (l ++ m) = w.feeds l ++ (w.feed l).feeds m := by
  induction l with
  | nil => intro w; rfl
  | cons c l ih => intro w; show _ ++ (w.next c).feeds (l ++ m) = _; rw [ih, ← List.append_assoc]; rfl
theorem Wr.feed_snoc (w : Wr) (l : List UInt8) (c : UInt8) : w.feed (l ++ [c]) = (w.feed l).next c := Wr.feed_append l [c] w
theorem Wr.feeds_snoc (w : Wr) (l : List UInt8) (c : UInt8) : w.feeds (l ++ [c]) = w.feeds l ++ (w.feed l).hears c := by
  rw [Wr.feeds_append]; show _ ++ (_ ++ []) = _; rw [List.append_nil]
theorem Wr.next_right (w : Wr) (c : UInt8) (h : w.right = true) : (w.next c).right = true := by
  unfold Wr.next
  split
  · simp [Wr.right]
  · split
    · exact h
    · rename_i h1 h2
      simp only [not_or, Bool.not_eq_false, Bool.not_eq_true] at h2
      have hb : w.buf.length ≤ 62 := by simpa [Wr.right, h2.1, h2.2] using h
      split
      · simpa [Wr.right, h2.1, h2.2] using hb
      · split
        · simp [Wr.right]
        · simp [Wr.right, h2.1, h2.2]; omega
theorem Wr.feed_right (l : List UInt8) : ∀ w : Wr, w.right = true → (w.feed l).right = true := by
  induction l with
  | nil => intro w h; exact h
  | cons c l ih => intro w h; exact ih _ (Wr.next_right w c h)
/-- a wire that is in hears bytes that stand escaped -/
theorem Wr.feed_esc (l : List UInt8) : ∀ b : List UInt8, b.length + l.length ≤ 62 → Wr.feed ⟨true, false, false, b⟩ (escL l) = ⟨true, false, false, b ++ l⟩ ∧ Wr.feeds ⟨true, false, false, b⟩ (escL l) = [] := by
  induction l with
  | nil => intro b _; exact ⟨by simp [escL, Wr.feed], rfl⟩
  | cons c l ih =>
    intro b hb
    rw [List.length_cons] at hb
    have key : Wr.feed ⟨true, false, false, b⟩ (esc1 c) = ⟨true, false, false, b ++ [c]⟩ ∧ Wr.feeds ⟨true, false, false, b⟩ (esc1 c) = [] := by
      unfold esc1
      split
      · rename_i h
        have h126 : c ^^^ 32 ≠ 126 := by rcases h with rfl | rfl <;> decide
        have e1 : Wr.next ⟨true, false, false, b⟩ 125 = ⟨true, true, false, b⟩ := by simp [Wr.next]
        have e2 : Wr.next ⟨true, true, false, b⟩ (c ^^^ 32) = ⟨true, false, false, b ++ [c]⟩ := by
          unfold Wr.next
          rw [if_neg h126, if_neg (by simp), if_neg (by simp), if_neg (by simp only; omega)]
          simp [turn_twice]
        constructor
        · show Wr.next (Wr.next _ _) _ = _; rw [e1, e2]
        · show Wr.hears _ _ ++ (Wr.hears (Wr.next _ _) _ ++ []) = _; simp [Wr.hears, h126]
      · rename_i h
        have h1 : c ≠ 126 := fun e => h (.inl e)
        have h2 : c ≠ 125 := fun e => h (.inr e)
        constructor
        · show Wr.next _ _ = _
          unfold Wr.next
          rw [if_neg h1, if_neg (by simp), if_neg (by simp [h2]), if_neg (by simp only; omega)]
          simp
        · show Wr.hears _ _ ++ [] = _; simp [Wr.hears, h1]
    obtain ⟨i1, i2⟩ := ih (b ++ [c]) (by simp; omega)
    rw [escL_cons, Wr.feed_append, Wr.feeds_append, key.1, key.2, i1, i2]
    simp
/-- a wire hears a body from its frame, whatever it heard ahead -/
theorem Wr.hears_frame (w : Wr) (b : List UInt8) (h1 : 1 ≤ b.length) (h2 : b.length ≤ 60) : w.feeds (frameT b) = w.hears 126 ++ [b] := by
  have e : frameT b = frameL (b ++ checkL b) := by unfold frameT; rw [if_neg (by omega)]
  rw [e]
  show w.hears 126 ++ (w.next 126).feeds (escL (b ++ checkL b) ++ [126]) = _
  have e0 : w.next 126 = ⟨true, false, false, []⟩ := by simp [Wr.next]
  have hlen : (b ++ checkL b).length = b.length + 2 := by rw [List.length_append, checkL_length]
  obtain ⟨k1, k2⟩ := Wr.feed_esc (b ++ checkL b) [] (by rw [hlen]; simp; omega)
  rw [e0, Wr.feeds_snoc, k1, k2, List.nil_append, List.nil_append]
  congr 1
  have hh : Wr.heard ⟨true, false, false, b ++ checkL b⟩ = b := by
    unfold Wr.heard
    simp only [hlen, Nat.add_sub_cancel, List.take_left, List.drop_left]
    rw [if_pos ⟨trivial, trivial, trivial, by omega, trivial⟩]
  unfold Wr.hears
  rw [hh, if_pos ⟨rfl, fun e => by rw [e] at h1; simp at h1⟩]
end Go.Proofs.Ytineecongiplgaa
/- THE WALKS of what a wire is, and whether it is right: the program's, the model's and the law's own. -/
namespace Go.Proofs.Ytineecongiplgaa
open Go.RowKit
set_option linter.unusedVariables false
set_option linter.unusedSimpArgs false

def rightB (i e d : Bool) (b : ByteArray) : Bool := if !i || d then decide (b.size = 0) && (i || !e && !d) else decide (b.size ≤ 62)
theorem empty_iff (b : ByteArray) : (b.toList == ([] : List UInt8)) = decide (b.size = 0) := by
  rw [Lib.toList_data, Bool.eq_iff_iff]
  have : b.data.toList.length = b.size := by rw [Array.length_toList]; rfl
  simp only [beq_iff_eq, decide_eq_true_eq]
  constructor
  · intro h; rw [h] at this; exact this.symm
  · intro h; exact List.eq_nil_of_length_eq_zero (by omega)
end Go.Proofs.Ytineecongiplgaa
/- BITS OF BYTES: the program's BitsRead and the model's. -/
namespace Go.Proofs.Ytineecongiplgaa
open Go.RowKit
set_option linter.unusedVariables false
set_option linter.unusedSimpArgs false

def bitsR (s : ByteArray) (m : Int) : List Int := if (1 ≤ m ∧ m ≤ 64) ∧ (s.size : Int) = (m + 7) / 8 then unpackL s m.toNat else []
/-- the row in the making -/
def unAt (s : ByteArray) (m k : Nat) : List Int := (unpackL s m).take k ++ List.replicate (m - k) 0
theorem unAt_length (s : ByteArray) (m k : Nat) (h : k ≤ m) : (unAt s m k).length = m := by unfold unAt; rw [List.length_append, List.length_take, unpackL_length, List.length_replicate]; omega
theorem unAt_step (s : ByteArray) (m k : Nat) (h : k < m) (x : Int) (hx : x = ((byteAt s (k / 8) / 2 ^ (k % 8) % 2 : Nat) : Int)) : (unAt s m k).set k x = unAt s m (k + 1) := by
  have hl : k < (unpackL s m).length := by rw [unpackL_length]; exact h
  unfold unAt
  have := set_midI (l := (unpackL s m).take k) (m := List.replicate (m - k) (0 : Int)) (c := x) (by intro e; have := congrArg List.length e; simp at this; omega)
  rw [List.length_take, Nat.min_eq_left (by omega)] at this
  rw [this, List.take_succ_eq_append_getElem hl, unpackL_get, hx, List.drop_replicate, Nat.sub_sub]
theorem and_table : ∀ r : Fin 8, ∀ o : Fin 256, wrap64 (bits BinOp.and IntKind.u8 ((o.val : Int) / 2 ^ r.val) 1) = ((o.val / 2 ^ r.val % 2 : Nat) : Int) := by decide +kernel
/-- numbers put behind one another -/
theorem OwnI.of {w : World} {base : Nat} {v : Value} {zs : List Int} {n : Nat} {xs : List Value} (h : w.ownsRow base 2 1 v n xs) (hn : n = zs.length) (hx : xs = zs.map (Value.int .i64)) : OwnI w base v zs := by subst hn; subst hx; exact h
theorem own_madeI (w : World) (base : Nat) (hb : base ≤ w.heap.size) : OwnI (w.alloc (.cells #[] 2)) base (.slice (some ⟨w.heap.size, 0, none⟩) 0 0) [] :=
  World.ownsRow_made w #[] 0 hb (by decide) rfl
theorem cells_newI (w : World) (xs : List Value) (t : TypeId) : ∀ j u, xs[j]? = some u → (w.alloc (.cells xs.toArray t)).cell? ((⟨w.heap.size, 0, none⟩ : Addr).add j) = some u := by
  intro j u hu
  have hn := heap_alloc_new w (.cells xs.toArray t)
  have e : (⟨w.heap.size, 0, none⟩ : Addr).add j = ⟨w.heap.size, j, none⟩ := by unfold Addr.add; split <;> simp_all
  rw [e]
  simp only [World.cell?, hn]
  simpa using hu
theorem cells_newG (w : World) (xs : List Value) (t : TypeId) (g : Nat) (hg : g = w.heap.size) : ∀ j u, xs[j]? = some u → (w.alloc (.cells xs.toArray t)).cell? ((⟨g, 0, none⟩ : Addr).add j) = some u := by subst hg; exact cells_newI w xs t
theorem bit_div {b r : Nat} (hb : b < 256) : (wrap64 ((b : Int) / ((2 ^ r : Nat) : Int))).tmod 2 = ((b / 2 ^ r % 2 : Nat) : Int) := by
  have e : (b : Int) / ((2 ^ r : Nat) : Int) = ((b / 2 ^ r : Nat) : Int) := by simp
  have h : b / 2 ^ r ≤ b := Nat.div_le_self _ _
  rw [e]
  generalize b / 2 ^ r = q at h
  have e2 : wrap64 (q : Int) = q := by unfold wrap64; omega
  rw [e2, Int.tmod_eq_emod_of_nonneg (by omega)]
  omega
end Go.Proofs.Ytineecongiplgaa
