/- THE WALKS of stamps: right, and below: the program's and the model's. -/
import Derived.Test.YtfpibedloodjlabDoorProg
import Derived.Test.YtfpibedloodjlabDoorInts
import Derived.Test.YtfpibedloodjlabDoorPlainGet
import Derived.Test.YtfpibedloodjlabDoorBits
import Derived.Test.YtfpibedloodjlabDoorOwnU
import Derived.Test.YtfpibedloodjlabDoorPlainAsk
import Derived.WalkKit
import Derived.WalkSpells
import Derived.Outline
import Derived.Below
import Derived.Deep.RegionHeld3
import Derived.BigQuiet
namespace Go.Proofs.YtfpibedloodjlabDoor
open Go.RowKit
set_option linter.unusedVariables false
set_option linter.unusedSimpArgs false

theorem isWord_any (n : Int) (w : World) : Calls Tryd.prog 67 #[.int .i64 n] w fun e w' => e = .returned (.bool (wordB n)) ∧ w = w' := by
  by_cases h1 : 0 ≤ n <;> by_cases h2 : n ≤ 65535
  all_goals
    go_enter Tryd.func67, Tryd.ntmps67
    go_wp2
    go_ret
    exact ⟨ret_bool (by simp [wordB, h1, h2]), rfl⟩
theorem l02Is_any (n lo hi : Int) (w : World) : Calls Tryd.prog 45 #[.int .i64 n, .int .i64 lo, .int .i64 hi] w fun e w' => e = .returned (.bool (decide (lo ≤ n) && decide (n ≤ hi))) ∧ w = w' := by
  by_cases h1 : lo ≤ n <;> by_cases h2 : n ≤ hi
  all_goals
    go_enter Tryd.func45, Tryd.ntmps45
    go_wp2
    go_ret
    exact ⟨ret_bool (by simp [h1, h2]), rfl⟩
theorem l02Word_any (n : Int) (w : World) : Calls Tryd.prog 31 #[.int .i64 n] w fun e w' => e = .returned (.bool (wordB n)) ∧ w = w' := by
  go_enter Tryd.func31, Tryd.ntmps31
  go_wp2_with (go_at_call 45; refine (l02Is_any n 0 65535 _).mono ?_; rintro e w' ⟨rfl, rfl⟩)
  go_ret
  exact ⟨rfl, rfl⟩
end Go.Proofs.YtfpibedloodjlabDoor
/- A REGION THAT DRAWS ITS ORDER, where a guard says no: what is not wanted is taken first. -/
namespace Go
section
variable {P : Program} {ops : Array Oper} {Q : Exit → Act → World → Prop} {md : Region.Mode} {S : World → Prop}
theorem Proofs.YtfpibedloodjlabDoor.skipH {i : Nat} {oi : Oper} {fuel : Nat} {listed : Array Bool} {a : Act} {w : World} (hi : ops[i]? = some oi)
    (hs : Region.noSelect ops = true) (hf : Region.free md ops listed i = true) (hr : (Region.ready md ops listed).contains i = true)
    (hQ : ∀ c a w, Q (.panic c) (a.put oi.dst undef) w → Q (.panic c) a w) (hw : Region.wanted oi (yielded ops a.tmps) = false) (hS : S w)
    (h : wpAnyH P md ops Q S fuel (listed.setIfInBounds i true) (a.put oi.dst undef) w) : wpAnyH P md ops Q S (fuel + 1) listed a w :=
  wpAnyH_take hi hs hf hr hQ (Or.inr ⟨hw, rfl⟩) hS h
theorem Proofs.YtfpibedloodjlabDoor.yieldH {i : Nat} {oi : Oper} {v : Value} {fuel : Nat} {listed : Array Bool} {a : Act} {w : World} (hi : ops[i]? = some oi)
    (hs : Region.noSelect ops = true) (hf : Region.free md ops listed i = true) (hr : (Region.ready md ops listed).contains i = true)
    (hQ : ∀ c a w, Q (.panic c) (a.put oi.dst v) w → Q (.panic c) a w) (hw : Region.wanted oi (yielded ops a.tmps) = true) (hy : ∀ w, S w → (execOp a.eval oi).run P w = .ok (.value v) w) (hS : S w)
    (h : wpAnyH P md ops Q S fuel (listed.setIfInBounds i true) (a.put oi.dst v) w) : wpAnyH P md ops Q S (fuel + 1) listed a w :=
  wpAnyH_take hi hs hf hr hQ (Or.inl ⟨hw, hy⟩) hS h
end
end Go
/- THE WALKS of a question's parts: the program's small functions. -/
namespace Go.Proofs.YtfpibedloodjlabDoor
open Go.RowKit
set_option linter.unusedVariables false
set_option linter.unusedSimpArgs false

def coilB (c : Int) : Bool := decide (c = 1 ∨ c = 5 ∨ c = 15)
def mostB (c : Int) : Int := if c = 1 then 64 else if c = 3 then 8 else if c = 5 ∨ c = 6 then 1 else if c = 15 then 16 else if c = 16 then 4 else 0
theorem code_cases (c : Int) : c = 1 ∨ c = 3 ∨ c = 5 ∨ c = 6 ∨ c = 15 ∨ c = 16 ∨ (¬ c = 1 ∧ ¬ c = 3 ∧ ¬ c = 5 ∧ ¬ c = 6 ∧ ¬ c = 15 ∧ ¬ c = 16) := by omega
theorem code_no {c : Int} (h : ¬ c = 1 ∧ ¬ c = 3 ∧ ¬ c = 5 ∧ ¬ c = 6 ∧ ¬ c = 15 ∧ ¬ c = 16) : (c == 1) = false ∧ (c == 3) = false ∧ (c == 5) = false ∧ (c == 6) = false ∧ (c == 15) = false ∧ (c == 16) = false := by
  obtain ⟨h1, h2, h3, h4, h5, h6⟩ := h
  simp [h1, h2, h3, h4, h5, h6]
theorem asksCoils_any (c : Int) (w : World) :
    Calls Tryd.prog 39 #[.int .i64 c] w fun e w' => e = .returned (.bool (coilB c)) ∧ w = w' := by
  rcases code_cases c with rfl | rfl | rfl | rfl | rfl | rfl | h
  all_goals try
    go_enter Tryd.func39, Tryd.ntmps39
    go_wp2
    go_ret
    exact ⟨rfl, rfl⟩
  have hB : coilB c = false := by unfold coilB; exact decide_eq_false (by omega)
  obtain ⟨e1, e3, e5, e6, e15, e16⟩ := code_no h
  rw [hB]
  clear h hB
  go_enter Tryd.func39, Tryd.ntmps39
  go_wp2
  go_ret
  exact ⟨rfl, rfl⟩
theorem mostOf_any (c : Int) (w : World) :
    Calls Tryd.prog 40 #[.int .i64 c] w fun e w' => e = .returned (.int .i64 (mostB c)) ∧ w = w' := by
  rcases code_cases c with rfl | rfl | rfl | rfl | rfl | rfl | h
  all_goals try
    go_enter Tryd.func40, Tryd.ntmps40
    go_wp2
    go_ret
    exact ⟨rfl, rfl⟩
  have hB : mostB c = 0 := by unfold mostB; rw [if_neg (by omega), if_neg (by omega), if_neg (by omega), if_neg (by omega), if_neg (by omega)]
  obtain ⟨e1, e3, e5, e6, e15, e16⟩ := code_no h
  rw [hB]
  clear h hB
  go_enter Tryd.func40, Tryd.ntmps40
  go_wp2
  go_ret
  exact ⟨rfl, rfl⟩
def setsB (q : Ak) : Bool := decide ((q.vs.length : Int) = q.m) && q.vs.all (upTo (if coilB q.c then 1 else 65535))
set_option maxRecDepth 100000 in
set_option maxHeartbeats 800000 in
theorem setsRight_any (q : Ak) (p : Option Addr) (c : Nat) (w : World) (hl : q.vs.length ≤ 10000000) (hr : RowI w (.slice p q.vs.length c) q.vs) :
    Calls Tryd.prog 90 #[.agg #[.int .i64 q.c, .int .i64 q.a, .int .i64 q.m, .slice p q.vs.length c]] w fun e w' => e = .returned (.bool (setsB q)) ∧ Below w.heap.size w w' := by
  have HR : Hid (∀ W, Below w.heap.size w W → RowI W (.slice p q.vs.length c) q.vs) := fun W hW => hr.below hW
  have HA : Hid (∀ W top, Below w.heap.size w W → Calls Tryd.prog 37 #[.slice p q.vs.length c, .int .i64 top] W fun e w' => e = .returned (.bool (q.vs.all (upTo top))) ∧ W = w') := fun W top hW => allUpTo_any _ q.vs top W hl (HR.out W hW)
  have HC : Hid (∀ W, Calls Tryd.prog 39 #[.int .i64 q.c] W fun e w' => e = .returned (.bool (coilB q.c)) ∧ W = w') := fun W => asksCoils_any q.c W
  have hA0 := all_alloc w (.cells #[.int .i64 q.c, .int .i64 q.a, .int .i64 q.m, .slice p q.vs.length c] 43)
  unfold setsB
  clear hr
  by_cases hm : (q.vs.length : Int) = q.m
  · rw [decide_eq_true hm, Bool.true_and]
    have em : ((q.vs.length : Int) != q.m) = false := by simp [hm]
    cases hc : coilB q.c with
    | true =>
      rw [hc] at HC
      rw [if_pos rfl]
      clear hm hc
      go_enter Tryd.func90, Tryd.ntmps90
      go_wp2_with (first
        | (go_at_call 39; refine (HC.out _).mono ?_; rintro e w1 ⟨rfl, rfl⟩)
        | (go_at_call 37; refine (HA.out _ _ hA0).mono ?_; rintro e w1 ⟨rfl, rfl⟩))
      go_ret
      exact ⟨rfl, all_alloc _ _⟩
    | false =>
      rw [hc] at HC
      rw [if_neg (by decide)]
      clear hm hc
      go_enter Tryd.func90, Tryd.ntmps90
      go_wp2_with (first
        | (go_at_call 39; refine (HC.out _).mono ?_; rintro e w1 ⟨rfl, rfl⟩)
        | (go_at_call 37; refine (HA.out _ _ hA0).mono ?_; rintro e w1 ⟨rfl, rfl⟩))
      go_ret
      exact ⟨rfl, all_alloc _ _⟩
  · rw [decide_eq_false hm, Bool.false_and]
    have em : ((q.vs.length : Int) != q.m) = true := by simp [hm]
    clear hm
    go_enter Tryd.func90, Tryd.ntmps90
    go_wp2
    go_ret
    exact ⟨rfl, all_alloc _ _⟩
end Go.Proofs.YtfpibedloodjlabDoor
/- PLAIN: frames on a wire over lists of bytes: the check, the escapes, what a wire hears; nothing of the program. -/
namespace Go.Proofs.YtfpibedloodjlabDoor

def fcsStep (x : Nat) : Nat := if x % 2 = 1 then (x / 2) ^^^ 33800 else x / 2
def fcsSteps : Nat → Nat → Nat
  | 0, x => x
  | n + 1, x => fcsStep (fcsSteps n x)
def fcsB (r b : Nat) : Nat := fcsSteps 8 (r ^^^ b)
def fcsR (r : Nat) (l : List UInt8) : Nat := l.foldl (fun r c => fcsB r c.toNat) r
def fcsL (l : List UInt8) : Nat := 65535 - fcsR 65535 l
theorem xor_lt16 {a b : Nat} (ha : a < 65536) (hb : b < 65536) : a ^^^ b < 65536 := Nat.xor_lt_two_pow (n := 16) ha hb
theorem fcsStep_lt {x : Nat} (h : x < 65536) : fcsStep x < 65536 := by
  unfold fcsStep
  split
  · exact xor_lt16 (by omega) (by decide)
  · omega
theorem fcsSteps_lt (n : Nat) {x : Nat} (h : x < 65536) : fcsSteps n x < 65536 := by
  induction n with
  | zero => exact h
  | succ n ih => exact fcsStep_lt ih
theorem fcsB_lt {r b : Nat} (h : r < 65536) (hb : b < 256) : fcsB r b < 65536 := fcsSteps_lt 8 (xor_lt16 h (by omega))
theorem fcsR_lt (l : List UInt8) : ∀ {r : Nat}, r < 65536 → fcsR r l < 65536 := by
  induction l with
  | nil => intro r h; exact h
  | cons c l ih => intro r h; exact ih (fcsB_lt h c.toNat_lt)
theorem fcsR_snoc (r : Nat) (l : List UInt8) (c : UInt8) : fcsR r (l ++ [c]) = fcsB (fcsR r l) c.toNat := by
  simp [fcsR, List.foldl_append]
theorem fcsL_lt (l : List UInt8) : fcsL l < 65536 := by unfold fcsL; omega

def checkL (l : List UInt8) : List UInt8 := [UInt8.ofNat (fcsL l % 256), UInt8.ofNat (fcsL l / 256)]
theorem checkL_length (l : List UInt8) : (checkL l).length = 2 := rfl
def esc1 (c : UInt8) : List UInt8 := if c = 126 ∨ c = 125 then [125, c ^^^ 32] else [c]
def escL (l : List UInt8) : List UInt8 := l.flatMap esc1
theorem escL_nil : escL [] = [] := rfl
theorem escL_cons (c : UInt8) (l : List UInt8) : escL (c :: l) = esc1 c ++ escL l := by simp [escL]
theorem escL_append (l m : List UInt8) : escL (l ++ m) = escL l ++ escL m := by simp [escL]
theorem escL_snoc (l : List UInt8) (c : UInt8) : escL (l ++ [c]) = escL l ++ esc1 c := by simp [escL]
theorem esc1_length (c : UInt8) : 1 ≤ (esc1 c).length ∧ (esc1 c).length ≤ 2 := by unfold esc1; split <;> simp
theorem escL_length (l : List UInt8) : l.length ≤ (escL l).length ∧ (escL l).length ≤ 2 * l.length := by
  induction l with
  | nil => simp [escL]
  | cons c l ih => have := esc1_length c; rw [escL_cons, List.length_append, List.length_cons]; omega
def frameL (l : List UInt8) : List UInt8 := 126 :: (escL l ++ [126])
theorem frameL_length (l : List UInt8) : (frameL l).length = (escL l).length + 2 := by simp [frameL]
def unescL : List UInt8 → List UInt8
  | [] => []
  | [c] => [c]
  | c :: d :: l => if c = 125 then (d ^^^ 32) :: unescL l else c :: unescL (d :: l)
theorem turn_twice (c : UInt8) : c ^^^ 32 ^^^ 32 = c := by
  rw [UInt8.xor_assoc, UInt8.xor_self, UInt8.xor_zero]
theorem unescL_plain (c : UInt8) (l : List UInt8) (h : c ≠ 125) : unescL (c :: l) = c :: unescL l := by
  cases l with
  | nil => rfl
  | cons d l => rw [unescL, if_neg h]
theorem unescL_turned (d : UInt8) (l : List UInt8) : unescL (125 :: d :: l) = (d ^^^ 32) :: unescL l := by rw [unescL, if_pos rfl]
theorem unesc_esc (l : List UInt8) : unescL (escL l) = l := by
  induction l with
  | nil => rfl
  | cons c l ih =>
    rw [escL_cons]
    unfold esc1
    split
    · rw [List.cons_append, List.cons_append, List.nil_append, unescL_turned, ih, turn_twice]
    · rename_i h
      rw [List.cons_append, List.nil_append, unescL_plain c _ (fun e => h (.inr e)), ih]
/-- what stands between the first and the last byte -/
def innerL (t : List UInt8) : List UInt8 := (t.drop 1).take (t.length - 2)
theorem inner_frame (l : List UInt8) : innerL (frameL l) = escL l := by
  unfold innerL
  rw [frameL_length]
  show List.take _ (escL l ++ [126]) = _
  exact List.take_left' (by omega)

/-- the frame of a body -/
def frameT (b : List UInt8) : List UInt8 := if b.length < 1 ∨ 60 < b.length then [] else frameL (b ++ checkL b)
/-- what is told of a frame: the body, the code -/
def readL (t : List UInt8) : List UInt8 × Int :=
  if 8000 < t.length then ([], 2)
  else if (unescL (innerL t)).length < 3 ∨ 62 < (unescL (innerL t)).length ∨ frameL (unescL (innerL t)) ≠ t then ([], 3)
  else if checkL ((unescL (innerL t)).take ((unescL (innerL t)).length - 2)) ≠ (unescL (innerL t)).drop ((unescL (innerL t)).length - 2) then ([], 5)
  else ((unescL (innerL t)).take ((unescL (innerL t)).length - 2), 0)
theorem frameT_length (b : List UInt8) : (frameT b).length ≤ 126 := by
  unfold frameT
  split
  · simp
  · have := escL_length (b ++ checkL b)
    rw [frameL_length]
    simp only [List.length_append, checkL_length] at this
    omega
theorem read_frame (b : List UInt8) (h1 : 1 ≤ b.length) (h2 : b.length ≤ 60) : readL (frameT b) = (b, 0) := by
  have hl := frameT_length b
  have e : frameT b = frameL (b ++ checkL b) := by unfold frameT; rw [if_neg (by omega)]
  have e2 : unescL (innerL (frameT b)) = b ++ checkL b := by rw [e, inner_frame, unesc_esc]
  unfold readL
  rw [if_neg (by omega), e2]
  have e3 : (b ++ checkL b).length = b.length + 2 := by rw [List.length_append, checkL_length]
  rw [e3, if_neg (by rw [← e]; simp only [ne_eq, not_true_eq_false, or_false]; omega), Nat.add_sub_cancel, List.take_left, List.drop_left, if_neg (by simp)]
theorem frame_read {t x : List UInt8} (h : readL t = (x, 0)) : frameT x = t := by
  unfold readL at h
  split at h
  · exact absurd (congrArg Prod.snd h) (by simp)
  · split at h
    · exact absurd (congrArg Prod.snd h) (by simp)
    · rename_i h1 h2
      split at h
      · exact absurd (congrArg Prod.snd h) (by simp)
      · rename_i h3
        have hx := congrArg Prod.fst h
        simp only at hx
        simp only [ne_eq, not_or, Decidable.not_not] at h2 h3
        generalize unescL (innerL t) = p at h2 h3 hx
        have hlen : x.length = p.length - 2 := by rw [← hx, List.length_take]; omega
        unfold frameT
        rw [if_neg (by omega)]
        have : x ++ checkL x = p := by rw [← hx, h3, List.take_append_drop]
        rw [this]
        exact h2.2.2

/-- what a wire is -/
structure Wr where
  inn : Bool
  esc : Bool
  bad : Bool
  buf : List UInt8
def Wr.right (w : Wr) : Bool := if !w.inn || w.bad then w.buf.isEmpty && (w.inn || !w.esc && !w.bad) else w.buf.length ≤ 62
def Wr.heard (w : Wr) : List UInt8 :=
  if w.inn = true ∧ w.esc = false ∧ w.bad = false ∧ 3 ≤ w.buf.length ∧ checkL (w.buf.take (w.buf.length - 2)) = w.buf.drop (w.buf.length - 2) then w.buf.take (w.buf.length - 2) else []
/-- a wire behind a byte -/
def Wr.next (w : Wr) (c : UInt8) : Wr :=
  if c = 126 then ⟨true, false, false, []⟩
  else if w.inn = false ∨ w.bad = true then w
  else if c = 125 ∧ w.esc = false then ⟨w.inn, true, w.bad, w.buf⟩
  else if 62 ≤ w.buf.length then ⟨true, false, true, []⟩
  else ⟨w.inn, false, w.bad, w.buf ++ [if w.esc then c ^^^ 32 else c]⟩
/-- what is heard by a byte -/
def Wr.hears (w : Wr) (c : UInt8) : List (List UInt8) := if c = 126 ∧ w.heard ≠ [] then [w.heard] else []
def Wr.feed (w : Wr) : List UInt8 → Wr
  | [] => w
  | c :: l => (w.next c).feed l
def Wr.feeds (w : Wr) : List UInt8 → List (List UInt8)
  | [] => []
  | c :: l => w.hears c ++ (w.next c).feeds l
theorem Wr.feed_append (l m : List UInt8) : ∀ w : Wr, w.feed (l ++ m) = (w.feed l).feed m := by
  induction l with
  | nil => intro w; rfl
  | cons c l ih => intro w; exact ih _
theorem Wr.feeds_append (l m : List UInt8) : ∀ w : Wr, w.feeds (l ++ m) = w.feeds l ++ (w.feed l).feeds m := by
  induction l with
  | nil => intro w; rfl
  | cons c l ih => intro w; show _ ++ (w.next c).feeds (l ++ m) = _; rw [ih, ← List.append_assoc]; rfl
theorem Wr.feed_snoc (w : Wr) (l : List UInt8) (c : UInt8) : w.feed (l ++ [c]) = (w.feed l).next c := Wr.feed_append l [c] w
theorem Wr.feeds_snoc (w : Wr) (l : List UInt8) (c : UInt8) : w.feeds (l ++ [c]) = w.feeds l ++ (w.feed l).hears c := by
  rw [Wr.feeds_append]; show _ ++ (_ ++ []) = _; rw [List.append_nil]
theorem Wr.next_right (w : Wr) (c : UInt8) (h : w.right = true) : (w.next c).right = true := by
  unfold Wr.next
  split
  · simp [Wr.right]
  · split
    · exact h
    · rename_i h1 h2
      simp only [not_or, Bool.not_eq_false, Bool.not_eq_true] at h2
      have hb : w.buf.length ≤ 62 := by simpa [Wr.right, h2.1, h2.2] using h
      split
      · simpa [Wr.right, h2.1, h2.2] using hb
      · split
        · simp [Wr.right]
        · simp [Wr.right, h2.1, h2.2]; omega
theorem Wr.feed_right (l : List UInt8) : ∀ w : Wr, w.right = true → (w.feed l).right = true := by
  induction l with
  | nil => intro w h; exact h
  | cons c l ih => intro w h; exact ih _ (Wr.next_right w c h)
/-- a wire that is in hears bytes that stand escaped -/
theorem Wr.feed_esc (l : List UInt8) : ∀ b : List UInt8, b.length + l.length ≤ 62 → Wr.feed ⟨true, false, false, b⟩ (escL l) = ⟨true, false, false, b ++ l⟩ ∧ Wr.feeds ⟨true, false, false, b⟩ (escL l) = [] := by
  induction l with
  | nil => intro b _; exact ⟨by simp [escL, Wr.feed], rfl⟩
  | cons c l ih =>
    intro b hb
    rw [List.length_cons] at hb
    have key : Wr.feed ⟨true, false, false, b⟩ (esc1 c) = ⟨true, false, false, b ++ [c]⟩ ∧ Wr.feeds ⟨true, false, false, b⟩ (esc1 c) = [] := by
      unfold esc1
      split
      · rename_i h
        have h126 : c ^^^ 32 ≠ 126 := by rcases h with rfl | rfl <;> decide
        have e1 : Wr.next ⟨true, false, false, b⟩ 125 = ⟨true, true, false, b⟩ := by simp [Wr.next]
        have e2 : Wr.next ⟨true, true, false, b⟩ (c ^^^ 32) = ⟨true, false, false, b ++ [c]⟩ := by
          unfold Wr.next
          rw [if_neg h126, if_neg (by simp), if_neg (by simp), if_neg (by simp only; omega)]
          simp [turn_twice]
        constructor
        · show Wr.next (Wr.next _ _) _ = _; rw [e1, e2]
        · show Wr.hears _ _ ++ (Wr.hears (Wr.next _ _) _ ++ []) = _; simp [Wr.hears, h126]
      · rename_i h
        have h1 : c ≠ 126 := fun e => h (.inl e)
        have h2 : c ≠ 125 := fun e => h (.inr e)
        constructor
        · show Wr.next _ _ = _
          unfold Wr.next
          rw [if_neg h1, if_neg (by simp), if_neg (by simp [h2]), if_neg (by simp only; omega)]
          simp
        · show Wr.hears _ _ ++ [] = _; simp [Wr.hears, h1]
    obtain ⟨i1, i2⟩ := ih (b ++ [c]) (by simp; omega)
    rw [escL_cons, Wr.feed_append, Wr.feeds_append, key.1, key.2, i1, i2]
    simp
/-- a wire hears a body from its frame, whatever it heard ahead -/
theorem Wr.hears_frame (w : Wr) (b : List UInt8) (h1 : 1 ≤ b.length) (h2 : b.length ≤ 60) : w.feeds (frameT b) = w.hears 126 ++ [b] := by
  have e : frameT b = frameL (b ++ checkL b) := by unfold frameT; rw [if_neg (by omega)]
  rw [e]
  show w.hears 126 ++ (w.next 126).feeds (escL (b ++ checkL b) ++ [126]) = _
  have e0 : w.next 126 = ⟨true, false, false, []⟩ := by simp [Wr.next]
  have hlen : (b ++ checkL b).length = b.length + 2 := by rw [List.length_append, checkL_length]
  obtain ⟨k1, k2⟩ := Wr.feed_esc (b ++ checkL b) [] (by rw [hlen]; simp; omega)
  rw [e0, Wr.feeds_snoc, k1, k2, List.nil_append, List.nil_append]
  congr 1
  have hh : Wr.heard ⟨true, false, false, b ++ checkL b⟩ = b := by
    unfold Wr.heard
    simp only [hlen, Nat.add_sub_cancel, List.take_left, List.drop_left]
    rw [if_pos ⟨trivial, trivial, trivial, by omega, trivial⟩]
  unfold Wr.hears
  rw [hh, if_pos ⟨rfl, fun e => by rw [e] at h1; simp at h1⟩]
end Go.Proofs.YtfpibedloodjlabDoor
/- THE WALKS of what a wire is, and whether it is right: the program's, the model's and the law's own. -/
namespace Go.Proofs.YtfpibedloodjlabDoor
open Go.RowKit
set_option linter.unusedVariables false
set_option linter.unusedSimpArgs false

def rightB (i e d : Bool) (b : ByteArray) : Bool := if !i || d then decide (b.size = 0) && (i || !e && !d) else decide (b.size ≤ 62)
theorem empty_iff (b : ByteArray) : (b.toList == ([] : List UInt8)) = decide (b.size = 0) := by
  rw [Lib.toList_data, Bool.eq_iff_iff]
  have : b.data.toList.length = b.size := by rw [Array.length_toList]; rfl
  simp only [beq_iff_eq, decide_eq_true_eq]
  constructor
  · intro h; rw [h] at this; exact this.symm
  · intro h; exact List.eq_nil_of_length_eq_zero (by omega)
end Go.Proofs.YtfpibedloodjlabDoor
