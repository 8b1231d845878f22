/- QUESTIONS over numbers and lists: right, their bytes, and what is read of bytes. -/
import Derived.Test.YtineecongiplgaaQpBox
import Derived.Test.YtineecongiplgaaQpPlainSt
import Derived.Test.YtineecongiplgaaQpPaI
import Derived.Test.YtineecongiplgaaQpPaR
import Derived.Test.YtineecongiplgaaQpPathS
import Derived.Test.YtineecongiplgaaQpPathP
import Derived.Test.YtineecongiplgaaProg
import Derived.Test.YtineecongiplgaaQpDraw2
import Derived.WalkKit
import Derived.WalkSpells
import Derived.Outline
import Derived.Below
import Derived.Deep.QuietTactic
import Derived.BigQuiet
import Derived.OpenShut
namespace Go.Proofs.Ytineecongiplgaa
open Go.RowKit
set_option linter.unusedVariables false
set_option linter.unusedSimpArgs false

/-- a question -/
structure Ak where
  c : Int
  a : Int
  m : Int
  vs : List Int
def Ak.fit (q : Ak) : Bool :=
    if q.c = 1 then (decide (1 ≤ q.m) && decide (q.m ≤ 64)) && decide (q.vs.length = 0)
    else if q.c = 3 then (decide (1 ≤ q.m) && decide (q.m ≤ 8)) && decide (q.vs.length = 0)
    else if q.c = 5 then decide (q.m = 1) && (decide (q.vs.length = 1) && q.vs.all bitB)
    else if q.c = 6 then decide (q.m = 1) && (decide (q.vs.length = 1) && q.vs.all wordB)
    else if q.c = 15 then (decide (1 ≤ q.m) && decide (q.m ≤ 16)) && (decide ((q.vs.length : Int) = q.m) && q.vs.all bitB)
    else if q.c = 16 then (decide (1 ≤ q.m) && decide (q.m ≤ 4)) && (decide ((q.vs.length : Int) = q.m) && q.vs.all wordB)
    else false
def Ak.right (q : Ak) : Bool := wordB q.a && q.fit
def twoL (n : Int) : List UInt8 := [UInt8.ofNat (n.toNat / 256), UInt8.ofNat (n.toNat % 256)]
def twoB (n : Int) : ByteArray := ⟨(twoL n).toArray⟩
def oneL (n : Int) : List UInt8 := [UInt8.ofNat n.toNat]
def oneB (n : Int) : ByteArray := ⟨(oneL n).toArray⟩
def wordsL (zs : List Int) : List UInt8 := zs.flatMap twoL
def wordsB (zs : List Int) : ByteArray := ⟨(wordsL zs).toArray⟩
def countedL (l : List UInt8) : List UInt8 := oneL (l.length : Int) ++ l
def Ak.tail (q : Ak) : List UInt8 :=
    if q.c = 1 ∨ q.c = 3 then twoL q.m
    else if q.c = 5 then twoL (65280 * q.vs.getD 0 0)
    else if q.c = 6 then twoL (q.vs.getD 0 0)
    else if q.c = 15 then twoL q.m ++ countedL (packL q.vs)
    else twoL q.m ++ countedL (wordsL q.vs)
def askL (q : Ak) : List UInt8 := oneL q.c ++ (twoL q.a ++ q.tail)
def askB (q : Ak) : ByteArray := if q.right then ⟨(askL q).toArray⟩ else ByteArray.empty
theorem wordsL_length (zs : List Int) : (wordsL zs).length = 2 * zs.length := by
  induction zs with
  | nil => rfl
  | cons a l ih => simp [wordsL, twoL] at ih ⊢; omega
theorem wordsL_snoc (l : List Int) (n : Int) : wordsL (l ++ [n]) = wordsL l ++ twoL n := by simp [wordsL]
theorem Ak.codes {q : Ak} (h : q.right = true) : q.c = 1 ∨ q.c = 3 ∨ q.c = 5 ∨ q.c = 6 ∨ q.c = 15 ∨ q.c = 16 := by
  unfold Ak.right Ak.fit at h
  rw [Bool.and_eq_true] at h
  have h := h.2
  repeat' split at h
  all_goals first | omega | simp at h

def wordAt (s : ByteArray) (i : Nat) : Int := ((256 * byteAt s i + byteAt s (i + 1) : Nat) : Int)
/-- so many words from a place on -/
def wordsAt (s : ByteArray) (i n : Nat) : List Int := (List.range n).map fun k => wordAt s (i + 2 * k)
/-- bits from a place on -/
def bitsAt (s : ByteArray) (p m : Nat) : List Int := (List.range m).map fun i => ((byteAt s (p + i / 8) / 2 ^ (i % 8) % 2 : Nat) : Int)
def readS (s : ByteArray) : Ak :=
  let c : Int := (byteAt s 0 : Int)
  let m := wordAt s 3
  if c = 5 then ⟨c, wordAt s 1, 1, [m / 65280]⟩
  else if c = 6 then ⟨c, wordAt s 1, 1, [m]⟩
  else if c = 15 then ⟨c, wordAt s 1, m, if 6 < s.size ∧ (1 ≤ m ∧ m ≤ 16) ∧ ((s.size - 6 : Nat) : Int) = (m + 7) / 8 then bitsAt s 6 m.toNat else []⟩
  else if c = 16 then ⟨c, wordAt s 1, m, wordsAt s 6 (min 7 ((s.size - 6) / 2))⟩
  else ⟨c, wordAt s 1, m, []⟩
def readI (s : ByteArray) : Ak :=
  let c : Int := (byteAt s 0 : Int)
  let m := wordAt s 3
  if c = 5 then ⟨c, wordAt s 1, 1, [m / 65280]⟩
  else if c = 6 then ⟨c, wordAt s 1, 1, [m]⟩
  else if c = 15 then ⟨c, wordAt s 1, m, if (1 ≤ m ∧ m ≤ 64) ∧ ((s.size - 6 : Nat) : Int) = (m + 7) / 8 then bitsAt s 6 m.toNat else []⟩
  else if c = 16 then ⟨c, wordAt s 1, m, wordsAt s 6 ((s.size - 6) / 2)⟩
  else ⟨c, wordAt s 1, m, []⟩
theorem wordsAt_length (s : ByteArray) (i n : Nat) : (wordsAt s i n).length = n := by simp [wordsAt]
theorem bitsAt_length (s : ByteArray) (p m : Nat) : (bitsAt s p m).length = m := by simp [bitsAt]
/-- the two readers part just where neither reads a right one -/
theorem reads (s : ByteArray) : readI s = readS s ∨ ((readI s).right = false ∧ (readS s).right = false) := by
  unfold readI readS
  generalize wordAt s 3 = m
  generalize wordAt s 1 = a
  generalize (byteAt s 0 : Int) = c
  dsimp only
  by_cases h5 : c = 5
  · rw [if_pos h5, if_pos h5]; exact .inl rfl
  rw [if_neg h5, if_neg h5]
  by_cases h6 : c = 6
  · rw [if_pos h6, if_pos h6]; exact .inl rfl
  rw [if_neg h6, if_neg h6]
  by_cases h15 : c = 15
  · rw [if_pos h15, if_pos h15]
    by_cases hm : m ≤ 16
    · left
      congr 1
      by_cases h1 : (1 ≤ m ∧ m ≤ 64) ∧ ((s.size - 6 : Nat) : Int) = (m + 7) / 8
      · rw [if_pos h1, if_pos ⟨by omega, by omega, h1.2⟩]
      · rw [if_neg h1, if_neg (by omega)]
    · right
      subst h15
      simp [Ak.right, Ak.fit, hm]
  rw [if_neg h15, if_neg h15]
  by_cases h16 : c = 16
  · rw [if_pos h16, if_pos h16]
    by_cases hz : (s.size - 6) / 2 ≤ 7
    · left
      rw [Nat.min_eq_right hz]
    · right
      subst h16
      have e : min 7 ((s.size - 6) / 2) = 7 := by omega
      rw [e]
      simp only [Ak.right, Ak.fit, wordsAt_length]
      constructor
      · by_cases hm : m ≤ 4
        · have : ¬ (((s.size - 6) / 2 : Nat) : Int) = m := by omega
          simp [this]
          omega
        · simp [hm]
      · by_cases hm : m ≤ 4
        · have : ¬ (7 : Int) = m := by omega
          simp [this]
        · simp [hm]
  rw [if_neg h16, if_neg h16]
  exact .inl rfl
theorem askB_size (q : Ak) (h : q.right = false) : askB q = ByteArray.empty := by unfold askB; rw [if_neg (by simp [h])]
end Go.Proofs.Ytineecongiplgaa
/- THE LAW's OWN QUESTION of two questions: the same is the same. -/
namespace Go.Proofs.Ytineecongiplgaa
open Go.RowKit
set_option linter.unusedVariables false
set_option linter.unusedSimpArgs false

set_option maxRecDepth 100000 in
set_option maxHeartbeats 800000 in
theorem lwNums_sameQ (v1 v2 : Value) (zs : List Int) (w : World) (hl : zs.length ≤ 10000000) (h1 : RowI w v1 zs) (h2 : RowI w v2 zs) :
    Calls Try.prog 56 #[v1, v2] w fun e w' => e = .returned (.bool true) ∧ Below w.heap.size w w' := by
  obtain ⟨p1, c1, rfl, h1⟩ := h1
  obtain ⟨p2, c2, rfl, h2⟩ := h2
  have e0 : ((zs.length : Int) != (zs.length : Int)) = false := by simp
  have H1 : Hid _ := h1
  have H2 : Hid _ := h2
  clear h1 h2
  go_enter Try.func56, Try.ntmps56
  go_wp2
  go_loopw [5] (fun i wr => ∃ k : Nat, k ≤ zs.length ∧ i = .int .i64 k ∧ Below w.heap.size w wr) (fun i _ => zs.length - (intOf i).toNat)
  case atStart => exact ⟨0, Nat.zero_le _, rfl, Below.refl _ _⟩
  case round =>
    obtain ⟨k, hk, rfl, hbel⟩ := hrel
    by_cases hlt : k < zs.length
    · obtain ⟨g1, rfl, l1, q1⟩ := H1.out k hlt
      obtain ⟨g2, rfl, l2, q2⟩ := H2.out k hlt
      have q1' := (hbel.cell (p := ⟨g1, k, none⟩) l1).trans q1
      have q2' := (hbel.cell (p := ⟨g2, k, none⟩) l2).trans q2
      clear q1 q2
      have es : (zs[k] != zs[k]) = false := by simp
      go_wp2
      go_quiet (fail)
      go_wp2
      go_roundw
      case rel => exact ⟨k + 1, by omega, by go_num, hbel.trans ((Below.refl _ wr).trans ⟨rfl, rfl, rfl, Nat.le_refl _, fun _ _ => rfl⟩)⟩
      case measure => simp [intOf]; omega
    · go_wp2
      go_ret
      exact ⟨rfl, hbel⟩
end Go.Proofs.Ytineecongiplgaa
/- THE LAW's OWN QUESTIONS of paths (FnPath): the same is the same; what is answered without a fault is right. -/
namespace Go.Proofs.Ytineecongiplgaa
open Go.RowKit
set_option linter.unusedVariables false
set_option linter.unusedSimpArgs false

theorem newP_ok (l : List Int) (h : (newP l).c = 0) : (newP l).t.path = true ∧ (newP l).t = ⟨l, []⟩ := by
  unfold newP at h ⊢
  split at h
  · cases h
  · split at h
    · cases h
    · rename_i h1 h2
      have hp : hopsB l = true := by cases hh : hopsB l <;> simp_all
      rw [if_neg h1, if_neg h2]
      refine ⟨?_, rfl⟩
      unfold Tb.path
      rw [List.append_nil]
      exact hp
theorem stepP_ok (t : Tb) (v : Int) (h : (stepP t v).c = 0) : (stepP t v).t.path = true := by
  obtain ⟨cs, rs⟩ := t
  unfold stepP at h ⊢
  split at h
  · cases h
  · rename_i h1
    have hp : (⟨cs, rs⟩ : Tb).path = true := by cases hh : (⟨cs, rs⟩ : Tb).path <;> simp_all
    have hv : addrB v = true := by cases hh : addrB v <;> simp_all
    rw [if_neg h1]
    cases cs with
    | nil => cases h
    | cons a l =>
      obtain ⟨⟨h2, h3⟩, h4⟩ := (Tb.path_iff _).1 hp
      simp at h2 h4
      refine (Tb.path_iff _).2 ⟨⟨by simpa using h2.2, by simp [hv]; simpa using h3⟩, by simp; omega⟩
theorem homeP_ok (t : Tb) (h : (homeP t).c = 0) : (homeP t).t.path = true := by
  unfold homeP at h ⊢
  split at h
  · cases h
  · rename_i h1
    have hp : t.path = true := by cases hh : t.path <;> simp_all
    rw [if_neg h1]
    obtain ⟨⟨h2, h3⟩, h4⟩ := (Tb.path_iff _).1 hp
    exact (Tb.path_iff _).2 ⟨⟨h3, rfl⟩, by simp; omega⟩
theorem readPa_ok (s : ByteArray) (h : (readPa s).c = 0) : (readPa s).t.path = true ∧ pathB (readPa s).t = s := by
  unfold readPa at h ⊢
  split at h
  · cases h
  · split at h
    · rename_i h1 h2
      rw [if_neg h1, if_pos h2]
      refine ⟨?_, h2⟩
      cases hh : (rdAll s).path with
      | true => rfl
      | false =>
        have e : pathB (rdAll s) = ByteArray.empty := by unfold pathB; rw [hh]; rfl
        rw [e] at h2
        rw [← h2, rdAll_empty] at e
        exact absurd e pathB_zero
    · cases h
/-- a right path comes back from its bytes -/
theorem readPa_back (t : Tb) (h : t.path = true) : readPa (pathB t) = ⟨t, 0, 0⟩ := by
  have e : pathB t = ⟨(pathL t).toArray⟩ := by unfold pathB; rw [h]; rfl
  obtain ⟨hz, hr, _⟩ := read_path _ t h e
  unfold readPa
  rw [if_neg (by omega), hr, if_pos rfl]
set_option maxRecDepth 100000 in
set_option maxHeartbeats 800000 in
theorem lwPath_same (t : Tb) (a1 a2 b1 b2 : Value) (w : World) (hl1 : t.cs.length ≤ 10000000) (hl2 : t.rs.length ≤ 10000000) (h1 : RowI w a1 t.cs) (h2 : RowI w a2 t.rs) (h3 : RowI w b1 t.cs) (h4 : RowI w b2 t.rs) :
    Calls Try.prog 25 #[.agg #[a1, a2], .agg #[b1, b2]] w fun x w' => x = .returned (.bool true) ∧ Below w.heap.size w w' := by
  have H1 : Hid (∀ W, Below w.heap.size w W → Calls Try.prog 56 #[a1, b1] W fun e w' => e = .returned (.bool true) ∧ Below W.heap.size W w') := fun W hW => lwNums_sameQ a1 b1 t.cs W hl1 (h1.below hW) (h3.below hW)
  have H2 : Hid (∀ W, Below w.heap.size w W → Calls Try.prog 56 #[a2, b2] W fun e w' => e = .returned (.bool true) ∧ Below W.heap.size W w') := fun W hW => lwNums_sameQ a2 b2 t.rs W hl2 (h2.below hW) (h4.below hW)
  obtain ⟨p1, c1, rfl, _⟩ := h1
  obtain ⟨p2, c2, rfl, _⟩ := h2
  obtain ⟨p3, c3, rfl, _⟩ := h3
  obtain ⟨p4, c4, rfl, _⟩ := h4
  have hA0 : Hid (Below w.heap.size w _) := keepB (all_alloc w (.cells #[.slice p1 t.cs.length c1, .slice p2 t.rs.length c2] 26)) (Nat.le_refl _) (all_alloc _ (.cells #[.slice p3 t.cs.length c3, .slice p4 t.rs.length c4] 26))
  have hX : Hid _ := blk (heap_alloc_new w (.cells #[.slice p1 t.cs.length c1, .slice p2 t.rs.length c2] 26)) (all_alloc _ (.cells #[.slice p3 t.cs.length c3, .slice p4 t.rs.length c4] 26))
  have hY : Hid _ := heap_alloc_new (w.alloc (.cells #[.slice p1 t.cs.length c1, .slice p2 t.rs.length c2] 26)) (.cells #[.slice p3 t.cs.length c3, .slice p4 t.rs.length c4] 26)
  rw [show (w.alloc (.cells #[.slice p1 t.cs.length c1, .slice p2 t.rs.length c2] 26)).heap.size = w.heap.size + 1 by simp] at hY
  go_enter Try.func25, Try.ntmps25
  go_wp2_with (first
    | (have _ := hD; go_at_call 56; refine (H2.out _ (keepB hA0.out (Nat.le_refl _) hb1)).mono ?_; rintro e w2 ⟨rfl, hb2⟩)
    | (go_at_call 56; refine (H1.out _ hA0.out).mono ?_; rintro e w1 ⟨rfl, hb1⟩; have hD : Hid True := trivial; have x1 := cellW hX.out 1 _ rfl w1 hb1; have y1 := cellW hY.out 1 _ rfl w1 hb1))
  go_ret
  exact ⟨rfl, keepB (keepB hA0.out (Nat.le_refl _) hb1) (Nat.le_refl _) hb2⟩
set_option maxRecDepth 100000 in
set_option maxHeartbeats 1600000 in
theorem lwPaths_same (t : Tb) (tt c : Int) (hok : c = 0 → t.path = true) (a1 a2 b1 b2 : Value) (w : World) (hl1 : t.cs.length ≤ 1500000) (hl2 : t.rs.length ≤ 1500000) (h1 : RowI w a1 t.cs) (h2 : RowI w a2 t.rs) (h3 : RowI w b1 t.cs) (h4 : RowI w b2 t.rs) :
    Calls Try.prog 15 #[.agg #[a1, a2, .int .i64 tt, .int .i64 c], .agg #[b1, b2, .int .i64 tt, .int .i64 c]] w fun x w' => x = .returned (.bool true) ∧ Below w.heap.size w w' := by
  have H1 : Hid (∀ W, Below w.heap.size w W → Calls Try.prog 25 #[.agg #[a1, a2], .agg #[b1, b2]] W fun e w' => e = .returned (.bool true) ∧ Below W.heap.size W w') := fun W hW => lwPath_same t a1 a2 b1 b2 W (by omega) (by omega) (h1.below hW) (h2.below hW) (h3.below hW) (h4.below hW)
  have k1 := h1
  have k2 := h2
  obtain ⟨p1, c1, rfl, _⟩ := h1
  obtain ⟨p2, c2, rfl, _⟩ := h2
  obtain ⟨p3, c3, rfl, _⟩ := h3
  obtain ⟨p4, c4, rfl, _⟩ := h4
  have H2 : Hid (∀ W, Below w.heap.size w W → Calls Try.prog 24 #[.agg #[.slice p1 t.cs.length c1, .slice p2 t.rs.length c2]] W fun e w' => e = .returned (.bool t.path) ∧ Below W.heap.size W w') := fun W hW => specPathRight_any t p1 p2 c1 c2 W hl1 hl2 (k1.below hW) (k2.below hW)
  clear k1 k2
  have hA0 : Hid (Below w.heap.size w _) := keepB (all_alloc w (.cells #[.slice p1 t.cs.length c1, .slice p2 t.rs.length c2, .int .i64 tt, .int .i64 c] 28)) (Nat.le_refl _) (all_alloc _ (.cells #[.slice p3 t.cs.length c3, .slice p4 t.rs.length c4, .int .i64 tt, .int .i64 c] 28))
  have hX : Hid _ := blk (heap_alloc_new w (.cells #[.slice p1 t.cs.length c1, .slice p2 t.rs.length c2, .int .i64 tt, .int .i64 c] 28)) (all_alloc _ (.cells #[.slice p3 t.cs.length c3, .slice p4 t.rs.length c4, .int .i64 tt, .int .i64 c] 28))
  have e1 : (tt == tt) = true := by simp
  have e2 : (c == c) = true := by simp
  by_cases hc : c = 0
  · have hp := hok hc
    rw [hp] at H2
    have e3 : (c != 0) = false := by simp [hc]
    clear hc hok hp
    go_enter Try.func15, Try.ntmps15
    go_wp2_with (first
      | (go_at_call 25; refine (H1.out _ hA0.out).mono ?_; rintro e w1 ⟨rfl, hb1⟩; have x0 := cellW hX.out 0 _ rfl w1 hb1; have x1 := cellW hX.out 1 _ rfl w1 hb1; have x3 := cellW hX.out 3 _ rfl w1 hb1)
      | (go_at_call 24; refine (H2.out _ (keepB hA0.out (Nat.le_refl _) hb1)).mono ?_; rintro e w2 ⟨rfl, hb2⟩))
    go_ret
    exact ⟨rfl, keepB (keepB hA0.out (Nat.le_refl _) hb1) (Nat.le_refl _) hb2⟩
  · have e3 : (c != 0) = true := by simp [hc]
    clear hc hok
    go_enter Try.func15, Try.ntmps15
    go_wp2_with (first
      | (go_at_call 25; refine (H1.out _ hA0.out).mono ?_; rintro e w1 ⟨rfl, hb1⟩; have x0 := cellW hX.out 0 _ rfl w1 hb1; have x1 := cellW hX.out 1 _ rfl w1 hb1; have x3 := cellW hX.out 3 _ rfl w1 hb1))
    go_ret
    exact ⟨rfl, keepB hA0.out (Nat.le_refl _) hb1⟩
end Go.Proofs.Ytineecongiplgaa
/- A PATH GONE TO ITS END, AND HOME, over lists. -/
namespace Go.Proofs.Ytineecongiplgaa
open Go.RowKit
set_option linter.unusedVariables false
set_option linter.unusedSimpArgs false

theorem all_drop {l : List Int} (h : l.all addrB = true) (i : Nat) : (l.drop i).all addrB = true := by
  rw [List.all_eq_true] at h ⊢
  exact fun x hx => h x (List.mem_of_mem_drop hx)
theorem all_take' {l : List Int} (h : l.all addrB = true) (i : Nat) : (l.take i).all addrB = true := by
  rw [List.all_eq_true] at h ⊢
  exact fun x hx => h x (List.mem_of_mem_take hx)
theorem all_rev {l : List Int} (h : l.all addrB = true) : l.reverse.all addrB = true := by
  rw [List.all_reverse]; exact h
theorem stepP_cons {a : Int} {l r : List Int} {v : Int} (h1 : (a :: l).all addrB = true) (h2 : r.all addrB = true) (hv : addrB v = true) (hn : l.length + 1 + r.length ≤ 5) : stepP ⟨a :: l, r⟩ v = ⟨⟨l, v :: r⟩, a, 0⟩ := by
  have hp : (⟨a :: l, r⟩ : Tb).path = true := (Tb.path_iff _).2 ⟨⟨h1, h2⟩, by simpa using hn⟩
  unfold stepP
  rw [if_neg (by rintro (h | h); rw [hp] at h; cases h; rw [hv] at h; cases h)]
theorem stepP_nil {r : List Int} {v : Int} (h2 : r.all addrB = true) (hv : addrB v = true) (hn : r.length ≤ 5) : stepP ⟨[], r⟩ v = ⟨zeroT, 0, 6⟩ := by
  have hp : (⟨[], r⟩ : Tb).path = true := (Tb.path_iff _).2 ⟨⟨rfl, h2⟩, by simpa using hn⟩
  unfold stepP
  rw [if_neg (by rintro (h | h); rw [hp] at h; cases h; rw [hv] at h; cases h)]
/-- one step on: what is ahead, what lies behind backwards -/
theorem step_go {hops vs : List Int} {v : Int} (hh : hopsB hops = true) (hv : vs.all addrB = true) (ha : addrB v = true) (i : Nat) (hi : i < hops.length) (he : vs.length = i) : stepP ⟨hops.drop i, vs.reverse⟩ v = ⟨⟨hops.drop (i + 1), (vs ++ [v]).reverse⟩, hops[i], 0⟩ := by
  unfold hopsB at hh
  simp only [Bool.and_eq_true, decide_eq_true_eq] at hh
  have e : hops.drop i = hops[i] :: hops.drop (i + 1) := List.drop_eq_getElem_cons hi
  have := all_drop hh.1 i
  rw [e] at this ⊢
  rw [stepP_cons this (all_rev hv) ha (by rw [List.length_drop, List.length_reverse]; omega), List.reverse_append]
  rfl
/-- the way home -/
theorem home_go {vs : List Int} (hv : vs.all addrB = true) (hn : vs.length ≤ 5) : homeP ⟨[], vs.reverse⟩ = ⟨⟨vs.reverse, []⟩, 0, 0⟩ := by
  have hp : (⟨[], vs.reverse⟩ : Tb).path = true := (Tb.path_iff _).2 ⟨⟨rfl, all_rev hv⟩, by simpa using hn⟩
  unfold homeP
  rw [if_neg (by rw [hp]; decide)]
/-- one step back: the last one first -/
theorem step_back {vs : List Int} (hv : vs.all addrB = true) (hn : vs.length ≤ 5) (i : Nat) (hi : i < vs.length) : stepP ⟨(vs.take (i + 1)).reverse, List.replicate (vs.length - 1 - i) 1⟩ 1 = ⟨⟨(vs.take i).reverse, List.replicate (vs.length - i) 1⟩, vs[i], 0⟩ := by
  have e : (vs.take (i + 1)).reverse = vs[i] :: (vs.take i).reverse := by rw [List.take_succ_eq_append_getElem hi, List.reverse_append]; rfl
  have h1 := all_rev (all_take' hv (i + 1))
  rw [e] at h1 ⊢
  have h2 : (List.replicate (vs.length - 1 - i) (1 : Int)).all addrB = true := by
    rw [List.all_eq_true]
    intro x hx
    rw [(List.mem_replicate.1 hx).2]
    decide
  rw [stepP_cons h1 h2 (by decide) (by rw [List.length_reverse, List.length_take, List.length_replicate]; omega), show vs.length - i = (vs.length - 1 - i) + 1 by omega, List.replicate_succ]
/-- at the end nothing is ahead -/
theorem step_end (n : Nat) (hn : n ≤ 5) : stepP ⟨[], List.replicate n 1⟩ 1 = ⟨zeroT, 0, 6⟩ := by
  refine stepP_nil ?_ (by decide) (by rw [List.length_replicate]; exact hn)
  rw [List.all_eq_true]
  intro x hx
  rw [(List.mem_replicate.1 hx).2]
  decide
end Go.Proofs.Ytineecongiplgaa
/- THE WALK of the law's own number out of a code. -/
namespace Go.Proofs.Ytineecongiplgaa
open Go.RowKit
set_option linter.unusedVariables false

set_option maxRecDepth 100000 in
set_option maxHeartbeats 800000 in
theorem lwAt_any (B : Nat) (a : Option Addr) (len cap at0 : Nat) (most : Int) (w : World) (hr : Rb B w a len) (h2 : most ≤ 1099511627776) (hat : at0 ≤ 64) :
    Calls Try.prog 26 #[.slice a len cap, .int .i64 at0, .int .i64 most] w fun e w' => ∃ r : Nat, e = .returned (.int .i64 r) ∧ ((r : Int) < most ∨ r = 0) ∧ w = w' := by
  have hlen := hr.1
  by_cases h1 : most ≤ 1
  · go_enter Try.func26, Try.ntmps26
    go_wp2
    go_ret
    exact ⟨0, rfl, .inr rfl, rfl⟩
  by_cases h0 : len = 0
  · have t0 : ((len : Int) == 0) = true := by simp; omega
    clear h0
    go_enter Try.func26, Try.ntmps26
    go_wp2
    go_ret
    exact ⟨0, rfl, .inr rfl, rfl⟩
  obtain ⟨g, o, rfl, hg, hc⟩ := hr.2.resolve_left h0
  obtain ⟨j, hj⟩ : ∃ j, j = at0 % len := ⟨_, rfl⟩
  have hjl : j < len := by rw [hj]; exact Nat.mod_lt _ (by omega)
  obtain ⟨v, cv, hv0, hv1⟩ := hc j hjl
  have t0 : ((len : Int) == 0) = false := by simp; omega
  have hjm : (at0 : Int) % (len : Int) = (j : Int) := by rw [hj, Int.natCast_emod]
  have hpos : 0 < (len : Int) := by omega
  clear hr hc h0 hj
  go_enter Try.func26, Try.ntmps26
  go_wp2
  have e1 := Int.emod_nonneg v (show most ≠ 0 by omega)
  have e2 := Int.emod_lt_of_pos v (show 0 < most by omega)
  go_ret
  exact ⟨(v % most).toNat, ret_int (Int.toNat_of_nonneg e1).symm, .inl (by rw [Int.toNat_of_nonneg e1]; exact e2), rfl⟩
end Go.Proofs.Ytineecongiplgaa
/- WHAT A SLICE OF BYTES THAT CAME IN GIVES the draws. -/
namespace Go.Proofs.Ytineecongiplgaa
open Go.RowKit
set_option linter.unusedVariables false

/-- A slice of integers that came in: nil, or a row of 'cap' cells that hold 'zs'. -/
def IsRow (k : IntKind) (w : World) (a : Option Addr) (len cap : Nat) (zs : List Int) : Prop :=
  (a = none ∧ len = 0 ∧ cap = 0 ∧ zs = []) ∨
  ∃ x, a = some x ∧ len ≤ cap ∧ cap ≤ maxLen ∧ zs.length = cap ∧ (∀ i, i < zs.length → w.cell? (x.add i) = some (.int k (zs.getD i 0))) ∧ ∀ n ∈ zs, (Lit.int k n).wf = true
theorem IsRow.len {k : IntKind} {w : World} {a : Option Addr} {len cap : Nat} {zs : List Int} (h : IsRow k w a len cap zs) : len ≤ 9223372036854775807 := by
  rcases h with ⟨_, h, _⟩ | ⟨x, _, h1, h2, _⟩
  · omega
  · unfold maxLen at h2; omega
theorem IsRow.rb {w : World} {a : Option Addr} {len cap : Nat} {zs : List Int} (h : IsRow .u8 w a len cap zs) (hl : len ≤ 1048576) : Rb w.heap.size w a len := by
  refine ⟨hl, ?_⟩
  rcases h with ⟨_, h, _⟩ | ⟨x, rfl, h1, h2, h3, h4, h5⟩
  · exact .inl h
  · by_cases h0 : len = 0
    · exact .inl h0
    · have hc0 := h4 0 (by omega)
      obtain ⟨g, o, sp⟩ := x
      have hsp : sp = none := by simpa [Addr.add] using World.cell?_spot hc0
      subst hsp
      have hg : g < w.heap.size := by
        rcases Nat.lt_or_ge g w.heap.size with h | h
        · exact h
        · simp [World.cell?, Addr.add, Array.getElem?_eq_none h] at hc0
      refine .inr ⟨g, o, rfl, hg, fun i hi => ⟨zs.getD i 0, by rw [← show (⟨g, o, none⟩ : Addr).add i = ⟨g, o + i, none⟩ by unfold Addr.add; split <;> simp_all]; exact h4 i (by omega), ?_⟩⟩
      have hm : zs.getD i 0 ∈ zs := by
        rw [List.getD_eq_getElem?_getD, List.getElem?_eq_getElem (by omega)]
        exact List.getElem_mem _
      exact bounds_u8 (h5 _ hm)
theorem Rb.blw {B : Nat} {x y : World} {a : Option Addr} {len : Nat} (h : Rb B x a len) (k : Below B x y) : Rb B y a len := by
  refine ⟨h.1, h.2.imp id ?_⟩
  rintro ⟨g, o, e, hg, hc⟩
  refine ⟨g, o, e, hg, fun i hi => ?_⟩
  obtain ⟨v, h1, h2⟩ := hc i hi
  exact ⟨v, (k.cell (p := ⟨g, o + i, none⟩) hg).trans h1, h2⟩
end Go.Proofs.Ytineecongiplgaa
