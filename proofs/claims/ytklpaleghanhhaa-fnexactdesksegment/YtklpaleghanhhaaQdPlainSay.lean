/- WHAT IS SAID over numbers and lists: right, its bytes, and what is read of bytes. -/
import Derived.Test.YtklpaleghanhhaaQdKeep
import Derived.Test.YtklpaleghanhhaaQdPlainNums
namespace Go.Proofs.Ytklpaleghanhhaa
open Go.RowKit
set_option linter.unusedVariables false
set_option linter.unusedSimpArgs false

/-- what is said -/
structure Sy where
  k : Int
  f : Int
  t : Int
  s : St
  ws : List Int
  b : ByteArray
def Sy.to (y : Sy) : Bool := addrB y.t && !(y.t == y.f)
def Sy.right (y : Sy) : Bool :=
  addrB y.f && (y.s.right && ((!y.s.none || y.k == 4) &&
    if y.k = 1 then y.t == 0 && (decide (y.ws.length = 0) && decide (y.b.size = 0))
    else if y.k = 2 then y.to && ((decide (y.ws.length ≤ 4) && y.ws.all wordB) && decide (y.b.size = 0))
    else if y.k = 3 ∨ y.k = 4 then y.to && (decide (y.ws.length = 0) && decide (y.b.size = 0))
    else if y.k = 5 then y.to && (decide (y.ws.length = 0) && (decide (1 ≤ y.b.size) && decide (y.b.size ≤ 20)))
    else false))
def numsL (l : List Int) : List UInt8 := l.flatMap fun n => putU (foldN n)
def numsB (l : List Int) : ByteArray := ⟨(numsL l).toArray⟩
def Sy.nums (y : Sy) : List Int := [y.k, y.f, y.t, y.s.g, y.s.o, y.s.b, y.s.h, (y.ws.length : Int)]
def sayL (y : Sy) : List UInt8 := numsL y.nums ++ (numsL y.ws ++ (numsL [(y.b.size : Int)] ++ y.b.data.toList))
def sayB (y : Sy) : ByteArray := if y.right then ⟨(sayL y).toArray⟩ else ByteArray.empty

theorem numsL_nil : numsL [] = [] := rfl
theorem numsL_append (l m : List Int) : numsL (l ++ m) = numsL l ++ numsL m := by simp [numsL]
theorem numsL_one (n : Int) : numsL [n] = putU (foldN n) := by simp [numsL]
theorem numsL_cons (n : Int) (l : List Int) : numsL (n :: l) = putU (foldN n) ++ numsL l := by simp [numsL]

theorem getG_after (s : ByteArray) (m : Nat) : ∀ p k u, (getG s m p k u).2.2 = 0 → (p : Int) + 1 ≤ (getG s m p k u).2.1 := by
  induction m with
  | zero => intro p k u h; exact absurd h (by rw [getG]; decide)
  | succ m ih =>
    intro p k u h
    by_cases h1 : s.size ≤ p
    · rw [getG, if_pos h1] at h; exact absurd h (by decide)
    by_cases h2 : k = 9 ∧ 1 < byteAt s p
    · rw [getG, if_neg h1, if_pos h2] at h; exact absurd h (by decide)
    by_cases h3 : byteAt s p < 128
    · by_cases h4 : byteAt s p = 0 ∧ 0 < k
      · rw [getG, if_neg h1, if_neg h2, if_pos h3, if_pos h4] at h; exact absurd h (by decide)
      · rw [getG, if_neg h1, if_neg h2, if_pos h3, if_neg h4]
        show (p : Int) + 1 ≤ (p : Int) + 1
        omega
    · rw [getG, if_neg h1, if_neg h2, if_neg h3] at h ⊢
      have := ih _ _ _ h
      omega
theorem getR_after (s : ByteArray) (a : Int) (ha : 0 ≤ a) (h : (getR s a).2.2 = 0) : a + 1 ≤ (getR s a).2.1 := by
  unfold getR at h ⊢
  by_cases h1 : 8000 < s.size
  · rw [if_pos h1] at h; simp at h
  · rw [if_neg h1, if_neg (by omega)] at h ⊢
    have := getG_after s 10 _ _ _ h
    omega
/-- so many numbers read from a place on: they, and the place behind them -/
def numsR (s : ByteArray) (a : Int) : Nat → Option (List Int × Int)
  | 0 => some ([], a)
  | m + 1 => match numsR s a m with
    | none => none
    | some (l, q) => if (getR s q).2.2 = 0 then some (l ++ [(getR s q).1], (getR s q).2.1) else none
theorem numsR_none {s : ByteArray} {a : Int} {m : Nat} (h : numsR s a m = none) : ∀ k, m ≤ k → numsR s a k = none := by
  intro k hk
  induction k with
  | zero => obtain rfl : m = 0 := by omega
            exact h
  | succ k ih =>
    rcases Nat.lt_or_ge m (k + 1) with h1 | h1
    · rw [numsR, ih (by omega)]
    · obtain rfl : m = k + 1 := by omega
      exact h
theorem numsR_more {s : ByteArray} {a q : Int} {m : Nat} {l : List Int} (h : numsR s a m = some (l, q)) (hc : (getR s q).2.2 = 0) : numsR s a (m + 1) = some (l ++ [(getR s q).1], (getR s q).2.1) := by
  rw [numsR, h]
  simp [hc]
theorem numsR_stop {s : ByteArray} {a q : Int} {m : Nat} {l : List Int} (h : numsR s a m = some (l, q)) (hc : (getR s q).2.2 ≠ 0) (k : Nat) (hk : m < k) : numsR s a k = none := by
  refine numsR_none (m := m + 1) ?_ k hk
  rw [numsR, h]
  simp [hc]
theorem numsR_len {s : ByteArray} {a : Int} : ∀ {m : Nat} {l : List Int} {q : Int}, numsR s a m = some (l, q) → l.length = m := by
  intro m
  induction m with
  | zero => intro l q h; simp [numsR] at h; simp [← h.1]
  | succ m ih =>
    intro l q h
    rw [numsR] at h
    split at h
    · cases h
    · rename_i l' q' e
      split at h
      · simp at h
        rw [← h.1, List.length_append, ih e]
        rfl
      · cases h
theorem numsR_at {s : ByteArray} {a : Int} (ha : 0 ≤ a) (hs : a ≤ s.size) : ∀ {m : Nat} {l : List Int} {q : Int}, numsR s a m = some (l, q) → 0 ≤ q ∧ q ≤ s.size ∧ a + m ≤ q := by
  intro m
  induction m with
  | zero => intro l q h; simp [numsR] at h; omega
  | succ m ih =>
    intro l q h
    rw [numsR] at h
    split at h
    · cases h
    · rename_i l' q' e
      split at h
      · rename_i hc
        simp at h
        have h1 := ih e
        have h2 := getR_at s q' hc
        have h3 := getR_after s q' h1.1 hc
        rw [← h.2]
        omega
      · cases h
theorem numsR_all {s : ByteArray} {pre post : List UInt8} {l : List Int} (hz : s.size ≤ 8000) (hw : ∀ n ∈ l, (Lit.int .i64 n).wf = true) (hs : s.data.toList = pre ++ (numsL l ++ post)) :
    ∀ m, m ≤ l.length → numsR s pre.length m = some (l.take m, (((pre ++ numsL (l.take m)).length : Nat) : Int)) := by
  intro m
  induction m with
  | zero => intro _; simp [numsR, numsL_nil]
  | succ m ih =>
    intro hm
    have h1 := ih (by omega)
    have e0 : l.take (m + 1) = l.take m ++ [l[m]] := List.take_succ_eq_append_getElem (by omega)
    have e1 : l = l.take m ++ (l[m] :: l.drop (m + 1)) := by rw [← List.drop_eq_getElem_cons]; exact (List.take_append_drop m l).symm
    have e2 : s.data.toList = (pre ++ numsL (l.take m)) ++ ((putB l[m]).data.toList ++ (numsL (l.drop (m + 1)) ++ post)) := by
      rw [hs]
      conv => lhs; rw [e1]
      rw [numsL_append, numsL_cons, putB_list]
      simp
    have h2 := getR_put (hw l[m] (List.getElem_mem _)) hz e2
    rw [numsR, h1]
    simp only [h2]
    rw [if_pos trivial, e0, numsL_append, numsL_one]
    congr 2
    rw [putB_size, ← List.append_assoc, @List.length_append _ (pre ++ numsL (l.take m)) _]

/-- what the bytes begin with -/
def saidP (s : ByteArray) : Option Sy :=
  match numsR s 0 8 with
  | none => none
  | some (l, q) => match numsR s q (l.getD 7 0).toNat with
    | none => none
    | some (ws, q2) => if (getT s q2).2.2 = 0 then some ⟨l.getD 0 0, l.getD 1 0, l.getD 2 0, ⟨l.getD 3 0, l.getD 4 0, l.getD 5 0, l.getD 6 0⟩, ws, (getT s q2).1⟩ else none
/-- the right one whose bytes these are -/
def saidR (s : ByteArray) : Option Sy :=
  match saidP s with
  | none => none
  | some y => if sayB y = s then some y else none

theorem wf_of {n : Int} (h1 : 0 ≤ n) (h2 : n ≤ 1000000) : (Lit.int .i64 n).wf = true := by
  simp [Lit.wf, IntKind.min, IntKind.max, IntKind.signed, IntKind.bits]; omega
structure Sy.Fits (y : Sy) : Prop where
  k : 0 ≤ y.k ∧ y.k ≤ 5
  f : 0 ≤ y.f ∧ y.f ≤ 8
  t : 0 ≤ y.t ∧ y.t ≤ 8
  g : 0 ≤ y.s.g ∧ y.s.g ≤ 1000000
  o : 0 ≤ y.s.o ∧ y.s.o ≤ 8
  b : 0 ≤ y.s.b ∧ y.s.b ≤ 1000000
  h : 0 ≤ y.s.h ∧ y.s.h ≤ 1000000
  n : y.ws.length ≤ 4
  ws : ∀ n ∈ y.ws, 0 ≤ n ∧ n ≤ 65535
  z : y.b.size ≤ 20
theorem St.right_fits {s : St} (h : s.right = true) : (0 ≤ s.g ∧ s.g ≤ 1000000) ∧ (0 ≤ s.o ∧ s.o ≤ 8) ∧ (0 ≤ s.b ∧ s.b ≤ 1000000) ∧ (0 ≤ s.h ∧ s.h ≤ 1000000) := by
  unfold St.right at h
  split at h
  · simp [St.none] at h
    omega
  · simp [addrB, timeB] at h
    omega
theorem Sy.right_fits {y : Sy} (h : y.right = true) : y.Fits := by
  unfold Sy.right at h
  simp only [Bool.and_eq_true] at h
  obtain ⟨hf, hs, _, hk⟩ := h
  obtain ⟨hg, ho, hb, hh⟩ := St.right_fits hs
  simp [addrB] at hf
  split at hk
  · simp at hk
    exact ⟨by omega, by omega, by omega, hg, ho, hb, hh, (by simp [hk.2.1]), (by simp [hk.2.1]), (by simp [hk.2.2])⟩
  split at hk
  · simp [Sy.to, addrB, wordB] at hk
    exact ⟨by omega, by omega, by omega, hg, ho, hb, hh, hk.2.1.1, fun n hn => hk.2.1.2 n hn, (by simp [hk.2.2])⟩
  split at hk
  · simp [Sy.to, addrB] at hk
    exact ⟨by omega, by omega, by omega, hg, ho, hb, hh, (by simp [hk.2.1]), (by simp [hk.2.1]), (by simp [hk.2.2])⟩
  split at hk
  · simp [Sy.to, addrB] at hk
    exact ⟨by omega, by omega, by omega, hg, ho, hb, hh, (by simp [hk.2.1]), (by simp [hk.2.1]), (by omega)⟩
  · cases hk
theorem Sy.Fits.wf {y : Sy} (h : y.Fits) : ∀ n ∈ y.nums, (Lit.int .i64 n).wf = true := by
  obtain ⟨h1, h2, h3, h4, h5, h6, h7, h8, h9, h10⟩ := h
  intro n hn
  simp only [Sy.nums, List.mem_cons, List.not_mem_nil, or_false] at hn
  rcases hn with rfl | rfl | rfl | rfl | rfl | rfl | rfl | rfl
  all_goals exact wf_of (by omega) (by omega)
theorem Sy.Fits.wfw {y : Sy} (h : y.Fits) : ∀ n ∈ y.ws, (Lit.int .i64 n).wf = true := fun n hn => by
  have := h.ws n hn
  exact wf_of (by omega) (by omega)
theorem numsL_len (l : List Int) (h : ∀ n ∈ l, (Lit.int .i64 n).wf = true) : (numsL l).length ≤ 10 * l.length := by
  induction l with
  | nil => simp [numsL]
  | cons n l ih =>
    rw [numsL_cons, List.length_append, List.length_cons]
    have h1 := putU_len10 (foldN_lt (h n (List.mem_cons_self ..)))
    have h2 := ih (fun m hm => h m (List.mem_cons_of_mem _ hm))
    omega
theorem sayL_len {y : Sy} (h : y.Fits) : (sayL y).length ≤ 200 := by
  unfold sayL
  simp only [List.length_append]
  have h1 := numsL_len y.nums h.wf
  have h2 := numsL_len y.ws h.wfw
  have hz := h.z
  have h3 := numsL_len [(y.b.size : Int)] (by intro n hn; simp at hn; subst hn; exact wf_of (by omega) (by omega))
  have h4 := h.n
  have e : y.b.data.toList.length = y.b.size := by rw [Array.length_toList]; rfl
  rw [e]
  have e1 : y.nums.length = 8 := rfl
  rw [e1] at h1
  simp only [List.length_singleton] at h3
  omega
theorem sayB_right {y : Sy} (h : y.right = true) : sayB y = ⟨(sayL y).toArray⟩ := by unfold sayB; rw [if_pos h]
theorem sayB_not {y : Sy} (h : y.right = false) : sayB y = ByteArray.empty := by unfold sayB; rw [if_neg (by simp [h])]
theorem sayB_size {y : Sy} : (sayB y).size ≤ 200 := by
  by_cases h : y.right = true
  · rw [sayB_right h]
    have := sayL_len (Sy.right_fits h)
    simpa [ByteArray.size] using this
  · rw [sayB_not (by simpa using h)]
    exact Nat.zero_le _
theorem getT_at (u s : ByteArray) (pre : List UInt8) (hu : u.size ≤ 7000) (hz : s.size ≤ 8000) (hs : s.data.toList = pre ++ ((putB u.size).data.toList ++ u.data.toList)) : (getT s (pre.length : Int)).1 = u ∧ (getT s (pre.length : Int)).2.2 = 0 := by
  have hz' := size_mid hs
  have hw := size_wf (u := u) (by omega)
  have hl := putB_le10 hw
  have e : (putB u.size).data.toList.length = (putB u.size).size := by rw [Array.length_toList]; rfl
  have e2 : u.data.toList.length = u.size := by rw [Array.length_toList]; rfl
  simp only [List.length_append, e, e2] at hz'
  have := getR_put (s := s) (pre := pre) (post := u.data.toList) hw hz hs
  unfold getT
  rw [this]
  simp only
  rw [if_neg (by simp), if_neg (by omega), if_neg (by omega)]
  refine ⟨?_, rfl⟩
  show s.extract _ _ = u
  apply ByteArray.ext
  apply Array.ext'
  rw [ByteArray.data_extract, Array.toList_extract, List.extract_eq_take_drop, hs]
  rw [show (((pre.length + (putB u.size).size : Nat) : Int)).toNat = (pre ++ (putB u.size).data.toList).length by rw [List.length_append, e]; omega, ← List.append_assoc, List.drop_left, List.length_append, e]
  exact List.take_of_length_le (by rw [e2]; omega)
theorem nums_of_say {y : Sy} (h : y.right = true) : numsR (sayB y) 0 8 = some (y.nums, (((numsL y.nums).length : Nat) : Int)) := by
  have hf := Sy.right_fits h
  have hz := sayB_size (y := y)
  rw [sayB_right h] at hz ⊢
  have := numsR_all (s := ⟨(sayL y).toArray⟩) (pre := []) (l := y.nums) (post := numsL y.ws ++ (numsL [(y.b.size : Int)] ++ y.b.data.toList)) (by omega) hf.wf (by simp [sayL]) 8 (by simp [Sy.nums])
  simpa [Sy.nums] using this
/-- what is said comes back from its bytes -/
theorem saidP_say {y : Sy} (h : y.right = true) : saidP (sayB y) = some y := by
  have hf := Sy.right_fits h
  have hz := sayB_size (y := y)
  have h1 := nums_of_say h
  unfold saidP
  rw [h1]
  simp only
  have e7 : (y.nums.getD 7 0).toNat = y.ws.length := by simp [Sy.nums]
  rw [e7]
  rw [sayB_right h] at hz ⊢
  have h2 := numsR_all (s := ⟨(sayL y).toArray⟩) (pre := numsL y.nums) (l := y.ws) (post := numsL [(y.b.size : Int)] ++ y.b.data.toList) (by omega) hf.wfw (by simp [sayL]) y.ws.length (Nat.le_refl _)
  rw [h2, List.take_length]
  simp only
  have hb := hf.z
  have h3 := getT_at y.b ⟨(sayL y).toArray⟩ (numsL y.nums ++ numsL y.ws) (by omega) (by omega) (by simp [sayL, putB_list, numsL_one])
  rw [if_pos h3.2, h3.1]
  rfl
theorem saidR_say {y : Sy} (h : y.right = true) : saidR (sayB y) = some y := by
  unfold saidR
  rw [saidP_say h]
  simp
theorem saidP_size {s : ByteArray} {y : Sy} (h : saidP s = some y) : 0 < s.size := by
  rcases Nat.eq_zero_or_pos s.size with h0 | h0
  · have hn : numsR s 0 8 = none := by
      refine numsR_stop (m := 0) (l := []) (q := 0) rfl ?_ 8 (by omega)
      intro hc
      have := getR_at s 0 hc
      omega
    unfold saidP at h
    rw [hn] at h
    cases h
  · exact h0
theorem saidR_right {s : ByteArray} {y : Sy} (h : saidR s = some y) : y.right = true ∧ sayB y = s ∧ saidP s = some y := by
  unfold saidR at h
  split at h
  · cases h
  · rename_i y' e
    split at h
    · rename_i e2
      cases h
      refine ⟨?_, e2, e⟩
      cases hr : y.right with
      | true => rfl
      | false =>
        rw [sayB_not hr] at e2
        have := saidP_size e
        rw [← e2] at this
        exact absurd this (by decide)
    · cases h
theorem saidR_count {s : ByteArray} {y : Sy} {l : List Int} {q : Int} (h : saidR s = some y) (hn : numsR s 0 8 = some (l, q)) : 0 ≤ l.getD 7 0 ∧ l.getD 7 0 ≤ 4 := by
  obtain ⟨h1, h2, h3⟩ := saidR_right h
  have h4 := nums_of_say h1
  rw [h2, hn] at h4
  have e := congrArg Prod.fst (Option.some.inj h4)
  simp only at e
  have hf := (Sy.right_fits h1).n
  rw [e]
  simp [Sy.nums]
  omega
theorem sayB_empty (y : Sy) : (sayB y).size = 0 ↔ y.right = false := by
  constructor
  · intro h
    cases hr : y.right with
    | false => rfl
    | true =>
      have := saidP_size (saidP_say hr)
      omega
  · intro h
    rw [sayB_not h]
    rfl
end Go.Proofs.Ytklpaleghanhhaa
