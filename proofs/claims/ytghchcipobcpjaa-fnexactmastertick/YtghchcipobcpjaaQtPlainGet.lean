/- WHAT A SLICE OF NUMBERS THAT CAME IN gives: copied by the law, its length counted. -/
import Derived.Test.YtghchcipobcpjaaQtInts
import Derived.OpenShut
import Derived.WalkKit
namespace Go.Proofs.Ytghchcipobcpjaa
open Go.RowKit
set_option linter.unusedVariables false
set_option linter.unusedSimpArgs false

/-- A slice of integers that came in: nil, or a row of 'cap' cells that hold 'zs'. -/
def IsRowN (k : IntKind) (w : World) (a : Option Addr) (len cap : Nat) (zs : List Int) : Prop :=
  (a = none ∧ len = 0 ∧ cap = 0 ∧ zs = []) ∨
  ∃ x, a = some x ∧ len ≤ cap ∧ cap ≤ maxLen ∧ zs.length = cap ∧ (∀ i, i < zs.length → w.cell? (x.add i) = some (.int k (zs.getD i 0))) ∧ ∀ n ∈ zs, (Lit.int k n).wf = true
/-- numbers that came in, to be read -/
def InI (w : World) (a : Option Addr) (zs : List Int) : Prop :=
  zs.length ≤ 9223372036854775807 ∧ ∀ i (h : i < zs.length), ∃ g o, a = some ⟨g, o, none⟩ ∧ g < w.heap.size ∧ w.cell? ⟨g, o + i, none⟩ = some (.int .i64 zs[i])
theorem IsRowN.ini {w : World} {a : Option Addr} {len cap : Nat} {zs : List Int} (h : IsRowN .i64 w a len cap zs) : ∃ ys : List Int, len = ys.length ∧ InI w a ys ∧ ∀ n ∈ ys, (Lit.int .i64 n).wf = true := by
  rcases h with ⟨_, h, _⟩ | ⟨x, rfl, h1, h2, h3, h4, h5⟩
  · exact ⟨[], h, ⟨by simp, fun i hi => by simp at hi⟩, fun n hn => by simp at hn⟩
  · unfold maxLen at h2
    refine ⟨zs.take len, by rw [List.length_take]; omega, ⟨by rw [List.length_take]; omega, fun i hi => ?_⟩, fun n hn => h5 n (List.mem_of_mem_take hn)⟩
    rw [List.length_take] at hi
    have hc0 := h4 0 (by omega)
    obtain ⟨g, o, sp⟩ := x
    have hsp : sp = none := by simpa [Addr.add] using World.cell?_spot hc0
    subst hsp
    have hg : g < w.heap.size := by
      rcases Nat.lt_or_ge g w.heap.size with h | h
      · exact h
      · simp [World.cell?, Addr.add, Array.getElem?_eq_none h] at hc0
    refine ⟨g, o, rfl, hg, ?_⟩
    have := h4 i (by omega)
    rw [show (⟨g, o, none⟩ : Addr).add i = ⟨g, o + i, none⟩ by unfold Addr.add; split <;> simp_all] at this
    rw [this, List.getD_eq_getElem?_getD, List.getElem?_eq_getElem (by omega), List.getElem_take]
    rfl
theorem InI.below {w w' : World} {a : Option Addr} {zs : List Int} (h : InI w a zs) (hb : Below w.heap.size w w') : InI w' a zs := by
  refine ⟨h.1, fun i hi => ?_⟩
  obtain ⟨g, o, e, h1, h2⟩ := h.2 i hi
  exact ⟨g, o, e, Nat.lt_of_lt_of_le h1 hb.size, (hb.cell (p := ⟨g, o + i, none⟩) h1).trans h2⟩
theorem info64 : (Try.prog.info? 2).map (fun i => (i.zero, i.size, i.bytes)) = some (some (.int .i64 0), 1, 8) := by kernel_rfl
theorem zeros_list (n : Nat) : (madeCells (Value.int .i64 0).cells (n * 1)).toList = (List.replicate n (0 : Int)).map (Value.int .i64) := by
  rw [show (Value.int .i64 0).cells = #[Value.int .i64 0] from rfl, toList_madeCells_one, List.map_replicate, Nat.mul_one]
theorem copy_step (zs : List Int) (j : Nat) (h : j < zs.length) : (zs.take j ++ List.replicate (zs.length - j) (0 : Int)).set j zs[j] = zs.take (j + 1) ++ List.replicate (zs.length - (j + 1)) 0 := by
  have := set_midI (l := zs.take j) (m := List.replicate (zs.length - j) (0 : Int)) (c := zs[j]) (by intro e; have := congrArg List.length e; simp at this; omega)
  rw [List.length_take, Nat.min_eq_left (by omega)] at this
  rw [this, List.take_succ_eq_append_getElem h, List.drop_replicate, Nat.sub_sub]
end Go.Proofs.Ytghchcipobcpjaa
/- LISTS OF NUMBERS MARKED AND HELD from any number on, counted against any room: for things that hold two lists. -/
namespace Go.Proofs.Ytghchcipobcpjaa
open Go.RowKit
set_option linter.unusedVariables false
set_option linter.unusedSimpArgs false

def countK (s : Int) (n : Nat) : List Int := (List.range n).map fun (i : Nat) => s + (i : Int)
theorem countK_length (s : Int) (n : Nat) : (countK s n).length = n := by simp [countK]
theorem countK_at (s : Int) (n k : Nat) (h : k < (countK s n).length) : (countK s n)[k] = s + (k : Int) := by simp [countK]
theorem countK_succ (s : Int) (n : Nat) : countK s (n + 1) = countK s n ++ [s + (n : Int)] := by simp [countK, List.range_succ]
theorem countK_step (s : Int) (zs : List Int) (j : Nat) (h : j < zs.length) : (countK s j ++ zs.drop j).set j (s + (j : Int)) = countK s (j + 1) ++ zs.drop (j + 1) := by
  have := set_midI (l := countK s j) (m := zs.drop j) (c := s + (j : Int)) (by intro e; have := congrArg List.length e; simp at this; omega)
  rw [countK_length] at this
  rw [this, countK_succ, List.drop_drop]
end Go.Proofs.Ytghchcipobcpjaa
/- OWN ROWS of numbers: where they lie, and what is kept while one of them grows. -/
namespace Go.Proofs.Ytghchcipobcpjaa
open Go.RowKit
theorem OwnI.lt {w : World} {base : Nat} {v : Value} {zs : List Int} (h : OwnI w base v zs) : ∀ k, v.ownBlock = some k → base ≤ k ∧ k < w.heap.size := World.ownsRow.lt h
theorem below_grown {w a b : World} {row : Option Nat} (h : Below w.heap.size w a) (g : a.grownBy b row) (hk : ∀ k, row = some k → w.heap.size ≤ k) : Below w.heap.size w b := h.grown g h.size hk
end Go.Proofs.Ytghchcipobcpjaa
/- STAMPS over numbers: right, and below. -/
namespace Go.Proofs.Ytghchcipobcpjaa
set_option linter.unusedVariables false
set_option linter.unusedSimpArgs false

def timeB (n : Int) : Bool := decide (0 ≤ n) && decide (n ≤ 1000000)
def addrB (n : Int) : Bool := decide (1 ≤ n) && decide (n ≤ 8)
def wordB (n : Int) : Bool := decide (0 ≤ n) && decide (n ≤ 65535)
/-- a stamp -/
structure St where
  g : Int
  o : Int
  b : Int
  h : Int
def St.none (s : St) : Bool := s.g == 0 && (s.o == 0 && (s.b == 0 && s.h == 0))
def St.same (s t : St) : Bool := s.g == t.g && (s.o == t.o && (s.b == t.b && s.h == t.h))
def St.right (s : St) : Bool := if s.o = 0 then s.none else addrB s.o && (timeB s.g && (timeB s.b && timeB s.h))
def St.lt (s t : St) : Bool :=
  if s.g ≠ t.g then decide (s.g < t.g) else if s.o ≠ t.o then decide (s.o < t.o) else if s.b ≠ t.b then decide (s.b < t.b) else decide (s.h < t.h)
def St.less (s t : St) : Bool := s.right && (t.right && s.lt t)
theorem St.same_iff (s t : St) : s.same t = true ↔ s = t := by
  cases s; cases t
  simp [St.same]
theorem St.lt_same {s t : St} (h : s.same t = true) : s.lt t = false := by
  rw [St.same_iff] at h
  subst h
  simp [St.lt]
theorem St.none_o {s : St} (hr : s.right = true) : s.none = decide (s.o = 0) := by
  unfold St.right at hr
  by_cases h : s.o = 0
  · rw [if_pos h] at hr; simp [hr, h]
  · simp [St.none, h]
/-- of two right ones that are not the same just one is below the other -/
theorem St.less_one {s t : St} (h1 : s.right = true) (h2 : t.right = true) (h : s.same t = false) : s.less t = !t.less s := by
  unfold St.less
  rw [h1, h2]
  simp only [Bool.true_and]
  unfold St.lt
  unfold St.same at h
  simp only [Bool.and_eq_false_iff, beq_eq_false_iff_ne, ne_eq] at h
  by_cases e1 : s.g = t.g
  · by_cases e2 : s.o = t.o
    · by_cases e3 : s.b = t.b
      · simp [e1, e2, e3] at h ⊢
        by_cases e4 : s.h < t.h <;> simp [e4] <;> omega
      · have e3' : ¬ t.b = s.b := fun e => e3 e.symm
        simp [e1, e2, e3, e3']
        by_cases e4 : s.b < t.b <;> simp [e4] <;> omega
    · have e2' : ¬ t.o = s.o := fun e => e2 e.symm
      simp [e1, e2, e2']
      by_cases e4 : s.o < t.o <;> simp [e4] <;> omega
  · have e1' : ¬ t.g = s.g := fun e => e1 e.symm
    simp [e1, e1']
    by_cases e4 : s.g < t.g <;> simp [e4] <;> omega
theorem St.lt_iff (s t : St) : s.lt t = true ↔ s.g < t.g ∨ (s.g = t.g ∧ (s.o < t.o ∨ (s.o = t.o ∧ (s.b < t.b ∨ (s.b = t.b ∧ s.h < t.h))))) := by
  unfold St.lt
  by_cases e1 : s.g = t.g
  · by_cases e2 : s.o = t.o
    · by_cases e3 : s.b = t.b
      · simp [e1, e2, e3]
      · simp [e1, e2, e3]
    · simp [e1, e2]
  · simp [e1]
/-- what is below what is below is below -/
theorem St.less_trans {s t u : St} (h1 : s.less t = true) (h2 : t.less u = true) : s.less u = true := by
  unfold St.less at h1 h2 ⊢
  simp only [Bool.and_eq_true] at h1 h2 ⊢
  refine ⟨h1.1, h2.2.1, ?_⟩
  have a := (St.lt_iff s t).1 h1.2.2
  have b := (St.lt_iff t u).1 h2.2.2
  rw [St.lt_iff]
  omega
end Go.Proofs.Ytghchcipobcpjaa
/- PLAIN: the number that stands in a text at a place; nothing of the program. -/
namespace Go.Proofs.Ytghchcipobcpjaa
open Go.RowKit

def unfoldZ (u : Nat) : Int := if u % 2 = 0 then ((u / 2 : Nat) : Int) else -((u / 2 : Nat) : Int) - 1
theorem unfold_odd {u x : Nat} (h : (u + x) % 2 = 1) : unfoldZ (u + x) = -(((u : Int) + x) / 2) - 1 := by unfold unfoldZ; rw [if_neg (by omega)]; omega
theorem unfold_even {u x : Nat} (h : ¬ (u + x) % 2 = 1) : unfoldZ (u + x) = ((u : Int) + x) / 2 := by unfold unfoldZ; rw [if_pos (by omega)]; omega
def byteAt (s : ByteArray) (i : Nat) : Nat := (s.data.toList.getD i 0).toNat
theorem byteAt_eq (s : ByteArray) (i : Nat) (h : i < s.size) : byteAt s i = s[i].toNat := by
  unfold byteAt
  rw [show s.data.toList.getD i 0 = s[i] from by simp [h]; rfl]
/-- what is told of k bytes that were read, the number so far, at place p: the number, the place behind it, the code -/
def getG (s : ByteArray) : Nat → Nat → Nat → Nat → Int × Int × Int
  | 0, _, _, _ => (0, 0, 3)
  | m + 1, p, k, u => if s.size ≤ p then (0, 0, 4) else if k = 9 ∧ 1 < byteAt s p then (0, 0, 3)
    else if byteAt s p < 128 then (if byteAt s p = 0 ∧ 0 < k then (0, 0, 3) else (unfoldZ (u + byteAt s p * 2 ^ (7 * k)), p + 1, 0))
    else getG s m (p + 1) (k + 1) (u + byteAt s p % 128 * 2 ^ (7 * k))
def getR (s : ByteArray) (a : Int) : Int × Int × Int := if 8000 < s.size then (0, 0, 2) else if a < 0 then (0, 0, 1) else getG s 10 a.toNat 0 0
theorem g_short {s : ByteArray} {m p k u : Nat} (h : s.size ≤ p) : getG s (m + 1) p k u = (0, 0, 4) := by
  rw [getG, if_pos h]
theorem g_nine {s : ByteArray} {m p k u : Nat} (h : p < s.size) (hk : k = 9) (hc : 1 < s[p].toNat) : getG s (m + 1) p k u = (0, 0, 3) := by
  rw [getG, if_neg (by omega), if_pos ⟨hk, by rw [byteAt_eq s p h]; exact hc⟩]
theorem g_zero {s : ByteArray} {m p k u : Nat} (h : p < s.size) (hk : 0 < k) (hc : s[p].toNat = 0) : getG s (m + 1) p k u = (0, 0, 3) := by
  rw [getG, if_neg (by omega), if_neg (by rw [byteAt_eq s p h]; omega), if_pos (by rw [byteAt_eq s p h]; omega), if_pos (by rw [byteAt_eq s p h]; omega)]
theorem g_last {s : ByteArray} {m p k u : Nat} (h : p < s.size) (h9 : ¬ (k = 9 ∧ 1 < s[p].toNat)) (hc : s[p].toNat < 128) (h0 : ¬ (s[p].toNat = 0 ∧ 0 < k)) : getG s (m + 1) p k u = (unfoldZ (u + s[p].toNat * 2 ^ (7 * k)), (p : Int) + 1, 0) := by
  rw [getG, if_neg (by omega), byteAt_eq s p h, if_neg h9, if_pos hc, if_neg h0]
theorem g_more {s : ByteArray} {m p k u : Nat} (h : p < s.size) (h9 : ¬ (k = 9 ∧ 1 < s[p].toNat)) (hc : 128 ≤ s[p].toNat) : getG s (m + 1) p k u = getG s m (p + 1) (k + 1) (u + s[p].toNat % 128 * 2 ^ (7 * k)) := by
  rw [getG, if_neg (by omega), byteAt_eq s p h, if_neg h9, if_neg (by omega)]
theorem last_eq {s : ByteArray} {m p k u : Nat} (h : p < s.size) (h9 : ¬ (k = 9 ∧ 1 < s[p].toNat)) (hc : s[p].toNat < 128) :
    getG s (m + 1) p k u = if s[p].toNat = 0 ∧ 0 < k then (0, 0, 3) else (unfoldZ (u + s[p].toNat % 128 * 2 ^ (7 * k)), (p : Int) + 1, 0) := by
  by_cases h0 : s[p].toNat = 0 ∧ 0 < k
  · rw [if_pos h0, g_zero h h0.2 h0.1]
  · rw [if_neg h0, g_last h h9 hc h0, Nat.mod_eq_of_lt hc]
theorem getG_bad (s : ByteArray) (m : Nat) : ∀ p k u, (getG s m p k u).2.2 ≠ 0 → (getG s m p k u).1 = 0 ∧ (getG s m p k u).2.1 = 0 := by
  induction m with
  | zero => intro p k u _; exact ⟨rfl, rfl⟩
  | succ m ih =>
    intro p k u h
    rw [getG] at h ⊢
    split
    · exact ⟨rfl, rfl⟩
    · rename_i h1
      rw [if_neg h1] at h
      split
      · exact ⟨rfl, rfl⟩
      · rename_i h2
        rw [if_neg h2] at h
        split
        · rename_i h3
          rw [if_pos h3] at h
          split
          · exact ⟨rfl, rfl⟩
          · rename_i h4
            rw [if_neg h4] at h
            exact absurd rfl h
        · rename_i h3
          rw [if_neg h3] at h
          exact ih _ _ _ h
theorem getR_bad (s : ByteArray) (a : Int) (h : (getR s a).2.2 ≠ 0) : getR s a = (0, 0, (getR s a).2.2) := by
  have key : (getR s a).1 = 0 ∧ (getR s a).2.1 = 0 := by
    unfold getR at h ⊢
    split
    · exact ⟨rfl, rfl⟩
    · rename_i h1
      rw [if_neg h1] at h
      split
      · exact ⟨rfl, rfl⟩
      · rename_i h2
        rw [if_neg h2] at h
        exact getG_bad s 10 _ _ _ h
  exact Prod.ext key.1 (Prod.ext key.2 rfl)
theorem getG_at (s : ByteArray) (m : Nat) : ∀ p k u, (getG s m p k u).2.2 = 0 → 1 ≤ (getG s m p k u).2.1 ∧ (getG s m p k u).2.1 ≤ s.size := by
  induction m with
  | zero => intro p k u h; exact absurd h (by rw [getG]; decide)
  | succ m ih =>
    intro p k u h
    by_cases h1 : s.size ≤ p
    · rw [getG, if_pos h1] at h; exact absurd h (by decide)
    by_cases h2 : k = 9 ∧ 1 < byteAt s p
    · rw [getG, if_neg h1, if_pos h2] at h; exact absurd h (by decide)
    by_cases h3 : byteAt s p < 128
    · by_cases h4 : byteAt s p = 0 ∧ 0 < k
      · rw [getG, if_neg h1, if_neg h2, if_pos h3, if_pos h4] at h; exact absurd h (by decide)
      · rw [getG, if_neg h1, if_neg h2, if_pos h3, if_neg h4]
        show 1 ≤ (p : Int) + 1 ∧ (p : Int) + 1 ≤ s.size
        omega
    · rw [getG, if_neg h1, if_neg h2, if_neg h3] at h ⊢
      exact ih _ _ _ h
theorem getR_at (s : ByteArray) (a : Int) (h : (getR s a).2.2 = 0) : 1 ≤ (getR s a).2.1 ∧ (getR s a).2.1 ≤ s.size ∧ s.size ≤ 8000 := by
  by_cases h1 : 8000 < s.size
  · unfold getR at h; rw [if_pos h1] at h; exact absurd h (by decide)
  by_cases h2 : a < 0
  · unfold getR at h; rw [if_neg h1, if_pos h2] at h; exact absurd h (by decide)
  · unfold getR at h ⊢
    rw [if_neg h1, if_neg h2] at h ⊢
    have := getG_at s 10 _ _ _ h
    omega
/-- what is told of a text at a place -/
def getT (s : ByteArray) (a : Int) : ByteArray × Int × Int :=
  if (getR s a).2.2 ≠ 0 then (ByteArray.empty, 0, (getR s a).2.2)
  else if (getR s a).1 < 0 ∨ 8000 < (getR s a).1 then (ByteArray.empty, 0, 3)
  else if (s.size : Int) < (getR s a).2.1 + (getR s a).1 then (ByteArray.empty, 0, 4)
  else (s.extract (getR s a).2.1.toNat ((getR s a).2.1 + (getR s a).1).toNat, (getR s a).2.1 + (getR s a).1, 0)
theorem pow_le {k : Nat} (h : k ≤ 8) : 2 ^ (7 * k) * 128 ≤ 9223372036854775808 := by
  have : 2 ^ (7 * k) ≤ 2 ^ 56 := Nat.pow_le_pow_right (by decide) (by omega)
  omega
theorem next_lt {u c k : Nat} (hu : u < 2 ^ (7 * k)) : u + c % 128 * 2 ^ (7 * k) < 2 ^ (7 * (k + 1)) := by
  have e : 2 ^ (7 * (k + 1)) = 128 * 2 ^ (7 * k) := by rw [show 7 * (k + 1) = 7 * k + 7 by omega, Nat.pow_add]; omega
  rw [e]
  have h1 : c % 128 ≤ 127 := by omega
  have h2 : c % 128 * 2 ^ (7 * k) ≤ 127 * 2 ^ (7 * k) := Nat.mul_le_mul_right _ h1
  omega
theorem or_add {u x i : Nat} (hu : u < 2 ^ i) : u ||| x * 2 ^ i = u + x * 2 ^ i := by
  have h := Nat.shiftLeft_add_eq_or_of_lt hu x
  rw [Nat.shiftLeft_eq] at h
  rw [Nat.or_comm, ← h, Nat.add_comm]
/-- seven bits more do not leave 64 bits -/
theorem in64 {u c k : Nat} (hk : k ≤ 9) (h9 : ¬ (k = 9 ∧ 1 < c)) (hu : u < 2 ^ (7 * k)) : c % 128 * 2 ^ (7 * k) < 18446744073709551616 ∧ u + c % 128 * 2 ^ (7 * k) < 18446744073709551616 := by
  by_cases e : k = 9
  · subst e
    have : c ≤ 1 := by omega
    have : c % 128 ≤ 1 := by omega
    have e2 : 2 ^ (7 * 9) = 9223372036854775808 := by decide
    rw [e2] at hu ⊢
    omega
  · have := pow_le (show k ≤ 8 by omega)
    have h1 : c % 128 ≤ 127 := by omega
    have h2 : c % 128 * 2 ^ (7 * k) ≤ 127 * 2 ^ (7 * k) := Nat.mul_le_mul_right _ h1
    omega
theorem or_nat {u c k : Nat} (hk : k ≤ 9) (h9 : ¬ (k = 9 ∧ 1 < c)) (hu : u < 2 ^ (7 * k)) : bits .or .u64 (u : Int) ((c % 128 * 2 ^ (7 * k) : Nat) : Int) = ((u + c % 128 * 2 ^ (7 * k) : Nat) : Int) := by
  obtain ⟨h1, h2⟩ := in64 hk h9 hu
  rw [u64_or_nat u _ (by omega) h1, or_add hu]
theorem or_val {u c k : Nat} (hk : k ≤ 9) (h9 : ¬ (k = 9 ∧ 1 < c)) (hu : u < 2 ^ (7 * k)) : bits .or .u64 (u : Int) (IntKind.u64.wrap ((c : Int) % 128 * 2 ^ (7 * k))) = ((u + c % 128 * 2 ^ (7 * k) : Nat) : Int) := by
  obtain ⟨h1, h2⟩ := in64 hk h9 hu
  have e : IntKind.u64.wrap ((c : Int) % 128 * 2 ^ (7 * k)) = ((c % 128 * 2 ^ (7 * k) : Nat) : Int) := by
    rw [IntKind.wrap_u64]
    have e2 : ((c % 128 * 2 ^ (7 * k) : Nat) : Int) = (c : Int) % 128 * 2 ^ (7 * k) := by rw [Int.natCast_mul, Int.natCast_emod, Int.natCast_pow]; rfl
    rw [← e2]
    exact Int.emod_eq_of_lt (Int.natCast_nonneg _) (Int.ofNat_lt.2 h1)
  rw [e]
  exact or_nat hk h9 hu
theorem or_nine {u c : Nat} (hc : ¬ 1 < c) (hu : u < 2 ^ (7 * 9)) : bits .or .u64 (u : Int) ((c : Int) % 128 * 9223372036854775808) = ((u + c % 128 * 2 ^ (7 * 9) : Nat) : Int) := by
  have e : (c : Int) % 128 * 9223372036854775808 = ((c % 128 * 2 ^ (7 * 9) : Nat) : Int) := by
    rw [show 2 ^ (7 * 9) = 9223372036854775808 by decide]; omega
  rw [e]
  exact or_nat (Nat.le_refl 9) (by omega) hu
theorem or_first (c : Nat) : bits .or .u64 0 ((c : Int) % 128) = ((0 + c % 128 * 2 ^ (7 * 0) : Nat) : Int) := by
  have := or_nat (u := 0) (c := c) (k := 0) (by omega) (by omega) (by decide)
  rw [show (c : Int) % 128 = ((c % 128 * 2 ^ (7 * 0) : Nat) : Int) by simp]
  exact this
end Go.Proofs.Ytghchcipobcpjaa
