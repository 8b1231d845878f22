/- PLAIN: the number that stands in a text at a place; nothing of the program. -/
import Derived.Test.YtineecongiplgaaPlain
namespace Go.Proofs.Ytineecongiplgaa
open Go.RowKit

def unfoldZ (u : Nat) : Int := if u % 2 = 0 then ((u / 2 : Nat) : Int) else -((u / 2 : Nat) : Int) - 1
theorem unfold_odd {u x : Nat} (h : (u + x) % 2 = 1) : unfoldZ (u + x) = -(((u : Int) + x) / 2) - 1 := by unfold unfoldZ; rw [if_neg (by omega)]; omega
theorem unfold_even {u x : Nat} (h : ¬ (u + x) % 2 = 1) : unfoldZ (u + x) = ((u : Int) + x) / 2 := by unfold unfoldZ; rw [if_pos (by omega)]; omega
def byteAt (s : ByteArray) (i : Nat) : Nat := (s.data.toList.getD i 0).toNat
theorem byteAt_eq (s : ByteArray) (i : Nat) (h : i < s.size) : byteAt s i = s[i].toNat := by
  unfold byteAt
  rw [show s.data.toList.getD i 0 = s[i] from by simp [h]; rfl]
/-- what is told of k bytes that were read, the number so far, at place p: the number, the place behind it, the code -/
def getG (s : ByteArray) : Nat → Nat → Nat → Nat → Int × Int × Int
  | 0, _, _, _ => (0, 0, 3)
  | m + 1, p, k, u => if s.size ≤ p then (0, 0, 4) else if k = 9 ∧ 1 < byteAt s p then (0, 0, 3)
    else if byteAt s p < 128 then (if byteAt s p = 0 ∧ 0 < k then (0, 0, 3) else (unfoldZ (u + byteAt s p * 2 ^ (7 * k)), p + 1, 0))
    else getG s m (p + 1) (k + 1) (u + byteAt s p % 128 * 2 ^ (7 * k))
def getR (s : ByteArray) (a : Int) : Int × Int × Int := if 8000 < s.size then (0, 0, 2) else if a < 0 then (0, 0, 1) else getG s 10 a.toNat 0 0
theorem g_short {s : ByteArray} {m p k u : Nat} (h : s.size ≤ p) : getG s (m + 1) p k u = (0, 0, 4) := by
  rw [getG, if_pos h]
theorem g_nine {s : ByteArray} {m p k u : Nat} (h : p < s.size) (hk : k = 9) (hc : 1 < s[p].toNat) : getG s (m + 1) p k u = (0, 0, 3) := by
  rw [getG, if_neg (by omega), if_pos ⟨hk, by rw [byteAt_eq s p h]; exact hc⟩]
theorem g_zero {s : ByteArray} {m p k u : Nat} (h : p < s.size) (hk : 0 < k) (hc : s[p].toNat = 0) : getG s (m + 1) p k u = (0, 0, 3) := by
  rw [getG, if_neg (by omega), if_neg (by rw [byteAt_eq s p h]; omega), if_pos (by rw [byteAt_eq s p h]; omega), if_pos (by rw [byteAt_eq s p h]; omega)]
theorem g_last {s : ByteArray} {m p k u : Nat} (h : p < s.size) (h9 : ¬ (k = 9 ∧ 1 < s[p].toNat)) (hc : s[p].toNat < 128) (h0 : ¬ (s[p].toNat = 0 ∧ 0 < k)) : getG s (m + 1) p k u = (unfoldZ (u + s[p].toNat * 2 ^ (7 * k)), (p : Int) + 1, 0) := by
  rw [getG, if_neg (by omega), byteAt_eq s p h, if_neg h9, if_pos hc, if_neg h0]
theorem g_more {s : ByteArray} {m p k u : Nat} (h : p < s.size) (h9 : ¬ (k = 9 ∧ 1 < s[p].toNat)) (hc : 128 ≤ s[p].toNat) : getG s (m + 1) p k u = getG s m (p + 1) (k + 1) (u + s[p].toNat % 128 * 2 ^ (7 * k)) := by
  rw [getG, if_neg (by omega), byteAt_eq s p h, if_neg h9, if_neg (by omega)]
theorem last_eq {s : ByteArray} {m p k u : Nat} (h : p < s.size) (h9 : ¬ (k = 9 ∧ 1 < s[p].toNat)) (hc : s[p].toNat < 128) :
    getG s (m + 1) p k u = if s[p].toNat = 0 ∧ 0 < k then (0, 0, 3) else (unfoldZ (u + s[p].toNat % 128 * 2 ^ (7 * k)), (p : Int) + 1, 0) := by
  by_cases h0 : s[p].toNat = 0 ∧ 0 < k
  · rw [if_pos h0, g_zero h h0.2 h0.1]
  · rw [if_neg h0, g_last h h9 hc h0, Nat.mod_eq_of_lt hc]
theorem getG_bad (s : ByteArray) (m : Nat) : ∀ p k u, (getG s m p k u).2.2 ≠ 0 → (getG s m p k u).1 = 0 ∧ (getG s m p k u).2.1 = 0 := by
  induction m with
  | zero => intro p k u _; exact ⟨rfl, rfl⟩
  | succ m ih =>
    intro p k u h
    rw [getG] at h ⊢
    split
    · exact ⟨rfl, rfl⟩
    · rename_i h1
      rw [if_neg h1] at h
      split
      · exact ⟨rfl, rfl⟩
      · rename_i h2
        rw [if_neg h2] at h
        split
        · rename_i h3
          rw [if_pos h3] at h
          split
          · exact ⟨rfl, rfl⟩
          · rename_i h4
            rw [if_neg h4] at h
            exact absurd rfl h
        · rename_i h3
          rw [if_neg h3] at h
          exact ih _ _ _ h
theorem getR_bad (s : ByteArray) (a : Int) (h : (getR s a).2.2 ≠ 0) : getR s a = (0, 0, (getR s a).2.2) := by
  have key : (getR s a).1 = 0 ∧ (getR s a).2.1 = 0 := by
    unfold getR at h ⊢
    split
    · exact ⟨rfl, rfl⟩
    · rename_i h1
      rw [if_neg h1] at h
      split
      · exact ⟨rfl, rfl⟩
      · rename_i h2
        rw [if_neg h2] at h
        exact getG_bad s 10 _ _ _ h
  exact Prod.ext key.1 (Prod.ext key.2 rfl)
theorem getG_at (s : ByteArray) (m : Nat) : ∀ p k u, (getG s m p k u).2.2 = 0 → 1 ≤ (getG s m p k u).2.1 ∧ (getG s m p k u).2.1 ≤ s.size := by
  induction m with
  | zero => intro p k u h; exact absurd h (by rw [getG]; decide)
  | succ m ih =>
    intro p k u h
    by_cases h1 : s.size ≤ p
    · rw [getG, if_pos h1] at h; exact absurd h (by decide)
    by_cases h2 : k = 9 ∧ 1 < byteAt s p
    · rw [getG, if_neg h1, if_pos h2] at h; exact absurd h (by decide)
    by_cases h3 : byteAt s p < 128
    · by_cases h4 : byteAt s p = 0 ∧ 0 < k
      · rw [getG, if_neg h1, if_neg h2, if_pos h3, if_pos h4] at h; exact absurd h (by decide)
      · rw [getG, if_neg h1, if_neg h2, if_pos h3, if_neg h4]
        show 1 ≤ (p : Int) + 1 ∧ (p : Int) + 1 ≤ s.size
        omega
    · rw [getG, if_neg h1, if_neg h2, if_neg h3] at h ⊢
      exact ih _ _ _ h
theorem getR_at (s : ByteArray) (a : Int) (h : (getR s a).2.2 = 0) : 1 ≤ (getR s a).2.1 ∧ (getR s a).2.1 ≤ s.size ∧ s.size ≤ 8000 := by
  by_cases h1 : 8000 < s.size
  · unfold getR at h; rw [if_pos h1] at h; exact absurd h (by decide)
  by_cases h2 : a < 0
  · unfold getR at h; rw [if_neg h1, if_pos h2] at h; exact absurd h (by decide)
  · unfold getR at h ⊢
    rw [if_neg h1, if_neg h2] at h ⊢
    have := getG_at s 10 _ _ _ h
    omega
/-- what is told of a text at a place -/
def getT (s : ByteArray) (a : Int) : ByteArray × Int × Int :=
  if (getR s a).2.2 ≠ 0 then (ByteArray.empty, 0, (getR s a).2.2)
  else if (getR s a).1 < 0 ∨ 8000 < (getR s a).1 then (ByteArray.empty, 0, 3)
  else if (s.size : Int) < (getR s a).2.1 + (getR s a).1 then (ByteArray.empty, 0, 4)
  else (s.extract (getR s a).2.1.toNat ((getR s a).2.1 + (getR s a).1).toNat, (getR s a).2.1 + (getR s a).1, 0)
theorem pow_le {k : Nat} (h : k ≤ 8) : 2 ^ (7 * k) * 128 ≤ 9223372036854775808 := by
  have : 2 ^ (7 * k) ≤ 2 ^ 56 := Nat.pow_le_pow_right (by decide) (by omega)
  omega
theorem next_lt {u c k : Nat} (hu : u < 2 ^ (7 * k)) : u + c % 128 * 2 ^ (7 * k) < 2 ^ (7 * (k + 1)) := by
  have e : 2 ^ (7 * (k + 1)) = 128 * 2 ^ (7 * k) := by rw [show 7 * (k + 1) = 7 * k + 7 by omega, Nat.pow_add]; omega
  rw [e]
  have h1 : c % 128 ≤ 127 := by omega
  have h2 : c % 128 * 2 ^ (7 * k) ≤ 127 * 2 ^ (7 * k) := Nat.mul_le_mul_right _ h1
  omega
theorem or_add {u x i : Nat} (hu : u < 2 ^ i) : u ||| x * 2 ^ i = u + x * 2 ^ i := by
  have h := Nat.shiftLeft_add_eq_or_of_lt hu x
  rw [Nat.shiftLeft_eq] at h
  rw [Nat.or_comm, ← h, Nat.add_comm]
/-- seven bits more do not leave 64 bits -/
theorem in64 {u c k : Nat} (hk : k ≤ 9) (h9 : ¬ (k = 9 ∧ 1 < c)) (hu : u < 2 ^ (7 * k)) : c % 128 * 2 ^ (7 * k) < 18446744073709551616 ∧ u + c % 128 * 2 ^ (7 * k) < 18446744073709551616 := by
  by_cases e : k = 9
  · subst e
    have : c ≤ 1 := by omega
    have : c % 128 ≤ 1 := by omega
    have e2 : 2 ^ (7 * 9) = 9223372036854775808 := by decide
    rw [e2] at hu ⊢
    omega
  · have := pow_le (show k ≤ 8 by omega)
    have h1 : c % 128 ≤ 127 := by omega
    have h2 : c % 128 * 2 ^ (7 * k) ≤ 127 * 2 ^ (7 * k) := Nat.mul_le_mul_right _ h1
    omega
theorem or_nat {u c k : Nat} (hk : k ≤ 9) (h9 : ¬ (k = 9 ∧ 1 < c)) (hu : u < 2 ^ (7 * k)) : bits .or .u64 (u : Int) ((c % 128 * 2 ^ (7 * k) : Nat) : Int) = ((u + c % 128 * 2 ^ (7 * k) : Nat) : Int) := by
  obtain ⟨h1, h2⟩ := in64 hk h9 hu
  rw [u64_or_nat u _ (by omega) h1, or_add hu]
theorem or_val {u c k : Nat} (hk : k ≤ 9) (h9 : ¬ (k = 9 ∧ 1 < c)) (hu : u < 2 ^ (7 * k)) : bits .or .u64 (u : Int) (IntKind.u64.wrap ((c : Int) % 128 * 2 ^ (7 * k))) = ((u + c % 128 * 2 ^ (7 * k) : Nat) : Int) := by
  obtain ⟨h1, h2⟩ := in64 hk h9 hu
  have e : IntKind.u64.wrap ((c : Int) % 128 * 2 ^ (7 * k)) = ((c % 128 * 2 ^ (7 * k) : Nat) : Int) := by
    rw [IntKind.wrap_u64]
    have e2 : ((c % 128 * 2 ^ (7 * k) : Nat) : Int) = (c : Int) % 128 * 2 ^ (7 * k) := by rw [Int.natCast_mul, Int.natCast_emod, Int.natCast_pow]; rfl
    rw [← e2]
    exact Int.emod_eq_of_lt (Int.natCast_nonneg _) (Int.ofNat_lt.2 h1)
  rw [e]
  exact or_nat hk h9 hu
theorem or_nine {u c : Nat} (hc : ¬ 1 < c) (hu : u < 2 ^ (7 * 9)) : bits .or .u64 (u : Int) ((c : Int) % 128 * 9223372036854775808) = ((u + c % 128 * 2 ^ (7 * 9) : Nat) : Int) := by
  have e : (c : Int) % 128 * 9223372036854775808 = ((c % 128 * 2 ^ (7 * 9) : Nat) : Int) := by
    rw [show 2 ^ (7 * 9) = 9223372036854775808 by decide]; omega
  rw [e]
  exact or_nat (Nat.le_refl 9) (by omega) hu
theorem or_first (c : Nat) : bits .or .u64 0 ((c : Int) % 128) = ((0 + c % 128 * 2 ^ (7 * 0) : Nat) : Int) := by
  have := or_nat (u := 0) (c := c) (k := 0) (by omega) (by omega) (by decide)
  rw [show (c : Int) % 128 = ((c % 128 * 2 ^ (7 * 0) : Nat) : Int) by simp]
  exact this
end Go.Proofs.Ytineecongiplgaa
