/- PLAIN: the CRC of a list of bytes over numbers from 0 on; nothing of the program. -/
import Derived.WalkKit
import Derived.Laws.BitsAllLaws
namespace Go.Proofs.Ytancfnpmbddfoaa
open Go.RowKit

def crcStep (x : Nat) : Nat := if x % 2 = 1 then (x / 2) ^^^ 3988292384 else x / 2
def crcSteps : Nat → Nat → Nat
  | 0, x => x
  | n + 1, x => crcStep (crcSteps n x)
def crcB (r b : Nat) : Nat := crcSteps 8 (r ^^^ b)
def crcL (r : Nat) (l : List UInt8) : Nat := l.foldl (fun r c => crcB r c.toNat) r

theorem xor_lt32 {a b : Nat} (ha : a < 4294967296) (hb : b < 4294967296) : a ^^^ b < 4294967296 := Nat.xor_lt_two_pow (n := 32) ha hb
theorem crcStep_lt {x : Nat} (h : x < 4294967296) : crcStep x < 4294967296 := by
  unfold crcStep
  split
  · exact xor_lt32 (by omega) (by decide)
  · omega
theorem crcSteps_lt (n : Nat) {x : Nat} (h : x < 4294967296) : crcSteps n x < 4294967296 := by
  induction n with
  | zero => exact h
  | succ n ih => exact crcStep_lt ih
theorem u8_lt (c : UInt8) : c.toNat < 256 := c.toNat_lt
theorem crcB_lt {r b : Nat} (h : r < 4294967296) (hb : b < 256) : crcB r b < 4294967296 := crcSteps_lt 8 (xor_lt32 h (by omega))
theorem crcL_lt (l : List UInt8) : ∀ {r : Nat}, r < 4294967296 → crcL r l < 4294967296 := by
  induction l with
  | nil => intro r h; exact h
  | cons c l ih => intro r h; exact ih (crcB_lt h (u8_lt c))
theorem crcL_snoc (r : Nat) (l : List UInt8) (c : UInt8) : crcL r (l ++ [c]) = crcB (crcL r l) c.toNat := by
  simp [crcL, List.foldl_append]
theorem crcL_append (r : Nat) (l m : List UInt8) : crcL r (l ++ m) = crcL (crcL r l) m := by
  simp [crcL, List.foldl_append]

/-- the other way to a byte: bit by bit beside the register -/
def bitStep (b i r : Nat) : Nat := if (r ^^^ (b / 2 ^ i)) % 2 = 1 then (r / 2) ^^^ 3988292384 else r / 2
def bitSteps (b : Nat) : Nat → Nat → Nat
  | 0, r => r
  | n + 1, r => bitStep b n (bitSteps b n r)
theorem xor_half (a b : Nat) : (a ^^^ b) / 2 = (a / 2) ^^^ (b / 2) := by
  have := Nat.shiftRight_xor_distrib (a := a) (b := b) (i := 1)
  simpa [Nat.shiftRight_eq_div_pow] using this
theorem bitSteps_eq (b r : Nat) (n : Nat) : crcSteps n (r ^^^ b) = bitSteps b n r ^^^ (b / 2 ^ n) := by
  induction n with
  | zero => simp [crcSteps, bitSteps]
  | succ n ih =>
    show crcStep (crcSteps n (r ^^^ b)) = bitStep b n (bitSteps b n r) ^^^ (b / 2 ^ (n + 1))
    rw [ih]
    have e : b / 2 ^ (n + 1) = b / 2 ^ n / 2 := by rw [Nat.pow_succ, Nat.div_div_eq_div_mul]
    unfold crcStep bitStep
    rw [e]
    split
    · rw [xor_half, Nat.xor_assoc, Nat.xor_comm (b / 2 ^ n / 2), ← Nat.xor_assoc]
    · rw [xor_half]
theorem bitSteps_crcB (b r : Nat) (hb : b < 256) : bitSteps b 8 r = crcB r b := by
  have := bitSteps_eq b r 8
  have h0 : b / 2 ^ 8 = 0 := by omega
  rw [h0, Nat.xor_zero] at this
  exact this.symm
theorem bitStep_lt (b i : Nat) {r : Nat} (h : r < 4294967296) : bitStep b i r < 4294967296 := by
  unfold bitStep
  split
  · exact xor_lt32 (by omega) (by decide)
  · omega
theorem bitSteps_lt (b n : Nat) {r : Nat} (h : r < 4294967296) : bitSteps b n r < 4294967296 := by
  induction n with
  | zero => exact h
  | succ n ih => exact bitStep_lt b n ih

theorem bit_xor (x b k : Nat) (hx : x < 4294967296) (hb : b < 256) : bits .xor .u32 (x : Int) ((b : Int) / 2 ^ k % 4294967296) = ((x ^^^ b / 2 ^ k : Nat) : Int) := by
  have h2 : b / 2 ^ k ≤ b := Nat.div_le_self _ _
  have e : ((b : Int) / 2 ^ k % 4294967296) = ((b / 2 ^ k : Nat) : Int) := by
    have : ((b / 2 ^ k : Nat) : Int) = (b : Int) / 2 ^ k := by simp
    have hlt : b / 2 ^ k < 4294967296 := by omega
    rw [← this]; exact Int.emod_eq_of_lt (Int.natCast_nonneg _) (Int.ofNat_lt.2 hlt)
  rw [e]
  exact u32_xor_nat x (b / 2 ^ k) hx (by omega)
theorem odd_nat (n : Nat) : ((n : Int).tmod 2 == 1) = decide (n % 2 = 1) := by
  have e : (n : Int).tmod 2 = ((n % 2 : Nat) : Int) := by rw [Int.tmod_eq_emod_of_nonneg (by omega)]; omega
  rw [e, Bool.eq_iff_iff]; simp; omega
theorem half_xor (x : Nat) (hx : x < 4294967296) : bits .xor .u32 ((x : Int) / 2) 3988292384 = ((x / 2 ^^^ 3988292384 : Nat) : Int) := by
  have e : (x : Int) / 2 = ((x / 2 : Nat) : Int) := by omega
  rw [e]
  exact u32_xor_nat (x / 2) 3988292384 (by omega) (by decide)
theorem bit_yes {x b k : Nat} (hx : x < 4294967296) (hb : b < 256) (h : ((bits .xor .u32 (x : Int) ((b : Int) / 2 ^ k % 4294967296)).tmod 2 == 1) = true) :
    bits .xor .u32 ((x : Int) / 2) 3988292384 = (bitStep b k x : Nat) := by
  rw [bit_xor x b k hx hb, odd_nat] at h
  rw [half_xor x hx]; unfold bitStep; rw [if_pos (by simpa using h)]
theorem bit_no {x b k : Nat} (hx : x < 4294967296) (hb : b < 256) (h : ((bits .xor .u32 (x : Int) ((b : Int) / 2 ^ k % 4294967296)).tmod 2 == 1) = false) :
    (x : Int) / 2 = (bitStep b k x : Nat) := by
  rw [bit_xor x b k hx hb, odd_nat] at h
  unfold bitStep; rw [if_neg (by simpa using h)]; omega

theorem crcSteps_zero (x : Nat) : crcSteps 0 x = x := rfl
theorem val_int {k : IntKind} {a b : Int} (h : a = b) : Value.int k a = .int k b := by rw [h]
theorem start_byte (x b : Nat) (hx : x < 4294967296) (hb : b < 256) : bits .xor .u32 (x : Int) ((b : Int) % 4294967296) = ((crcSteps 0 (x ^^^ b) : Nat) : Int) := by
  have e : (b : Int) % 4294967296 = (b : Int) := by omega
  rw [e, crcSteps_zero]
  exact u32_xor_nat x b hx (by omega)
theorem start_plain (x b : Nat) (hx : x < 4294967296) (hb : b < 256) : bits .xor .u32 (x : Int) (b : Int) = ((crcSteps 0 (x ^^^ b) : Nat) : Int) := by
  rw [crcSteps_zero]
  exact u32_xor_nat x b hx (by omega)
theorem xor_byte (x b : Nat) (hx : x < 4294967296) (hb : b < 256) : bits .xor .u32 (x : Int) ((b : Int) % 4294967296) = ((x ^^^ b : Nat) : Int) := by
  have e : (b : Int) % 4294967296 = (b : Int) := by omega
  rw [e]
  exact u32_xor_nat x b hx (by omega)
theorem xor_ones (x : Nat) (hx : x < 4294967296) : bits .xor .u32 (x : Int) 4294967295 = ((x ^^^ 4294967295 : Nat) : Int) := u32_xor_nat x 4294967295 hx (by decide)
theorem ones_xor (x : Nat) (hx : x < 4294967296) : bits .xor .u32 IntKind.u32.max (x : Int) = ((x ^^^ 4294967295 : Nat) : Int) := by
  have := u32_xor_nat 4294967295 x (by decide) hx
  rw [Nat.xor_comm] at this
  exact this
theorem and_one (x : Nat) (hx : x < 4294967296) : bits .and .u32 (x : Int) 1 = ((x % 2 : Nat) : Int) := by
  have := u32_and_nat x 1 hx (by decide)
  rw [Nat.and_one_is_mod] at this
  exact this
theorem step_yes {x : Nat} (hx : x < 4294967296) (h : (bits .and .u32 (x : Int) 1 == 1) = true) : bits .xor .u32 ((x : Int) / 2) 3988292384 = (crcStep x : Nat) := by
  rw [and_one x hx] at h
  rw [half_xor x hx]; unfold crcStep; rw [if_pos (by simp at h; omega)]
theorem step_no {x : Nat} (hx : x < 4294967296) (h : (bits .and .u32 (x : Int) 1 == 1) = false) : (x : Int) / 2 = (crcStep x : Nat) := by
  rw [and_one x hx] at h
  unfold crcStep; rw [if_neg (by simp at h; omega)]; omega

theorem ret_int {k : IntKind} {a b : Int} (h : a = b) : Ending.returned (.int k a) = .returned (.int k b) := by rw [h]
theorem ret_bool {a b : Bool} (h : a = b) : Ending.returned (.bool a) = .returned (.bool b) := by rw [h]
theorem take_snoc (s : ByteArray) (k : Nat) (h : k < s.size) : s.data.toList.take (k + 1) = s.data.toList.take k ++ [s[k]] := by
  rw [List.take_succ_eq_append_getElem (by simpa using h)]; rfl
end Go.Proofs.Ytancfnpmbddfoaa
