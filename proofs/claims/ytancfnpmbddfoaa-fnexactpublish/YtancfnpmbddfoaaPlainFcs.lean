/- PLAIN: the check over numbers as the walks write them; nothing of the program. -/
import Derived.WalkKit
import Derived.Laws.BitsAllLaws
import Derived.Test.YtancfnpmbddfoaaPlainWire
namespace Go.Proofs.Ytancfnpmbddfoaa

theorem ofInt_i64 (a : Nat) (ha : a < 9223372036854775808) : (BitVec.ofInt 64 (a : Int)).toNat = a := by
  rw [BitVec.ofInt_natCast, BitVec.toNat_ofNat]; exact Nat.mod_eq_of_lt (by omega)
theorem i64_xor_nat (a b : Nat) (ha : a < 65536) (hb : b < 65536) : bits .xor .i64 (a : Int) (b : Int) = ((a ^^^ b : Nat) : Int) := by
  have hx : a ^^^ b < 2 ^ 16 := Nat.xor_lt_two_pow (by omega) (by omega)
  show IntKind.i64.wrap ((BitVec.ofInt 64 (a : Int) ^^^ BitVec.ofInt 64 (b : Int)).toNat : Int) = _
  rw [BitVec.toNat_xor, ofInt_i64 a (by omega), ofInt_i64 b (by omega)]
  simp [IntKind.wrap, IntKind.bits, IntKind.signed]
  omega
theorem fcsSteps_zero (x : Nat) : fcsSteps 0 x = x := rfl
theorem odd_i (x : Nat) : (((x : Int) % 2) == 1) = decide (x % 2 = 1) := by
  rw [Bool.eq_iff_iff]; simp; omega
theorem fcs_start (x b : Nat) (hx : x < 65536) (hb : b < 256) : bits .xor .i64 (x : Int) (b : Int) = ((fcsSteps 0 (x ^^^ b) : Nat) : Int) := i64_xor_nat x b hx (by omega)
theorem fcs_yes {x : Nat} (hx : x < 65536) (h : (((x : Int) % 2) == 1) = true) : bits .xor .i64 ((x : Int) / 2) 33800 = ((fcsStep x : Nat) : Int) := by
  rw [odd_i] at h
  have e : (x : Int) / 2 = ((x / 2 : Nat) : Int) := by omega
  unfold fcsStep
  rw [if_pos (by simpa using h), e]
  exact i64_xor_nat (x / 2) 33800 (by omega) (by decide)
theorem fcs_no {x : Nat} (h : (((x : Int) % 2) == 1) = false) : (x : Int) / 2 = ((fcsStep x : Nat) : Int) := by
  rw [odd_i] at h
  unfold fcsStep
  rw [if_neg (by simpa using h)]
  omega
theorem fcs16_start (x b : Nat) (hx : x < 65536) (hb : b < 256) : bits .xor .u16 (x : Int) (b : Int) = ((fcsSteps 0 (x ^^^ b) : Nat) : Int) := u16_xor_nat x b hx (by omega)
theorem fcs16_yes {x : Nat} (hx : x < 65536) (h : (((x : Int) % 2) == 1) = true) : bits .xor .u16 ((x : Int) / 2) 33800 = ((fcsStep x : Nat) : Int) := by
  rw [odd_i] at h
  have e : (x : Int) / 2 = ((x / 2 : Nat) : Int) := by omega
  unfold fcsStep
  rw [if_pos (by simpa using h), e]
  exact u16_xor_nat (x / 2) 33800 (by omega) (by decide)
/-- the check of a text, where it is short enough -/
def fcsV (s : ByteArray) : Nat := if 8000 < s.size then 0 else fcsL s.data.toList
def checkB (s : ByteArray) : ByteArray := ⟨(checkL s.data.toList).toArray⟩
theorem checkB_size (s : ByteArray) : (checkB s).size = 2 := rfl
end Go.Proofs.Ytancfnpmbddfoaa
