/- PLAIN: frames as texts; nothing of the program. -/
import Derived.WalkKit
import Derived.Laws.BitsAllLaws
import Derived.Test.YtancfnpmbddfoaaPlainWire
import Derived.Test.YtancfnpmbddfoaaPlainRead
import Derived.Test.YtancfnpmbddfoaaPlainFcs
namespace Go.Proofs.Ytancfnpmbddfoaa

theorem xor32 (c : UInt8) : bits .xor .u8 (c.toNat : Int) 32 = ((c ^^^ 32).toNat : Int) := by
  rw [UInt8.toNat_xor]
  exact u8_xor_nat c.toNat 32 c.toNat_lt (by decide)
theorem eq_u8 (c : UInt8) (k : Nat) (hk : k < 256) : ((c.toNat : Int) == (k : Int)) = decide (c = UInt8.ofNat k) := by
  rw [Bool.eq_iff_iff]
  simp only [beq_iff_eq, decide_eq_true_eq]
  constructor
  · intro h
    apply UInt8.toNat_inj.1
    rw [UInt8.toNat_ofNat']
    omega
  · intro h
    rw [h, UInt8.toNat_ofNat']
    omega
theorem is126 (c : UInt8) : ((c.toNat : Int) == 126) = decide (c = 126) := eq_u8 c 126 (by decide)
theorem is125 (c : UInt8) : ((c.toNat : Int) == 125) = decide (c = 125) := eq_u8 c 125 (by decide)
def bytesOf (l : List UInt8) : ByteArray := ⟨l.toArray⟩
theorem bytesOf_size (l : List UInt8) : (bytesOf l).size = l.length := by simp [bytesOf, ByteArray.size]
theorem bytesOf_list (l : List UInt8) : (bytesOf l).data.toList = l := by simp [bytesOf]
theorem bytesOf_data (s : ByteArray) : bytesOf s.data.toList = s := by
  apply ByteArray.ext; simp [bytesOf]
theorem bytesOf_append (l m : List UInt8) : bytesOf l ++ bytesOf m = bytesOf (l ++ m) := by
  apply ByteArray.ext; simp [bytesOf, ByteArray.data_append]
theorem append_bytesOf (s : ByteArray) (m : List UInt8) : s ++ bytesOf m = bytesOf (s.data.toList ++ m) := by
  rw [← bytesOf_append, bytesOf_data]
theorem list_append (s t : ByteArray) : (s ++ t).data.toList = s.data.toList ++ t.data.toList := by simp [ByteArray.data_append]
theorem list_length (s : ByteArray) : s.data.toList.length = s.size := by rw [Array.length_toList]; rfl
def frameB (s : ByteArray) : ByteArray := bytesOf (frameT s.data.toList)
theorem frameB_in (s : ByteArray) (h1 : 1 ≤ s.size) (h2 : s.size ≤ 60) : frameB s = bytesOf (frameL (s.data.toList ++ checkL s.data.toList)) := by
  unfold frameB frameT
  rw [if_neg (by rw [list_length]; omega)]
theorem frameB_out (s : ByteArray) (h : s.size < 1 ∨ 60 < s.size) : frameB s = ByteArray.empty := by
  unfold frameB frameT
  rw [if_pos (by rw [list_length]; omega)]
  rfl
theorem frameB_size (s : ByteArray) : (frameB s).size ≤ 126 := by unfold frameB; rw [bytesOf_size]; exact frameT_length _
theorem frame_parts (s : ByteArray) : bytesOf [126] ++ bytesOf (escL s.data.toList) ++ bytesOf (escL (checkL s.data.toList)) ++ bytesOf [126] = bytesOf (frameL (s.data.toList ++ checkL s.data.toList)) := by
  rw [bytesOf_append, bytesOf_append, bytesOf_append]
  unfold frameL
  rw [escL_append]
  simp
end Go.Proofs.Ytancfnpmbddfoaa
