/- WHAT IS READ OF PARTS of a text. -/
import Derived.Test.YtfpibedloodjlaaPlainAsk2
namespace Go.Proofs.Ytfpibedloodjlaa
open Go.RowKit
set_option linter.unusedVariables false
set_option linter.unusedSimpArgs false

theorem byteAt_extract (s : ByteArray) (i j k : Nat) (h : i + k < j) (hj : j ≤ s.size) : byteAt (s.extract i j) k = byteAt s (i + k) := by
  have h1 : k < (s.extract i j).size := by rw [ByteArray.size_extract]; omega
  rw [byteAt_eq _ _ h1, byteAt_eq s (i + k) (by omega), ByteArray.getElem_extract]
theorem words_head (s : ByteArray) (h : 5 ≤ s.size) : wordsAt (s.extract 1 5) 0 ((s.extract 1 5).size / 2) = [wordAt s 1, wordAt s 3] := by
  have hz : (s.extract 1 5).size = 4 := by rw [ByteArray.size_extract]; omega
  rw [hz]
  have e0 := byteAt_extract s 1 5 0 (by omega) h
  have e1 := byteAt_extract s 1 5 1 (by omega) h
  have e2 := byteAt_extract s 1 5 2 (by omega) h
  have e3 := byteAt_extract s 1 5 3 (by omega) h
  simp [wordsAt, wordAt, List.range_succ, e0, e1, e2, e3]
theorem wordAt_extract (s : ByteArray) (i : Nat) (k : Nat) (h : i + k + 1 < s.size) : wordAt (s.extract i s.size) k = wordAt s (i + k) := by
  unfold wordAt
  rw [byteAt_extract s i s.size k (by omega) (Nat.le_refl _), byteAt_extract s i s.size (k + 1) (by omega) (Nat.le_refl _), Nat.add_assoc]
theorem words_tail (s : ByteArray) (h : 6 ≤ s.size) : wordsAt (s.extract 6 s.size) 0 ((s.extract 6 s.size).size / 2) = wordsAt s 6 ((s.size - 6) / 2) := by
  have hz : (s.extract 6 s.size).size = s.size - 6 := by rw [ByteArray.size_extract]; omega
  rw [hz]
  unfold wordsAt
  apply List.map_congr_left
  intro k hk
  have := List.mem_range.1 hk
  rw [Nat.zero_add, wordAt_extract s 6 (2 * k) (by omega)]
theorem bits_tail (s : ByteArray) (m : Nat) (h : 6 + (m + 7) / 8 ≤ s.size) : unpackL (s.extract 6 s.size) m = bitsAt s 6 m := by
  unfold unpackL bitsAt
  apply List.map_congr_left
  intro k hk
  have := List.mem_range.1 hk
  rw [byteAt_extract s 6 s.size (k / 8) (by omega) (Nat.le_refl _)]
theorem wordAt_range (s : ByteArray) (i : Nat) : 0 ≤ wordAt s i ∧ wordAt s i ≤ 65535 := by
  have h1 : byteAt s i < 256 := by unfold byteAt; exact u8_lt _
  have h2 : byteAt s (i + 1) < 256 := by unfold byteAt; exact u8_lt _
  unfold wordAt
  omega
theorem byteAt_range (s : ByteArray) (i : Nat) : byteAt s i < 256 := by unfold byteAt; exact u8_lt _
end Go.Proofs.Ytfpibedloodjlaa
