/- GOOD ANSWERS: the program's and the model's. -/
import Derived.Test.YtfpibedloodjlabProg
import Derived.Test.YtfpibedloodjlabPlainTb
import Derived.WalkKit
import Derived.WalkSpells
import Derived.Outline
import Derived.Below
namespace Go.Proofs.Ytfpibedloodjlab
open Go.RowKit
set_option linter.unusedVariables false
set_option linter.unusedSimpArgs false

theorem indexG (s : ByteArray) (h : 0 < s.size) (W : World) : (Instr.index 9 (.string s) (.int .i64 0)).run Try.prog W = .ok (.int .u8 (byteAt s 0 : Int)) W := by
  rw [byteAt_eq s 0 h]
  go_simp
theorem goodB_of (s : ByteArray) (h1 : 0 < s.size) (h2 : s.size ≤ 8000) : goodB s = decide ((byteAt s 0 : Int) < 128) := by
  unfold goodB
  rw [decide_eq_true (show 1 ≤ s.size from h1), decide_eq_true h2]
  simp
  omega
theorem answerGood_any (s : ByteArray) (w : World) (hz : s.size ≤ 9223372036854775807) :
    Calls Try.prog 22 #[.string s] w fun e w' => e = .returned (.bool (goodB s)) ∧ w = w' := by
  by_cases h1 : 1 ≤ s.size
  · by_cases h2 : s.size ≤ 8000
    · have hs : 0 < s.size := by omega
      have hI := indexG s hs
      rw [goodB_of s hs h2]
      generalize (byteAt s 0 : Int) = K at hI ⊢
      go_enter Try.func22, Try.ntmps22
      go_wp2
      go_ret
      exact ⟨rfl, rfl⟩
    · go_enter Try.func22, Try.ntmps22
      go_wp2
      go_ret
      exact ⟨ret_bool (by simp [goodB, h1, h2]), rfl⟩
  · go_enter Try.func22, Try.ntmps22
    go_wp2
    go_ret
    exact ⟨ret_bool (by simp [goodB, h1]), rfl⟩
theorem specAnswerGood_any (s : ByteArray) (w : World) (hz : s.size ≤ 9223372036854775807) :
    Calls Try.prog 21 #[.string s] w fun e w' => e = .returned (.bool (goodB s)) ∧ w = w' := by
  by_cases h2 : s.size ≤ 8000
  · by_cases h1 : 0 < s.size
    · have hI := indexG s h1
      rw [goodB_of s h1 h2]
      generalize (byteAt s 0 : Int) = K at hI ⊢
      go_enter Try.func21, Try.ntmps21
      go_wp2
      go_ret
      exact ⟨rfl, rfl⟩
    · go_enter Try.func21, Try.ntmps21
      go_wp2
      go_ret
      exact ⟨ret_bool (by unfold goodB; rw [decide_eq_false (show ¬ 1 ≤ s.size from h1)]; rfl), rfl⟩
  · go_enter Try.func21, Try.ntmps21
    go_wp2
    go_ret
    exact ⟨ret_bool (by simp [goodB, h2]), rfl⟩
end Go.Proofs.Ytfpibedloodjlab
