/- THE WALKS of SayRight, the program's and the model's. -/
import Derived.Test.YtggdjiijcoklgaaHSay
import Derived.Test.YtggdjiijcoklgaaHBox
import Derived.Deep.DeepCutAuto
namespace Go.Proofs.Ytggdjiijcoklgaa
open Go.RowKit
set_option linter.unusedVariables false
set_option linter.unusedSimpArgs false

theorem bodyRight_any (b : ByteArray) (w : World) (hb : b.size ≤ 9223372036854775807) : Calls Try.prog 43 #[.string b] w fun e w' => e = .returned (.bool (decide (1 ≤ b.size) && decide (b.size ≤ 20))) ∧ w = w' := by
  by_cases h1 : 1 ≤ b.size
  · by_cases h2 : b.size ≤ 20
    all_goals
      go_enter Try.func43, Try.ntmps43
      go_wp2
      go_ret
      exact ⟨ret_bool (by first | (simp [h1, h2]; done) | (simp [h1, h2]; omega)), rfl⟩
  · go_enter Try.func43, Try.ntmps43
    go_wp2
    go_ret
    exact ⟨ret_bool (by simp [h1]), rfl⟩
end Go.Proofs.Ytggdjiijcoklgaa
