/- THE WALKS of what a wire is, and whether it is right: the program's, the model's and the law's own. -/
import Derived.Test.YtiaphaghjklhaaaProg
import Derived.Test.YtiaphaghjklhaaaPlain
import Derived.Test.YtiaphaghjklhaaaPlainWire
import Derived.Test.YtiaphaghjklhaaaLaws
import Derived.WalkKit
import Derived.WalkSpells
import Derived.Outline
import Derived.Below
namespace Go.Proofs.Ytiaphaghjklhaaa
open Go.RowKit
set_option linter.unusedVariables false
set_option linter.unusedSimpArgs false

def rightB (i e d : Bool) (b : ByteArray) : Bool := if !i || d then decide (b.size = 0) && (i || !e && !d) else decide (b.size ≤ 62)
theorem empty_iff (b : ByteArray) : (b.toList == ([] : List UInt8)) = decide (b.size = 0) := by
  rw [Lib.toList_data, Bool.eq_iff_iff]
  have : b.data.toList.length = b.size := by rw [Array.length_toList]; rfl
  simp only [beq_iff_eq, decide_eq_true_eq]
  constructor
  · intro h; rw [h] at this; exact this.symm
  · intro h; exact List.eq_nil_of_length_eq_zero (by omega)
set_option maxRecDepth 100000 in
theorem wireRight_any (i e d : Bool) (b : ByteArray) (w : World) (hb : b.size ≤ maxLen) :
    Calls Try.prog 28 #[.agg #[.bool i, .bool e, .bool d, .string b]] w fun x w' => x = .returned (.bool (rightB i e d b)) ∧ Below w.heap.size w w' := by
  unfold maxLen at hb
  have q := empty_iff b
  by_cases h0 : b.size = 0
  · simp only [h0, decide_true] at q
    have h62 : (b.size : Int) ≤ 62 := by omega
    cases i <;> cases e <;> cases d
    all_goals
      go_enter Try.func28, Try.ntmps28
      go_wp2
      go_ret
      exact ⟨ret_bool (by simp [rightB, h0]), (Below.refl _ _).alloc (Nat.le_refl _) _⟩
  · simp only [h0, decide_false] at q
    cases i <;> cases e <;> cases d
    all_goals
      go_enter Try.func28, Try.ntmps28
      go_wp2
      go_ret
      exact ⟨ret_bool (by simp [rightB, h0] <;> omega), (Below.refl _ _).alloc (Nat.le_refl _) _⟩
set_option maxRecDepth 100000 in
theorem specWireRight_any (i e d : Bool) (b : ByteArray) (w : World) (hb : b.size ≤ maxLen) :
    Calls Try.prog 29 #[.agg #[.bool i, .bool e, .bool d, .string b]] w fun x w' => x = .returned (.bool (rightB i e d b)) ∧ Below w.heap.size w w' := by
  unfold maxLen at hb
  have q := empty_iff b
  by_cases h0 : b.size = 0
  · simp only [h0, decide_true] at q
    have h62 : (b.size : Int) ≤ 62 := by omega
    cases i <;> cases e <;> cases d
    all_goals
      go_enter Try.func29, Try.ntmps29
      go_wp2
      go_ret
      exact ⟨ret_bool (by simp [rightB, h0]), (Below.refl _ _).alloc (Nat.le_refl _) _⟩
  · simp only [h0, decide_false] at q
    cases i <;> cases e <;> cases d
    all_goals
      go_enter Try.func29, Try.ntmps29
      go_wp2
      go_ret
      exact ⟨ret_bool (by simp [rightB, h0] <;> omega), (Below.refl _ _).alloc (Nat.le_refl _) _⟩
end Go.Proofs.Ytiaphaghjklhaaa
