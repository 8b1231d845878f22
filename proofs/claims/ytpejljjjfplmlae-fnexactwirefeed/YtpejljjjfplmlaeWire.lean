/- THE WALKS of what a wire is, and whether it is right: the program's, the model's and the law's own. -/
import Derived.Test.YtpejljjjfplmlaeProg
import Derived.Test.YtpejljjjfplmlaePlain
import Derived.Test.YtpejljjjfplmlaePlainWire
import Derived.Test.YtpejljjjfplmlaeLaws
import Derived.WalkKit
import Derived.WalkSpells
import Derived.Outline
import Derived.Below
namespace Go.Proofs.Ytpejljjjfplmlae
open Go.RowKit
set_option linter.unusedVariables false
set_option linter.unusedSimpArgs false

def rightB (i e d : Bool) (b : ByteArray) : Bool := if !i || d then decide (b.size = 0) && (i || !e && !d) else decide (b.size ≤ 62)
theorem empty_iff (b : ByteArray) : (b.toList == ([] : List UInt8)) = decide (b.size = 0) := by
  rw [Lib.toList_data, Bool.eq_iff_iff]
  have : b.data.toList.length = b.size := by rw [Array.length_toList]; rfl
  simp only [beq_iff_eq, decide_eq_true_eq]
  constructor
  · intro h; rw [h] at this; exact this.symm
  · intro h; exact List.eq_nil_of_length_eq_zero (by omega)
set_option maxRecDepth 100000 in
theorem wireRight_any (i e d : Bool) (b : ByteArray) (w : World) (hb : b.size ≤ maxLen) :
    Calls Try.prog 21 #[.agg #[.bool i, .bool e, .bool d, .string b]] w fun x w' => x = .returned (.bool (rightB i e d b)) ∧ Below w.heap.size w w' := by
  unfold maxLen at hb
  have q := empty_iff b
  by_cases h0 : b.size = 0
  · simp only [h0, decide_true] at q
    have h62 : (b.size : Int) ≤ 62 := by omega
    cases i <;> cases e <;> cases d
    all_goals
      go_enter Try.func21, Try.ntmps21
      go_wp2
      go_ret
      exact ⟨ret_bool (by simp [rightB, h0]), (Below.refl _ _).alloc (Nat.le_refl _) _⟩
  · simp only [h0, decide_false] at q
    cases i <;> cases e <;> cases d
    all_goals
      go_enter Try.func21, Try.ntmps21
      go_wp2
      go_ret
      exact ⟨ret_bool (by simp [rightB, h0] <;> omega), (Below.refl _ _).alloc (Nat.le_refl _) _⟩
set_option maxRecDepth 100000 in
theorem specWireRight_any (i e d : Bool) (b : ByteArray) (w : World) (hb : b.size ≤ maxLen) :
    Calls Try.prog 19 #[.agg #[.bool i, .bool e, .bool d, .string b]] w fun x w' => x = .returned (.bool (rightB i e d b)) ∧ Below w.heap.size w w' := by
  unfold maxLen at hb
  have q := empty_iff b
  by_cases h0 : b.size = 0
  · simp only [h0, decide_true] at q
    have h62 : (b.size : Int) ≤ 62 := by omega
    cases i <;> cases e <;> cases d
    all_goals
      go_enter Try.func19, Try.ntmps19
      go_wp2
      go_ret
      exact ⟨ret_bool (by simp [rightB, h0]), (Below.refl _ _).alloc (Nat.le_refl _) _⟩
  · simp only [h0, decide_false] at q
    cases i <;> cases e <;> cases d
    all_goals
      go_enter Try.func19, Try.ntmps19
      go_wp2
      go_ret
      exact ⟨ret_bool (by simp [rightB, h0] <;> omega), (Below.refl _ _).alloc (Nat.le_refl _) _⟩
set_option maxRecDepth 100000 in
theorem toWire_any (i e d : Bool) (b : ByteArray) (w : World) :
    Calls Try.prog 20 #[.agg #[.bool i, .bool e, .bool d, .string b]] w fun x w' => x = .returned (.agg #[.bool i, .bool e, .bool d, .string b]) ∧ Below w.heap.size w w' := by
  go_enter Try.func20, Try.ntmps20
  go_wp2
  exact bodyPost_ret (v := .agg #[.bool i, .bool e, .bool d, .string b]) (by simp [results, Try.results20, go_sem]) rfl ⟨rfl, by
    repeat (first | exact Below.refl _ _ | refine Below.setCell ?_ (by simp <;> omega) _ | refine Below.alloc ?_ (by simp <;> omega) _)⟩
theorem szWire_any (i e d : Bool) (b : ByteArray) (w : World) (hb : b.size ≤ maxLen) :
    Calls Try.prog 18 #[.agg #[.bool i, .bool e, .bool d, .string b], .int .i64 1048576] w fun x w' => x = .returned (.int .i64 (if b.size ≤ 1048576 then 1048576 - (b.size : Int) else -1)) ∧ Below w.heap.size w w' := by
  unfold maxLen at hb
  by_cases h : b.size ≤ 1048576
  · have h1 : ¬ (1048576 : Int) - (b.size : Int) < 0 := by omega
    rw [if_pos h]
    go_enter Try.func18, Try.ntmps18
    go_wp2
    go_ret
    exact ⟨rfl, (Below.refl _ _).alloc (Nat.le_refl _) _⟩
  · have h1 : (1048576 : Int) - (b.size : Int) < 0 := by omega
    rw [if_neg h]
    go_enter Try.func18, Try.ntmps18
    go_wp2
    go_ret
    exact ⟨rfl, (Below.refl _ _).alloc (Nat.le_refl _) _⟩
end Go.Proofs.Ytpejljjjfplmlae
