/- THE WALK of the model's hearing of one byte, put together. -/
import Derived.Test.YtiaphaghjklhaaaHear2
import Derived.WalkKit
import Derived.WalkSpells
import Derived.Outline
import Derived.Below
import Derived.Deep.RegionHeld3
import Derived.Deep.QuietTactic
import Derived.BigQuiet
namespace Go.Proofs.Ytiaphaghjklhaaa
open Go.RowKit
set_option linter.unusedVariables false
set_option linter.unusedSimpArgs false

theorem belowN {B : Nat} {a w : World} (h : Below B a w) (n : Nat) : Below B a (w.drewN n) := ⟨h.os, h.tape, h.output, h.size, h.block⟩
set_option maxRecDepth 100000 in
set_option maxHeartbeats 1600000 in
theorem l02Hear_flag_out (i e d : Bool) (b : ByteArray) (w : World) (hb : b.size ≤ 62) (h : i = false ∨ e = true ∨ d = true ∨ b.size < 3) :
    Calls Try.prog 71 #[.agg #[.bool i, .bool e, .bool d, .string b], .int .u8 126] w fun x w' => x = .returned (hrV (wrOf i e d b) 126) ∧ Below w.heap.size w w' := by
  rw [hr_flag_no (heard_no i e d b (by rcases h with h | h | h | h <;> simp [h]))]
  have hs : ∀ W : World, True := fun _ => trivial
  cases i with
  | false =>
    clear h
    go_enter Try.func71, Try.ntmps71
    go_wp2
    go_quiet (fail)
    go_wp2
    exact bodyPost_ret (v := .tuple #[.agg #[.bool true, .bool false, .bool false, .string ByteArray.empty], .string ByteArray.empty]) (by simp [results, Try.results71, go_sem]; rfl) rfl ⟨rfl, by
      repeat (first | exact Below.refl _ _ | refine Below.setCell ?_ (by simp <;> omega) _ | refine belowN ?_ _ | refine Below.alloc ?_ (by simp <;> omega) _)⟩
  | true =>
    cases e with
    | true =>
      clear h
      go_enter Try.func71, Try.ntmps71
      go_wp2
      go_quiet (fail)
      go_wp2
      exact bodyPost_ret (v := .tuple #[.agg #[.bool true, .bool false, .bool false, .string ByteArray.empty], .string ByteArray.empty]) (by simp [results, Try.results71, go_sem]; rfl) rfl ⟨rfl, by
        repeat (first | exact Below.refl _ _ | refine Below.setCell ?_ (by simp <;> omega) _ | refine belowN ?_ _ | refine Below.alloc ?_ (by simp <;> omega) _)⟩
    | false =>
      cases d with
      | true =>
        clear h
        go_enter Try.func71, Try.ntmps71
        go_wp2
        go_quiet (fail)
        go_wp2
        exact bodyPost_ret (v := .tuple #[.agg #[.bool true, .bool false, .bool false, .string ByteArray.empty], .string ByteArray.empty]) (by simp [results, Try.results71, go_sem]; rfl) rfl ⟨rfl, by
          repeat (first | exact Below.refl _ _ | refine Below.setCell ?_ (by simp <;> omega) _ | refine belowN ?_ _ | refine Below.alloc ?_ (by simp <;> omega) _)⟩
      | false =>
        have h3 : b.size < 3 := by simpa using h
        have t1 : decide ((1 : Int) ≤ (b.size : Int) - 2) = false := by simp; omega
        clear h
        go_enter Try.func71, Try.ntmps71
        go_wp2
        go_quiet (fail)
        go_wp2
        exact bodyPost_ret (v := .tuple #[.agg #[.bool true, .bool false, .bool false, .string ByteArray.empty], .string ByteArray.empty]) (by simp [results, Try.results71, go_sem]; rfl) rfl ⟨rfl, by
          repeat (first | exact Below.refl _ _ | refine Below.setCell ?_ (by simp <;> omega) _ | refine belowN ?_ _ | refine Below.alloc ?_ (by simp <;> omega) _)⟩
theorem l02Hear_any (i e d : Bool) (b : ByteArray) (c : UInt8) (w : World) (hb : b.size ≤ 62) :
    Calls Try.prog 71 #[.agg #[.bool i, .bool e, .bool d, .string b], .int .u8 c.toNat] w fun x w' => x = .returned (hrV (wrOf i e d b) c) ∧ Below w.heap.size w w' := by
  by_cases hc : c = 126
  · subst hc
    by_cases h : i = false ∨ e = true ∨ d = true ∨ b.size < 3
    · exact l02Hear_flag_out i e d b w hb h
    · obtain rfl : i = true := by cases i <;> simp_all
      obtain rfl : e = false := by cases e <;> simp_all
      obtain rfl : d = false := by cases d <;> simp_all
      exact l02Hear_flag_in b w hb (by simp at h; omega)
  · exact l02Hear_plain i e d b c w hc hb
end Go.Proofs.Ytiaphaghjklhaaa
