/- THE WALKS of StampLess, the program's and the model's, and of the law's own copy of a stamp. -/
import Derived.Test.YtggdjiijcoklgaaHSt
namespace Go.Proofs.Ytggdjiijcoklgaa
open Go.RowKit
set_option linter.unusedVariables false
set_option linter.unusedSimpArgs false

theorem fieldsOf_any (s : St) (w : World) : Calls Try.prog 113 #[.agg #[.int .i64 s.g, .int .i64 s.o, .int .i64 s.b, .int .i64 s.h]] w fun e w' => e = .returned (.agg #[.int .i64 s.g, .int .i64 s.o, .int .i64 s.b, .int .i64 s.h]) ∧ Below w.heap.size w w' := by
  go_enter Try.func113, Try.ntmps113
  go_wp2
  exact bodyPost_ret (v := .agg #[.int .i64 s.g, .int .i64 s.o, .int .i64 s.b, .int .i64 s.h]) (by simp [results, Try.results113, go_sem]) rfl ⟨rfl, by
    repeat (first | exact Below.refl _ _ | refine Below.setCell ?_ (by simp <;> omega) _ | refine Below.alloc ?_ (by simp <;> omega) _)⟩
theorem l03Less_any (s t : St) (w : World) : Calls Try.prog 81 #[.agg #[.int .i64 s.g, .int .i64 s.o, .int .i64 s.b, .int .i64 s.h], .agg #[.int .i64 t.g, .int .i64 t.o, .int .i64 t.b, .int .i64 t.h]] w fun e w' => e = .returned (.bool (s.lt t)) ∧ Below w.heap.size w w' := by
  by_cases h1 : s.g = t.g
  · have q1 : (s.g != t.g) = false := by simpa using h1
    by_cases h2 : s.o = t.o
    · have q2 : (s.o != t.o) = false := by simpa using h2
      by_cases h3 : s.b = t.b
      · have q3 : (s.b != t.b) = false := by simpa using h3
        have key : s.lt t = decide (s.h < t.h) := by simp [St.lt, h1, h2, h3]
        rw [key]
        clear h1 h2 h3 key
        go_enter Try.func81, Try.ntmps81
        go_wp2
        go_ret
        exact ⟨rfl, ((Below.refl _ _).alloc (Nat.le_refl _) _).alloc (by simp) _⟩
      · have q3 : (s.b != t.b) = true := by simpa using h3
        have key : s.lt t = decide (s.b < t.b) := by simp [St.lt, h1, h2, h3]
        rw [key]
        clear h1 h2 h3 key
        go_enter Try.func81, Try.ntmps81
        go_wp2
        go_ret
        exact ⟨rfl, ((Below.refl _ _).alloc (Nat.le_refl _) _).alloc (by simp) _⟩
    · have q2 : (s.o != t.o) = true := by simpa using h2
      have key : s.lt t = decide (s.o < t.o) := by simp [St.lt, h1, h2]
      rw [key]
      clear h1 h2 key
      go_enter Try.func81, Try.ntmps81
      go_wp2
      go_ret
      exact ⟨rfl, ((Below.refl _ _).alloc (Nat.le_refl _) _).alloc (by simp) _⟩
  · have q1 : (s.g != t.g) = true := by simpa using h1
    have key : s.lt t = decide (s.g < t.g) := by simp [St.lt, h1]
    rw [key]
    clear h1 key
    go_enter Try.func81, Try.ntmps81
    go_wp2
    go_ret
    exact ⟨rfl, ((Below.refl _ _).alloc (Nat.le_refl _) _).alloc (by simp) _⟩
set_option maxRecDepth 100000 in
theorem toStamp_any (s : St) (w : World) : Calls Try.prog 39 #[.agg #[.int .i64 s.g, .int .i64 s.o, .int .i64 s.b, .int .i64 s.h]] w fun x w' => x = .returned (.agg #[.int .i64 s.g, .int .i64 s.o, .int .i64 s.b, .int .i64 s.h]) ∧ Below w.heap.size w w' := by
  go_enter Try.func39, Try.ntmps39
  go_wp2
  exact bodyPost_ret (v := .agg #[.int .i64 s.g, .int .i64 s.o, .int .i64 s.b, .int .i64 s.h]) (by simp [results, Try.results39, go_sem]) rfl ⟨rfl, by
    repeat (first | exact Below.refl _ _ | refine Below.setCell ?_ (by simp <;> omega) _ | refine Below.alloc ?_ (by simp <;> omega) _)⟩
end Go.Proofs.Ytggdjiijcoklgaa
