/- THE WALKS of StampLess, the program's and the model's, and of the law's own copy of a stamp. -/
import Derived.Test.YthmbfkppjijelaaSt
namespace Go.Proofs.Ythmbfkppjijelaa
open Go.RowKit
set_option linter.unusedVariables false
set_option linter.unusedSimpArgs false

theorem fieldsOf_any (s : St) (w : World) : Calls Try.prog 29 #[.agg #[.int .i64 s.g, .int .i64 s.o, .int .i64 s.b, .int .i64 s.h]] w fun e w' => e = .returned (.agg #[.int .i64 s.g, .int .i64 s.o, .int .i64 s.b, .int .i64 s.h]) ∧ Below w.heap.size w w' := by
  go_enter Try.func29, Try.ntmps29
  go_wp2
  exact bodyPost_ret (v := .agg #[.int .i64 s.g, .int .i64 s.o, .int .i64 s.b, .int .i64 s.h]) (by simp [results, Try.results29, go_sem]) rfl ⟨rfl, by
    repeat (first | exact Below.refl _ _ | refine Below.setCell ?_ (by simp <;> omega) _ | refine Below.alloc ?_ (by simp <;> omega) _)⟩
theorem l03Less_any (s t : St) (w : World) : Calls Try.prog 51 #[.agg #[.int .i64 s.g, .int .i64 s.o, .int .i64 s.b, .int .i64 s.h], .agg #[.int .i64 t.g, .int .i64 t.o, .int .i64 t.b, .int .i64 t.h]] w fun e w' => e = .returned (.bool (s.lt t)) ∧ Below w.heap.size w w' := by
  by_cases h1 : s.g = t.g
  · have q1 : (s.g != t.g) = false := by simpa using h1
    by_cases h2 : s.o = t.o
    · have q2 : (s.o != t.o) = false := by simpa using h2
      by_cases h3 : s.b = t.b
      · have q3 : (s.b != t.b) = false := by simpa using h3
        have key : s.lt t = decide (s.h < t.h) := by simp [St.lt, h1, h2, h3]
        rw [key]
        clear h1 h2 h3 key
        go_enter Try.func51, Try.ntmps51
        go_wp2
        go_ret
        exact ⟨rfl, ((Below.refl _ _).alloc (Nat.le_refl _) _).alloc (by simp) _⟩
      · have q3 : (s.b != t.b) = true := by simpa using h3
        have key : s.lt t = decide (s.b < t.b) := by simp [St.lt, h1, h2, h3]
        rw [key]
        clear h1 h2 h3 key
        go_enter Try.func51, Try.ntmps51
        go_wp2
        go_ret
        exact ⟨rfl, ((Below.refl _ _).alloc (Nat.le_refl _) _).alloc (by simp) _⟩
    · have q2 : (s.o != t.o) = true := by simpa using h2
      have key : s.lt t = decide (s.o < t.o) := by simp [St.lt, h1, h2]
      rw [key]
      clear h1 h2 key
      go_enter Try.func51, Try.ntmps51
      go_wp2
      go_ret
      exact ⟨rfl, ((Below.refl _ _).alloc (Nat.le_refl _) _).alloc (by simp) _⟩
  · have q1 : (s.g != t.g) = true := by simpa using h1
    have key : s.lt t = decide (s.g < t.g) := by simp [St.lt, h1]
    rw [key]
    clear h1 key
    go_enter Try.func51, Try.ntmps51
    go_wp2
    go_ret
    exact ⟨rfl, ((Below.refl _ _).alloc (Nat.le_refl _) _).alloc (by simp) _⟩
set_option maxRecDepth 100000 in
set_option maxHeartbeats 1600000 in
theorem specStampLess_any (s t : St) (w : World) : Calls Try.prog 18 #[.agg #[.int .i64 s.g, .int .i64 s.o, .int .i64 s.b, .int .i64 s.h], .agg #[.int .i64 t.g, .int .i64 t.o, .int .i64 t.b, .int .i64 t.h]] w fun e w' => e = .returned (.bool (s.less t)) ∧ Below w.heap.size w w' := by
  have HR : Hid _ := fun w => specStampRight_any s w
  have HT : Hid _ := fun w => specStampRight_any t w
  have HL : Hid _ := fun w => l03Less_any s t w
  unfold St.less
  generalize s.right = R at HR
  generalize t.right = T at HT
  generalize s.lt t = L at HL
  cases R <;> cases T
  all_goals
    go_enter Try.func18, Try.ntmps18
    go_wp2_with (first
      | (go_at_call 51; refine (HL.out _).mono ?_; rintro e w3 ⟨rfl, hb3⟩; have hB3 := keepB hB2 (Nat.le_refl _) hb3)
      | (have _ := hB1; go_at_call 20; refine (HT.out _).mono ?_; rintro e w2 ⟨rfl, hb2⟩; have hB2 := keepB hB1 (Nat.le_refl _) hb2; obtain ⟨hc2, hf2⟩ := bcellF hb2)
      | (go_at_call 20; refine (HR.out _).mono ?_; rintro e w1 ⟨rfl, hb1⟩; have hB1 := keepB (((Below.refl w.heap.size w).alloc (Nat.le_refl _) (.cells #[.int .i64 s.g, .int .i64 s.o, .int .i64 s.b, .int .i64 s.h] 24)).alloc (by simp) (.cells #[.int .i64 t.g, .int .i64 t.o, .int .i64 t.b, .int .i64 t.h] 24)) (Nat.le_refl _) hb1; obtain ⟨hc1, hf1⟩ := bcellF hb1; have hz1 : w.heap.size + 1 < w1.heap.size := (by have := hb1.size; simp at this; omega); have hz0 : w.heap.size < w1.heap.size := (by omega)))
    go_ret
    first | exact ⟨rfl, hB3⟩ | exact ⟨rfl, hB2⟩ | exact ⟨rfl, hB1⟩
set_option maxRecDepth 100000 in
theorem toStamp_any (s : St) (w : World) : Calls Try.prog 55 #[.agg #[.int .i64 s.g, .int .i64 s.o, .int .i64 s.b, .int .i64 s.h]] w fun x w' => x = .returned (.agg #[.int .i64 s.g, .int .i64 s.o, .int .i64 s.b, .int .i64 s.h]) ∧ Below w.heap.size w w' := by
  go_enter Try.func55, Try.ntmps55
  go_wp2
  exact bodyPost_ret (v := .agg #[.int .i64 s.g, .int .i64 s.o, .int .i64 s.b, .int .i64 s.h]) (by simp [results, Try.results55, go_sem]) rfl ⟨rfl, by
    repeat (first | exact Below.refl _ _ | refine Below.setCell ?_ (by simp <;> omega) _ | refine Below.alloc ?_ (by simp <;> omega) _)⟩
end Go.Proofs.Ythmbfkppjijelaa
