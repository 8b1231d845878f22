/- THE WALKS of stamps: right, and below: the program's and the model's. -/
import Derived.Test.YtggdjiijcoklgaaProg
import Derived.Test.YtggdjiijcoklgaaQKeep
import Derived.WalkKit
import Derived.WalkSpells
import Derived.Outline
import Derived.Below
namespace Go.Proofs.Ytggdjiijcoklgaa
open Go.RowKit
set_option linter.unusedVariables false
set_option linter.unusedSimpArgs false

theorem isTime_any (n : Int) (w : World) : Calls Try.prog 88 #[.int .i64 n] w fun e w' => e = .returned (.bool (timeB n)) ∧ w = w' := by
  by_cases h1 : 0 ≤ n <;> by_cases h2 : n ≤ 1000000
  all_goals
    go_enter Try.func88, Try.ntmps88
    go_wp2
    go_ret
    exact ⟨ret_bool (by simp [timeB, h1, h2]), rfl⟩
theorem isAddress_any (n : Int) (w : World) : Calls Try.prog 87 #[.int .i64 n] w fun e w' => e = .returned (.bool (addrB n)) ∧ w = w' := by
  by_cases h1 : 1 ≤ n <;> by_cases h2 : n ≤ 8
  all_goals
    go_enter Try.func87, Try.ntmps87
    go_wp2
    go_ret
    exact ⟨ret_bool (by simp [addrB, h1, h2]), rfl⟩
theorem l02Is_any (n lo hi : Int) (w : World) : Calls Try.prog 79 #[.int .i64 n, .int .i64 lo, .int .i64 hi] w fun e w' => e = .returned (.bool (decide (lo ≤ n) && decide (n ≤ hi))) ∧ w = w' := by
  by_cases h1 : lo ≤ n <;> by_cases h2 : n ≤ hi
  all_goals
    go_enter Try.func79, Try.ntmps79
    go_wp2
    go_ret
    exact ⟨ret_bool (by simp [h1, h2]), rfl⟩
theorem l02Time_any (n : Int) (w : World) : Calls Try.prog 78 #[.int .i64 n] w fun e w' => e = .returned (.bool (timeB n)) ∧ w = w' := by
  go_enter Try.func78, Try.ntmps78
  go_wp2_with (go_at_call 79; refine (l02Is_any n 0 1000000 _).mono ?_; rintro e w' ⟨rfl, rfl⟩)
  go_ret
  exact ⟨rfl, rfl⟩
theorem l02Addr_any (n : Int) (w : World) : Calls Try.prog 69 #[.int .i64 n] w fun e w' => e = .returned (.bool (addrB n)) ∧ w = w' := by
  go_enter Try.func69, Try.ntmps69
  go_wp2_with (go_at_call 79; refine (l02Is_any n 1 8 _).mono ?_; rintro e w' ⟨rfl, rfl⟩)
  go_ret
  exact ⟨rfl, rfl⟩
theorem l02Word_any (n : Int) (w : World) : Calls Try.prog 108 #[.int .i64 n] w fun e w' => e = .returned (.bool (wordB n)) ∧ w = w' := by
  go_enter Try.func108, Try.ntmps108
  go_wp2_with (go_at_call 79; refine (l02Is_any n 0 65535 _).mono ?_; rintro e w' ⟨rfl, rfl⟩)
  go_ret
  exact ⟨rfl, rfl⟩
theorem isNone_any (s : St) (w : World) : Calls Try.prog 111 #[.agg #[.int .i64 s.g, .int .i64 s.o, .int .i64 s.b, .int .i64 s.h]] w fun e w' => e = .returned (.bool s.none) ∧ Below w.heap.size w w' := by
  go_enter Try.func111, Try.ntmps111
  go_wp2
  all_goals
    go_ret
    exact ⟨ret_bool (by simp_all [St.none]), (Below.refl _ _).alloc (Nat.le_refl _) _⟩
set_option maxRecDepth 100000 in
set_option maxHeartbeats 1600000 in
theorem stampRight_any (s : St) (w : World) : Calls Try.prog 109 #[.agg #[.int .i64 s.g, .int .i64 s.o, .int .i64 s.b, .int .i64 s.h]] w fun e w' => e = .returned (.bool s.right) ∧ Below w.heap.size w w' := by
  by_cases h0 : s.o = 0
  · obtain ⟨g, o, b, h⟩ := s
    simp only at h0
    subst h0
    have HN : Hid _ := fun w => isNone_any ⟨g, 0, b, h⟩ w
    have hr : (St.mk g 0 b h).right = (St.mk g 0 b h).none := by simp [St.right]
    rw [hr]
    generalize (St.mk g 0 b h).none = R at HN
    go_enter Try.func109, Try.ntmps109
    go_wp2_with (go_at_call 111; refine (HN.out _).mono ?_; rintro e w1 ⟨rfl, hb1⟩)
    go_ret
    exact ⟨rfl, ((Below.refl _ _).alloc (Nat.le_refl _) _).trans (hb1.mono (by simp))⟩
  · have q0 : (s.o == 0) = false := by simpa using h0
    have key : s.right = (addrB s.o && (timeB s.g && (timeB s.b && timeB s.h))) := by simp [St.right, h0]
    rw [key]
    cases ha : addrB s.o <;> cases hg : timeB s.g <;> cases hbb : timeB s.b
    all_goals
      go_enter Try.func109, Try.ntmps109
      go_wp2_with (first
        | (go_at_call 87; refine (isAddress_any s.o _).mono ?_; rintro e w1 ⟨rfl, rfl⟩; rw [ha])
        | (go_at_call 88; refine (isTime_any _ _).mono ?_; rintro e w1 ⟨rfl, rfl⟩; first | rw [hg] | rw [hbb] | skip))
      go_ret
      exact ⟨ret_bool (by simp), ((Below.refl _ _).alloc (Nat.le_refl _) _)⟩
set_option maxRecDepth 100000 in
set_option maxHeartbeats 1600000 in
theorem specStampRight_any (s : St) (w : World) : Calls Try.prog 80 #[.agg #[.int .i64 s.g, .int .i64 s.o, .int .i64 s.b, .int .i64 s.h]] w fun e w' => e = .returned (.bool s.right) ∧ Below w.heap.size w w' := by
  by_cases h0 : s.o = 0
  · have q0 : (s.o == 0) = true := by simpa using h0
    go_enter Try.func80, Try.ntmps80
    go_wp2
    all_goals
      go_ret
      exact ⟨ret_bool (by simp_all [St.right, St.none]), ((Below.refl _ _).alloc (Nat.le_refl _) _)⟩
  · have q0 : (s.o == 0) = false := by simpa using h0
    have key : s.right = (addrB s.o && (timeB s.g && (timeB s.b && timeB s.h))) := by simp [St.right, h0]
    rw [key]
    cases ha : addrB s.o <;> cases hg : timeB s.g <;> cases hbb : timeB s.b
    all_goals
      go_enter Try.func80, Try.ntmps80
      go_wp2_with (first
        | (go_at_call 69; refine (l02Addr_any s.o _).mono ?_; rintro e w1 ⟨rfl, rfl⟩; rw [ha])
        | (go_at_call 78; refine (l02Time_any _ _).mono ?_; rintro e w1 ⟨rfl, rfl⟩; first | rw [hg] | rw [hbb] | skip))
      go_ret
      exact ⟨ret_bool (by simp), ((Below.refl _ _).alloc (Nat.le_refl _) _)⟩
end Go.Proofs.Ytggdjiijcoklgaa
/- THE WALKS of StampLess, the program's and the model's, and of the law's own copy of a stamp. -/
namespace Go.Proofs.Ytggdjiijcoklgaa
open Go.RowKit
set_option linter.unusedVariables false
set_option linter.unusedSimpArgs false

theorem fieldsOf_any (s : St) (w : World) : Calls Try.prog 113 #[.agg #[.int .i64 s.g, .int .i64 s.o, .int .i64 s.b, .int .i64 s.h]] w fun e w' => e = .returned (.agg #[.int .i64 s.g, .int .i64 s.o, .int .i64 s.b, .int .i64 s.h]) ∧ Below w.heap.size w w' := by
  go_enter Try.func113, Try.ntmps113
  go_wp2
  exact bodyPost_ret (v := .agg #[.int .i64 s.g, .int .i64 s.o, .int .i64 s.b, .int .i64 s.h]) (by simp [results, Try.results113, go_sem]) rfl ⟨rfl, by
    repeat (first | exact Below.refl _ _ | refine Below.setCell ?_ (by simp <;> omega) _ | refine Below.alloc ?_ (by simp <;> omega) _)⟩
theorem l03Less_any (s t : St) (w : World) : Calls Try.prog 81 #[.agg #[.int .i64 s.g, .int .i64 s.o, .int .i64 s.b, .int .i64 s.h], .agg #[.int .i64 t.g, .int .i64 t.o, .int .i64 t.b, .int .i64 t.h]] w fun e w' => e = .returned (.bool (s.lt t)) ∧ Below w.heap.size w w' := by
  by_cases h1 : s.g = t.g
  · have q1 : (s.g != t.g) = false := by simpa using h1
    by_cases h2 : s.o = t.o
    · have q2 : (s.o != t.o) = false := by simpa using h2
      by_cases h3 : s.b = t.b
      · have q3 : (s.b != t.b) = false := by simpa using h3
        have key : s.lt t = decide (s.h < t.h) := by simp [St.lt, h1, h2, h3]
        rw [key]
        clear h1 h2 h3 key
        go_enter Try.func81, Try.ntmps81
        go_wp2
        go_ret
        exact ⟨rfl, ((Below.refl _ _).alloc (Nat.le_refl _) _).alloc (by simp) _⟩
      · have q3 : (s.b != t.b) = true := by simpa using h3
        have key : s.lt t = decide (s.b < t.b) := by simp [St.lt, h1, h2, h3]
        rw [key]
        clear h1 h2 h3 key
        go_enter Try.func81, Try.ntmps81
        go_wp2
        go_ret
        exact ⟨rfl, ((Below.refl _ _).alloc (Nat.le_refl _) _).alloc (by simp) _⟩
    · have q2 : (s.o != t.o) = true := by simpa using h2
      have key : s.lt t = decide (s.o < t.o) := by simp [St.lt, h1, h2]
      rw [key]
      clear h1 h2 key
      go_enter Try.func81, Try.ntmps81
      go_wp2
      go_ret
      exact ⟨rfl, ((Below.refl _ _).alloc (Nat.le_refl _) _).alloc (by simp) _⟩
  · have q1 : (s.g != t.g) = true := by simpa using h1
    have key : s.lt t = decide (s.g < t.g) := by simp [St.lt, h1]
    rw [key]
    clear h1 key
    go_enter Try.func81, Try.ntmps81
    go_wp2
    go_ret
    exact ⟨rfl, ((Below.refl _ _).alloc (Nat.le_refl _) _).alloc (by simp) _⟩
set_option maxRecDepth 100000 in
theorem toStamp_any (s : St) (w : World) : Calls Try.prog 39 #[.agg #[.int .i64 s.g, .int .i64 s.o, .int .i64 s.b, .int .i64 s.h]] w fun x w' => x = .returned (.agg #[.int .i64 s.g, .int .i64 s.o, .int .i64 s.b, .int .i64 s.h]) ∧ Below w.heap.size w w' := by
  go_enter Try.func39, Try.ntmps39
  go_wp2
  exact bodyPost_ret (v := .agg #[.int .i64 s.g, .int .i64 s.o, .int .i64 s.b, .int .i64 s.h]) (by simp [results, Try.results39, go_sem]) rfl ⟨rfl, by
    repeat (first | exact Below.refl _ _ | refine Below.setCell ?_ (by simp <;> omega) _ | refine Below.alloc ?_ (by simp <;> omega) _)⟩
end Go.Proofs.Ytggdjiijcoklgaa
