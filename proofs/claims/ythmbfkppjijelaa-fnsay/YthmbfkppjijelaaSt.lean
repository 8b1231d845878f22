/- THE WALKS of stamps: right, and below: the program's and the model's. -/
import Derived.Test.YthmbfkppjijelaaProg
import Derived.Test.YthmbfkppjijelaaPlain
import Derived.Test.YthmbfkppjijelaaPlainSt
import Derived.Test.YthmbfkppjijelaaKeep
import Derived.WalkKit
import Derived.WalkSpells
import Derived.Outline
import Derived.Below
namespace Go.Proofs.Ythmbfkppjijelaa
open Go.RowKit
set_option linter.unusedVariables false
set_option linter.unusedSimpArgs false

theorem isTime_any (n : Int) (w : World) : Calls Try.prog 52 #[.int .i64 n] w fun e w' => e = .returned (.bool (timeB n)) ∧ w = w' := by
  by_cases h1 : 0 ≤ n <;> by_cases h2 : n ≤ 1000000
  all_goals
    go_enter Try.func52, Try.ntmps52
    go_wp2
    go_ret
    exact ⟨ret_bool (by simp [timeB, h1, h2]), rfl⟩
theorem isAddress_any (n : Int) (w : World) : Calls Try.prog 40 #[.int .i64 n] w fun e w' => e = .returned (.bool (addrB n)) ∧ w = w' := by
  by_cases h1 : 1 ≤ n <;> by_cases h2 : n ≤ 8
  all_goals
    go_enter Try.func40, Try.ntmps40
    go_wp2
    go_ret
    exact ⟨ret_bool (by simp [addrB, h1, h2]), rfl⟩
theorem l02Is_any (n lo hi : Int) (w : World) : Calls Try.prog 48 #[.int .i64 n, .int .i64 lo, .int .i64 hi] w fun e w' => e = .returned (.bool (decide (lo ≤ n) && decide (n ≤ hi))) ∧ w = w' := by
  by_cases h1 : lo ≤ n <;> by_cases h2 : n ≤ hi
  all_goals
    go_enter Try.func48, Try.ntmps48
    go_wp2
    go_ret
    exact ⟨ret_bool (by simp [h1, h2]), rfl⟩
theorem l02Time_any (n : Int) (w : World) : Calls Try.prog 53 #[.int .i64 n] w fun e w' => e = .returned (.bool (timeB n)) ∧ w = w' := by
  go_enter Try.func53, Try.ntmps53
  go_wp2_with (go_at_call 48; refine (l02Is_any n 0 1000000 _).mono ?_; rintro e w' ⟨rfl, rfl⟩)
  go_ret
  exact ⟨rfl, rfl⟩
theorem l02Addr_any (n : Int) (w : World) : Calls Try.prog 45 #[.int .i64 n] w fun e w' => e = .returned (.bool (addrB n)) ∧ w = w' := by
  go_enter Try.func45, Try.ntmps45
  go_wp2_with (go_at_call 48; refine (l02Is_any n 1 8 _).mono ?_; rintro e w' ⟨rfl, rfl⟩)
  go_ret
  exact ⟨rfl, rfl⟩
theorem l02Word_any (n : Int) (w : World) : Calls Try.prog 70 #[.int .i64 n] w fun e w' => e = .returned (.bool (wordB n)) ∧ w = w' := by
  go_enter Try.func70, Try.ntmps70
  go_wp2_with (go_at_call 48; refine (l02Is_any n 0 65535 _).mono ?_; rintro e w' ⟨rfl, rfl⟩)
  go_ret
  exact ⟨rfl, rfl⟩
theorem isNone_any (s : St) (w : World) : Calls Try.prog 41 #[.agg #[.int .i64 s.g, .int .i64 s.o, .int .i64 s.b, .int .i64 s.h]] w fun e w' => e = .returned (.bool s.none) ∧ Below w.heap.size w w' := by
  go_enter Try.func41, Try.ntmps41
  go_wp2
  all_goals
    go_ret
    exact ⟨ret_bool (by simp_all [St.none]), (Below.refl _ _).alloc (Nat.le_refl _) _⟩
set_option maxRecDepth 100000 in
set_option maxHeartbeats 1600000 in
theorem stampRight_any (s : St) (w : World) : Calls Try.prog 19 #[.agg #[.int .i64 s.g, .int .i64 s.o, .int .i64 s.b, .int .i64 s.h]] w fun e w' => e = .returned (.bool s.right) ∧ Below w.heap.size w w' := by
  by_cases h0 : s.o = 0
  · obtain ⟨g, o, b, h⟩ := s
    simp only at h0
    subst h0
    have HN : Hid _ := fun w => isNone_any ⟨g, 0, b, h⟩ w
    have hr : (St.mk g 0 b h).right = (St.mk g 0 b h).none := by simp [St.right]
    rw [hr]
    generalize (St.mk g 0 b h).none = R at HN
    go_enter Try.func19, Try.ntmps19
    go_wp2_with (go_at_call 41; refine (HN.out _).mono ?_; rintro e w1 ⟨rfl, hb1⟩)
    go_ret
    exact ⟨rfl, ((Below.refl _ _).alloc (Nat.le_refl _) _).trans (hb1.mono (by simp))⟩
  · have q0 : (s.o == 0) = false := by simpa using h0
    have key : s.right = (addrB s.o && (timeB s.g && (timeB s.b && timeB s.h))) := by simp [St.right, h0]
    rw [key]
    cases ha : addrB s.o <;> cases hg : timeB s.g <;> cases hbb : timeB s.b
    all_goals
      go_enter Try.func19, Try.ntmps19
      go_wp2_with (first
        | (go_at_call 40; refine (isAddress_any s.o _).mono ?_; rintro e w1 ⟨rfl, rfl⟩; rw [ha])
        | (go_at_call 52; refine (isTime_any _ _).mono ?_; rintro e w1 ⟨rfl, rfl⟩; first | rw [hg] | rw [hbb] | skip))
      go_ret
      exact ⟨ret_bool (by simp), ((Below.refl _ _).alloc (Nat.le_refl _) _)⟩
set_option maxRecDepth 100000 in
set_option maxHeartbeats 1600000 in
theorem specStampRight_any (s : St) (w : World) : Calls Try.prog 20 #[.agg #[.int .i64 s.g, .int .i64 s.o, .int .i64 s.b, .int .i64 s.h]] w fun e w' => e = .returned (.bool s.right) ∧ Below w.heap.size w w' := by
  by_cases h0 : s.o = 0
  · have q0 : (s.o == 0) = true := by simpa using h0
    go_enter Try.func20, Try.ntmps20
    go_wp2
    all_goals
      go_ret
      exact ⟨ret_bool (by simp_all [St.right, St.none]), ((Below.refl _ _).alloc (Nat.le_refl _) _)⟩
  · have q0 : (s.o == 0) = false := by simpa using h0
    have key : s.right = (addrB s.o && (timeB s.g && (timeB s.b && timeB s.h))) := by simp [St.right, h0]
    rw [key]
    cases ha : addrB s.o <;> cases hg : timeB s.g <;> cases hbb : timeB s.b
    all_goals
      go_enter Try.func20, Try.ntmps20
      go_wp2_with (first
        | (go_at_call 45; refine (l02Addr_any s.o _).mono ?_; rintro e w1 ⟨rfl, rfl⟩; rw [ha])
        | (go_at_call 53; refine (l02Time_any _ _).mono ?_; rintro e w1 ⟨rfl, rfl⟩; first | rw [hg] | rw [hbb] | skip))
      go_ret
      exact ⟨ret_bool (by simp), ((Below.refl _ _).alloc (Nat.le_refl _) _)⟩
end Go.Proofs.Ythmbfkppjijelaa
