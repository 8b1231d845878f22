/- THE WALKS of stamps: right, and below: the program's and the model's. -/
import Derived.Test.YtancfnpmbddfoaaProg
import Derived.Test.YtancfnpmbddfoaaPlain
import Derived.Test.YtancfnpmbddfoaaPlainSt
import Derived.Test.YtancfnpmbddfoaaKeep
import Derived.WalkKit
import Derived.WalkSpells
import Derived.Outline
import Derived.Below
namespace Go.Proofs.Ytancfnpmbddfoaa
open Go.RowKit
set_option linter.unusedVariables false
set_option linter.unusedSimpArgs false

theorem isTime_any (n : Int) (w : World) : Calls Try.prog 48 #[.int .i64 n] w fun e w' => e = .returned (.bool (timeB n)) ∧ w = w' := by
  by_cases h1 : 0 ≤ n <;> by_cases h2 : n ≤ 1000000
  all_goals
    go_enter Try.func48, Try.ntmps48
    go_wp2
    go_ret
    exact ⟨ret_bool (by simp [timeB, h1, h2]), rfl⟩
theorem isAddress_any (n : Int) (w : World) : Calls Try.prog 47 #[.int .i64 n] w fun e w' => e = .returned (.bool (addrB n)) ∧ w = w' := by
  by_cases h1 : 1 ≤ n <;> by_cases h2 : n ≤ 8
  all_goals
    go_enter Try.func47, Try.ntmps47
    go_wp2
    go_ret
    exact ⟨ret_bool (by simp [addrB, h1, h2]), rfl⟩
theorem l02Is_any (n lo hi : Int) (w : World) : Calls Try.prog 37 #[.int .i64 n, .int .i64 lo, .int .i64 hi] w fun e w' => e = .returned (.bool (decide (lo ≤ n) && decide (n ≤ hi))) ∧ w = w' := by
  by_cases h1 : lo ≤ n <;> by_cases h2 : n ≤ hi
  all_goals
    go_enter Try.func37, Try.ntmps37
    go_wp2
    go_ret
    exact ⟨ret_bool (by simp [h1, h2]), rfl⟩
theorem l02Time_any (n : Int) (w : World) : Calls Try.prog 36 #[.int .i64 n] w fun e w' => e = .returned (.bool (timeB n)) ∧ w = w' := by
  go_enter Try.func36, Try.ntmps36
  go_wp2_with (go_at_call 37; refine (l02Is_any n 0 1000000 _).mono ?_; rintro e w' ⟨rfl, rfl⟩)
  go_ret
  exact ⟨rfl, rfl⟩
theorem l02Addr_any (n : Int) (w : World) : Calls Try.prog 35 #[.int .i64 n] w fun e w' => e = .returned (.bool (addrB n)) ∧ w = w' := by
  go_enter Try.func35, Try.ntmps35
  go_wp2_with (go_at_call 37; refine (l02Is_any n 1 8 _).mono ?_; rintro e w' ⟨rfl, rfl⟩)
  go_ret
  exact ⟨rfl, rfl⟩
theorem l02Word_any (n : Int) (w : World) : Calls Try.prog 71 #[.int .i64 n] w fun e w' => e = .returned (.bool (wordB n)) ∧ w = w' := by
  go_enter Try.func71, Try.ntmps71
  go_wp2_with (go_at_call 37; refine (l02Is_any n 0 65535 _).mono ?_; rintro e w' ⟨rfl, rfl⟩)
  go_ret
  exact ⟨rfl, rfl⟩
theorem isNone_any (s : St) (w : World) : Calls Try.prog 75 #[.agg #[.int .i64 s.g, .int .i64 s.o, .int .i64 s.b, .int .i64 s.h]] w fun e w' => e = .returned (.bool s.none) ∧ Below w.heap.size w w' := by
  go_enter Try.func75, Try.ntmps75
  go_wp2
  all_goals
    go_ret
    exact ⟨ret_bool (by simp_all [St.none]), (Below.refl _ _).alloc (Nat.le_refl _) _⟩
set_option maxRecDepth 100000 in
set_option maxHeartbeats 1600000 in
theorem stampRight_any (s : St) (w : World) : Calls Try.prog 73 #[.agg #[.int .i64 s.g, .int .i64 s.o, .int .i64 s.b, .int .i64 s.h]] w fun e w' => e = .returned (.bool s.right) ∧ Below w.heap.size w w' := by
  by_cases h0 : s.o = 0
  · obtain ⟨g, o, b, h⟩ := s
    simp only at h0
    subst h0
    have HN : Hid _ := fun w => isNone_any ⟨g, 0, b, h⟩ w
    have hr : (St.mk g 0 b h).right = (St.mk g 0 b h).none := by simp [St.right]
    rw [hr]
    generalize (St.mk g 0 b h).none = R at HN
    go_enter Try.func73, Try.ntmps73
    go_wp2_with (go_at_call 75; refine (HN.out _).mono ?_; rintro e w1 ⟨rfl, hb1⟩)
    go_ret
    exact ⟨rfl, ((Below.refl _ _).alloc (Nat.le_refl _) _).trans (hb1.mono (by simp))⟩
  · have q0 : (s.o == 0) = false := by simpa using h0
    have key : s.right = (addrB s.o && (timeB s.g && (timeB s.b && timeB s.h))) := by simp [St.right, h0]
    rw [key]
    cases ha : addrB s.o <;> cases hg : timeB s.g <;> cases hbb : timeB s.b
    all_goals
      go_enter Try.func73, Try.ntmps73
      go_wp2_with (first
        | (go_at_call 47; refine (isAddress_any s.o _).mono ?_; rintro e w1 ⟨rfl, rfl⟩; rw [ha])
        | (go_at_call 48; refine (isTime_any _ _).mono ?_; rintro e w1 ⟨rfl, rfl⟩; first | rw [hg] | rw [hbb] | skip))
      go_ret
      exact ⟨ret_bool (by simp), ((Below.refl _ _).alloc (Nat.le_refl _) _)⟩
set_option maxRecDepth 100000 in
set_option maxHeartbeats 1600000 in
theorem specStampRight_any (s : St) (w : World) : Calls Try.prog 38 #[.agg #[.int .i64 s.g, .int .i64 s.o, .int .i64 s.b, .int .i64 s.h]] w fun e w' => e = .returned (.bool s.right) ∧ Below w.heap.size w w' := by
  by_cases h0 : s.o = 0
  · have q0 : (s.o == 0) = true := by simpa using h0
    go_enter Try.func38, Try.ntmps38
    go_wp2
    all_goals
      go_ret
      exact ⟨ret_bool (by simp_all [St.right, St.none]), ((Below.refl _ _).alloc (Nat.le_refl _) _)⟩
  · have q0 : (s.o == 0) = false := by simpa using h0
    have key : s.right = (addrB s.o && (timeB s.g && (timeB s.b && timeB s.h))) := by simp [St.right, h0]
    rw [key]
    cases ha : addrB s.o <;> cases hg : timeB s.g <;> cases hbb : timeB s.b
    all_goals
      go_enter Try.func38, Try.ntmps38
      go_wp2_with (first
        | (go_at_call 35; refine (l02Addr_any s.o _).mono ?_; rintro e w1 ⟨rfl, rfl⟩; rw [ha])
        | (go_at_call 36; refine (l02Time_any _ _).mono ?_; rintro e w1 ⟨rfl, rfl⟩; first | rw [hg] | rw [hbb] | skip))
      go_ret
      exact ⟨ret_bool (by simp), ((Below.refl _ _).alloc (Nat.le_refl _) _)⟩
end Go.Proofs.Ytancfnpmbddfoaa
