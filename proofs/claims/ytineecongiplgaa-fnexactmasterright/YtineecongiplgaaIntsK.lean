/- LISTS OF NUMBERS MARKED AND HELD from any number on, counted against any room: for things that hold two lists. -/
import Derived.Test.YtineecongiplgaaIntsIn
namespace Go.Proofs.Ytineecongiplgaa
open Go.RowKit
set_option linter.unusedVariables false
set_option linter.unusedSimpArgs false

def countK (s : Int) (n : Nat) : List Int := (List.range n).map fun (i : Nat) => s + (i : Int)
theorem countK_length (s : Int) (n : Nat) : (countK s n).length = n := by simp [countK]
theorem countK_at (s : Int) (n k : Nat) (h : k < (countK s n).length) : (countK s n)[k] = s + (k : Int) := by simp [countK]
theorem countK_succ (s : Int) (n : Nat) : countK s (n + 1) = countK s n ++ [s + (n : Int)] := by simp [countK, List.range_succ]
theorem countK_step (s : Int) (zs : List Int) (j : Nat) (h : j < zs.length) : (countK s j ++ zs.drop j).set j (s + (j : Int)) = countK s (j + 1) ++ zs.drop (j + 1) := by
  have := set_midI (l := countK s j) (m := zs.drop j) (c := s + (j : Int)) (by intro e; have := congrArg List.length e; simp at this; omega)
  rw [countK_length] at this
  rw [this, countK_succ, List.drop_drop]
theorem szInt64S_from (s : Int) (hs : 0 ≤ s ∧ s ≤ 1048576) (a : Option Addr) (n c : Nat) (w : World) (hn : n ≤ 9223372036854775807) :
    Calls Try.prog 91 #[.slice a n c, .int .i64 s] w fun x w' => x = .returned (.int .i64 (if (n : Int) ≤ s then s - (n : Int) else -1)) ∧ w = w' := by
  by_cases h : (n : Int) ≤ s
  · have h1 : ¬ s - (n : Int) < 0 := by omega
    rw [if_pos h]
    go_enter Try.func91, Try.ntmps91
    go_wp2
    go_ret
    exact ⟨rfl, rfl⟩
  · have h1 : s - (n : Int) < 0 := by omega
    rw [if_neg h]
    go_enter Try.func91, Try.ntmps91
    go_wp2
    go_ret
    exact ⟨rfl, rfl⟩
end Go.Proofs.Ytineecongiplgaa
