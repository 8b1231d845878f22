/- LISTS OF NUMBERS MARKED AND HELD from any number on, counted against any room: for things that hold two lists. -/
import Derived.Test.YtimocipgikefoabIntsIn
namespace Go.Proofs.Ytimocipgikefoab
open Go.RowKit
set_option linter.unusedVariables false
set_option linter.unusedSimpArgs false

def countK (s : Int) (n : Nat) : List Int := (List.range n).map fun (i : Nat) => s + (i : Int)
theorem countK_length (s : Int) (n : Nat) : (countK s n).length = n := by simp [countK]
theorem countK_at (s : Int) (n k : Nat) (h : k < (countK s n).length) : (countK s n)[k] = s + (k : Int) := by simp [countK]
theorem countK_succ (s : Int) (n : Nat) : countK s (n + 1) = countK s n ++ [s + (n : Int)] := by simp [countK, List.range_succ]
theorem countK_step (s : Int) (zs : List Int) (j : Nat) (h : j < zs.length) : (countK s j ++ zs.drop j).set j (s + (j : Int)) = countK s (j + 1) ++ zs.drop (j + 1) := by
  have := set_midI (l := countK s j) (m := zs.drop j) (c := s + (j : Int)) (by intro e; have := congrArg List.length e; simp at this; omega)
  rw [countK_length] at this
  rw [this, countK_succ, List.drop_drop]
set_option maxRecDepth 100000 in
set_option maxHeartbeats 800000 in
theorem markInt64S_from (s : Int) (hs : 0 ≤ s ∧ s ≤ 10000000) (base : Nat) (v : Value) (zs : List Int) (w : World) (hl : zs.length ≤ 2000000) (h : OwnI w base v zs) :
    Calls Try.prog 30 #[v, .int .i64 s] w fun e w' => e = .returned (.int .i64 (s + (zs.length : Int))) ∧ OwnI w' base v (countK s zs.length) ∧ w.grownBy w' v.ownBlock := by
  obtain ⟨p, cap, rfl⟩ := h.shape
  have HO : Hid (OwnI _ _ _ _) := h
  clear h
  go_enter Try.func30, Try.ntmps30
  go_wp2
  go_loopw [1, 5] (fun x i wr => ∃ j : Nat, j ≤ zs.length ∧ i = .int .i64 j ∧ x = .int .i64 (s + (j : Int)) ∧ Hid (OwnI wr base (.slice p zs.length cap) (countK s j ++ zs.drop j)) ∧ Hid (w.grownBy wr (Value.slice p zs.length cap).ownBlock)) (fun _ i _ => zs.length - (intOf i).toNat)
  case atStart => exact ⟨0, Nat.zero_le _, rfl, by simp, (show OwnI _ _ _ _ from HO.out), grown_reflI _ _⟩
  case round =>
    obtain ⟨j, hj, rfl, rfl, HW, HGR⟩ := hrel
    have hlen : (countK s j ++ zs.drop j).length = zs.length := by rw [List.length_append, countK_length, List.length_drop]; omega
    by_cases hlt : j < zs.length
    · have hk : j < (countK s j ++ zs.drop j).length := by rw [hlen]; exact hlt
      obtain ⟨g, hpg, _, hgl, hq, hf⟩ := HW.out.cell j hk
      subst hpg
      have HST : Hid _ := countK_step s zs j hlt
      have h1 := HW.out.set j hk (s + (j : Int))
      generalize (countK s j ++ zs.drop j)[j] = old at hq
      go_wp2
      go_roundw
      case rel => exact ⟨j + 1, by omega, by go_num, by go_num, (show OwnI _ _ _ _ by rw [← HST.out]; exact h1), grown_setI HGR.out j _⟩
      case measure => simp [intOf]; omega
    · obtain rfl : j = zs.length := by omega
      go_wp2
      go_ret
      refine ⟨rfl, ?_, HGR.out⟩
      have := HW.out
      rwa [List.drop_length, List.append_nil] at this
set_option maxRecDepth 100000 in
set_option maxHeartbeats 800000 in
theorem heldInt64S_from (s : Int) (hs : 0 ≤ s ∧ s ≤ 10000000) (base : Nat) (v : Value) (n : Nat) (w : World) (hl : n ≤ 2000000) (h : OwnI w base v (countK s n)) :
    Calls Try.prog 31 #[v, .int .i64 s] w fun e w' => e = .returned (.int .i64 (s + (n : Int))) ∧ Below w.heap.size w w' := by
  obtain ⟨p, cap, rfl⟩ := h.shape
  have HO : Hid _ := fun W hW => (OwnI.below (w' := W) h hW).cell
  clear h
  rw [countK_length]
  go_enter Try.func31, Try.ntmps31
  go_wp2
  go_loopw [1, 5] (fun x i wr => ∃ j : Nat, j ≤ n ∧ i = .int .i64 j ∧ x = .int .i64 (s + (j : Int)) ∧ Below w.heap.size w wr) (fun _ i _ => n - (intOf i).toNat)
  case atStart => exact ⟨0, Nat.zero_le _, rfl, by simp, Below.refl _ _⟩
  case round =>
    obtain ⟨j, hj, rfl, rfl, hbel⟩ := hrel
    by_cases hlt : j < n
    · obtain ⟨g, hpg, _, hgl, hq, _⟩ := HO.out wr hbel j (by rw [countK_length]; exact hlt)
      subst hpg
      rw [countK_at] at hq
      have es : ((s + (j : Int)) != (s + (j : Int))) = false := by simp
      go_wp2
      go_roundw
      case rel => exact ⟨j + 1, by omega, by go_num, by go_num, hbel⟩
      case measure => simp [intOf]; omega
    · obtain rfl : j = n := by omega
      go_wp2
      go_ret
      exact ⟨rfl, hbel⟩
theorem szInt64S_from (s : Int) (hs : 0 ≤ s ∧ s ≤ 1048576) (a : Option Addr) (n c : Nat) (w : World) (hn : n ≤ 9223372036854775807) :
    Calls Try.prog 15 #[.slice a n c, .int .i64 s] w fun x w' => x = .returned (.int .i64 (if (n : Int) ≤ s then s - (n : Int) else -1)) ∧ w = w' := by
  by_cases h : (n : Int) ≤ s
  · have h1 : ¬ s - (n : Int) < 0 := by omega
    rw [if_pos h]
    go_enter Try.func15, Try.ntmps15
    go_wp2
    go_ret
    exact ⟨rfl, rfl⟩
  · have h1 : s - (n : Int) < 0 := by omega
    rw [if_neg h]
    go_enter Try.func15, Try.ntmps15
    go_wp2
    go_ret
    exact ⟨rfl, rfl⟩
end Go.Proofs.Ytimocipgikefoab
