/- BITS OF BYTES: the model's own BitsRead. -/
import Derived.Test.YtfpibedloodjlaaBitsR
import Derived.Test.YtfpibedloodjlaaSt
namespace Go.Proofs.Ytfpibedloodjlaa
open Go.RowKit
set_option linter.unusedVariables false
set_option linter.unusedSimpArgs false

set_option maxRecDepth 100000 in
set_option maxHeartbeats 1600000 in
theorem specBitsRead_any (s : ByteArray) (m : Int) (w : World) (hs : s.size ≤ 9223372036854775807) (hw : (Lit.int .i64 m).wf = true) :
    Calls Try.prog 23 #[.string s, .int .i64 m] w fun e w' => ∃ v, e = .returned v ∧ OwnI w' w.heap.size v (bitsR s m) ∧ Below w.heap.size w w' := by
  have HIS : Hid (Calls Try.prog 53 #[.int .i64 m, .int .i64 1, .int .i64 64] w fun e w' => e = .returned (.bool (decide (1 ≤ m) && decide (m ≤ 64))) ∧ w = w') := l02Is_any m 1 64 w
  unfold bitsR
  by_cases hz : (s.size : Int) ≤ 8000
  · by_cases hm : 1 ≤ m ∧ m ≤ 64
    · rw [decide_eq_true hm.1, decide_eq_true hm.2] at HIS
      have e7 : (m + 7).tdiv 8 = (m + 7) / 8 := Int.tdiv_eq_ediv_of_nonneg (by omega)
      by_cases hq : (s.size : Int) = (m + 7) / 8
      · rw [if_pos ⟨hm, hq⟩]
        obtain ⟨k, rfl⟩ : ∃ k : Nat, m = (k : Int) := ⟨m.toNat, by omega⟩
        rw [Int.toNat_natCast]
        have HU : Hid (Calls Try.prog 57 #[.string s, .int .i64 k] w fun e w' => ∃ v, e = .returned v ∧ OwnI w' w.heap.size v (unpackL s k) ∧ Below w.heap.size w w') := l04Unpack_any s k w (by omega) (by omega) hs
        have e9 : ((s.size : Int) != ((k : Int) + 7) / 8) = false := by simp [hq]
        clear hq
        go_enter Try.func23, Try.ntmps23
        go_wp2_with (first
          | (go_at_call 53; refine HIS.out.mono ?_; rintro e w1 ⟨rfl, rfl⟩)
          | (go_at_call 57; refine HU.out.mono ?_; rintro e w1 ⟨v1, rfl, hown, hb1⟩))
        go_ret
        exact ⟨_, rfl, hown, hb1⟩
      · rw [if_neg (fun h => hq h.2)]
        have e9 : ((s.size : Int) != (m + 7) / 8) = true := by simp [hq]
        clear hq
        go_enter Try.func23, Try.ntmps23
        go_wp2_with (go_at_call 53; refine HIS.out.mono ?_; rintro e w1 ⟨rfl, rfl⟩)
        go_ret
        exact ⟨_, rfl, own_madeI w _ (Nat.le_refl _), (Below.refl _ _).alloc (Nat.le_refl _) _⟩
    · rw [if_neg (fun h => hm h.1)]
      have e1 : (decide (1 ≤ m) && decide (m ≤ 64)) = false := by rw [Bool.eq_false_iff]; intro h; rw [Bool.and_eq_true, decide_eq_true_eq, decide_eq_true_eq] at h; exact hm h
      rw [e1] at HIS
      clear hm e1
      go_enter Try.func23, Try.ntmps23
      go_wp2_with (go_at_call 53; refine HIS.out.mono ?_; rintro e w1 ⟨rfl, rfl⟩)
      go_ret
      exact ⟨_, rfl, own_madeI w _ (Nat.le_refl _), (Below.refl _ _).alloc (Nat.le_refl _) _⟩
  · rw [if_neg (fun h => hz (by omega))]
    go_enter Try.func23, Try.ntmps23
    go_wp2
    go_ret
    exact ⟨_, rfl, own_madeI w _ (Nat.le_refl _), (Below.refl _ _).alloc (Nat.le_refl _) _⟩
end Go.Proofs.Ytfpibedloodjlaa
