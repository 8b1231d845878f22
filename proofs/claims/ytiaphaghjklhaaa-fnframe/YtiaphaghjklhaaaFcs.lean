/- THE WALKS of the check's functions: what each answers at every argument. -/
import Derived.Test.YtiaphaghjklhaaaProg
import Derived.Test.YtiaphaghjklhaaaPlain
import Derived.Test.YtiaphaghjklhaaaPlainFcs
import Derived.WalkKit
import Derived.WalkSpells
import Derived.Outline
import Derived.Below
namespace Go.Proofs.Ytiaphaghjklhaaa
open Go.RowKit

set_option maxHeartbeats 800000 in
theorem l02Fcs_any (s : ByteArray) (w : World) (hs : s.size ≤ maxLen) :
    Calls Try.prog 73 #[.string s] w fun e w' => e = .returned (.int .i64 (fcsL s.data.toList : Nat)) ∧ w = w' := by
  unfold maxLen at hs
  go_enter Try.func73, Try.ntmps73
  go_wp2
  go_loop [3, 4] (fun x i => ∃ k : Nat, k ≤ s.size ∧ i = .int .i64 k ∧ x = .int .i64 (fcsR 65535 (s.data.toList.take k) : Nat)) (fun _ i => s.size - (intOf i).toNat)
  case atStart => exact ⟨0, Nat.zero_le _, rfl, rfl⟩
  case round =>
    obtain ⟨k, hk, rfl, rfl⟩ := hrel
    have hR := fcsR_lt (s.data.toList.take k) (show 65535 < 65536 by decide)
    by_cases hlt : k < s.size
    · have HS : Hid (fcsR 65535 (s.data.toList.take (k + 1)) = fcsSteps 8 (fcsR 65535 (s.data.toList.take k) ^^^ s[k].toNat)) := by rw [take_snoc s k hlt, fcsR_snoc]; rfl
      have hb := u8_lt s[k]
      generalize fcsR 65535 (s.data.toList.take k) = R at hR HS
      have hY := xor_lt16 hR (show s[k].toNat < 65536 by omega)
      go_wp2
      go_loop [3, 5] (fun x i => ∃ j : Nat, j ≤ 8 ∧ i = .int .i64 j ∧ x = .int .i64 (fcsSteps j (R ^^^ s[k].toNat) : Nat)) (fun _ i => 8 - (intOf i).toNat)
      case atStart => exact ⟨0, Nat.zero_le _, rfl, by rw [fcs_start _ _ hR hb]⟩
      case round =>
        obtain ⟨j, hj, rfl, rfl⟩ := hrel
        have hX := fcsSteps_lt j hY
        have SY := @fcs_yes (fcsSteps j (R ^^^ s[k].toNat)) hX
        have SN := @fcs_no (fcsSteps j (R ^^^ s[k].toNat))
        have HN : Hid (fcsSteps (j + 1) (R ^^^ s[k].toNat) = fcsStep (fcsSteps j (R ^^^ s[k].toNat))) := rfl
        obtain ⟨X, HX⟩ : ∃ X, Hid (fcsSteps j (R ^^^ s[k].toNat) = X) := ⟨_, show _ = _ from rfl⟩
        rw [HX.out] at hX SY SN HN ⊢
        have SY' : Hid _ := SY
        have SN' : Hid _ := SN
        clear SY SN
        by_cases hlt8 : j < 8
        · go_wp2
          · have ht : ((X : Int) % 2 == 1) = true := by assumption
            go_round
            case rel => exact ⟨j + 1, by omega, by go_num, by rw [HN.out, SY'.out ht]⟩
            case measure => simp [intOf]; omega
          · have ht : ((X : Int) % 2 == 1) = false := by assumption
            go_round
            case rel => exact ⟨j + 1, by omega, by go_num, by rw [HN.out, SN'.out ht]⟩
            case measure => simp [intOf]; omega
        · go_wp2
          go_round
          case rel => exact ⟨k + 1, by omega, by go_num, by rw [HS.out, ← HX.out, show j = 8 by omega]⟩
          case measure => simp [intOf]; omega
    · go_wp2
      go_ret
      exact ⟨ret_int (by rw [List.take_of_length_le (by simp; omega)] at hR ⊢; unfold fcsL; omega), rfl⟩

theorem specFcs_any (s : ByteArray) (w : World) (hs : s.size ≤ maxLen) :
    Calls Try.prog 27 #[.string s] w fun e w' => e = .returned (.int .i64 (fcsV s : Nat)) ∧ w = w' := by
  have hs' := hs
  unfold maxLen at hs
  unfold fcsV
  by_cases h1 : 8000 < s.size
  · rw [if_pos h1]
    go_enter Try.func27, Try.ntmps27
    go_wp2
    go_ret
    exact ⟨rfl, rfl⟩
  · rw [if_neg h1]
    go_enter Try.func27, Try.ntmps27
    go_wp2_with (go_at_call 73; refine (l02Fcs_any s _ hs').mono ?_; rintro e w' ⟨rfl, rfl⟩)
    go_ret
    exact ⟨rfl, rfl⟩

set_option maxHeartbeats 800000 in
theorem fcsByte_any (r b : Nat) (w : World) (hr : r < 65536) (hb : b < 256) :
    Calls Try.prog 72 #[.int .u16 r, .int .u8 b] w fun e w' => e = .returned (.int .u16 (fcsB r b : Nat)) ∧ w = w' := by
  have hY := xor_lt16 hr (show b < 65536 by omega)
  go_enter Try.func72, Try.ntmps72
  go_wp2
  go_loop [0, 10] (fun x i => ∃ j : Nat, j ≤ 8 ∧ i = .int .i64 j ∧ x = .int .u16 (fcsSteps j (r ^^^ b) : Nat)) (fun _ i => 8 - (intOf i).toNat)
  case atStart => exact ⟨0, Nat.zero_le _, rfl, by rw [← fcs16_start _ _ hr hb]⟩
  case round =>
    obtain ⟨j, hj, rfl, rfl⟩ := hrel
    have hX := fcsSteps_lt j hY
    have SY := @fcs16_yes (fcsSteps j (r ^^^ b)) hX
    have SN := @fcs_no (fcsSteps j (r ^^^ b))
    have HN : Hid (fcsSteps (j + 1) (r ^^^ b) = fcsStep (fcsSteps j (r ^^^ b))) := rfl
    obtain ⟨X, HX⟩ : ∃ X, Hid (fcsSteps j (r ^^^ b) = X) := ⟨_, show _ = _ from rfl⟩
    rw [HX.out] at hX SY SN HN ⊢
    have SY' : Hid _ := SY
    have SN' : Hid _ := SN
    clear SY SN
    by_cases hlt8 : j < 8
    · go_wp2
      · have ht : ((X : Int) % 2 == 1) = true := by assumption
        go_round
        case rel => exact ⟨j + 1, by omega, by go_num, by rw [HN.out, SY'.out ht]⟩
        case measure => simp [intOf]; omega
      · have ht : ((X : Int) % 2 == 1) = false := by assumption
        go_round
        case rel => exact ⟨j + 1, by omega, by go_num, by rw [HN.out, SN'.out ht]⟩
        case measure => simp [intOf]; omega
    · go_wp2
      go_ret
      exact ⟨ret_int (by rw [← HX.out, show j = 8 by omega]; rfl), rfl⟩

set_option maxHeartbeats 800000 in
theorem fcs_any (s : ByteArray) (w : World) (hs : s.size ≤ maxLen) :
    Calls Try.prog 26 #[.string s] w fun e w' => e = .returned (.int .i64 (fcsV s : Nat)) ∧ w = w' := by
  unfold maxLen at hs
  unfold fcsV
  by_cases h1 : 8000 < s.size
  · rw [if_pos h1]
    go_enter Try.func26, Try.ntmps26
    go_wp2
    go_ret
    exact ⟨rfl, rfl⟩
  rw [if_neg h1]
  go_enter Try.func26, Try.ntmps26
  go_wp2
  go_loop [3, 10] (fun x i => ∃ k : Nat, k ≤ s.size ∧ i = .int .i64 k ∧ x = .int .u16 (fcsR 65535 (s.data.toList.take k) : Nat)) (fun _ i => s.size - (intOf i).toNat)
  case atStart => exact ⟨0, Nat.zero_le _, rfl, rfl⟩
  case round =>
    obtain ⟨k, hk, rfl, rfl⟩ := hrel
    have hR := fcsR_lt (s.data.toList.take k) (show 65535 < 65536 by decide)
    by_cases hlt : k < s.size
    · have HS : Hid (fcsR 65535 (s.data.toList.take (k + 1)) = fcsB (fcsR 65535 (s.data.toList.take k)) s[k].toNat) := by rw [take_snoc s k hlt, fcsR_snoc]; rfl
      have hb := u8_lt s[k]
      generalize fcsR 65535 (s.data.toList.take k) = R at hR HS
      go_wp2_with (go_at_call 72; refine (fcsByte_any R s[k].toNat _ hR hb).mono ?_; rintro e w' ⟨rfl, rfl⟩)
      go_round
      case rel => exact ⟨k + 1, by omega, by go_num, by rw [HS.out]⟩
      case measure => simp [intOf]; omega
    · go_wp2
      go_ret
      exact ⟨ret_int (by rw [List.take_of_length_le (by simp; omega)] at hR ⊢; unfold fcsL; omega), rfl⟩
end Go.Proofs.Ytiaphaghjklhaaa
