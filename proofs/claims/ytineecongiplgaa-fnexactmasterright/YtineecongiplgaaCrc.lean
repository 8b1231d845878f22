/- THE WALKS of the CRC's functions: what each answers at every argument. -/
import Derived.Test.YtineecongiplgaaProg
import Derived.Test.YtineecongiplgaaPlain
import Derived.WalkKit
import Derived.WalkSpells
import Derived.Outline
import Derived.Below
import Derived.Laws.BitsAllLaws
namespace Go.Proofs.Ytineecongiplgaa
open Go.RowKit

set_option maxHeartbeats 400000 in
theorem crcByte_any (r b : Nat) (w : World) (hr : r < 4294967296) (hb : b < 256) :
    Calls Try.prog 110 #[.int .u32 r, .int .u8 b] w fun e w' => e = .returned (.int .u32 (crcB r b : Nat)) ∧ w' = w := by
  go_enter Try.func110, Try.ntmps110
  go_wp2
  go_loop [0, 5] (fun x i => ∃ k : Nat, k ≤ 8 ∧ i = .int .i64 k ∧ x = .int .u32 (bitSteps b k r : Nat)) (fun _ i => 8 - (intOf i).toNat)
  case atStart => exact ⟨0, Nat.zero_le _, rfl, rfl⟩
  case round =>
    obtain ⟨k, hk, rfl, rfl⟩ := hrel
    have hx := bitSteps_lt b k hr
    by_cases hlt : k < 8
    · go_wp2
      · have ht : ((bits BinOp.xor IntKind.u32 (↑(bitSteps b k r)) (↑b / 2 ^ k % 4294967296)).tmod 2 == 1) = true := by assumption
        go_round
        case rel => exact ⟨k + 1, by omega, by go_num, congrArg _ (bit_yes hx hb ht)⟩
        case measure => simp [intOf]; omega
      · have ht : ((bits BinOp.xor IntKind.u32 (↑(bitSteps b k r)) (↑b / 2 ^ k % 4294967296)).tmod 2 == 1) = false := by assumption
        go_round
        case rel => exact ⟨k + 1, by omega, by go_num, congrArg _ (bit_no hx hb ht)⟩
        case measure => simp [intOf]; omega
    · have e8 : k = 8 := by omega
      subst e8
      go_wp2
      go_ret
      exact ⟨ret_int (by rw [bitSteps_crcB b r hb]), rfl⟩

set_option maxHeartbeats 800000 in
theorem l01Crc_any (c : Nat) (s : ByteArray) (w : World) (hc : c < 4294967296) (hs : s.size ≤ maxLen) :
    Calls Try.prog 106 #[.int .i64 c, .string s] w fun e w' => e = .returned (.int .i64 (crcL (c ^^^ 4294967295) s.data.toList ^^^ 4294967295 : Nat)) ∧ w' = w := by
  unfold maxLen at hs
  have hc' : c ^^^ 4294967295 < 4294967296 := xor_lt32 hc (by decide)
  go_enter Try.func106, Try.ntmps106
  go_wp2
  go_loop [5, 6] (fun x i => ∃ k : Nat, k ≤ s.size ∧ i = .int .i64 k ∧ x = .int .u32 (crcL (c ^^^ 4294967295) (s.data.toList.take k) : Nat)) (fun _ i => s.size - (intOf i).toNat)
  case atStart => exact ⟨0, Nat.zero_le _, rfl, congrArg _ (xor_ones c hc)⟩
  case round =>
    obtain ⟨k, hk, rfl, rfl⟩ := hrel
    have hR := crcL_lt (s.data.toList.take k) hc'
    by_cases hlt : k < s.size
    · have HS : Hid (crcL (c ^^^ 4294967295) (s.data.toList.take (k + 1)) = crcSteps 8 (crcL (c ^^^ 4294967295) (s.data.toList.take k) ^^^ s[k].toNat)) := by rw [take_snoc s k hlt, crcL_snoc]; rfl
      have hb := u8_lt s[k]
      generalize crcL (c ^^^ 4294967295) (s.data.toList.take k) = R at hR HS
      have hY := xor_lt32 hR (show s[k].toNat < 4294967296 by omega)
      go_wp2
      go_loop [5, 7] (fun x i => ∃ j : Nat, j ≤ 8 ∧ i = .int .i64 j ∧ x = .int .u32 (crcSteps j (R ^^^ s[k].toNat) : Nat)) (fun _ i => 8 - (intOf i).toNat)
      case atStart => exact ⟨0, Nat.zero_le _, rfl, by rw [start_plain _ _ hR hb]⟩
      case round =>
        obtain ⟨j, hj, rfl, rfl⟩ := hrel
        have hX := crcSteps_lt j hY
        have SY := @step_yes (crcSteps j (R ^^^ s[k].toNat)) hX
        have SN := @step_no (crcSteps j (R ^^^ s[k].toNat)) hX
        have HN : Hid (crcSteps (j + 1) (R ^^^ s[k].toNat) = crcStep (crcSteps j (R ^^^ s[k].toNat))) := rfl
        obtain ⟨X, HX⟩ : ∃ X, Hid (crcSteps j (R ^^^ s[k].toNat) = X) := ⟨_, show _ = _ from rfl⟩
        rw [HX.out] at hX SY SN HN ⊢
        by_cases hlt8 : j < 8
        · go_wp2
          · have ht : (bits BinOp.and IntKind.u32 (↑X) 1 == 1) = true := by assumption
            go_round
            case rel => exact ⟨j + 1, by omega, by go_num, by rw [HN.out]⟩
            case measure => simp [intOf]; omega
          · have ht : (bits BinOp.and IntKind.u32 (↑X) 1 == 1) = false := by assumption
            go_round
            case rel => exact ⟨j + 1, by omega, by go_num, by rw [HN.out]⟩
            case measure => simp [intOf]; omega
        · go_wp2
          go_round
          case rel => exact ⟨k + 1, by omega, by go_num, by rw [HS.out, ← HX.out, show j = 8 by omega]⟩
          case measure => simp [intOf]; omega
    · go_wp2
      go_ret
      exact ⟨ret_int (by rw [List.take_of_length_le (by simp; omega)]; rw [xor_ones _ (crcL_lt _ hc')]; have := xor_lt32 (crcL_lt s.data.toList hc') (show 4294967295 < 4294967296 by decide); unfold wrap64; omega), rfl⟩

/-- of all arguments -/
def crcM (c : Int) (s : ByteArray) : Int := if 8000 < s.size ∨ c < 0 ∨ 4294967295 < c then 0 else (crcL (c.toNat ^^^ 4294967295) s.data.toList ^^^ 4294967295 : Nat)

set_option maxHeartbeats 800000 in
theorem crcMore_in (c : Nat) (s : ByteArray) (w : World) (hc : c < 4294967296) (hs : s.size ≤ 8000) :
    Calls Try.prog 108 #[.int .i64 c, .string s] w fun e w' => e = .returned (.int .i64 (crcL (c ^^^ 4294967295) s.data.toList ^^^ 4294967295 : Nat)) ∧ w' = w := by
  have hc' : c ^^^ 4294967295 < 4294967296 := xor_lt32 hc (by decide)
  go_enter Try.func108, Try.ntmps108
  go_wp2
  go_loop [5, 6] (fun x i => ∃ k : Nat, k ≤ s.size ∧ i = .int .i64 k ∧ x = .int .u32 (crcL (c ^^^ 4294967295) (s.data.toList.take k) : Nat)) (fun _ i => s.size - (intOf i).toNat)
  case atStart => exact ⟨0, Nat.zero_le _, rfl, by rw [ones_xor c hc]; rfl⟩
  case round =>
    obtain ⟨k, hk, rfl, rfl⟩ := hrel
    have hR := crcL_lt (s.data.toList.take k) hc'
    by_cases hlt : k < s.size
    · have HS : Hid (crcL (c ^^^ 4294967295) (s.data.toList.take (k + 1)) = crcB (crcL (c ^^^ 4294967295) (s.data.toList.take k)) s[k].toNat) := by rw [take_snoc s k hlt, crcL_snoc]; rfl
      have hb := u8_lt s[k]
      generalize crcL (c ^^^ 4294967295) (s.data.toList.take k) = R at hR HS
      go_wp2_with (go_at_call 110; refine (crcByte_any R s[k].toNat _ hR hb).mono ?_; rintro e w' ⟨rfl, rfl⟩)
      go_round
      case rel => exact ⟨k + 1, by omega, by go_num, by rw [HS.out]⟩
      case measure => simp [intOf]; omega
    · go_wp2
      go_ret
      exact ⟨ret_int (by rw [List.take_of_length_le (by simp; omega)]; rw [ones_xor _ (crcL_lt _ hc')]; have := xor_lt32 (crcL_lt s.data.toList hc') (show 4294967295 < 4294967296 by decide); unfold wrap64; omega), rfl⟩

theorem crcMore_any (c : Int) (s : ByteArray) (w : World) (hs : s.size ≤ maxLen) :
    Calls Try.prog 108 #[.int .i64 c, .string s] w fun e w' => e = .returned (.int .i64 (crcM c s)) ∧ w' = w := by
  unfold maxLen at hs
  by_cases h1 : 8000 < s.size
  · unfold crcM; rw [if_pos (by omega)]
    go_enter Try.func108, Try.ntmps108
    go_wp2
    go_ret
    exact ⟨rfl, rfl⟩
  by_cases h2 : c < 0
  · unfold crcM; rw [if_pos (by omega)]
    go_enter Try.func108, Try.ntmps108
    go_wp2
    go_ret
    exact ⟨rfl, rfl⟩
  by_cases h3 : 4294967295 < c
  · unfold crcM; rw [if_pos (by omega)]
    go_enter Try.func108, Try.ntmps108
    go_wp2
    go_ret
    exact ⟨rfl, rfl⟩
  · unfold crcM; rw [if_neg (by omega)]
    obtain ⟨C, rfl⟩ := Int.eq_ofNat_of_zero_le (show 0 ≤ c by omega)
    exact crcMore_in C s w (by omega) (by omega)

theorem crc_any (s : ByteArray) (w : World) (hs : s.size ≤ maxLen) :
    Calls Try.prog 101 #[.string s] w fun e w' => e = .returned (.int .i64 (crcM 0 s)) ∧ w' = w := by
  go_enter Try.func101, Try.ntmps101
  go_wp2_with (go_at_call 108; refine (crcMore_any 0 s _ hs).mono ?_; rintro e w' ⟨rfl, rfl⟩)
  go_ret
  exact ⟨rfl, rfl⟩

end Go.Proofs.Ytineecongiplgaa
