/- THE WALKS of the model's draws of what may be heard, and of a text that may be a frame. -/
import Derived.Test.YtiaphaghjklhaaaDrawG
import Derived.WalkKit
import Derived.WalkSpells
import Derived.Outline
import Derived.Below
import Derived.Deep.QuietTactic
import Derived.BigQuiet
import Derived.Deep.DeepCutAuto
namespace Go.Proofs.Ytiaphaghjklhaaa
open Go.RowKit
set_option linter.unusedVariables false
set_option linter.unusedSimpArgs false

set_option maxRecDepth 100000 in
set_option maxHeartbeats 1600000 in
theorem drawFrameRead_any (B : Nat) (a : Option Addr) (len cap : Nat) (w : World) (hr : Rb B w a len) (hB : B ≤ w.heap.size) :
    Calls Try.prog 17 #[.slice a len cap] w fun e w' => ∃ s : ByteArray, e = .returned (.string s) ∧ s.size ≤ 200 ∧ Below w.heap.size w w' := by
  go_enter Try.func17, Try.ntmps17
  go_upto_region 4 with (first
    | (go_at_call 45; refine (source_D B a len cap _ hr hB).mono ?_; rintro e w1 ⟨rfl, hD1, hb1⟩)
    | (go_at_call 57; refine (l02Body_D hD1).mono ?_; rintro e w2 ⟨s, rfl, hs, hD2⟩)
    | (go_at_call 22; refine (specFrameText_any s _ (by unfold maxLen; omega)).mono ?_; rintro e w3 ⟨rfl, hb3⟩; have hD3 := hD2.below hb3)
    | (go_at_call 47; refine (n_D hD3 4 (by omega)).mono ?_; rintro e w4 ⟨r4, rfl, hr4, hD4, _⟩; have hr5 : r4 < 4 := (by omega)))
  have hf := frameB_size s
  generalize frameB s = f at hf ⊢
  have HD4 : Hid _ := hD4
  have HB1 : Hid _ := hb1
  clear hr4 hD1 hD2 hD3 hD4 hb3 hb1 hr hB
  by_cases h0 : r4 = 0
  · subst h0
    go_wp2_with (go_at_call 60; refine (spoil_D HD4.out f (by omega)).mono ?_; rintro e w5 ⟨s5, rfl, hs5, hD5⟩)
    go_ret
    exact ⟨_, rfl, by omega, hD5.end HB1.out⟩
  have q0 : ((r4 : Int) == 0) = false := by simp; omega
  by_cases h1 : r4 = 1
  · subst h1
    go_wp2_with (go_at_call 61; refine (pick_D (HD4.out.alloc _) w4.heap.size (0, 0) [⟨#[]⟩, ⟨#[126]⟩, ⟨#[126, 126]⟩, ⟨#[126, 97, 126]⟩, ⟨#[126, 125, 126]⟩, ⟨#[126, 97, 98, 99, 126]⟩, ⟨#[126, 97, 98, 99]⟩] (heap_alloc_new w4 _) (by have := HD4.out.lt; omega) (by decide) (by decide) (by decide)).mono ?_; rintro e w5 ⟨s5, rfl, hs5, hD5⟩)
    go_ret
    exact ⟨_, rfl, by omega, hD5.end HB1.out⟩
  have q1 : ((r4 : Int) == 1) = false := by simp; omega
  go_wp2
  go_ret
  exact ⟨_, rfl, by omega, HD4.out.end HB1.out⟩
set_option maxRecDepth 100000 in
set_option maxHeartbeats 3200000 in
theorem l02Noise_D {b B : Nat} {a : Option Addr} {len cap : Nat} {w0 w : World} (h : Dr b B a len cap w0 w) :
    Calls Try.prog 65 #[.pointer (some ⟨b, 0, none⟩)] w fun e w' => ∃ s : ByteArray, e = .returned (.string s) ∧ s.size ≤ 600 ∧ Dr b B a len cap w0 w' := by
  have HD : Hid _ := h
  obtain ⟨i0, hi, hz0, hz1, hz2⟩ := info_parts info5
  clear h
  go_enter Try.func65, Try.ntmps65
  go_upto_region 3 with (go_at_call 47; refine (n_D HD.out 4 (by omega)).mono ?_; rintro e w1 ⟨r1, rfl, hr1, hD1, _⟩; have hr2 : r1 < 4 := (by omega))
  have HD1 : Hid _ := hD1
  clear hr1 hD1
  go_loopw [3, 4] (fun x k wr => ∃ (j : Nat) (s : ByteArray), j ≤ 3 ∧ k = .int .i64 j ∧ x = .string s ∧ s.size ≤ 200 * (3 - j) ∧ Hid (Dr b B a len cap w0 wr)) (fun _ k _ => (intOf k).toNat)
  case atStart => exact ⟨r1, ByteArray.empty, by omega, rfl, rfl, by simp, HD1.out⟩
  case round =>
    obtain ⟨j, s, hj, rfl, rfl, hs, HR⟩ := hrel
    by_cases hpos : 0 < j
    · go_upto_region 7 with (first
        | (go_at_call 57; refine (l02Body_D HR.out).mono ?_; rintro e w2 ⟨s2, rfl, hs2, hD2⟩)
        | (go_at_call 22; refine (specFrameText_any s2 _ (by unfold maxLen; omega)).mono ?_; rintro e w3 ⟨rfl, hb3⟩; have hD3 := hD2.below hb3)
        | (go_at_call 47; refine (n_D hD3 6 (by omega)).mono ?_; rintro e w4 ⟨r4, rfl, hr4, hD4, _⟩; have hr5 : r4 < 6 := (by omega)))
      have hf := frameB_size s2
      generalize frameB s2 = f at hf ⊢
      have HD4 : Hid _ := hD4
      clear hr4 hD2 hD3 hD4 hb3 HR hs2
      have hs400 : s.size ≤ 400 := by omega
      by_cases h0 : r4 = 0
      · subst h0
        go_wp2_with (go_at_call 60; refine (spoil_D HD4.out f (by omega)).mono ?_; rintro e w5 ⟨s5, rfl, hs5, hD5⟩)
        go_roundw
        case rel => exact ⟨j - 1, s ++ s5, by omega, by go_num, rfl, by rw [ByteArray.size_append]; omega, hD5⟩
        case measure => simp [intOf]; omega
      have q0 : ((r4 : Int) == 0) = false := by simp; omega
      by_cases h1 : r4 = 1
      · subst h1
        go_wp2_with (go_at_call 47; refine (n_D HD4.out ((f.size : Int) + 1) (by omega)).mono ?_; rintro e w5 ⟨r5, rfl, hr6, hD5, _⟩; obtain ⟨P, hP, hsl⟩ := slice_toD f r5 (by omega))
        go_roundw
        case rel => exact ⟨j - 1, s ++ P, by omega, by go_num, rfl, by rw [ByteArray.size_append]; omega, hD5⟩
        case measure => simp [intOf]; omega
      have q1 : ((r4 : Int) == 1) = false := by simp; omega
      by_cases h2 : r4 = 2
      · subst h2
        go_wp2_with (go_at_call 61; refine (pick_D (HD4.out.alloc _) w4.heap.size (0, 0) [⟨#[126]⟩, ⟨#[125, 126]⟩, ⟨#[97, 98]⟩, ⟨#[126, 126]⟩] (heap_alloc_new w4 _) (by have := HD4.out.lt; omega) (by decide) (by decide) (by decide)).mono ?_; rintro e w5 ⟨s5, rfl, hs5, hD5⟩)
        go_roundw
        case rel => exact ⟨j - 1, s ++ s5, by omega, by go_num, rfl, by rw [ByteArray.size_append]; omega, hD5⟩
        case measure => simp [intOf]; omega
      have q2 : ((r4 : Int) == 2) = false := by simp; omega
      by_cases h3 : r4 = 3
      · subst h3
        have hfl : (⟨#[126]⟩ : ByteArray).size = 1 := rfl
        go_wp2_with (first
          | (go_at_call 46; refine (one_D HD4.out 4 (by omega)).mono ?_; rintro e w5 ⟨o5, rfl, hD5, _⟩)
          | (go_at_call 47; refine (n_D hD5 4 (by omega)).mono ?_; rintro e w6 ⟨r6, rfl, hr6, hD6, _⟩; have hr7 : r6 < 4 := (by omega); have hl6 := hD6.lt)
          | (at_make; refine wpList_make_full _ rfl (.tmp 42) (.tmp 42) 22 rfl w6.heap.size 5 i0 (.int .u8 0) 1 Try.underlying22 hi hz0 hz1 .i64 .i64 _ _ (61 + r6) rfl rfl (by omega) (by omega) (by rw [hz2]; omega) (by unfold maxLen; omega) (Nat.le_refl _) ?_; intro w7 hown7 hgrow7; have hD7 := hD6.below (below_none hgrow7); obtain ⟨Z, hZ, hcv⟩ := zeros_conv hown7; clear hown7 hgrow7))
        all_goals
          go_roundw
          case rel => first | exact ⟨j - 1, s ++ (⟨#[126]⟩ ++ Z), by omega, by go_num, rfl, by rw [ByteArray.size_append, ByteArray.size_append, hfl]; omega, hD7⟩ | exact ⟨j - 1, s ++ f, by omega, by go_num, rfl, by rw [ByteArray.size_append]; omega, hD5⟩
          case measure => simp [intOf]; omega
      have q3 : ((r4 : Int) == 3) = false := by simp; omega
      go_wp2
      go_roundw
      case rel => exact ⟨j - 1, s ++ f, by omega, by go_num, rfl, by rw [ByteArray.size_append]; omega, HD4.out⟩
      case measure => simp [intOf]; omega
    · go_wp2
      go_ret
      exact ⟨_, rfl, by omega, HR.out⟩
end Go.Proofs.Ytiaphaghjklhaaa
