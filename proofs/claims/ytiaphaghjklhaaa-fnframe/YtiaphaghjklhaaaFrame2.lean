/- THE WALKS of the frame of a body, the program's and the model's. -/
import Derived.Test.YtiaphaghjklhaaaFrame
import Derived.Test.YtiaphaghjklhaaaKeep
import Derived.WalkKit
import Derived.WalkSpells
import Derived.Outline
import Derived.Below
import Derived.Maps.AppendAt
namespace Go.Proofs.Ytiaphaghjklhaaa
open Go.RowKit
set_option linter.unusedVariables false

theorem first_own (w : World) : (w.alloc (.cells #[.int .u8 126] 5)).ownsRow w.heap.size 5 1 (.slice (some ⟨w.heap.size, 0, none⟩) 1 1) [(126 : UInt8)].length (cellsC [126]) :=
  ⟨rfl, .inr ⟨w.heap.size, 1, #[.int .u8 126], rfl, Nat.le_refl _, heap_alloc_new w _, Nat.le_refl _, by unfold maxLen; omega, rfl, rfl⟩⟩
set_option maxRecDepth 100000 in
set_option maxHeartbeats 800000 in
theorem l02Frame_any (s : ByteArray) (w : World) (hs : s.size ≤ 100000) :
    Calls Try.prog 68 #[.string s] w fun e w' => e = .returned (.string (bytesOf (frameL s.data.toList))) ∧ Below w.heap.size w w' := by
  obtain ⟨i0, hi, hz0, hz1, hz2⟩ := info_parts info5
  go_enter Try.func68, Try.ntmps68
  go_wp2
  go_loopw [3, 4] (fun v i wr => ∃ (k : Nat) (l : List UInt8), k ≤ s.size ∧ i = .int .i64 k ∧ Hid (l = 126 :: escL (s.data.toList.take k)) ∧ l.length ≤ 200001 ∧ wr.ownsRow w.heap.size 5 1 v l.length (cellsC l) ∧ Below w.heap.size w wr)
    (fun _ i _ => s.size - (intOf i).toNat)
  case atStart => exact ⟨0, [126], Nat.zero_le _, rfl, rfl, by simp, first_own w, (Below.refl _ _).alloc (Nat.le_refl _) _⟩
  case round =>
    obtain ⟨k, l, hk, rfl, HL, hll, hown, hbel⟩ := hrel
    have hsz := hbel.size
    by_cases hlt : k < s.size
    · have HST : Hid (126 :: escL (s.data.toList.take (k + 1)) = l ++ esc1 s[k]) := by rw [esc_step hlt, HL.out]; rfl
      have hlen : (l ++ esc1 s[k]).length ≤ 200001 := by rw [← HST.out, List.length_cons]; have := esc_len s (k + 1) hs; omega
      have e32 := xor32 s[k]
      have e126 := is126 s[k]
      have e125 := is125 s[k]
      by_cases h1 : s[k] = 126
      · simp only [h1, decide_true] at e126
        have e1 : esc1 s[k] = [125, s[k] ^^^ 32] := by unfold esc1; rw [if_pos (.inl h1)]
        rw [e1] at HST hlen
        have hlen2 : l.length + 2 ≤ 200001 := by rw [List.length_append] at hlen; exact hlen
        rw [← h1] at e126
        clear hlen h1 e1 e125
        go_wp2_with (at_builtin; refine wpList_append_own _ rfl (.tmp 22) (.tmp 27) 22 rfl w.heap.size 5 i0 (.int .u8 0) 1 1 Try.underlying22 hi hz0 hz1 hz2 rfl (by decide) _ _ _ rfl (hown.alloc _) ⟨wr.heap.size, 0, none⟩ 2 2 [_, _] rfl rfl (cells_new _ _ _) (by intro x hx; simp at hx; rcases hx with rfl | rfl <;> rfl) (by unfold maxLen; omega) (by omega) (by simp; omega) ?_; intro v' w2 hown' hgrow _)
        go_roundw
        case rel => exact ⟨k + 1, l ++ [125, s[k] ^^^ 32], by omega, by go_num, HST.out.symm, by rw [List.length_append]; exact hlen2, own_add rfl rfl rfl hown', (hbel.alloc hsz _).grown hgrow (by simp; omega) (fun k e => (hown.lt k e).1)⟩
        case measure => simp [intOf]; omega
      · simp only [h1, decide_false] at e126
        by_cases h2 : s[k] = 125
        · simp only [h2, decide_true] at e125
          have e1 : esc1 s[k] = [125, s[k] ^^^ 32] := by unfold esc1; rw [if_pos (.inr h2)]
          rw [e1] at HST hlen
          have hlen2 : l.length + 2 ≤ 200001 := by rw [List.length_append] at hlen; exact hlen
          rw [← h2] at e125
          clear hlen h1 h2 e1
          go_wp2_with (at_builtin; refine wpList_append_own _ rfl (.tmp 22) (.tmp 27) 22 rfl w.heap.size 5 i0 (.int .u8 0) 1 1 Try.underlying22 hi hz0 hz1 hz2 rfl (by decide) _ _ _ rfl (hown.alloc _) ⟨wr.heap.size, 0, none⟩ 2 2 [_, _] rfl rfl (cells_new _ _ _) (by intro x hx; simp at hx; rcases hx with rfl | rfl <;> rfl) (by unfold maxLen; omega) (by omega) (by simp; omega) ?_; intro v' w2 hown' hgrow _)
          go_roundw
          case rel => exact ⟨k + 1, l ++ [125, s[k] ^^^ 32], by omega, by go_num, HST.out.symm, by rw [List.length_append]; exact hlen2, own_add rfl rfl rfl hown', (hbel.alloc hsz _).grown hgrow (by simp; omega) (fun k e => (hown.lt k e).1)⟩
          case measure => simp [intOf]; omega
        · simp only [h2, decide_false] at e125
          have e1 : esc1 s[k] = [s[k]] := by unfold esc1; rw [if_neg (fun h => h.elim h1 h2)]
          rw [e1] at HST hlen
          have hlen2 : l.length + 1 ≤ 200001 := by rw [List.length_append] at hlen; exact hlen
          clear hlen h1 h2 e1 e32
          go_wp2_with (at_builtin; refine wpList_append_own _ rfl (.tmp 29) (.tmp 33) 22 rfl w.heap.size 5 i0 (.int .u8 0) 1 1 Try.underlying22 hi hz0 hz1 hz2 rfl (by decide) _ _ _ rfl (hown.alloc _) ⟨wr.heap.size, 0, none⟩ 1 1 [_] rfl rfl (cells_new _ _ _) (by intro x hx; simp at hx; subst hx; rfl) (by unfold maxLen; omega) (by omega) (by simp; omega) ?_; intro v' w2 hown' hgrow _)
          go_roundw
          case rel => exact ⟨k + 1, l ++ [s[k]], by omega, by go_num, HST.out.symm, by rw [List.length_append]; exact hlen2, own_add rfl rfl rfl hown', (hbel.alloc hsz _).grown hgrow (by simp; omega) (fun k e => (hown.lt k e).1)⟩
          case measure => simp [intOf]; omega
    · go_wp2_with (at_builtin; refine wpList_append_own _ rfl (.tmp 35) (.tmp 36) 22 rfl w.heap.size 5 i0 (.int .u8 0) 1 1 Try.underlying22 hi hz0 hz1 hz2 rfl (by decide) _ _ _ rfl (hown.alloc _) ⟨wr.heap.size, 0, none⟩ 1 1 [_] rfl rfl (cells_new _ _ _) (by intro x hx; simp at hx; subst hx; rfl) (by unfold maxLen; omega) (by omega) (by simp; omega) ?_; intro v' w2 hown' hgrow _; have hcv := OwnM.conv (P := Try.prog) 22 9 Try.underlying22 Try.underlying5 Try.underlying9 (OwnM.own (own_add (x := [126]) rfl rfl rfl hown')); have hb2 := (hbel.alloc hsz (.cells #[.int .u8 126] 5)).grown hgrow (by simp; omega) (fun k e => (hown.lt k e).1))
      go_ret
      exact ⟨by rw [HL.out, List.take_of_length_le (by rw [list_length]; omega)]; rfl, hb2⟩
theorem l02Body_any (s : ByteArray) (w : World) (hs : s.size ≤ maxLen) :
    Calls Try.prog 67 #[.string s] w fun e w' => e = .returned (.bool (decide (1 ≤ s.size ∧ s.size ≤ 60))) ∧ w = w' := by
  unfold maxLen at hs
  by_cases h1 : 1 ≤ s.size
  · by_cases h2 : s.size ≤ 60
    all_goals
      go_enter Try.func67, Try.ntmps67
      go_wp2
      go_ret
      exact ⟨ret_bool (by first | (simp [h1, h2]; done) | (rw [Bool.eq_iff_iff]; simp; omega)), rfl⟩
  · go_enter Try.func67, Try.ntmps67
    go_wp2
    go_ret
    exact ⟨ret_bool (by simp), rfl⟩
set_option maxRecDepth 100000 in
theorem specFrameText_any (s : ByteArray) (w : World) (hs : s.size ≤ maxLen) :
    Calls Try.prog 22 #[.string s] w fun e w' => e = .returned (.string (frameB s)) ∧ Below w.heap.size w w' := by
  have HB : Hid _ := fun w => l02Body_any s w hs
  by_cases h : 1 ≤ s.size ∧ s.size ≤ 60
  · have HB' : Hid (∀ w : World, Calls Try.prog 67 #[.string s] w fun e w' => e = .returned (.bool true) ∧ w = w') := fun w => by have := HB.out w; rwa [decide_eq_true h] at this
    have HC : Hid _ := fun w => l02Check_any s w hs
    have HF : Hid (∀ w, Calls Try.prog 68 #[.string (s ++ checkB s)] w fun e w' => e = .returned (.string (frameB s)) ∧ Below w.heap.size w w') := fun w => by
      have := l02Frame_any (s ++ checkB s) w (by rw [ByteArray.size_append, checkB_size]; omega)
      rw [list_append, checkB_eq, bytesOf_list] at this
      rwa [frameB_in s h.1 h.2]
    have hz := checkB_size s
    have h2 := h.2
    clear HB hs h
    go_enter Try.func22, Try.ntmps22
    go_wp2_with (first | (go_at_call 67; refine (HB'.out _).mono ?_; rintro e w0 ⟨rfl, rfl⟩) | (go_at_call 69; refine (HC.out _).mono ?_; rintro e w1 ⟨rfl, hb1⟩) | (go_at_call 68; refine (HF.out _).mono ?_; rintro e w2 ⟨rfl, hb2⟩))
    go_ret
    exact ⟨rfl, keepB hb1 (Nat.le_refl _) hb2⟩
  · have HB' : Hid (∀ w : World, Calls Try.prog 67 #[.string s] w fun e w' => e = .returned (.bool false) ∧ w = w') := fun w => by have := HB.out w; rwa [decide_eq_false h] at this
    rw [frameB_out s (by omega)]
    go_enter Try.func22, Try.ntmps22
    go_wp2_with (go_at_call 67; refine (HB'.out _).mono ?_; rintro e w0 ⟨rfl, rfl⟩)
    go_ret
    exact ⟨rfl, Below.refl _ _⟩
theorem flag_cells : cellsB (bytesOf [126]) = [.int .u8 126] := rfl
theorem flag_conv (w : World) : (convert 22 9 (.slice (some ⟨w.heap.size, 0, none⟩) 1 1)).run Try.prog (w.alloc (.cells #[.int .u8 126] 5)) = .ok (.string (bytesOf [126])) (w.alloc (.cells #[.int .u8 126] 5)) := by
  have h := Lib.run_convert_whole (P := Try.prog) (w.alloc (.cells [.int .u8 126].toArray 5)) 22 5 9 Try.underlying22 Try.underlying5 Try.underlying9 w.heap.size 0 (bytesOf [126]) (bytes_of_cells (bytesOf [126]) (heap_alloc_new w _) (by rw [flag_cells, bytesOf_size]; rfl)) 1
  rw [bytesOf_size] at h
  exact h
set_option maxRecDepth 100000 in
theorem join_frame (s : ByteArray) (h0 : ¬ s.size < 1) (h1 : ¬ 60 < s.size) : Hid (∀ W : World, Calls Try.prog 49 #[.slice (some ⟨W.heap.size, 0, none⟩) 4 4] (W.alloc (.cells #[.string (bytesOf [126]), .string (bytesOf (escL s.data.toList)), .string (bytesOf (escL (checkB s).data.toList)), .string (bytesOf [126])] 9)) fun e w' => e = .returned (.string (frameB s)) ∧ Below W.heap.size W w') := by
  intro W
  have hl1 := (escL_length s.data.toList).2
  have hl2 := (escL_length (checkB s).data.toList).2
  rw [list_length] at hl1
  rw [list_length, checkB_size] at hl2
  refine (join_row W.heap.size (0, 0) [bytesOf [126], bytesOf (escL s.data.toList), bytesOf (escL (checkB s).data.toList), bytesOf [126]] _ (heap_alloc_new W _) (by simp) ?_).mono ?_
  · intro x hx
    simp only [List.mem_cons, List.not_mem_nil, or_false] at hx
    rcases hx with rfl | rfl | rfl | rfl
    · rw [bytesOf_size]; simp
    · rw [bytesOf_size]; omega
    · rw [bytesOf_size]; omega
    · rw [bytesOf_size]; simp
  rintro e w' ⟨rfl, hb⟩
  refine ⟨?_, ((Below.refl W.heap.size W).alloc (Nat.le_refl _) _).trans (hb.mono (by simp))⟩
  rw [frameB_in s (by omega) (by omega), ← frame_parts, checkB_eq, bytesOf_list]
  simp [joinT]
set_option maxRecDepth 100000 in
set_option maxHeartbeats 800000 in
theorem frameText_any (s : ByteArray) (w : World) (hs : s.size ≤ maxLen) :
    Calls Try.prog 16 #[.string s] w fun e w' => e = .returned (.string (frameB s)) ∧ Below w.heap.size w w' := by
  unfold maxLen at hs
  by_cases h0 : s.size < 1
  · rw [frameB_out s (.inl h0)]
    go_enter Try.func16, Try.ntmps16
    go_wp2
    go_ret
    exact ⟨rfl, Below.refl _ _⟩
  by_cases h1 : 60 < s.size
  · rw [frameB_out s (.inr h1)]
    go_enter Try.func16, Try.ntmps16
    go_wp2
    go_ret
    exact ⟨rfl, Below.refl _ _⟩
  have hcv := flag_conv w
  have HE1 : Hid _ := fun w => escapeText_any s w (by omega)
  have HE2 : Hid _ := fun w => escapeText_any (checkB s) w (by rw [checkB_size]; omega)
  have HC : Hid _ := fun w => checkText_any s w (by omega)
  have HJ := join_frame s h0 h1
  generalize frameB s = R at HJ ⊢
  generalize bytesOf (escL s.data.toList) = E1 at HE1 HJ
  generalize checkB s = K at HC HE2 HJ
  generalize bytesOf (escL K.data.toList) = E2 at HE2 HJ
  generalize bytesOf [126] = F at hcv HJ
  go_enter Try.func16, Try.ntmps16
  go_wp2_with (go_at_call 58; refine (HE1.out _).mono ?_; rintro e w1 ⟨rfl, hb1⟩)
  refine (HC.out _).mono ?_
  rintro e w2 ⟨rfl, hb2⟩
  go_wp2_with (go_at_call 58; refine (HE2.out _).mono ?_; rintro e w3 ⟨rfl, hb3⟩)
  refine (HJ.out _).mono ?_
  rintro e w4 ⟨rfl, hb4⟩
  go_wp2
  go_ret
  exact ⟨rfl, keepB (keepB (keepB (keepB ((Below.refl _ _).alloc (Nat.le_refl _) _) (Nat.le_refl _) hb1) (Nat.le_refl _) hb2) (Nat.le_refl _) hb3) (Nat.le_refl _) hb4⟩
end Go.Proofs.Ytiaphaghjklhaaa
