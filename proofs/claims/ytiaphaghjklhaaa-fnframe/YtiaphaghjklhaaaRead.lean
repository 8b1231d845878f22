/- THE WALKS of escapes taken back, the program's and the model's. -/
import Derived.Test.YtiaphaghjklhaaaFrame2
import Derived.WalkKit
import Derived.WalkSpells
import Derived.Outline
import Derived.Below
import Derived.Maps.AppendAt
namespace Go.Proofs.Ytiaphaghjklhaaa
open Go.RowKit
set_option linter.unusedVariables false

theorem innerL_length (t : List UInt8) : (innerL t).length = t.length - 2 := by
  unfold innerL; rw [List.length_take, List.length_drop]; omega
theorem list_at (s : ByteArray) (k : Nat) (h : k < s.size) : s.data.toList.drop k = s[k] :: s.data.toList.drop (k + 1) := by
  rw [List.drop_eq_getElem_cons (by simpa using h)]; rfl
theorem inner_at (s : ByteArray) (k : Nat) (h : k + 2 < s.size) : (innerL s.data.toList).drop k = s[k + 1] :: (innerL s.data.toList).drop (k + 1) := by
  have hl : k < (innerL s.data.toList).length := by rw [innerL_length, list_length]; omega
  rw [List.drop_eq_getElem_cons hl]
  congr 1
  simp only [innerL, List.getElem_take, List.getElem_drop]
  simp only [Nat.add_comm 1 k]
  rfl
theorem plain_one (s : ByteArray) (j : Nat) (h0 : 1 ≤ j) (h : j + 1 < s.size) (hc : s[j] ≠ 125 ∨ ¬ j + 2 < s.size) : unescL ((innerL s.data.toList).drop (j - 1)) = s[j] :: unescL ((innerL s.data.toList).drop j) := by
  obtain ⟨k, rfl⟩ : ∃ k, j = k + 1 := ⟨j - 1, by omega⟩
  rw [Nat.add_sub_cancel, inner_at s k h]
  rcases hc with hc | hc
  · exact unescL_plain _ _ hc
  · have : (innerL s.data.toList).drop (k + 1) = [] := List.drop_of_length_le (by rw [innerL_length, list_length]; omega)
    rw [this]
    rfl
theorem plain_two (s : ByteArray) (j : Nat) (h0 : 1 ≤ j) (h : j + 2 < s.size) (hc : s[j] = 125) : unescL ((innerL s.data.toList).drop (j - 1)) = (s[j + 1] ^^^ 32) :: unescL ((innerL s.data.toList).drop (j + 1)) := by
  obtain ⟨k, rfl⟩ : ∃ k, j = k + 1 := ⟨j - 1, by omega⟩
  rw [Nat.add_sub_cancel, inner_at s k (by omega), inner_at s (k + 1) (by omega), hc]
  exact unescL_turned _ _
theorem snoc_eq {l a b r : List UInt8} {c : UInt8} (h : l ++ a = r) (ha : a = c :: b) : (l ++ [c]) ++ b = r := by
  rw [← h, ha]; simp
set_option maxRecDepth 100000 in
set_option maxHeartbeats 800000 in
theorem l02Plain_any (s : ByteArray) (w : World) (hs : s.size ≤ 8000) :
    Calls Try.prog 70 #[.string s] w fun e w' => e = .returned (.string (bytesOf (unescL (innerL s.data.toList)))) ∧ Below w.heap.size w w' := by
  obtain ⟨i0, hi, hz0, hz1, hz2⟩ := info_parts info5
  go_enter Try.func70, Try.ntmps70
  go_wp2
  go_loopw [3, 4] (fun v i wr => ∃ (j : Nat) (l : List UInt8), 1 ≤ j ∧ i = .int .i64 j ∧ Hid (l ++ unescL ((innerL s.data.toList).drop (j - 1)) = unescL (innerL s.data.toList)) ∧ (j < 8000 ∧ l.length < j) ∧ wr.ownsRow w.heap.size 5 1 v l.length (cellsC l) ∧ Below w.heap.size w wr)
    (fun _ i _ => s.size - (intOf i).toNat)
  case atStart => exact ⟨1, [], Nat.le_refl _, rfl, rfl, by simp, World.ownsRow_made _ #[] 0 (Nat.le_refl _) (by decide) rfl, (Below.refl _ _).alloc (Nat.le_refl _) _⟩
  case round =>
    obtain ⟨j, l, hj1, rfl, HL, ⟨hj8, hll⟩, hown, hbel⟩ := hrel
    have hsz := hbel.size
    by_cases hlt : j + 1 < s.size
    · have hlt' : (j : Int) < (s.size : Int) - 1 := by omega
      have hc125 := is125 s[j]
      by_cases h1 : s[j] = 125
      · by_cases h2 : j + 2 < s.size
        · have hd : Hid _ := plain_two s j hj1 h2 h1
          simp only [h1, decide_true] at hc125
          rw [← h1] at hc125
          have e32' := xor32 s[j + 1]
          have h2' : (j : Int) + 1 < (s.size : Int) - 1 := by omega
          clear h1
          go_wp2_with (at_builtin; refine wpList_append_own _ rfl (.tmp 33) (.tmp 35) 22 rfl w.heap.size 5 i0 (.int .u8 0) 1 1 Try.underlying22 hi hz0 hz1 hz2 rfl (by decide) _ _ _ rfl (hown.alloc _) ⟨wr.heap.size, 0, none⟩ 1 1 [_] rfl rfl (cells_new _ _ _) (by intro x hx; simp at hx; subst hx; rfl) (by unfold maxLen; omega) (by omega) (by simp; omega) ?_; intro v' w2 hown' hgrow _)
          go_roundw
          case rel => exact ⟨j + 2, l ++ [s[j + 1] ^^^ 32], by omega, by go_num, snoc_eq HL.out hd.out, ⟨by omega, by rw [List.length_append, List.length_singleton]; omega⟩, own_add rfl rfl rfl hown', (hbel.alloc hsz _).grown hgrow (by simp; omega) (fun k e => (hown.lt k e).1)⟩
          case measure => simp [intOf]; omega
        · have hd : Hid _ := plain_one s j hj1 hlt (.inr h2)
          simp only [h1, decide_true] at hc125
          rw [← h1] at hc125
          have h2' : ¬ (j : Int) + 1 < (s.size : Int) - 1 := by omega
          clear h1
          go_wp2_with (at_builtin; refine wpList_append_own _ rfl (.tmp 33) (.tmp 35) 22 rfl w.heap.size 5 i0 (.int .u8 0) 1 1 Try.underlying22 hi hz0 hz1 hz2 rfl (by decide) _ _ _ rfl (hown.alloc _) ⟨wr.heap.size, 0, none⟩ 1 1 [_] rfl rfl (cells_new _ _ _) (by intro x hx; simp at hx; subst hx; rfl) (by unfold maxLen; omega) (by omega) (by simp; omega) ?_; intro v' w2 hown' hgrow _)
          go_roundw
          case rel => exact ⟨j + 1, l ++ [s[j]], by omega, by go_num, snoc_eq HL.out hd.out, ⟨by omega, by rw [List.length_append, List.length_singleton]; omega⟩, own_add rfl rfl rfl hown', (hbel.alloc hsz _).grown hgrow (by simp; omega) (fun k e => (hown.lt k e).1)⟩
          case measure => simp [intOf]; omega
      · have hd : Hid _ := plain_one s j hj1 hlt (.inl h1)
        simp only [h1, decide_false] at hc125
        clear h1
        go_wp2_with (at_builtin; refine wpList_append_own _ rfl (.tmp 33) (.tmp 35) 22 rfl w.heap.size 5 i0 (.int .u8 0) 1 1 Try.underlying22 hi hz0 hz1 hz2 rfl (by decide) _ _ _ rfl (hown.alloc _) ⟨wr.heap.size, 0, none⟩ 1 1 [_] rfl rfl (cells_new _ _ _) (by intro x hx; simp at hx; subst hx; rfl) (by unfold maxLen; omega) (by omega) (by simp; omega) ?_; intro v' w2 hown' hgrow _)
        go_roundw
        case rel => exact ⟨j + 1, l ++ [s[j]], by omega, by go_num, snoc_eq HL.out hd.out, ⟨by omega, by rw [List.length_append, List.length_singleton]; omega⟩, own_add rfl rfl rfl hown', (hbel.alloc hsz _).grown hgrow (by simp; omega) (fun k e => (hown.lt k e).1)⟩
        case measure => simp [intOf]; omega
    · have hlt' : ¬ (j : Int) < (s.size : Int) - 1 := by omega
      have hcv := OwnM.conv (P := Try.prog) 22 9 Try.underlying22 Try.underlying5 Try.underlying9 (OwnM.own hown)
      go_wp2
      go_ret
      exact ⟨by rw [← HL.out, List.drop_of_length_le (by rw [innerL_length, list_length]; omega)]; simp [unescL]; rfl, hbel⟩

/-- what the program's way answers -/
def unV (s : ByteArray) : Value := match unT s.data.toList with
  | none => .tuple #[.string ByteArray.empty, .bool false]
  | some p => .tuple #[.string (bytesOf p), .bool true]
theorem un_plain (s : ByteArray) (k : Nat) (h : k < s.size) (h1 : s[k] ≠ 126) (h2 : s[k] ≠ 125) : unT (s.data.toList.drop k) = (unT (s.data.toList.drop (k + 1))).map (s[k] :: ·) := by
  rw [list_at s k h]; exact unT_plain _ _ h1 h2
theorem un_flag (s : ByteArray) (k : Nat) (h : k < s.size) (h1 : s[k] = 126) : unT (s.data.toList.drop k) = none := by
  rw [list_at s k h, h1]; exact unT_flag _
theorem un_end (s : ByteArray) (k : Nat) (h : k < s.size) (h1 : s[k] = 125) (h2 : ¬ k + 1 < s.size) : unT (s.data.toList.drop k) = none := by
  rw [list_at s k h, h1, List.drop_of_length_le (by rw [list_length]; omega)]; exact unT_end
theorem un_turn (s : ByteArray) (k : Nat) (h : k + 1 < s.size) (h1 : s[k] = 125) (h2 : needE (s[k + 1] ^^^ 32) = true) : unT (s.data.toList.drop k) = (unT (s.data.toList.drop (k + 2))).map ((s[k + 1] ^^^ 32) :: ·) := by
  rw [list_at s k (by omega), h1, list_at s (k + 1) h]; exact unT_turn _ _ h2
theorem un_no (s : ByteArray) (k : Nat) (h : k + 1 < s.size) (h1 : s[k] = 125) (h2 : needE (s[k + 1] ^^^ 32) = false) : unT (s.data.toList.drop k) = none := by
  rw [list_at s k (by omega), h1, list_at s (k + 1) h]; exact unT_no _ _ h2
theorem map_snoc {l : List UInt8} {c : UInt8} {a b r : Option (List UInt8)} (h : a.map (l ++ ·) = r) (ha : a = b.map (c :: ·)) : b.map ((l ++ [c]) ++ ·) = r := by
  rw [← h, ha, Option.map_map]
  congr 1
  funext x
  simp
theorem unV_none {s : ByteArray} {l : List UInt8} {a : Option (List UInt8)} (h : a.map (l ++ ·) = unT s.data.toList) (ha : a = none) : unV s = .tuple #[.string ByteArray.empty, .bool false] := by
  rw [ha] at h
  unfold unV
  rw [← h]
  rfl
theorem unV_some {s : ByteArray} {l : List UInt8} {a : Option (List UInt8)} (h : a.map (l ++ ·) = unT s.data.toList) (ha : a = some []) : unV s = .tuple #[.string (bytesOf l), .bool true] := by
  rw [ha] at h
  unfold unV
  rw [← h]
  simp
end Go.Proofs.Ytiaphaghjklhaaa
