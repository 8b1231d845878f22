/- THE WALKS of NameRight, the program's and the model's: both answer whether the text is a name. -/
import Derived.Test.YtmloafjdnjkiiadProg
import Derived.Test.YtmloafjdnjkiiadPlain
import Derived.WalkKit
import Derived.WalkSpells
import Derived.Outline
import Derived.Below
namespace Go.Proofs.Ytmloafjdnjkiiad
open Go.RowKit

def okC (i c : Nat) : Prop := (97 ≤ c ∧ c ≤ 122) ∨ (i ≠ 0 ∧ ((48 ≤ c ∧ c ≤ 57) ∨ c = 95))
def nameB (s : ByteArray) : Bool := decide (1 ≤ s.size ∧ s.size ≤ 20 ∧ ∀ i, i < s.size → (97 ≤ (s.data.toList.getD i 0).toNat ∧ (s.data.toList.getD i 0).toNat ≤ 122) ∨ (i ≠ 0 ∧ ((48 ≤ (s.data.toList.getD i 0).toNat ∧ (s.data.toList.getD i 0).toNat ≤ 57) ∨ (s.data.toList.getD i 0).toNat = 95)))
theorem name_no {s : ByteArray} (k : Nat) (h : k < s.size) (hn : ¬ okC k s[k].toNat) : nameB s = false := by
  unfold nameB
  rw [decide_eq_false_iff_not]
  rintro ⟨_, _, ha⟩
  have : okC k (s.data.toList.getD k 0).toNat := ha k h
  rw [show s.data.toList.getD k 0 = s[k] from by simp [h]; rfl] at this
  exact hn this
theorem ok_next {s : ByteArray} {k : Nat} (h : k < s.size) (ha : ∀ i, i < k → okC i (s.data.toList.getD i 0).toNat) (hn : okC k s[k].toNat) :
    ∀ i, i < k + 1 → okC i (s.data.toList.getD i 0).toNat := by
  intro i hi
  by_cases e : i = k
  · subst e; rw [show s.data.toList.getD i 0 = s[i] from by simp [h]; rfl]; exact hn
  · exact ha i (by omega)

set_option maxHeartbeats 400000 in
theorem specName_any (s : ByteArray) (w : World) (hs : s.size ≤ maxLen) :
    Calls Try.prog 10 #[.string s] w fun e w' => e = .returned (.bool (nameB s)) ∧ w' = w := by
  unfold maxLen at hs
  by_cases h1 : s.size < 1
  · have e : nameB s = false := by unfold nameB; rw [decide_eq_false_iff_not]; omega
    rw [e]
    go_enter Try.func10, Try.ntmps10
    go_wp2
    go_ret
    exact ⟨rfl, rfl⟩
  by_cases h2 : 20 < s.size
  · have e : nameB s = false := by unfold nameB; rw [decide_eq_false_iff_not]; omega
    rw [e]
    go_enter Try.func10, Try.ntmps10
    go_wp2
    go_ret
    exact ⟨rfl, rfl⟩
  go_enter Try.func10, Try.ntmps10
  go_wp2
  go_loop [3] (fun i => ∃ k : Nat, k ≤ s.size ∧ i = .int .i64 k ∧ Hid (∀ i, i < k → okC i (s.data.toList.getD i 0).toNat)) (fun i => s.size - (intOf i).toNat)
  case atStart => exact ⟨0, Nat.zero_le _, rfl, show ∀ i, _ → _ from fun i h => absurd h (by omega)⟩
  case round =>
    obtain ⟨k, hk, rfl, HA⟩ := hrel
    by_cases hlt : k < s.size
    · rcases (show ((97 ≤ s[k].toNat ∧ s[k].toNat ≤ 122) ∨ (s[k].toNat < 97 ∨ 122 < s[k].toNat)) from by omega) with ⟨a1, a2⟩ | a
      · have hok : Hid (okC k s[k].toNat) := show okC _ _ from by unfold okC; omega
        go_wp2
        go_round
        case rel => exact ⟨k + 1, by omega, by go_num, ok_next hlt HA.out hok.out⟩
        case measure => simp [intOf]; omega
      · by_cases k0 : k = 0
        · subst k0
          have hno : Hid (nameB s = false) := name_no 0 hlt (by unfold okC; omega)
          rcases a with a | a
          · go_wp2
            go_ret
            exact ⟨ret_bool hno.out.symm, rfl⟩
          · have d1 : decide ((s[0].toNat : Int) ≤ 122) = false := by simp; omega
            go_wp2
            go_ret
            exact ⟨ret_bool hno.out.symm, rfl⟩
        · rcases (show (48 ≤ s[k].toNat ∧ s[k].toNat ≤ 57) ∨ s[k].toNat = 95 ∨ (s[k].toNat ≠ 95 ∧ (s[k].toNat < 48 ∨ (57 < s[k].toNat ∧ s[k].toNat < 97) ∨ 122 < s[k].toNat)) from by omega) with ⟨b1, b2⟩ | b | ⟨b1, b2⟩
          · have hok : Hid (okC k s[k].toNat) := show okC _ _ from by unfold okC; omega
            rcases a with a | a
            · go_wp2
              go_round
              case rel => exact ⟨k + 1, by omega, by go_num, ok_next hlt HA.out hok.out⟩
              case measure => simp [intOf]; omega
            · omega
          · have hok : Hid (okC k s[k].toNat) := show okC _ _ from by unfold okC; omega
            clear a
            go_wp2
            go_round
            case rel => exact ⟨k + 1, by omega, by go_num, ok_next hlt HA.out hok.out⟩
            case measure => simp [intOf]; omega
          · have hno : Hid (nameB s = false) := name_no k hlt (by unfold okC; omega)
            have c1 : ((s[k].toNat : Int) != 95) = true := by simp; omega
            have c0 : ((k : Int) == 0) = false := by simp; omega
            clear b1 a
            rcases b2 with b2 | ⟨b2, b3⟩ | b2
            · go_wp2
              go_ret
              exact ⟨ret_bool hno.out.symm, rfl⟩
            · have d2 : decide ((s[k].toNat : Int) ≤ 57) = false := by simp; omega
              go_wp2
              go_ret
              exact ⟨ret_bool hno.out.symm, rfl⟩
            · have d1 : decide ((s[k].toNat : Int) ≤ 122) = false := by simp; omega
              have d2 : decide ((s[k].toNat : Int) ≤ 57) = false := by simp; omega
              go_wp2
              go_ret
              exact ⟨ret_bool hno.out.symm, rfl⟩
    · go_wp2
      go_ret
      exact ⟨ret_bool (Eq.symm (by unfold nameB; rw [decide_eq_true_iff]; exact ⟨by omega, by omega, by rw [show s.size = k by omega]; exact HA.out⟩)), rfl⟩

theorem isLetter_any (c : Nat) (w : World) :
    Calls Try.prog 21 #[.int .u8 c] w fun e w' => e = .returned (.bool (decide (97 ≤ c ∧ c ≤ 122))) ∧ w' = w := by
  rcases (show (97 ≤ c ∧ c ≤ 122) ∨ c < 97 ∨ (97 ≤ c ∧ 122 < c) from by omega) with ⟨a1, a2⟩ | a | ⟨a1, a2⟩
  · rw [decide_eq_true (show 97 ≤ c ∧ c ≤ 122 from ⟨a1, a2⟩)]
    have d1 : decide ((c : Int) ≤ 122) = true := by simp; omega
    go_enter Try.func21, Try.ntmps21
    go_wp2
    go_ret
    exact ⟨rfl, rfl⟩
  · rw [decide_eq_false (show ¬ (97 ≤ c ∧ c ≤ 122) by omega)]
    go_enter Try.func21, Try.ntmps21
    go_wp2
    go_ret
    exact ⟨rfl, rfl⟩
  · rw [decide_eq_false (show ¬ (97 ≤ c ∧ c ≤ 122) by omega)]
    have d1 : decide ((c : Int) ≤ 122) = false := by simp; omega
    go_enter Try.func21, Try.ntmps21
    go_wp2
    go_ret
    exact ⟨rfl, rfl⟩
theorem isDigit_any (c : Nat) (w : World) :
    Calls Try.prog 22 #[.int .u8 c] w fun e w' => e = .returned (.bool (decide (48 ≤ c ∧ c ≤ 57))) ∧ w' = w := by
  rcases (show (48 ≤ c ∧ c ≤ 57) ∨ c < 48 ∨ (48 ≤ c ∧ 57 < c) from by omega) with ⟨a1, a2⟩ | a | ⟨a1, a2⟩
  · rw [decide_eq_true (show 48 ≤ c ∧ c ≤ 57 from ⟨a1, a2⟩)]
    have d1 : decide ((c : Int) ≤ 57) = true := by simp; omega
    go_enter Try.func22, Try.ntmps22
    go_wp2
    go_ret
    exact ⟨rfl, rfl⟩
  · rw [decide_eq_false (show ¬ (48 ≤ c ∧ c ≤ 57) by omega)]
    go_enter Try.func22, Try.ntmps22
    go_wp2
    go_ret
    exact ⟨rfl, rfl⟩
  · rw [decide_eq_false (show ¬ (48 ≤ c ∧ c ≤ 57) by omega)]
    have d1 : decide ((c : Int) ≤ 57) = false := by simp; omega
    go_enter Try.func22, Try.ntmps22
    go_wp2
    go_ret
    exact ⟨rfl, rfl⟩
theorem letter_yes {c : Nat} (h : 97 ≤ c ∧ c ≤ 122) (w : World) :
    Calls Try.prog 21 #[.int .u8 c] w fun e w' => e = .returned (.bool true) ∧ w' = w := by
  have := isLetter_any c w; rwa [decide_eq_true h] at this
theorem letter_no {c : Nat} (h : ¬ (97 ≤ c ∧ c ≤ 122)) (w : World) :
    Calls Try.prog 21 #[.int .u8 c] w fun e w' => e = .returned (.bool false) ∧ w' = w := by
  have := isLetter_any c w; rwa [decide_eq_false h] at this
theorem digit_yes {c : Nat} (h : 48 ≤ c ∧ c ≤ 57) (w : World) :
    Calls Try.prog 22 #[.int .u8 c] w fun e w' => e = .returned (.bool true) ∧ w' = w := by
  have := isDigit_any c w; rwa [decide_eq_true h] at this
theorem digit_no {c : Nat} (h : ¬ (48 ≤ c ∧ c ≤ 57)) (w : World) :
    Calls Try.prog 22 #[.int .u8 c] w fun e w' => e = .returned (.bool false) ∧ w' = w := by
  have := isDigit_any c w; rwa [decide_eq_false h] at this

set_option maxHeartbeats 800000 in
theorem name_any (s : ByteArray) (w : World) (hs : s.size ≤ maxLen) :
    Calls Try.prog 11 #[.string s] w fun e w' => e = .returned (.bool (nameB s)) ∧ w' = w := by
  unfold maxLen at hs
  by_cases h1 : s.size < 1
  · have e : nameB s = false := by unfold nameB; rw [decide_eq_false_iff_not]; omega
    rw [e]
    go_enter Try.func11, Try.ntmps11
    go_wp2
    go_ret
    exact ⟨rfl, rfl⟩
  by_cases h2 : 20 < s.size
  · have e : nameB s = false := by unfold nameB; rw [decide_eq_false_iff_not]; omega
    rw [e]
    go_enter Try.func11, Try.ntmps11
    go_wp2
    go_ret
    exact ⟨rfl, rfl⟩
  have hp : 0 < s.size := by omega
  by_cases h3 : 97 ≤ s[0].toNat ∧ s[0].toNat ≤ 122
  case neg =>
    have e : nameB s = false := name_no 0 hp (by unfold okC; omega)
    rw [e]
    have H3 : Hid (¬ (97 ≤ s[0].toNat ∧ s[0].toNat ≤ 122)) := h3
    clear h3 e
    go_enter Try.func11, Try.ntmps11
    go_wp2_with (go_at_call 21; refine (letter_no H3.out _).mono ?_; rintro e w' ⟨rfl, rfl⟩)
    go_ret
    exact ⟨rfl, rfl⟩
  have H3 : Hid (97 ≤ s[0].toNat ∧ s[0].toNat ≤ 122) := h3
  clear h3
  go_enter Try.func11, Try.ntmps11
  go_wp2_with (go_at_call 21; refine (letter_yes H3.out _).mono ?_; rintro e w' ⟨rfl, rfl⟩)
  go_loop [3] (fun i => ∃ k : Nat, 1 ≤ k ∧ k ≤ s.size ∧ i = .int .i64 k ∧ Hid (∀ i, i < k → okC i (s.data.toList.getD i 0).toNat)) (fun i => s.size - (intOf i).toNat)
  case atStart => exact ⟨1, by omega, by omega, rfl, ok_next hp (fun i h => absurd h (by omega)) (.inl H3.out)⟩
  case round =>
    obtain ⟨k, hk1, hk, rfl, HA⟩ := hrel
    clear H3
    by_cases hlt : k < s.size
    · by_cases a : 97 ≤ s[k].toNat ∧ s[k].toNat ≤ 122
      · have A : Hid (97 ≤ s[k].toNat ∧ s[k].toNat ≤ 122) := a
        clear a
        go_wp2_with (go_at_call 21; refine (letter_yes A.out _).mono ?_; rintro e w' ⟨rfl, rfl⟩)
        go_round
        case rel => exact ⟨k + 1, by omega, by omega, by go_num, ok_next hlt HA.out (.inl A.out)⟩
        case measure => simp [intOf]; omega
      have A : Hid (¬ (97 ≤ s[k].toNat ∧ s[k].toNat ≤ 122)) := a
      by_cases b : 48 ≤ s[k].toNat ∧ s[k].toNat ≤ 57
      · have B : Hid (48 ≤ s[k].toNat ∧ s[k].toNat ≤ 57) := b
        clear a b
        go_wp2_with (first | (go_at_call 21; refine (letter_no A.out _).mono ?_; rintro e w' ⟨rfl, rfl⟩) | (go_at_call 22; refine (digit_yes B.out _).mono ?_; rintro e w' ⟨rfl, rfl⟩))
        go_round
        case rel => exact ⟨k + 1, by omega, by omega, by go_num, ok_next hlt HA.out (.inr ⟨by omega, .inl B.out⟩)⟩
        case measure => simp [intOf]; omega
      have B : Hid (¬ (48 ≤ s[k].toNat ∧ s[k].toNat ≤ 57)) := b
      by_cases c : s[k].toNat = 95
      · have C : Hid (s[k].toNat = 95) := c
        have c1 : ((s[k].toNat : Int) != 95) = false := by simp; omega
        clear a b c
        go_wp2_with (first | (go_at_call 21; refine (letter_no A.out _).mono ?_; rintro e w' ⟨rfl, rfl⟩) | (go_at_call 22; refine (digit_no B.out _).mono ?_; rintro e w' ⟨rfl, rfl⟩))
        go_round
        case rel => exact ⟨k + 1, by omega, by omega, by go_num, ok_next hlt HA.out (.inr ⟨by omega, .inr C.out⟩)⟩
        case measure => simp [intOf]; omega
      · have c1 : ((s[k].toNat : Int) != 95) = true := by simp; omega
        have hno : Hid (nameB s = false) := name_no k hlt (by unfold okC; omega)
        clear a b c
        go_wp2_with (first | (go_at_call 21; refine (letter_no A.out _).mono ?_; rintro e w' ⟨rfl, rfl⟩) | (go_at_call 22; refine (digit_no B.out _).mono ?_; rintro e w' ⟨rfl, rfl⟩))
        go_ret
        exact ⟨ret_bool hno.out.symm, rfl⟩
    · go_wp2
      go_ret
      exact ⟨ret_bool (Eq.symm (by unfold nameB; rw [decide_eq_true_iff]; exact ⟨by omega, by omega, by rw [show s.size = k by omega]; exact HA.out⟩)), rfl⟩
end Go.Proofs.Ytmloafjdnjkiiad
