/- THE WALKS of escapes taken back and of a body ahead of its check, as the program does both. -/
import Derived.Test.YtiaphaghjklhaaaRead
import Derived.WalkKit
import Derived.WalkSpells
import Derived.Outline
import Derived.Below
import Derived.Maps.AppendAt
import Derived.Deep.RegionHeld3
import Derived.Deep.QuietTactic
import Derived.BigQuiet
namespace Go.Proofs.Ytiaphaghjklhaaa
open Go.RowKit
set_option linter.unusedVariables false

theorem ret_eq {a b : Value} (h : a = b) : Ending.returned a = .returned b := by rw [h]
set_option maxRecDepth 100000 in
set_option maxHeartbeats 800000 in
theorem unescapeText_any (s : ByteArray) (w : World) (hs : s.size ≤ 8000) :
    Calls Try.prog 62 #[.string s] w fun e w' => e = .returned (unV s) ∧ Below w.heap.size w w' := by
  obtain ⟨i0, hi, hz0, hz1, hz2⟩ := info_parts info5
  go_enter Try.func62, Try.ntmps62
  go_wp2
  go_loopw [4, 5] (fun v i wr => ∃ (k : Nat) (l : List UInt8), k ≤ s.size ∧ i = .int .i64 k ∧ Hid ((unT (s.data.toList.drop k)).map (l ++ ·) = unT s.data.toList) ∧ l.length ≤ k ∧ wr.ownsRow w.heap.size 5 1 v l.length (cellsC l) ∧ Below w.heap.size w wr)
    (fun _ i _ => s.size - (intOf i).toNat)
  case atStart => exact ⟨0, [], Nat.zero_le _, rfl, by simp [Hid], by simp, World.ownsRow_nil _ _ _ _, Below.refl _ _⟩
  case round =>
    obtain ⟨k, l, hk, rfl, HL, hll, hown, hbel⟩ := hrel
    have hsz := hbel.size
    by_cases hlt : k < s.size
    · have e126 := is126 s[k]
      have e125 := is125 s[k]
      by_cases h1 : s[k] = 126
      · have hd : Hid _ := un_flag s k hlt h1
        simp only [h1, decide_true] at e126
        rw [← h1] at e126
        clear h1 e125
        go_wp2
        go_ret2
        exact ⟨ret_eq (unV_none HL.out hd.out).symm, hbel⟩
      · simp only [h1, decide_false] at e126
        by_cases h2 : s[k] = 125
        · simp only [h2, decide_true] at e125
          rw [← h2] at e125
          by_cases h3 : k + 1 < s.size
          · have q3 : ((k : Int) + 1 == (s.size : Int)) = false := by simp; omega
            have e32 := xor32 s[k + 1]
            have HNE : Hid _ := fun w => needsEscape_any (s[k + 1] ^^^ 32) w
            by_cases h4 : needE (s[k + 1] ^^^ 32) = true
            · have hd : Hid _ := un_turn s k h3 h2 h4
              rw [h4] at HNE
              clear h1 h2 h4
              go_wp2_with (first
                | (go_at_call 96; refine (HNE.out _).mono ?_; rintro e w1 ⟨rfl, rfl⟩)
                | (at_builtin; refine wpList_append_own _ rfl (.tmp 38) (.tmp 40) 22 rfl w.heap.size 5 i0 (.int .u8 0) 1 1 Try.underlying22 hi hz0 hz1 hz2 rfl (by decide) _ _ _ rfl (hown.alloc _) ⟨wr.heap.size, 0, none⟩ 1 1 [_] rfl rfl (cells_new _ _ _) (by intro x hx; simp at hx; subst hx; rfl) (by unfold maxLen; omega) (by omega) (by simp; omega) ?_; intro v' w2 hown' hgrow _))
              go_roundw
              case rel => exact ⟨k + 2, l ++ [s[k + 1] ^^^ 32], by omega, by go_num, map_snoc HL.out hd.out, by rw [List.length_append, List.length_singleton]; omega, own_add rfl rfl rfl hown', (hbel.alloc hsz _).grown hgrow (by simp; omega) (fun k e => (hown.lt k e).1)⟩
              case measure => simp [intOf]; omega
            · have h4' : needE (s[k + 1] ^^^ 32) = false := by simpa using h4
              have hd : Hid _ := un_no s k h3 h2 h4'
              rw [h4'] at HNE
              clear h1 h2 h4 h4'
              go_wp2_with (go_at_call 96; refine (HNE.out _).mono ?_; rintro e w1 ⟨rfl, rfl⟩)
              go_ret2
              exact ⟨ret_eq (unV_none HL.out hd.out).symm, hbel⟩
          · have q3 : ((k : Int) + 1 == (s.size : Int)) = true := by simp; omega
            have hd : Hid _ := un_end s k hlt h2 h3
            clear h1 h2
            go_wp2
            go_ret2
            exact ⟨ret_eq (unV_none HL.out hd.out).symm, hbel⟩
        · simp only [h2, decide_false] at e125
          have hd : Hid _ := un_plain s k hlt h1 h2
          clear h1 h2
          go_wp2_with (at_builtin; refine wpList_append_own _ rfl (.tmp 38) (.tmp 40) 22 rfl w.heap.size 5 i0 (.int .u8 0) 1 1 Try.underlying22 hi hz0 hz1 hz2 rfl (by decide) _ _ _ rfl (hown.alloc _) ⟨wr.heap.size, 0, none⟩ 1 1 [_] rfl rfl (cells_new _ _ _) (by intro x hx; simp at hx; subst hx; rfl) (by unfold maxLen; omega) (by omega) (by simp; omega) ?_; intro v' w2 hown' hgrow _)
          go_roundw
          case rel => exact ⟨k + 1, l ++ [s[k]], by omega, by go_num, map_snoc HL.out hd.out, by rw [List.length_append, List.length_singleton]; omega, own_add rfl rfl rfl hown', (hbel.alloc hsz _).grown hgrow (by simp; omega) (fun k e => (hown.lt k e).1)⟩
          case measure => simp [intOf]; omega
    · have hcv := OwnM.conv (P := Try.prog) 22 9 Try.underlying22 Try.underlying5 Try.underlying9 (OwnM.own hown)
      have hd : Hid (unT (s.data.toList.drop k) = some []) := by rw [List.drop_of_length_le (by rw [list_length]; omega)]; rfl
      go_wp2
      go_ret2
      exact ⟨ret_eq (unV_some HL.out hd.out).symm, hbel⟩

theorem beqF_no {a b : ByteArray} (h : a ≠ b) : (a.toList == b.toList) = false := by
  rw [Lib.toList_data, Lib.toList_data]
  simp only [beq_eq_false_iff_ne, ne_eq]
  intro e
  exact h (ByteArray.ext (Array.toList_inj.1 e))
theorem beqF_yes {a b : ByteArray} (h : a = b) : (a.toList == b.toList) = true := by rw [h]; simp
/-- what stands ahead of the check, and the check -/
def headB (s : ByteArray) : ByteArray := s.extract 0 (s.size - 2)
def tailB (s : ByteArray) : ByteArray := s.extract (s.size - 2) s.size
theorem headB_list (s : ByteArray) : (headB s).data.toList = s.data.toList.take (s.data.toList.length - 2) := by
  unfold headB
  rw [Lib.extract_data, List.drop_zero, Nat.sub_zero, list_length]
theorem tailB_list (s : ByteArray) : (tailB s).data.toList = s.data.toList.drop (s.data.toList.length - 2) := by
  unfold tailB
  rw [Lib.extract_data, list_length, List.take_of_length_le (by rw [List.length_drop, list_length]; exact Nat.le_refl _)]
theorem headB_size (s : ByteArray) : (headB s).size = s.size - 2 := by unfold headB; rw [ByteArray.size_extract]; omega
theorem bytes_ext {a b : ByteArray} : a = b ↔ a.data.toList = b.data.toList := ⟨fun h => by rw [h], fun h => ByteArray.ext (Array.toList_inj.1 h)⟩
theorem check_iff (s : ByteArray) : checkB (headB s) = tailB s ↔ checkL (s.data.toList.take (s.data.toList.length - 2)) = s.data.toList.drop (s.data.toList.length - 2) := by
  rw [bytes_ext, tailB_list, checkB_eq, bytesOf_list, headB_list]
def chkV (s : ByteArray) : Value := if 3 ≤ s.size ∧ checkB (headB s) = tailB s then .tuple #[.string (headB s), .bool true] else .tuple #[.string ByteArray.empty, .bool false]
theorem slice_head (s : ByteArray) (h : 2 ≤ s.size) (w : World) : (Instr.slice 9 (.string s) none (some (.int .i64 ((s.size : Int) - 2))) none).run Try.prog w = .ok (.string (headB s)) w := by
  rw [run_slice_string_to_if w 9 s .i64 ((s.size : Int) - 2) Try.underlying9, if_pos (by omega)]
  unfold headB
  congr 4
  omega
theorem slice_tail (s : ByteArray) (h : 2 ≤ s.size) (w : World) : (Instr.slice 9 (.string s) (some (.int .i64 ((s.size : Int) - 2))) none none).run Try.prog w = .ok (.string (tailB s)) w := by
  rw [run_slice_string_from_if w 9 s .i64 ((s.size : Int) - 2) Try.underlying9, if_pos (by omega)]
  unfold tailB
  congr 4
  omega
theorem below_drewN (w : World) (n : Nat) : Below w.heap.size w (w.drewN n) := ⟨rfl, rfl, rfl, Nat.le_refl _, fun _ _ => rfl⟩
set_option maxRecDepth 100000 in
set_option maxHeartbeats 800000 in
theorem checkedBody_any (s : ByteArray) (w : World) (hs : s.size ≤ 8000) :
    Calls Try.prog 63 #[.string s] w fun e w' => e = .returned (chkV s) ∧ Below w.heap.size w w' := by
  unfold chkV
  by_cases h1 : s.size < 3
  · rw [if_neg (by omega)]
    have h1' : decide ((s.size : Int) - 2 < 1) = true := by simp; omega
    go_enter Try.func63, Try.ntmps63
    go_wp2
    go_quiet (fail)
    go_wp2
    go_ret2
    exact ⟨rfl, below_drewN _ nq⟩
  have h1' : decide ((s.size : Int) - 2 < 1) = false := by simp; omega
  have hh := headB_size s
  have HC : Hid _ := fun w => checkText_any (headB s) w (by omega)
  have HP : Hid _ := fun w => copyText_any (headB s) w (by omega)
  have s1 := slice_head s (by omega)
  have s2 := slice_tail s (by omega)
  have hwr : IntKind.i64.wrap ((s.size : Int) - 2) = (s.size : Int) - 2 := by simp [IntKind.wrap, IntKind.bits, IntKind.signed]; omega
  clear hh
  generalize headB s = t at HC HP s1 ⊢
  generalize tailB s = u at s2 ⊢
  generalize checkB t = K at HC ⊢
  by_cases h3 : K = u
  · rw [if_pos ⟨by omega, h3⟩]
    have e1 := beqF_yes h3.symm
    clear h3
    go_enter Try.func63, Try.ntmps63
    go_wp2
    go_region_held3 (fun w' => Below w.heap.size w w') (first | assumption | exact Below.drew (Below.refl _ _) | exact keepB (by assumption) (by simp) hb1) (first | (go_at_call 59; refine (HC.out _).mono ?_; rintro e w1 ⟨rfl, hb1⟩))
    have hS : Below w.heap.size w w1 := by assumption
    go_wp2_with (go_at_call 53; refine (HP.out _).mono ?_; rintro e w2 ⟨rfl, hb2⟩)
    go_ret2
    exact ⟨rfl, keepB hS (Nat.le_refl _) hb2⟩
  · rw [if_neg (fun h => h3 h.2)]
    have e1 := beqF_no (fun e => h3 e.symm)
    clear h3
    go_enter Try.func63, Try.ntmps63
    go_wp2
    go_region_held3 (fun w' => Below w.heap.size w w') (first | assumption | exact Below.drew (Below.refl _ _) | exact keepB (by assumption) (by simp) hb1) (first | (go_at_call 59; refine (HC.out _).mono ?_; rintro e w1 ⟨rfl, hb1⟩))
    have hS : Below w.heap.size w w1 := by assumption
    go_wp2
    go_ret2
    exact ⟨rfl, hS⟩

/-- what is told of a text as a frame -/
def textOutF (t : ByteArray) (n c : Int) : Value := .agg #[.string t, .int .i64 n, .int .i64 c]
def rdV (s : ByteArray) : Value := textOutF (bytesOf (readL s.data.toList).1) 0 (readL s.data.toList).2
end Go.Proofs.Ytiaphaghjklhaaa
