/- THE WALKS of what is said: right, and its bytes: the program's and the model's. -/
import Derived.Test.YtggdjiijcoklgaaProg
import Derived.Test.YtggdjiijcoklgaaQPlainSay
import Derived.Test.YtggdjiijcoklgaaQStL
import Derived.Test.YtggdjiijcoklgaaQBox
import Derived.Test.YtggdjiijcoklgaaQSeal
import Derived.Test.YtggdjiijcoklgaaQCopyH
import Derived.Test.YtggdjiijcoklgaaQBitsR
import Derived.WalkKit
import Derived.WalkSpells
import Derived.Outline
import Derived.Below
namespace Go.Proofs.Ytggdjiijcoklgaa
open Go.RowKit
set_option linter.unusedVariables false
set_option linter.unusedSimpArgs false

theorem all_word_no {zs : List Int} {k : Nat} (h : k < zs.length) (hk : wordB zs[k] = false) : zs.all wordB = false := by
  rw [Bool.eq_false_iff]
  intro h1
  rw [List.all_eq_true] at h1
  have := h1 _ (List.getElem_mem h)
  rw [hk] at this
  cases this
theorem all_word_take {zs : List Int} {k : Nat} (h : k < zs.length) (h1 : (zs.take k).all wordB = true) (hk : wordB zs[k] = true) : (zs.take (k + 1)).all wordB = true := by
  rw [List.take_succ_eq_append_getElem h, List.all_append, h1]
  simp [hk]
set_option maxRecDepth 100000 in
set_option maxHeartbeats 800000 in
theorem wordsRight_any (v : Value) (zs : List Int) (w : World) (hl : zs.length ≤ 10000000) (hr : RowI w v zs) :
    Calls Try.prog 91 #[v] w fun e w' => e = .returned (.bool (decide (zs.length ≤ 4) && zs.all wordB)) ∧ Below w.heap.size w w' := by
  have HA : Hid (Calls Try.prog 112 #[v, .int .i64 65535] w fun e w' => e = .returned (.bool (zs.all wordB)) ∧ w = w') := allUpToS_any v zs 65535 w hl hr
  obtain ⟨p, c, rfl, hr⟩ := hr
  clear hr
  by_cases h4 : zs.length ≤ 4
  · rw [decide_eq_true h4, Bool.true_and]
    go_enter Try.func91, Try.ntmps91
    go_wp2_with (go_at_call 112; refine HA.out.mono ?_; rintro e w1 ⟨rfl, rfl⟩)
    go_ret
    exact ⟨rfl, Below.refl _ _⟩
  · rw [decide_eq_false h4, Bool.false_and]
    go_enter Try.func91, Try.ntmps91
    go_wp2
    go_ret
    exact ⟨rfl, Below.refl _ _⟩
set_option maxRecDepth 100000 in
set_option maxHeartbeats 800000 in
theorem l03Words_any (v : Value) (zs : List Int) (w : World) (hl : zs.length ≤ 10000000) (hr : RowI w v zs) :
    Calls Try.prog 84 #[v] w fun e w' => e = .returned (.bool (decide (zs.length ≤ 4) && zs.all wordB)) ∧ Below w.heap.size w w' := by
  obtain ⟨p, c, rfl, hr⟩ := hr
  have HR : Hid _ := hr
  clear hr
  obtain ⟨B, hB⟩ : ∃ B, Hid (zs.all wordB = B) := ⟨_, show _ = _ from rfl⟩
  rw [hB.out]
  go_enter Try.func84, Try.ntmps84
  go_wp2
  go_loop [3] (fun i => ∃ k : Nat, k ≤ zs.length ∧ i = .int .i64 k ∧ Hid ((zs.take k).all wordB = true)) (fun i => zs.length - (intOf i).toNat)
  case atStart => exact ⟨0, Nat.zero_le _, rfl, rfl⟩
  case round =>
    obtain ⟨k, hk, rfl, HA⟩ := hrel
    by_cases hlt : k < zs.length
    · obtain ⟨g, rfl, l1, q1⟩ := HR.out k hlt
      have HN : Hid _ := @all_word_no zs k hlt
      have HY : Hid _ := @all_word_take zs k hlt HA.out
      generalize zs[k] = z at q1 HN HY
      cases hz : wordB z with
      | true =>
        go_wp2_with (go_at_call 108; refine (l02Word_any z _).mono ?_; rintro e w1 ⟨rfl, rfl⟩; rw [hz])
        go_round
        case rel => exact ⟨k + 1, by omega, by go_num, HY.out hz⟩
        case measure => simp [intOf]; omega
      | false =>
        go_wp2_with (go_at_call 108; refine (l02Word_any z _).mono ?_; rintro e w1 ⟨rfl, rfl⟩; rw [hz])
        go_ret
        exact ⟨ret_bool (by rw [← hB.out, HN.out hz, Bool.and_false]), Below.refl _ _⟩
    · have e1 : zs.take k = zs := List.take_of_length_le (by omega)
      have e2 : B = true := by rw [← hB.out, ← HA.out, e1]
      by_cases h4 : zs.length ≤ 4
      all_goals
        go_wp2
        go_ret
        exact ⟨ret_bool (by first | exact decide_eq_true (by omega) | exact decide_eq_false (by omega) | (rw [e2, Bool.and_true]; exact decide_eq_decide.2 (by omega))), Below.refl _ _⟩

theorem joinT_data (ss : List ByteArray) : (joinT ss).data.toList = ss.flatMap (·.data.toList) := by
  have key : ∀ (l : List ByteArray) (a : ByteArray), (l.foldl (· ++ ·) a).data.toList = a.data.toList ++ l.flatMap (·.data.toList) := by
    intro l
    induction l with
    | nil => intro a; simp
    | cons b l ih => intro a; rw [List.foldl_cons, ih]; simp [ByteArray.data_append]
  have := key ss ByteArray.empty
  simpa [joinT] using this
theorem bytes_ext {a b : ByteArray} (h : a.data.toList = b.data.toList) : a = b := ByteArray.ext (Array.ext' h)
theorem joinT_nums (zs : List Int) : joinT (zs.map putB) = numsB zs := by
  apply bytes_ext
  rw [joinT_data]
  simp [numsB, numsL, List.flatMap_map, putB_list]
theorem infoS : (Try.prog.info? 9).map (fun i => (i.zero, i.size, i.bytes)) = some (some (.string ByteArray.empty), 1, 16) := by kernel_rfl
def cellsN (zs : List Int) (k : Nat) : List Value := (zs.take k).map (fun n => Value.string (putB n)) ++ List.replicate (zs.length - k) (.string ByteArray.empty)
theorem cellsN_length (zs : List Int) (k : Nat) (h : k ≤ zs.length) : (cellsN zs k).length = zs.length := by
  simp [cellsN]; omega
theorem cellsN_zero (zs : List Int) : cellsN zs 0 = List.replicate zs.length (.string ByteArray.empty) := by simp [cellsN]
theorem cellsN_step (zs : List Int) (k : Nat) (h : k < zs.length) : (cellsN zs k).set k (.string (putB zs[k])) = cellsN zs (k + 1) := by
  unfold cellsN
  rw [List.take_succ_eq_append_getElem h, List.map_append, List.set_append_right _ _ (by simp; omega)]
  rw [show zs.length - k = (zs.length - (k + 1)) + 1 by omega, List.replicate_succ]
  simp [Nat.min_eq_left (Nat.le_of_lt h)]
theorem cellsN_all (zs : List Int) : cellsN zs zs.length = (zs.map putB).map Value.string := by simp [cellsN]
end Go.Proofs.Ytggdjiijcoklgaa
