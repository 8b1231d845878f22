/- THE WALK of the model's hearing of one byte, all cases. -/
import Derived.Test.YtiaphaghjklhaaaHear
import Derived.WalkKit
import Derived.WalkSpells
import Derived.Outline
import Derived.Below
import Derived.Deep.RegionHeld3
import Derived.Deep.QuietTactic
import Derived.BigQuiet
namespace Go.Proofs.Ytiaphaghjklhaaa
open Go.RowKit
set_option linter.unusedVariables false
set_option linter.unusedSimpArgs false

set_option maxRecDepth 100000 in
set_option maxHeartbeats 1600000 in
theorem l02Hear_plain (i e d : Bool) (b : ByteArray) (c : UInt8) (w : World) (hc : c ≠ 126) (hb : b.size ≤ 62) :
    Calls Try.prog 71 #[.agg #[.bool i, .bool e, .bool d, .string b], .int .u8 c.toNat] w fun x w' => x = .returned (hrV (wrOf i e d b) c) ∧ Below w.heap.size w w' := by
  have q126 := is126 c
  simp only [hc, decide_false] at q126
  have q125 := is125 c
  by_cases h1 : i = false ∨ d = true
  · rw [hr_stay hc h1]
    clear hc q125
    cases i with
    | false =>
      clear h1
      go_enter Try.func71, Try.ntmps71
      go_wp2
      exact bodyPost_ret (v := .tuple #[.agg #[.bool false, .bool e, .bool d, .string b], .string ByteArray.empty]) (by simp [results, Try.results71, go_sem]; rfl) rfl ⟨rfl, by
        repeat (first | exact Below.refl _ _ | refine Below.setCell ?_ (by simp <;> omega) _ | refine Below.alloc ?_ (by simp <;> omega) _)⟩
    | true =>
      obtain rfl : d = true := by simpa using h1
      clear h1
      go_enter Try.func71, Try.ntmps71
      go_wp2
      exact bodyPost_ret (v := .tuple #[.agg #[.bool true, .bool e, .bool true, .string b], .string ByteArray.empty]) (by simp [results, Try.results71, go_sem]; rfl) rfl ⟨rfl, by
        repeat (first | exact Below.refl _ _ | refine Below.setCell ?_ (by simp <;> omega) _ | refine Below.alloc ?_ (by simp <;> omega) _)⟩
  obtain rfl : i = true := by cases i <;> simp_all
  obtain rfl : d = false := by cases d <;> simp_all
  clear h1
  by_cases h2 : c = 125 ∧ e = false
  · obtain ⟨rfl, rfl⟩ := h2
    rw [hr_esc]
    clear hc q126 q125
    go_enter Try.func71, Try.ntmps71
    go_wp2
    exact bodyPost_ret (v := .tuple #[.agg #[.bool true, .bool true, .bool false, .string b], .string ByteArray.empty]) (by simp [results, Try.results71, go_sem]; rfl) rfl ⟨rfl, by
      repeat (first | exact Below.refl _ _ | refine Below.setCell ?_ (by simp <;> omega) _ | refine Below.alloc ?_ (by simp <;> omega) _)⟩
  by_cases h3 : 62 ≤ b.size
  · rw [hr_bad hc h2 h3]
    have h3' : (62 : Int) ≤ b.size := by omega
    cases e with
    | true =>
      clear hc h2
      by_cases h5 : c = 125
      · simp only [h5, decide_true] at q125
        rw [← h5] at q125
        clear h5
        go_enter Try.func71, Try.ntmps71
        go_wp2
        exact bodyPost_ret (v := .tuple #[.agg #[.bool true, .bool false, .bool true, .string ByteArray.empty], .string ByteArray.empty]) (by simp [results, Try.results71, go_sem]; rfl) rfl ⟨rfl, by
          repeat (first | exact Below.refl _ _ | refine Below.setCell ?_ (by simp <;> omega) _ | refine Below.alloc ?_ (by simp <;> omega) _)⟩
      · simp only [h5, decide_false] at q125
        clear h5
        go_enter Try.func71, Try.ntmps71
        go_wp2
        exact bodyPost_ret (v := .tuple #[.agg #[.bool true, .bool false, .bool true, .string ByteArray.empty], .string ByteArray.empty]) (by simp [results, Try.results71, go_sem]; rfl) rfl ⟨rfl, by
          repeat (first | exact Below.refl _ _ | refine Below.setCell ?_ (by simp <;> omega) _ | refine Below.alloc ?_ (by simp <;> omega) _)⟩
    | false =>
      have h5 : c ≠ 125 := fun e => h2 ⟨e, rfl⟩
      simp only [h5, decide_false] at q125
      clear h5 hc h2
      go_enter Try.func71, Try.ntmps71
      go_wp2
      exact bodyPost_ret (v := .tuple #[.agg #[.bool true, .bool false, .bool true, .string ByteArray.empty], .string ByteArray.empty]) (by simp [results, Try.results71, go_sem]; rfl) rfl ⟨rfl, by
        repeat (first | exact Below.refl _ _ | refine Below.setCell ?_ (by simp <;> omega) _ | refine Below.alloc ?_ (by simp <;> omega) _)⟩
  · exact l02Hear_put e b c w hc h2 (by omega)
set_option maxRecDepth 100000 in
set_option maxHeartbeats 1600000 in
theorem l02Hear_flag_in (b : ByteArray) (w : World) (hb : b.size ≤ 62) (h3 : 3 ≤ b.size) :
    Calls Try.prog 71 #[.agg #[.bool true, .bool false, .bool false, .string b], .int .u8 126] w fun x w' => x = .returned (hrV (wrOf true false false b) 126) ∧ Below w.heap.size w w' := by
  have t1 : decide ((1 : Int) ≤ (b.size : Int) - 2) = true := by simp; omega
  have s1 := slice_head b (by omega)
  have s2 := slice_tail b (by omega)
  have HK : Hid _ := fun w => l02Check_any (headB b) w (by rw [headB_size]; unfold maxLen; omega)
  have hwr : IntKind.i64.wrap ((b.size : Int) - 2) = (b.size : Int) - 2 := by simp [IntKind.wrap, IntKind.bits, IntKind.signed]; omega
  have A1 := fun h => hr_flag_yes (heard_yes b h3 h)
  have A2 := fun h => hr_flag_no (heard_no true false false b (.inr (.inr (.inr (.inr h)))))
  generalize headB b = t at s1 HK A1 A2
  generalize tailB b = u at s2 A1 A2
  generalize checkB t = K at HK A1 A2
  generalize hrV (wrOf true false false b) 126 = R at A1 A2 ⊢
  by_cases h : K = u
  · rw [A1 h]
    have e1 := beqF_yes h
    clear h A1 A2
    go_enter Try.func71, Try.ntmps71
    go_wp2
    obtain ⟨W0, hW0⟩ : ∃ W0, W0 = ((w.alloc (.cells #[.bool true, .bool false, .bool false, .string b] 35)).alloc (.cells #[.bool false, .bool false, .bool false, .string ⟨#[]⟩] 35)) := ⟨_, rfl⟩
    have hz0 : Hid (W0.heap.size = w.heap.size + 1 + 1) := show _ = _ by rw [hW0]; simp
    have hB0 : Below w.heap.size w W0 := by rw [hW0]; exact ((Below.refl _ _).alloc (Nat.le_refl _) _).alloc (by simp) _
    have hq : ∀ W, Below (w.heap.size + 1 + 1) W0 W → (W.cell? ⟨w.heap.size, 0, none⟩ = some (.bool true)) ∧ (W.cell? ⟨w.heap.size, 1, none⟩ = some (.bool false)) ∧ (W.cell? ⟨w.heap.size, 2, none⟩ = some (.bool false)) ∧ (W.cell? ⟨w.heap.size, 3, none⟩ = some (.string b)) ∧
        (W.cell? ⟨w.heap.size + 1, 0, none⟩ = some (.bool false)) ∧ (W.cell? ⟨w.heap.size + 1, 1, none⟩ = some (.bool false)) ∧ (W.cell? ⟨w.heap.size + 1, 2, none⟩ = some (.bool false)) ∧ (W.cell? ⟨w.heap.size + 1, 3, none⟩ = some (.string ⟨#[]⟩)) ∧ ∀ o, W.frozen? ⟨w.heap.size + 1, o, none⟩ = false := by
      intro W hW
      obtain ⟨k1, k2⟩ := bcellF hW
      rw [hW0] at k1 k2
      refine ⟨?_, ?_, ?_, ?_, ?_, ?_, ?_, ?_, fun o => ?_⟩
      all_goals first | (rw [k1 _ _ (by omega)]; simp; done) | (rw [k2 _ _ (by omega)]; simp)
    have q0 := fun W hW => (hq W hW).1
    have q1 := fun W hW => (hq W hW).2.1
    have q2 := fun W hW => (hq W hW).2.2.1
    have q3 := fun W hW => (hq W hW).2.2.2.1
    have p0 := fun W hW => (hq W hW).2.2.2.2.1
    have p1 := fun W hW => (hq W hW).2.2.2.2.2.1
    have p2 := fun W hW => (hq W hW).2.2.2.2.2.2.1
    have p3 := fun W hW => (hq W hW).2.2.2.2.2.2.2.1
    have pf := fun W hW o => (hq W hW).2.2.2.2.2.2.2.2 o
    rw [← hW0]
    clear hq hW0
    go_region_held3 (fun w' => Below (w.heap.size + 1 + 1) W0 w') (first | assumption | exact Below.drew (Below.refl _ _) | exact keepB (by assumption) (by rw [hz0.out]; omega) hb1) (first | (go_at_call 69; refine (HK.out _).mono ?_; rintro e w1 ⟨rfl, hb1⟩))
    have hS : Below (w.heap.size + 1 + 1) W0 w1 := by assumption
    go_wp2
    exact bodyPost_ret (v := .tuple #[.agg #[.bool true, .bool false, .bool false, .string ByteArray.empty], .string t]) (by simp [results, Try.results71, go_sem, p0 _ hS, p1 _ hS, p2 _ hS, p3 _ hS]; rfl) rfl ⟨rfl, by
      repeat (first | exact hB0.trans (hS.mono (by omega)) | refine Below.setCell ?_ (by simp <;> omega) _)⟩
  · rw [A2 h]
    have e1 := beqF_no h
    clear h A1 A2
    go_enter Try.func71, Try.ntmps71
    go_wp2
    obtain ⟨W0, hW0⟩ : ∃ W0, W0 = ((w.alloc (.cells #[.bool true, .bool false, .bool false, .string b] 35)).alloc (.cells #[.bool false, .bool false, .bool false, .string ⟨#[]⟩] 35)) := ⟨_, rfl⟩
    have hz0 : Hid (W0.heap.size = w.heap.size + 1 + 1) := show _ = _ by rw [hW0]; simp
    have hB0 : Below w.heap.size w W0 := by rw [hW0]; exact ((Below.refl _ _).alloc (Nat.le_refl _) _).alloc (by simp) _
    have hq : ∀ W, Below (w.heap.size + 1 + 1) W0 W → (W.cell? ⟨w.heap.size, 0, none⟩ = some (.bool true)) ∧ (W.cell? ⟨w.heap.size, 1, none⟩ = some (.bool false)) ∧ (W.cell? ⟨w.heap.size, 2, none⟩ = some (.bool false)) ∧ (W.cell? ⟨w.heap.size, 3, none⟩ = some (.string b)) ∧
        (W.cell? ⟨w.heap.size + 1, 0, none⟩ = some (.bool false)) ∧ (W.cell? ⟨w.heap.size + 1, 1, none⟩ = some (.bool false)) ∧ (W.cell? ⟨w.heap.size + 1, 2, none⟩ = some (.bool false)) ∧ (W.cell? ⟨w.heap.size + 1, 3, none⟩ = some (.string ⟨#[]⟩)) ∧ ∀ o, W.frozen? ⟨w.heap.size + 1, o, none⟩ = false := by
      intro W hW
      obtain ⟨k1, k2⟩ := bcellF hW
      rw [hW0] at k1 k2
      refine ⟨?_, ?_, ?_, ?_, ?_, ?_, ?_, ?_, fun o => ?_⟩
      all_goals first | (rw [k1 _ _ (by omega)]; simp; done) | (rw [k2 _ _ (by omega)]; simp)
    have q0 := fun W hW => (hq W hW).1
    have q1 := fun W hW => (hq W hW).2.1
    have q2 := fun W hW => (hq W hW).2.2.1
    have q3 := fun W hW => (hq W hW).2.2.2.1
    have p0 := fun W hW => (hq W hW).2.2.2.2.1
    have p1 := fun W hW => (hq W hW).2.2.2.2.2.1
    have p2 := fun W hW => (hq W hW).2.2.2.2.2.2.1
    have p3 := fun W hW => (hq W hW).2.2.2.2.2.2.2.1
    have pf := fun W hW o => (hq W hW).2.2.2.2.2.2.2.2 o
    rw [← hW0]
    clear hq hW0
    go_region_held3 (fun w' => Below (w.heap.size + 1 + 1) W0 w') (first | assumption | exact Below.drew (Below.refl _ _) | exact keepB (by assumption) (by rw [hz0.out]; omega) hb1) (first | (go_at_call 69; refine (HK.out _).mono ?_; rintro e w1 ⟨rfl, hb1⟩))
    have hS : Below (w.heap.size + 1 + 1) W0 w1 := by assumption
    go_wp2
    exact bodyPost_ret (v := .tuple #[.agg #[.bool true, .bool false, .bool false, .string ByteArray.empty], .string ByteArray.empty]) (by simp [results, Try.results71, go_sem, p0 _ hS, p1 _ hS, p2 _ hS, p3 _ hS]; rfl) rfl ⟨rfl, by
      repeat (first | exact hB0.trans (hS.mono (by omega)) | refine Below.setCell ?_ (by simp <;> omega) _)⟩
end Go.Proofs.Ytiaphaghjklhaaa
