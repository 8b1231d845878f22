/- WHETHER A QUESTION IS RIGHT: the model's own. -/
import Derived.Test.YtfpibedloodjlabDoorWire
namespace Go.Proofs.YtfpibedloodjlabDoor
open Go.RowKit
set_option linter.unusedVariables false
set_option linter.unusedSimpArgs false

set_option maxRecDepth 100000 in
set_option maxHeartbeats 800000 in
theorem l03Words_anyQ (v : Value) (zs : List Int) (w : World) (hl : zs.length ≤ 10000000) (hr : RowI w v zs) :
    Calls Tryd.prog 72 #[v] w fun e w' => e = .returned (.bool (decide (zs.length ≤ 4) && zs.all wordB)) ∧ w = w' := by
  obtain ⟨p, c, rfl, hr⟩ := hr
  have HR : Hid _ := hr
  clear hr
  obtain ⟨B, hB⟩ : ∃ B, Hid (zs.all wordB = B) := ⟨_, show _ = _ from rfl⟩
  rw [hB.out]
  go_enter Tryd.func72, Tryd.ntmps72
  go_wp2
  go_loop [3] (fun i => ∃ k : Nat, k ≤ zs.length ∧ i = .int .i64 k ∧ Hid ((zs.take k).all wordB = true)) (fun i => zs.length - (intOf i).toNat)
  case atStart => exact ⟨0, Nat.zero_le _, rfl, rfl⟩
  case round =>
    obtain ⟨k, hk, rfl, HA⟩ := hrel
    by_cases hlt : k < zs.length
    · obtain ⟨g, rfl, l1, q1⟩ := HR.out k hlt
      have HN : Hid _ := @all_no wordB zs k hlt
      have HY : Hid _ := @all_take wordB zs k hlt HA.out
      generalize zs[k] = z at q1 HN HY
      cases hz : wordB z with
      | true =>
        go_wp2_with (go_at_call 31; refine (l02Word_any z _).mono ?_; rintro e w1 ⟨rfl, rfl⟩; rw [hz])
        go_round
        case rel => exact ⟨k + 1, by omega, by go_num, HY.out hz⟩
        case measure => simp [intOf]; omega
      | false =>
        go_wp2_with (go_at_call 31; refine (l02Word_any z _).mono ?_; rintro e w1 ⟨rfl, rfl⟩; rw [hz])
        go_ret
        exact ⟨ret_bool (by rw [← hB.out, HN.out hz, Bool.and_false]), rfl⟩
    · have e1 : zs.take k = zs := List.take_of_length_le (by omega)
      have e2 : B = true := by rw [← hB.out, ← HA.out, e1]
      by_cases h4 : zs.length ≤ 4
      all_goals
        go_wp2
        go_ret
        exact ⟨ret_bool (by first | exact decide_eq_true (by omega) | exact decide_eq_false (by omega) | (rw [e2, Bool.and_true]; exact decide_eq_decide.2 (by omega))), rfl⟩
set_option maxRecDepth 100000 in
set_option maxHeartbeats 800000 in
theorem specRight_1 (a m : Int) (vs : List Int) (p : Option Addr) (c : Nat) (w : World) (hl : vs.length ≤ 10000000) (hr : RowI w (.slice p vs.length c) vs) :
    Calls Tryd.prog 62 #[.agg #[.int .i64 1, .int .i64 a, .int .i64 m, .slice p vs.length c]] w fun e w' => e = .returned (.bool (wordB a && ((decide (1 ≤ m) && decide (m ≤ 64)) && decide (vs.length = 0)))) ∧ Below w.heap.size w w' := by
  have HW : Hid (∀ W, Calls Tryd.prog 31 #[.int .i64 a] W fun e w' => e = .returned (.bool (wordB a)) ∧ W = w') := fun W => l02Word_any a W
  have hA0 := all_alloc w (.cells #[.int .i64 1, .int .i64 a, .int .i64 m, .slice p vs.length c] 43)
  have HI : Hid (∀ W, Calls Tryd.prog 45 #[.int .i64 m, .int .i64 1, .int .i64 64] W fun e w' => e = .returned (.bool (decide (1 ≤ m) && decide (m ≤ 64))) ∧ W = w') := fun W => l02Is_any m 1 64 W
  generalize (decide (1 ≤ m) && decide (m ≤ 64)) = R at HI ⊢
  generalize wordB a = Wd at HW ⊢
  clear hr
  generalize vs.length = n
  have e0 : ((n : Int) == 0) = decide (n = 0) := by rw [Bool.eq_iff_iff]; simp
  cases Wd with
  | false =>
    rw [Bool.false_and]
    go_enter Tryd.func62, Tryd.ntmps62
    go_wp2_with (go_at_call 31; refine (HW.out _).mono ?_; rintro e w1 ⟨rfl, rfl⟩)
    go_ret
    exact ⟨rfl, all_alloc _ _⟩
  | true =>
    rw [Bool.true_and]
    cases R with
    | false =>
      go_enter Tryd.func62, Tryd.ntmps62
      go_wp2_with (first | (go_at_call 31; refine (HW.out _).mono ?_; rintro e w1 ⟨rfl, rfl⟩) | (go_at_call 45; refine (HI.out _).mono ?_; rintro e w1 ⟨rfl, rfl⟩))
      go_ret
      exact ⟨rfl, all_alloc _ _⟩
    | true =>
      rw [Bool.true_and]
      go_enter Tryd.func62, Tryd.ntmps62
      go_wp2_with (first | (go_at_call 31; refine (HW.out _).mono ?_; rintro e w1 ⟨rfl, rfl⟩) | (go_at_call 45; refine (HI.out _).mono ?_; rintro e w1 ⟨rfl, rfl⟩))
      go_ret
      exact ⟨ret_bool (by first | exact e0 | exact decide_eq_decide.2 (by omega)), all_alloc _ _⟩
set_option maxRecDepth 100000 in
set_option maxHeartbeats 800000 in
theorem specRight_3 (a m : Int) (vs : List Int) (p : Option Addr) (c : Nat) (w : World) (hl : vs.length ≤ 10000000) (hr : RowI w (.slice p vs.length c) vs) :
    Calls Tryd.prog 62 #[.agg #[.int .i64 3, .int .i64 a, .int .i64 m, .slice p vs.length c]] w fun e w' => e = .returned (.bool (wordB a && ((decide (1 ≤ m) && decide (m ≤ 8)) && decide (vs.length = 0)))) ∧ Below w.heap.size w w' := by
  have HW : Hid (∀ W, Calls Tryd.prog 31 #[.int .i64 a] W fun e w' => e = .returned (.bool (wordB a)) ∧ W = w') := fun W => l02Word_any a W
  have hA0 := all_alloc w (.cells #[.int .i64 3, .int .i64 a, .int .i64 m, .slice p vs.length c] 43)
  have HI : Hid (∀ W, Calls Tryd.prog 45 #[.int .i64 m, .int .i64 1, .int .i64 8] W fun e w' => e = .returned (.bool (decide (1 ≤ m) && decide (m ≤ 8))) ∧ W = w') := fun W => l02Is_any m 1 8 W
  generalize (decide (1 ≤ m) && decide (m ≤ 8)) = R at HI ⊢
  generalize wordB a = Wd at HW ⊢
  clear hr
  generalize vs.length = n
  have e0 : ((n : Int) == 0) = decide (n = 0) := by rw [Bool.eq_iff_iff]; simp
  cases Wd with
  | false =>
    rw [Bool.false_and]
    go_enter Tryd.func62, Tryd.ntmps62
    go_wp2_with (go_at_call 31; refine (HW.out _).mono ?_; rintro e w1 ⟨rfl, rfl⟩)
    go_ret
    exact ⟨rfl, all_alloc _ _⟩
  | true =>
    rw [Bool.true_and]
    cases R with
    | false =>
      go_enter Tryd.func62, Tryd.ntmps62
      go_wp2_with (first | (go_at_call 31; refine (HW.out _).mono ?_; rintro e w1 ⟨rfl, rfl⟩) | (go_at_call 45; refine (HI.out _).mono ?_; rintro e w1 ⟨rfl, rfl⟩))
      go_ret
      exact ⟨rfl, all_alloc _ _⟩
    | true =>
      rw [Bool.true_and]
      go_enter Tryd.func62, Tryd.ntmps62
      go_wp2_with (first | (go_at_call 31; refine (HW.out _).mono ?_; rintro e w1 ⟨rfl, rfl⟩) | (go_at_call 45; refine (HI.out _).mono ?_; rintro e w1 ⟨rfl, rfl⟩))
      go_ret
      exact ⟨ret_bool (by first | exact e0 | exact decide_eq_decide.2 (by omega)), all_alloc _ _⟩
set_option maxRecDepth 100000 in
set_option maxHeartbeats 800000 in
theorem specRight_5 (a m : Int) (vs : List Int) (p : Option Addr) (c : Nat) (w : World) (hl : vs.length ≤ 10000000) (hr : RowI w (.slice p vs.length c) vs) :
    Calls Tryd.prog 62 #[.agg #[.int .i64 5, .int .i64 a, .int .i64 m, .slice p vs.length c]] w fun e w' => e = .returned (.bool (wordB a && (decide (m = 1) && (decide (vs.length = 1) && vs.all bitB)))) ∧ Below w.heap.size w w' := by
  have HW : Hid (∀ W, Calls Tryd.prog 31 #[.int .i64 a] W fun e w' => e = .returned (.bool (wordB a)) ∧ W = w') := fun W => l02Word_any a W
  have hA0 := all_alloc w (.cells #[.int .i64 5, .int .i64 a, .int .i64 m, .slice p vs.length c] 43)
  have HF : Hid (∀ W, Below w.heap.size w W → Calls Tryd.prog 32 #[.slice p vs.length c, .int .i64 1] W fun e w' => e = .returned (.bool (vs.all bitB && decide (vs.length ≤ 1))) ∧ W = w') := fun W hW => l04Bits_any _ vs 1 W hl (by decide) (hr.below hW)
  generalize wordB a = Wd at HW ⊢
  generalize vs.all bitB = L at HF ⊢
  clear hr
  generalize vs.length = n at HF hA0 ⊢
  cases Wd with
  | false =>
    rw [Bool.false_and]
    go_enter Tryd.func62, Tryd.ntmps62
    go_wp2_with (go_at_call 31; refine (HW.out _).mono ?_; rintro e w1 ⟨rfl, rfl⟩)
    go_ret
    exact ⟨rfl, all_alloc _ _⟩
  | true =>
    rw [Bool.true_and]
    by_cases hm : m = 1
    · rw [decide_eq_true hm, Bool.true_and]
      subst hm
      by_cases hn : n = 1
      · subst hn
        rw [decide_eq_true rfl, Bool.true_and]
        simp only [Nat.le_refl, decide_true, Bool.and_true, Bool.true_and, show (1 : Nat) ≤ 4 from by decide] at HF
        go_enter Tryd.func62, Tryd.ntmps62
        go_wp2_with (first | (go_at_call 31; refine (HW.out _).mono ?_; rintro e w1 ⟨rfl, rfl⟩) | (go_at_call 32; refine (HF.out _ hA0).mono ?_; rintro e w1 ⟨rfl, rfl⟩))
        go_ret
        exact ⟨rfl, all_alloc _ _⟩
      · rw [decide_eq_false hn, Bool.false_and]
        have en : ((n : Int) == 1) = false := by simp; omega
        go_enter Tryd.func62, Tryd.ntmps62
        go_wp2_with (go_at_call 31; refine (HW.out _).mono ?_; rintro e w1 ⟨rfl, rfl⟩)
        go_ret
        exact ⟨rfl, all_alloc _ _⟩
    · rw [decide_eq_false hm, Bool.false_and]
      have em : (m == 1) = false := by simp [hm]
      go_enter Tryd.func62, Tryd.ntmps62
      go_wp2_with (go_at_call 31; refine (HW.out _).mono ?_; rintro e w1 ⟨rfl, rfl⟩)
      go_ret
      exact ⟨rfl, all_alloc _ _⟩
set_option maxRecDepth 100000 in
set_option maxHeartbeats 800000 in
theorem specRight_6 (a m : Int) (vs : List Int) (p : Option Addr) (c : Nat) (w : World) (hl : vs.length ≤ 10000000) (hr : RowI w (.slice p vs.length c) vs) :
    Calls Tryd.prog 62 #[.agg #[.int .i64 6, .int .i64 a, .int .i64 m, .slice p vs.length c]] w fun e w' => e = .returned (.bool (wordB a && (decide (m = 1) && (decide (vs.length = 1) && vs.all wordB)))) ∧ Below w.heap.size w w' := by
  have HW : Hid (∀ W, Calls Tryd.prog 31 #[.int .i64 a] W fun e w' => e = .returned (.bool (wordB a)) ∧ W = w') := fun W => l02Word_any a W
  have hA0 := all_alloc w (.cells #[.int .i64 6, .int .i64 a, .int .i64 m, .slice p vs.length c] 43)
  have HF : Hid (∀ W, Below w.heap.size w W → Calls Tryd.prog 72 #[.slice p vs.length c] W fun e w' => e = .returned (.bool (decide (vs.length ≤ 4) && vs.all wordB)) ∧ W = w') := fun W hW => l03Words_anyQ _ vs W hl (hr.below hW)
  generalize wordB a = Wd at HW ⊢
  generalize vs.all wordB = L at HF ⊢
  clear hr
  generalize vs.length = n at HF hA0 ⊢
  cases Wd with
  | false =>
    rw [Bool.false_and]
    go_enter Tryd.func62, Tryd.ntmps62
    go_wp2_with (go_at_call 31; refine (HW.out _).mono ?_; rintro e w1 ⟨rfl, rfl⟩)
    go_ret
    exact ⟨rfl, all_alloc _ _⟩
  | true =>
    rw [Bool.true_and]
    by_cases hm : m = 1
    · rw [decide_eq_true hm, Bool.true_and]
      subst hm
      by_cases hn : n = 1
      · subst hn
        rw [decide_eq_true rfl, Bool.true_and]
        simp only [Nat.le_refl, decide_true, Bool.and_true, Bool.true_and, show (1 : Nat) ≤ 4 from by decide] at HF
        go_enter Tryd.func62, Tryd.ntmps62
        go_wp2_with (first | (go_at_call 31; refine (HW.out _).mono ?_; rintro e w1 ⟨rfl, rfl⟩) | (go_at_call 72; refine (HF.out _ hA0).mono ?_; rintro e w1 ⟨rfl, rfl⟩))
        go_ret
        exact ⟨rfl, all_alloc _ _⟩
      · rw [decide_eq_false hn, Bool.false_and]
        have en : ((n : Int) == 1) = false := by simp; omega
        go_enter Tryd.func62, Tryd.ntmps62
        go_wp2_with (go_at_call 31; refine (HW.out _).mono ?_; rintro e w1 ⟨rfl, rfl⟩)
        go_ret
        exact ⟨rfl, all_alloc _ _⟩
    · rw [decide_eq_false hm, Bool.false_and]
      have em : (m == 1) = false := by simp [hm]
      go_enter Tryd.func62, Tryd.ntmps62
      go_wp2_with (go_at_call 31; refine (HW.out _).mono ?_; rintro e w1 ⟨rfl, rfl⟩)
      go_ret
      exact ⟨rfl, all_alloc _ _⟩
set_option maxRecDepth 100000 in
set_option maxHeartbeats 800000 in
theorem specRight_15 (a m : Int) (vs : List Int) (p : Option Addr) (c : Nat) (w : World) (hl : vs.length ≤ 10000000) (hr : RowI w (.slice p vs.length c) vs) :
    Calls Tryd.prog 62 #[.agg #[.int .i64 15, .int .i64 a, .int .i64 m, .slice p vs.length c]] w fun e w' => e = .returned (.bool (wordB a && ((decide (1 ≤ m) && decide (m ≤ 16)) && (decide ((vs.length : Int) = m) && vs.all bitB)))) ∧ Below w.heap.size w w' := by
  have HW : Hid (∀ W, Calls Tryd.prog 31 #[.int .i64 a] W fun e w' => e = .returned (.bool (wordB a)) ∧ W = w') := fun W => l02Word_any a W
  have hA0 := all_alloc w (.cells #[.int .i64 15, .int .i64 a, .int .i64 m, .slice p vs.length c] 43)
  have HF : Hid (∀ W, Below w.heap.size w W → Calls Tryd.prog 32 #[.slice p vs.length c, .int .i64 16] W fun e w' => e = .returned (.bool (vs.all bitB && decide (vs.length ≤ 16))) ∧ W = w') := fun W hW => l04Bits_any _ vs 16 W hl (by decide) (hr.below hW)
  have HI : Hid (∀ W, Calls Tryd.prog 45 #[.int .i64 m, .int .i64 1, .int .i64 16] W fun e w' => e = .returned (.bool (decide (1 ≤ m) && decide (m ≤ 16))) ∧ W = w') := fun W => l02Is_any m 1 16 W
  have hRm : Hid ((decide (1 ≤ m) && decide (m ≤ 16)) = true → m ≤ 16) := fun h => by rw [Bool.and_eq_true, decide_eq_true_eq, decide_eq_true_eq] at h; exact h.2
  generalize (decide (1 ≤ m) && decide (m ≤ 16)) = R at HI hRm ⊢
  generalize wordB a = Wd at HW ⊢
  generalize vs.all bitB = L at HF ⊢
  clear hr
  generalize vs.length = n at HF hA0 ⊢
  cases Wd with
  | false =>
    rw [Bool.false_and]
    go_enter Tryd.func62, Tryd.ntmps62
    go_wp2_with (go_at_call 31; refine (HW.out _).mono ?_; rintro e w1 ⟨rfl, rfl⟩)
    go_ret
    exact ⟨rfl, all_alloc _ _⟩
  | true =>
    rw [Bool.true_and]
    cases R with
    | false =>
      go_enter Tryd.func62, Tryd.ntmps62
      go_wp2_with (first | (go_at_call 31; refine (HW.out _).mono ?_; rintro e w1 ⟨rfl, rfl⟩) | (go_at_call 45; refine (HI.out _).mono ?_; rintro e w1 ⟨rfl, rfl⟩))
      go_ret
      exact ⟨rfl, all_alloc _ _⟩
    | true =>
      rw [Bool.true_and]
      by_cases hn : (n : Int) = m
      · have hle : n ≤ 16 := by have := hRm.out rfl; omega
        have en : ((n : Int) == m) = true := by simp [hn]
        rw [decide_eq_true hn, Bool.true_and]
        rw [decide_eq_true hle, Bool.and_true] at HF
        clear hn
        go_enter Tryd.func62, Tryd.ntmps62
        go_wp2_with (first | (go_at_call 31; refine (HW.out _).mono ?_; rintro e w1 ⟨rfl, rfl⟩) | (go_at_call 45; refine (HI.out _).mono ?_; rintro e w1 ⟨rfl, rfl⟩) | (go_at_call 32; refine (HF.out _ hA0).mono ?_; rintro e w1 ⟨rfl, rfl⟩))
        go_ret
        exact ⟨rfl, all_alloc _ _⟩
      · have en : ((n : Int) == m) = false := by simp [hn]
        rw [decide_eq_false hn, Bool.false_and]
        clear hn
        go_enter Tryd.func62, Tryd.ntmps62
        go_wp2_with (first | (go_at_call 31; refine (HW.out _).mono ?_; rintro e w1 ⟨rfl, rfl⟩) | (go_at_call 45; refine (HI.out _).mono ?_; rintro e w1 ⟨rfl, rfl⟩))
        go_ret
        exact ⟨rfl, all_alloc _ _⟩
set_option maxRecDepth 100000 in
set_option maxHeartbeats 800000 in
theorem specRight_16 (a m : Int) (vs : List Int) (p : Option Addr) (c : Nat) (w : World) (hl : vs.length ≤ 10000000) (hr : RowI w (.slice p vs.length c) vs) :
    Calls Tryd.prog 62 #[.agg #[.int .i64 16, .int .i64 a, .int .i64 m, .slice p vs.length c]] w fun e w' => e = .returned (.bool (wordB a && ((decide (1 ≤ m) && decide (m ≤ 4)) && (decide ((vs.length : Int) = m) && vs.all wordB)))) ∧ Below w.heap.size w w' := by
  have HW : Hid (∀ W, Calls Tryd.prog 31 #[.int .i64 a] W fun e w' => e = .returned (.bool (wordB a)) ∧ W = w') := fun W => l02Word_any a W
  have hA0 := all_alloc w (.cells #[.int .i64 16, .int .i64 a, .int .i64 m, .slice p vs.length c] 43)
  have HF : Hid (∀ W, Below w.heap.size w W → Calls Tryd.prog 72 #[.slice p vs.length c] W fun e w' => e = .returned (.bool (decide (vs.length ≤ 4) && vs.all wordB)) ∧ W = w') := fun W hW => l03Words_anyQ _ vs W hl (hr.below hW)
  have HI : Hid (∀ W, Calls Tryd.prog 45 #[.int .i64 m, .int .i64 1, .int .i64 4] W fun e w' => e = .returned (.bool (decide (1 ≤ m) && decide (m ≤ 4))) ∧ W = w') := fun W => l02Is_any m 1 4 W
  have hRm : Hid ((decide (1 ≤ m) && decide (m ≤ 4)) = true → m ≤ 4) := fun h => by rw [Bool.and_eq_true, decide_eq_true_eq, decide_eq_true_eq] at h; exact h.2
  generalize (decide (1 ≤ m) && decide (m ≤ 4)) = R at HI hRm ⊢
  generalize wordB a = Wd at HW ⊢
  generalize vs.all wordB = L at HF ⊢
  clear hr
  generalize vs.length = n at HF hA0 ⊢
  cases Wd with
  | false =>
    rw [Bool.false_and]
    go_enter Tryd.func62, Tryd.ntmps62
    go_wp2_with (go_at_call 31; refine (HW.out _).mono ?_; rintro e w1 ⟨rfl, rfl⟩)
    go_ret
    exact ⟨rfl, all_alloc _ _⟩
  | true =>
    rw [Bool.true_and]
    cases R with
    | false =>
      go_enter Tryd.func62, Tryd.ntmps62
      go_wp2_with (first | (go_at_call 31; refine (HW.out _).mono ?_; rintro e w1 ⟨rfl, rfl⟩) | (go_at_call 45; refine (HI.out _).mono ?_; rintro e w1 ⟨rfl, rfl⟩))
      go_ret
      exact ⟨rfl, all_alloc _ _⟩
    | true =>
      rw [Bool.true_and]
      by_cases hn : (n : Int) = m
      · have hle : n ≤ 4 := by have := hRm.out rfl; omega
        have en : ((n : Int) == m) = true := by simp [hn]
        rw [decide_eq_true hn, Bool.true_and]
        rw [decide_eq_true hle, Bool.true_and] at HF
        clear hn
        go_enter Tryd.func62, Tryd.ntmps62
        go_wp2_with (first | (go_at_call 31; refine (HW.out _).mono ?_; rintro e w1 ⟨rfl, rfl⟩) | (go_at_call 45; refine (HI.out _).mono ?_; rintro e w1 ⟨rfl, rfl⟩) | (go_at_call 72; refine (HF.out _ hA0).mono ?_; rintro e w1 ⟨rfl, rfl⟩))
        go_ret
        exact ⟨rfl, all_alloc _ _⟩
      · have en : ((n : Int) == m) = false := by simp [hn]
        rw [decide_eq_false hn, Bool.false_and]
        clear hn
        go_enter Tryd.func62, Tryd.ntmps62
        go_wp2_with (first | (go_at_call 31; refine (HW.out _).mono ?_; rintro e w1 ⟨rfl, rfl⟩) | (go_at_call 45; refine (HI.out _).mono ?_; rintro e w1 ⟨rfl, rfl⟩))
        go_ret
        exact ⟨rfl, all_alloc _ _⟩
set_option maxRecDepth 100000 in
set_option maxHeartbeats 800000 in
theorem specRight_no (k a m : Int) (v : Value) (hv : ∃ p n c, v = .slice p n c) (w : World) (h : ¬ k = 1 ∧ ¬ k = 3 ∧ ¬ k = 5 ∧ ¬ k = 6 ∧ ¬ k = 15 ∧ ¬ k = 16) :
    Calls Tryd.prog 62 #[.agg #[.int .i64 k, .int .i64 a, .int .i64 m, v]] w fun e w' => e = .returned (.bool false) ∧ Below w.heap.size w w' := by
  obtain ⟨p, n, c, rfl⟩ := hv
  have HW : Hid (∀ W, Calls Tryd.prog 31 #[.int .i64 a] W fun e w' => e = .returned (.bool (wordB a)) ∧ W = w') := fun W => l02Word_any a W
  obtain ⟨e1, e3, e5, e6, e15, e16⟩ := code_no h
  clear h
  generalize wordB a = Wd at HW
  cases Wd with
  | false =>
    go_enter Tryd.func62, Tryd.ntmps62
    go_wp2_with (go_at_call 31; refine (HW.out _).mono ?_; rintro e w1 ⟨rfl, rfl⟩)
    go_ret
    exact ⟨rfl, all_alloc _ _⟩
  | true =>
    go_enter Tryd.func62, Tryd.ntmps62
    go_wp2_with (go_at_call 31; refine (HW.out _).mono ?_; rintro e w1 ⟨rfl, rfl⟩)
    go_ret
    exact ⟨rfl, all_alloc _ _⟩
theorem specAskRight_any (q : Ak) (p : Option Addr) (c : Nat) (w : World) (hl : q.vs.length ≤ 10000000) (hr : RowI w (.slice p q.vs.length c) q.vs) :
    Calls Tryd.prog 62 #[.agg #[.int .i64 q.c, .int .i64 q.a, .int .i64 q.m, .slice p q.vs.length c]] w fun e w' => e = .returned (.bool q.right) ∧ Below w.heap.size w w' := by
  obtain ⟨k, a, m, vs⟩ := q
  unfold Ak.right Ak.fit
  dsimp only at *
  rcases code_cases k with rfl | rfl | rfl | rfl | rfl | rfl | h
  · exact specRight_1 a m vs p c w hl hr
  · exact specRight_3 a m vs p c w hl hr
  · exact specRight_5 a m vs p c w hl hr
  · exact specRight_6 a m vs p c w hl hr
  · exact specRight_15 a m vs p c w hl hr
  · exact specRight_16 a m vs p c w hl hr
  · have := specRight_no k a m (.slice p vs.length c) ⟨_, _, _, rfl⟩ w h
    obtain ⟨h1, h3, h5, h6, h15, h16⟩ := h
    rw [if_neg h1, if_neg h3, if_neg h5, if_neg h6, if_neg h15, if_neg h16, Bool.and_false]
    exact this
end Go.Proofs.YtfpibedloodjlabDoor
