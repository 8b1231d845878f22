/- THE WALK of the program's StampLess. -/
import Derived.Test.YtggdjiijcoklgaaHStL
namespace Go.Proofs.Ytggdjiijcoklgaa
open Go.RowKit
set_option linter.unusedVariables false
set_option linter.unusedSimpArgs false

theorem index4_0 (g o b h : Int) (w : World) : (Instr.index 134 (.agg #[.int .i64 g, .int .i64 o, .int .i64 b, .int .i64 h]) (.int .i64 0)).run Try.prog w = .ok (.int .i64 g) w := by kernel_rfl
theorem index4_1 (g o b h : Int) (w : World) : (Instr.index 134 (.agg #[.int .i64 g, .int .i64 o, .int .i64 b, .int .i64 h]) (.int .i64 1)).run Try.prog w = .ok (.int .i64 o) w := by kernel_rfl
theorem index4_2 (g o b h : Int) (w : World) : (Instr.index 134 (.agg #[.int .i64 g, .int .i64 o, .int .i64 b, .int .i64 h]) (.int .i64 2)).run Try.prog w = .ok (.int .i64 b) w := by kernel_rfl
theorem index4_3 (g o b h : Int) (w : World) : (Instr.index 134 (.agg #[.int .i64 g, .int .i64 o, .int .i64 b, .int .i64 h]) (.int .i64 3)).run Try.prog w = .ok (.int .i64 h) w := by kernel_rfl
set_option maxRecDepth 100000 in
set_option maxHeartbeats 1600000 in
theorem stampLess_0 (g o b h g' o' b' h' : Int) (R T : Bool) (hne : ¬ g = g') (w : World)
    (HR : Hid (∀ w, Calls Try.prog 109 #[.agg #[.int .i64 g, .int .i64 o, .int .i64 b, .int .i64 h]] w fun e w' => e = .returned (.bool R) ∧ Below w.heap.size w w'))
    (HT : Hid (∀ w, Calls Try.prog 109 #[.agg #[.int .i64 g', .int .i64 o', .int .i64 b', .int .i64 h']] w fun e w' => e = .returned (.bool T) ∧ Below w.heap.size w w'))
    (HF : Hid (∀ w, Calls Try.prog 113 #[.agg #[.int .i64 g, .int .i64 o, .int .i64 b, .int .i64 h]] w fun e w' => e = .returned (.agg #[.int .i64 g, .int .i64 o, .int .i64 b, .int .i64 h]) ∧ Below w.heap.size w w'))
    (HG : Hid (∀ w, Calls Try.prog 113 #[.agg #[.int .i64 g', .int .i64 o', .int .i64 b', .int .i64 h']] w fun e w' => e = .returned (.agg #[.int .i64 g', .int .i64 o', .int .i64 b', .int .i64 h']) ∧ Below w.heap.size w w')) :
    Calls Try.prog 110 #[.agg #[.int .i64 g, .int .i64 o, .int .i64 b, .int .i64 h], .agg #[.int .i64 g', .int .i64 o', .int .i64 b', .int .i64 h']] w fun e w' => e = .returned (.bool (R && (T && decide (g < g')))) ∧ Below w.heap.size w w' := by
  have q0 : (g == g') = false := by simpa using hne
  have q1 : (g != g') = true := by simpa using hne
  cases R <;> cases T
  case false.false => 
    go_enter Try.func110, Try.ntmps110
    go_wp2_with (first
      | (have _ := hB1; go_at_call 109; refine (HT.out _).mono ?_; rintro e w2 ⟨rfl, hb2⟩; have hB2 := keepB hB1 (Nat.le_refl _) hb2; obtain ⟨hc2, hf2⟩ := bcellF hb2; have hy1 : w.heap.size + 1 < w2.heap.size := (by have := hb2.size; omega); have hy0 : w.heap.size < w2.heap.size := (by omega))
      | (go_at_call 109; refine (HR.out _).mono ?_; rintro e w1 ⟨rfl, hb1⟩; have hB1 := keepB (((Below.refl w.heap.size w).alloc (Nat.le_refl _) (.cells #[.int .i64 g, .int .i64 o, .int .i64 b, .int .i64 h] 30)).alloc (by simp) (.cells #[.int .i64 g', .int .i64 o', .int .i64 b', .int .i64 h'] 30)) (Nat.le_refl _) hb1; obtain ⟨hc1, hf1⟩ := bcellF hb1; have hz1 : w.heap.size + 1 < w1.heap.size := (by have := hb1.size; simp at this; omega); have hz0 : w.heap.size < w1.heap.size := (by omega))
      | (have _ := hB3; go_at_call 113; refine (HF.out _).mono ?_; rintro e w4 ⟨rfl, hb4⟩; have hB4 := keepB hA3 (Nat.le_refl _) hb4; obtain ⟨hc4, hf4⟩ := bcellF hb4)
      | (go_at_call 113; refine (HG.out _).mono ?_; rintro e w3 ⟨rfl, hb3⟩; have hB3 := keepB hB2 (Nat.le_refl _) hb3; obtain ⟨hc3, hf3⟩ := bcellF hb3; have hx1 : w.heap.size + 1 < w3.heap.size := (by have := hb3.size; omega); have hx0 : w.heap.size < w3.heap.size := (by omega); have hA3 := hB3.alloc hB3.size (.cells #[.int .i64 g', .int .i64 o', .int .i64 b', .int .i64 h'] 134)))
    go_ret
    exact ⟨rfl, hB1⟩
  case false.true => 
    go_enter Try.func110, Try.ntmps110
    go_wp2_with (first
      | (have _ := hB1; go_at_call 109; refine (HT.out _).mono ?_; rintro e w2 ⟨rfl, hb2⟩; have hB2 := keepB hB1 (Nat.le_refl _) hb2; obtain ⟨hc2, hf2⟩ := bcellF hb2; have hy1 : w.heap.size + 1 < w2.heap.size := (by have := hb2.size; omega); have hy0 : w.heap.size < w2.heap.size := (by omega))
      | (go_at_call 109; refine (HR.out _).mono ?_; rintro e w1 ⟨rfl, hb1⟩; have hB1 := keepB (((Below.refl w.heap.size w).alloc (Nat.le_refl _) (.cells #[.int .i64 g, .int .i64 o, .int .i64 b, .int .i64 h] 30)).alloc (by simp) (.cells #[.int .i64 g', .int .i64 o', .int .i64 b', .int .i64 h'] 30)) (Nat.le_refl _) hb1; obtain ⟨hc1, hf1⟩ := bcellF hb1; have hz1 : w.heap.size + 1 < w1.heap.size := (by have := hb1.size; simp at this; omega); have hz0 : w.heap.size < w1.heap.size := (by omega))
      | (have _ := hB3; go_at_call 113; refine (HF.out _).mono ?_; rintro e w4 ⟨rfl, hb4⟩; have hB4 := keepB hA3 (Nat.le_refl _) hb4; obtain ⟨hc4, hf4⟩ := bcellF hb4)
      | (go_at_call 113; refine (HG.out _).mono ?_; rintro e w3 ⟨rfl, hb3⟩; have hB3 := keepB hB2 (Nat.le_refl _) hb3; obtain ⟨hc3, hf3⟩ := bcellF hb3; have hx1 : w.heap.size + 1 < w3.heap.size := (by have := hb3.size; omega); have hx0 : w.heap.size < w3.heap.size := (by omega); have hA3 := hB3.alloc hB3.size (.cells #[.int .i64 g', .int .i64 o', .int .i64 b', .int .i64 h'] 134)))
    go_ret
    exact ⟨rfl, hB1⟩
  case true.false => 
    go_enter Try.func110, Try.ntmps110
    go_wp2_with (first
      | (have _ := hB1; go_at_call 109; refine (HT.out _).mono ?_; rintro e w2 ⟨rfl, hb2⟩; have hB2 := keepB hB1 (Nat.le_refl _) hb2; obtain ⟨hc2, hf2⟩ := bcellF hb2; have hy1 : w.heap.size + 1 < w2.heap.size := (by have := hb2.size; omega); have hy0 : w.heap.size < w2.heap.size := (by omega))
      | (go_at_call 109; refine (HR.out _).mono ?_; rintro e w1 ⟨rfl, hb1⟩; have hB1 := keepB (((Below.refl w.heap.size w).alloc (Nat.le_refl _) (.cells #[.int .i64 g, .int .i64 o, .int .i64 b, .int .i64 h] 30)).alloc (by simp) (.cells #[.int .i64 g', .int .i64 o', .int .i64 b', .int .i64 h'] 30)) (Nat.le_refl _) hb1; obtain ⟨hc1, hf1⟩ := bcellF hb1; have hz1 : w.heap.size + 1 < w1.heap.size := (by have := hb1.size; simp at this; omega); have hz0 : w.heap.size < w1.heap.size := (by omega))
      | (have _ := hB3; go_at_call 113; refine (HF.out _).mono ?_; rintro e w4 ⟨rfl, hb4⟩; have hB4 := keepB hA3 (Nat.le_refl _) hb4; obtain ⟨hc4, hf4⟩ := bcellF hb4)
      | (go_at_call 113; refine (HG.out _).mono ?_; rintro e w3 ⟨rfl, hb3⟩; have hB3 := keepB hB2 (Nat.le_refl _) hb3; obtain ⟨hc3, hf3⟩ := bcellF hb3; have hx1 : w.heap.size + 1 < w3.heap.size := (by have := hb3.size; omega); have hx0 : w.heap.size < w3.heap.size := (by omega); have hA3 := hB3.alloc hB3.size (.cells #[.int .i64 g', .int .i64 o', .int .i64 b', .int .i64 h'] 134)))
    go_ret
    exact ⟨rfl, hB2⟩
  case true.true =>
    go_enter Try.func110, Try.ntmps110
    go_wp2_with (first
      | (have _ := hB1; go_at_call 109; refine (HT.out _).mono ?_; rintro e w2 ⟨rfl, hb2⟩; have hB2 := keepB hB1 (Nat.le_refl _) hb2; obtain ⟨hc2, hf2⟩ := bcellF hb2; have hy1 : w.heap.size + 1 < w2.heap.size := (by have := hb2.size; omega); have hy0 : w.heap.size < w2.heap.size := (by omega))
      | (go_at_call 109; refine (HR.out _).mono ?_; rintro e w1 ⟨rfl, hb1⟩; have hB1 := keepB (((Below.refl w.heap.size w).alloc (Nat.le_refl _) (.cells #[.int .i64 g, .int .i64 o, .int .i64 b, .int .i64 h] 30)).alloc (by simp) (.cells #[.int .i64 g', .int .i64 o', .int .i64 b', .int .i64 h'] 30)) (Nat.le_refl _) hb1; obtain ⟨hc1, hf1⟩ := bcellF hb1; have hz1 : w.heap.size + 1 < w1.heap.size := (by have := hb1.size; simp at this; omega); have hz0 : w.heap.size < w1.heap.size := (by omega))
      | (have _ := hB3; go_at_call 113; refine (HF.out _).mono ?_; rintro e w4 ⟨rfl, hb4⟩; have hB4 := keepB hA3 (Nat.le_refl _) hb4; obtain ⟨hc4, hf4⟩ := bcellF hb4)
      | (go_at_call 113; refine (HG.out _).mono ?_; rintro e w3 ⟨rfl, hb3⟩; have hB3 := keepB hB2 (Nat.le_refl _) hb3; obtain ⟨hc3, hf3⟩ := bcellF hb3; have hx1 : w.heap.size + 1 < w3.heap.size := (by have := hb3.size; omega); have hx0 : w.heap.size < w3.heap.size := (by omega); have hA3 := hB3.alloc hB3.size (.cells #[.int .i64 g', .int .i64 o', .int .i64 b', .int .i64 h'] 134)))
    go_loop [25] (fun i => ∃ k : Nat, k ≤ 0 ∧ i = .int .i64 k) (fun i => 4 - (intOf i).toNat)
    case atStart => exact ⟨0, Nat.zero_le _, rfl⟩
    case round =>
      obtain ⟨k, hk, rfl⟩ := hrel
      have hk' : k = 0 := by omega
      rcases hk' with rfl
      · have ix := fun w => index4_0 g o b h w
        go_wp2
        go_ret
        exact ⟨rfl, hB4⟩
set_option maxRecDepth 100000 in
set_option maxHeartbeats 1600000 in
theorem stampLess_1 (g o b h o' b' h' : Int) (R T : Bool) (hne : ¬ o = o') (w : World)
    (HR : Hid (∀ w, Calls Try.prog 109 #[.agg #[.int .i64 g, .int .i64 o, .int .i64 b, .int .i64 h]] w fun e w' => e = .returned (.bool R) ∧ Below w.heap.size w w'))
    (HT : Hid (∀ w, Calls Try.prog 109 #[.agg #[.int .i64 g, .int .i64 o', .int .i64 b', .int .i64 h']] w fun e w' => e = .returned (.bool T) ∧ Below w.heap.size w w'))
    (HF : Hid (∀ w, Calls Try.prog 113 #[.agg #[.int .i64 g, .int .i64 o, .int .i64 b, .int .i64 h]] w fun e w' => e = .returned (.agg #[.int .i64 g, .int .i64 o, .int .i64 b, .int .i64 h]) ∧ Below w.heap.size w w'))
    (HG : Hid (∀ w, Calls Try.prog 113 #[.agg #[.int .i64 g, .int .i64 o', .int .i64 b', .int .i64 h']] w fun e w' => e = .returned (.agg #[.int .i64 g, .int .i64 o', .int .i64 b', .int .i64 h']) ∧ Below w.heap.size w w')) :
    Calls Try.prog 110 #[.agg #[.int .i64 g, .int .i64 o, .int .i64 b, .int .i64 h], .agg #[.int .i64 g, .int .i64 o', .int .i64 b', .int .i64 h']] w fun e w' => e = .returned (.bool (R && (T && decide (o < o')))) ∧ Below w.heap.size w w' := by
  have q0 : (o == o') = false := by simpa using hne
  have q1 : (o != o') = true := by simpa using hne
  have rg : (g != g) = false := by simp
  cases R <;> cases T
  case false.false => 
    go_enter Try.func110, Try.ntmps110
    go_wp2_with (first
      | (have _ := hB1; go_at_call 109; refine (HT.out _).mono ?_; rintro e w2 ⟨rfl, hb2⟩; have hB2 := keepB hB1 (Nat.le_refl _) hb2; obtain ⟨hc2, hf2⟩ := bcellF hb2; have hy1 : w.heap.size + 1 < w2.heap.size := (by have := hb2.size; omega); have hy0 : w.heap.size < w2.heap.size := (by omega))
      | (go_at_call 109; refine (HR.out _).mono ?_; rintro e w1 ⟨rfl, hb1⟩; have hB1 := keepB (((Below.refl w.heap.size w).alloc (Nat.le_refl _) (.cells #[.int .i64 g, .int .i64 o, .int .i64 b, .int .i64 h] 30)).alloc (by simp) (.cells #[.int .i64 g, .int .i64 o', .int .i64 b', .int .i64 h'] 30)) (Nat.le_refl _) hb1; obtain ⟨hc1, hf1⟩ := bcellF hb1; have hz1 : w.heap.size + 1 < w1.heap.size := (by have := hb1.size; simp at this; omega); have hz0 : w.heap.size < w1.heap.size := (by omega))
      | (have _ := hB3; go_at_call 113; refine (HF.out _).mono ?_; rintro e w4 ⟨rfl, hb4⟩; have hB4 := keepB hA3 (Nat.le_refl _) hb4; obtain ⟨hc4, hf4⟩ := bcellF hb4)
      | (go_at_call 113; refine (HG.out _).mono ?_; rintro e w3 ⟨rfl, hb3⟩; have hB3 := keepB hB2 (Nat.le_refl _) hb3; obtain ⟨hc3, hf3⟩ := bcellF hb3; have hx1 : w.heap.size + 1 < w3.heap.size := (by have := hb3.size; omega); have hx0 : w.heap.size < w3.heap.size := (by omega); have hA3 := hB3.alloc hB3.size (.cells #[.int .i64 g, .int .i64 o', .int .i64 b', .int .i64 h'] 134)))
    go_ret
    exact ⟨rfl, hB1⟩
  case false.true => 
    go_enter Try.func110, Try.ntmps110
    go_wp2_with (first
      | (have _ := hB1; go_at_call 109; refine (HT.out _).mono ?_; rintro e w2 ⟨rfl, hb2⟩; have hB2 := keepB hB1 (Nat.le_refl _) hb2; obtain ⟨hc2, hf2⟩ := bcellF hb2; have hy1 : w.heap.size + 1 < w2.heap.size := (by have := hb2.size; omega); have hy0 : w.heap.size < w2.heap.size := (by omega))
      | (go_at_call 109; refine (HR.out _).mono ?_; rintro e w1 ⟨rfl, hb1⟩; have hB1 := keepB (((Below.refl w.heap.size w).alloc (Nat.le_refl _) (.cells #[.int .i64 g, .int .i64 o, .int .i64 b, .int .i64 h] 30)).alloc (by simp) (.cells #[.int .i64 g, .int .i64 o', .int .i64 b', .int .i64 h'] 30)) (Nat.le_refl _) hb1; obtain ⟨hc1, hf1⟩ := bcellF hb1; have hz1 : w.heap.size + 1 < w1.heap.size := (by have := hb1.size; simp at this; omega); have hz0 : w.heap.size < w1.heap.size := (by omega))
      | (have _ := hB3; go_at_call 113; refine (HF.out _).mono ?_; rintro e w4 ⟨rfl, hb4⟩; have hB4 := keepB hA3 (Nat.le_refl _) hb4; obtain ⟨hc4, hf4⟩ := bcellF hb4)
      | (go_at_call 113; refine (HG.out _).mono ?_; rintro e w3 ⟨rfl, hb3⟩; have hB3 := keepB hB2 (Nat.le_refl _) hb3; obtain ⟨hc3, hf3⟩ := bcellF hb3; have hx1 : w.heap.size + 1 < w3.heap.size := (by have := hb3.size; omega); have hx0 : w.heap.size < w3.heap.size := (by omega); have hA3 := hB3.alloc hB3.size (.cells #[.int .i64 g, .int .i64 o', .int .i64 b', .int .i64 h'] 134)))
    go_ret
    exact ⟨rfl, hB1⟩
  case true.false => 
    go_enter Try.func110, Try.ntmps110
    go_wp2_with (first
      | (have _ := hB1; go_at_call 109; refine (HT.out _).mono ?_; rintro e w2 ⟨rfl, hb2⟩; have hB2 := keepB hB1 (Nat.le_refl _) hb2; obtain ⟨hc2, hf2⟩ := bcellF hb2; have hy1 : w.heap.size + 1 < w2.heap.size := (by have := hb2.size; omega); have hy0 : w.heap.size < w2.heap.size := (by omega))
      | (go_at_call 109; refine (HR.out _).mono ?_; rintro e w1 ⟨rfl, hb1⟩; have hB1 := keepB (((Below.refl w.heap.size w).alloc (Nat.le_refl _) (.cells #[.int .i64 g, .int .i64 o, .int .i64 b, .int .i64 h] 30)).alloc (by simp) (.cells #[.int .i64 g, .int .i64 o', .int .i64 b', .int .i64 h'] 30)) (Nat.le_refl _) hb1; obtain ⟨hc1, hf1⟩ := bcellF hb1; have hz1 : w.heap.size + 1 < w1.heap.size := (by have := hb1.size; simp at this; omega); have hz0 : w.heap.size < w1.heap.size := (by omega))
      | (have _ := hB3; go_at_call 113; refine (HF.out _).mono ?_; rintro e w4 ⟨rfl, hb4⟩; have hB4 := keepB hA3 (Nat.le_refl _) hb4; obtain ⟨hc4, hf4⟩ := bcellF hb4)
      | (go_at_call 113; refine (HG.out _).mono ?_; rintro e w3 ⟨rfl, hb3⟩; have hB3 := keepB hB2 (Nat.le_refl _) hb3; obtain ⟨hc3, hf3⟩ := bcellF hb3; have hx1 : w.heap.size + 1 < w3.heap.size := (by have := hb3.size; omega); have hx0 : w.heap.size < w3.heap.size := (by omega); have hA3 := hB3.alloc hB3.size (.cells #[.int .i64 g, .int .i64 o', .int .i64 b', .int .i64 h'] 134)))
    go_ret
    exact ⟨rfl, hB2⟩
  case true.true =>
    go_enter Try.func110, Try.ntmps110
    go_wp2_with (first
      | (have _ := hB1; go_at_call 109; refine (HT.out _).mono ?_; rintro e w2 ⟨rfl, hb2⟩; have hB2 := keepB hB1 (Nat.le_refl _) hb2; obtain ⟨hc2, hf2⟩ := bcellF hb2; have hy1 : w.heap.size + 1 < w2.heap.size := (by have := hb2.size; omega); have hy0 : w.heap.size < w2.heap.size := (by omega))
      | (go_at_call 109; refine (HR.out _).mono ?_; rintro e w1 ⟨rfl, hb1⟩; have hB1 := keepB (((Below.refl w.heap.size w).alloc (Nat.le_refl _) (.cells #[.int .i64 g, .int .i64 o, .int .i64 b, .int .i64 h] 30)).alloc (by simp) (.cells #[.int .i64 g, .int .i64 o', .int .i64 b', .int .i64 h'] 30)) (Nat.le_refl _) hb1; obtain ⟨hc1, hf1⟩ := bcellF hb1; have hz1 : w.heap.size + 1 < w1.heap.size := (by have := hb1.size; simp at this; omega); have hz0 : w.heap.size < w1.heap.size := (by omega))
      | (have _ := hB3; go_at_call 113; refine (HF.out _).mono ?_; rintro e w4 ⟨rfl, hb4⟩; have hB4 := keepB hA3 (Nat.le_refl _) hb4; obtain ⟨hc4, hf4⟩ := bcellF hb4)
      | (go_at_call 113; refine (HG.out _).mono ?_; rintro e w3 ⟨rfl, hb3⟩; have hB3 := keepB hB2 (Nat.le_refl _) hb3; obtain ⟨hc3, hf3⟩ := bcellF hb3; have hx1 : w.heap.size + 1 < w3.heap.size := (by have := hb3.size; omega); have hx0 : w.heap.size < w3.heap.size := (by omega); have hA3 := hB3.alloc hB3.size (.cells #[.int .i64 g, .int .i64 o', .int .i64 b', .int .i64 h'] 134)))
    go_loop [25] (fun i => ∃ k : Nat, k ≤ 1 ∧ i = .int .i64 k) (fun i => 4 - (intOf i).toNat)
    case atStart => exact ⟨0, Nat.zero_le _, rfl⟩
    case round =>
      obtain ⟨k, hk, rfl⟩ := hrel
      have hk' : k = 0 ∨ k = 1 := by omega
      rcases hk' with rfl | rfl
      · have ix := fun w => index4_0 g o b h w
        go_wp2
        go_round
        case rel => exact ⟨1, by omega, rfl⟩
        case measure => simp [intOf]
      · have ix := fun w => index4_1 g o b h w
        go_wp2
        go_ret
        exact ⟨rfl, hB4⟩
set_option maxRecDepth 100000 in
set_option maxHeartbeats 1600000 in
theorem stampLess_2 (g o b h b' h' : Int) (R T : Bool) (hne : ¬ b = b') (w : World)
    (HR : Hid (∀ w, Calls Try.prog 109 #[.agg #[.int .i64 g, .int .i64 o, .int .i64 b, .int .i64 h]] w fun e w' => e = .returned (.bool R) ∧ Below w.heap.size w w'))
    (HT : Hid (∀ w, Calls Try.prog 109 #[.agg #[.int .i64 g, .int .i64 o, .int .i64 b', .int .i64 h']] w fun e w' => e = .returned (.bool T) ∧ Below w.heap.size w w'))
    (HF : Hid (∀ w, Calls Try.prog 113 #[.agg #[.int .i64 g, .int .i64 o, .int .i64 b, .int .i64 h]] w fun e w' => e = .returned (.agg #[.int .i64 g, .int .i64 o, .int .i64 b, .int .i64 h]) ∧ Below w.heap.size w w'))
    (HG : Hid (∀ w, Calls Try.prog 113 #[.agg #[.int .i64 g, .int .i64 o, .int .i64 b', .int .i64 h']] w fun e w' => e = .returned (.agg #[.int .i64 g, .int .i64 o, .int .i64 b', .int .i64 h']) ∧ Below w.heap.size w w')) :
    Calls Try.prog 110 #[.agg #[.int .i64 g, .int .i64 o, .int .i64 b, .int .i64 h], .agg #[.int .i64 g, .int .i64 o, .int .i64 b', .int .i64 h']] w fun e w' => e = .returned (.bool (R && (T && decide (b < b')))) ∧ Below w.heap.size w w' := by
  have q0 : (b == b') = false := by simpa using hne
  have q1 : (b != b') = true := by simpa using hne
  have rg : (g != g) = false := by simp
  have ro : (o != o) = false := by simp
  cases R <;> cases T
  case false.false => 
    go_enter Try.func110, Try.ntmps110
    go_wp2_with (first
      | (have _ := hB1; go_at_call 109; refine (HT.out _).mono ?_; rintro e w2 ⟨rfl, hb2⟩; have hB2 := keepB hB1 (Nat.le_refl _) hb2; obtain ⟨hc2, hf2⟩ := bcellF hb2; have hy1 : w.heap.size + 1 < w2.heap.size := (by have := hb2.size; omega); have hy0 : w.heap.size < w2.heap.size := (by omega))
      | (go_at_call 109; refine (HR.out _).mono ?_; rintro e w1 ⟨rfl, hb1⟩; have hB1 := keepB (((Below.refl w.heap.size w).alloc (Nat.le_refl _) (.cells #[.int .i64 g, .int .i64 o, .int .i64 b, .int .i64 h] 30)).alloc (by simp) (.cells #[.int .i64 g, .int .i64 o, .int .i64 b', .int .i64 h'] 30)) (Nat.le_refl _) hb1; obtain ⟨hc1, hf1⟩ := bcellF hb1; have hz1 : w.heap.size + 1 < w1.heap.size := (by have := hb1.size; simp at this; omega); have hz0 : w.heap.size < w1.heap.size := (by omega))
      | (have _ := hB3; go_at_call 113; refine (HF.out _).mono ?_; rintro e w4 ⟨rfl, hb4⟩; have hB4 := keepB hA3 (Nat.le_refl _) hb4; obtain ⟨hc4, hf4⟩ := bcellF hb4)
      | (go_at_call 113; refine (HG.out _).mono ?_; rintro e w3 ⟨rfl, hb3⟩; have hB3 := keepB hB2 (Nat.le_refl _) hb3; obtain ⟨hc3, hf3⟩ := bcellF hb3; have hx1 : w.heap.size + 1 < w3.heap.size := (by have := hb3.size; omega); have hx0 : w.heap.size < w3.heap.size := (by omega); have hA3 := hB3.alloc hB3.size (.cells #[.int .i64 g, .int .i64 o, .int .i64 b', .int .i64 h'] 134)))
    go_ret
    exact ⟨rfl, hB1⟩
  case false.true => 
    go_enter Try.func110, Try.ntmps110
    go_wp2_with (first
      | (have _ := hB1; go_at_call 109; refine (HT.out _).mono ?_; rintro e w2 ⟨rfl, hb2⟩; have hB2 := keepB hB1 (Nat.le_refl _) hb2; obtain ⟨hc2, hf2⟩ := bcellF hb2; have hy1 : w.heap.size + 1 < w2.heap.size := (by have := hb2.size; omega); have hy0 : w.heap.size < w2.heap.size := (by omega))
      | (go_at_call 109; refine (HR.out _).mono ?_; rintro e w1 ⟨rfl, hb1⟩; have hB1 := keepB (((Below.refl w.heap.size w).alloc (Nat.le_refl _) (.cells #[.int .i64 g, .int .i64 o, .int .i64 b, .int .i64 h] 30)).alloc (by simp) (.cells #[.int .i64 g, .int .i64 o, .int .i64 b', .int .i64 h'] 30)) (Nat.le_refl _) hb1; obtain ⟨hc1, hf1⟩ := bcellF hb1; have hz1 : w.heap.size + 1 < w1.heap.size := (by have := hb1.size; simp at this; omega); have hz0 : w.heap.size < w1.heap.size := (by omega))
      | (have _ := hB3; go_at_call 113; refine (HF.out _).mono ?_; rintro e w4 ⟨rfl, hb4⟩; have hB4 := keepB hA3 (Nat.le_refl _) hb4; obtain ⟨hc4, hf4⟩ := bcellF hb4)
      | (go_at_call 113; refine (HG.out _).mono ?_; rintro e w3 ⟨rfl, hb3⟩; have hB3 := keepB hB2 (Nat.le_refl _) hb3; obtain ⟨hc3, hf3⟩ := bcellF hb3; have hx1 : w.heap.size + 1 < w3.heap.size := (by have := hb3.size; omega); have hx0 : w.heap.size < w3.heap.size := (by omega); have hA3 := hB3.alloc hB3.size (.cells #[.int .i64 g, .int .i64 o, .int .i64 b', .int .i64 h'] 134)))
    go_ret
    exact ⟨rfl, hB1⟩
  case true.false => 
    go_enter Try.func110, Try.ntmps110
    go_wp2_with (first
      | (have _ := hB1; go_at_call 109; refine (HT.out _).mono ?_; rintro e w2 ⟨rfl, hb2⟩; have hB2 := keepB hB1 (Nat.le_refl _) hb2; obtain ⟨hc2, hf2⟩ := bcellF hb2; have hy1 : w.heap.size + 1 < w2.heap.size := (by have := hb2.size; omega); have hy0 : w.heap.size < w2.heap.size := (by omega))
      | (go_at_call 109; refine (HR.out _).mono ?_; rintro e w1 ⟨rfl, hb1⟩; have hB1 := keepB (((Below.refl w.heap.size w).alloc (Nat.le_refl _) (.cells #[.int .i64 g, .int .i64 o, .int .i64 b, .int .i64 h] 30)).alloc (by simp) (.cells #[.int .i64 g, .int .i64 o, .int .i64 b', .int .i64 h'] 30)) (Nat.le_refl _) hb1; obtain ⟨hc1, hf1⟩ := bcellF hb1; have hz1 : w.heap.size + 1 < w1.heap.size := (by have := hb1.size; simp at this; omega); have hz0 : w.heap.size < w1.heap.size := (by omega))
      | (have _ := hB3; go_at_call 113; refine (HF.out _).mono ?_; rintro e w4 ⟨rfl, hb4⟩; have hB4 := keepB hA3 (Nat.le_refl _) hb4; obtain ⟨hc4, hf4⟩ := bcellF hb4)
      | (go_at_call 113; refine (HG.out _).mono ?_; rintro e w3 ⟨rfl, hb3⟩; have hB3 := keepB hB2 (Nat.le_refl _) hb3; obtain ⟨hc3, hf3⟩ := bcellF hb3; have hx1 : w.heap.size + 1 < w3.heap.size := (by have := hb3.size; omega); have hx0 : w.heap.size < w3.heap.size := (by omega); have hA3 := hB3.alloc hB3.size (.cells #[.int .i64 g, .int .i64 o, .int .i64 b', .int .i64 h'] 134)))
    go_ret
    exact ⟨rfl, hB2⟩
  case true.true =>
    go_enter Try.func110, Try.ntmps110
    go_wp2_with (first
      | (have _ := hB1; go_at_call 109; refine (HT.out _).mono ?_; rintro e w2 ⟨rfl, hb2⟩; have hB2 := keepB hB1 (Nat.le_refl _) hb2; obtain ⟨hc2, hf2⟩ := bcellF hb2; have hy1 : w.heap.size + 1 < w2.heap.size := (by have := hb2.size; omega); have hy0 : w.heap.size < w2.heap.size := (by omega))
      | (go_at_call 109; refine (HR.out _).mono ?_; rintro e w1 ⟨rfl, hb1⟩; have hB1 := keepB (((Below.refl w.heap.size w).alloc (Nat.le_refl _) (.cells #[.int .i64 g, .int .i64 o, .int .i64 b, .int .i64 h] 30)).alloc (by simp) (.cells #[.int .i64 g, .int .i64 o, .int .i64 b', .int .i64 h'] 30)) (Nat.le_refl _) hb1; obtain ⟨hc1, hf1⟩ := bcellF hb1; have hz1 : w.heap.size + 1 < w1.heap.size := (by have := hb1.size; simp at this; omega); have hz0 : w.heap.size < w1.heap.size := (by omega))
      | (have _ := hB3; go_at_call 113; refine (HF.out _).mono ?_; rintro e w4 ⟨rfl, hb4⟩; have hB4 := keepB hA3 (Nat.le_refl _) hb4; obtain ⟨hc4, hf4⟩ := bcellF hb4)
      | (go_at_call 113; refine (HG.out _).mono ?_; rintro e w3 ⟨rfl, hb3⟩; have hB3 := keepB hB2 (Nat.le_refl _) hb3; obtain ⟨hc3, hf3⟩ := bcellF hb3; have hx1 : w.heap.size + 1 < w3.heap.size := (by have := hb3.size; omega); have hx0 : w.heap.size < w3.heap.size := (by omega); have hA3 := hB3.alloc hB3.size (.cells #[.int .i64 g, .int .i64 o, .int .i64 b', .int .i64 h'] 134)))
    go_loop [25] (fun i => ∃ k : Nat, k ≤ 2 ∧ i = .int .i64 k) (fun i => 4 - (intOf i).toNat)
    case atStart => exact ⟨0, Nat.zero_le _, rfl⟩
    case round =>
      obtain ⟨k, hk, rfl⟩ := hrel
      have hk' : k = 0 ∨ k = 1 ∨ k = 2 := by omega
      rcases hk' with rfl | rfl | rfl
      · have ix := fun w => index4_0 g o b h w
        go_wp2
        go_round
        case rel => exact ⟨1, by omega, rfl⟩
        case measure => simp [intOf]
      · have ix := fun w => index4_1 g o b h w
        go_wp2
        go_round
        case rel => exact ⟨2, by omega, rfl⟩
        case measure => simp [intOf]
      · have ix := fun w => index4_2 g o b h w
        go_wp2
        go_ret
        exact ⟨rfl, hB4⟩
set_option maxRecDepth 100000 in
set_option maxHeartbeats 1600000 in
theorem stampLess_3 (g o b h h' : Int) (R T : Bool) (hne : ¬ h = h') (w : World)
    (HR : Hid (∀ w, Calls Try.prog 109 #[.agg #[.int .i64 g, .int .i64 o, .int .i64 b, .int .i64 h]] w fun e w' => e = .returned (.bool R) ∧ Below w.heap.size w w'))
    (HT : Hid (∀ w, Calls Try.prog 109 #[.agg #[.int .i64 g, .int .i64 o, .int .i64 b, .int .i64 h']] w fun e w' => e = .returned (.bool T) ∧ Below w.heap.size w w'))
    (HF : Hid (∀ w, Calls Try.prog 113 #[.agg #[.int .i64 g, .int .i64 o, .int .i64 b, .int .i64 h]] w fun e w' => e = .returned (.agg #[.int .i64 g, .int .i64 o, .int .i64 b, .int .i64 h]) ∧ Below w.heap.size w w'))
    (HG : Hid (∀ w, Calls Try.prog 113 #[.agg #[.int .i64 g, .int .i64 o, .int .i64 b, .int .i64 h']] w fun e w' => e = .returned (.agg #[.int .i64 g, .int .i64 o, .int .i64 b, .int .i64 h']) ∧ Below w.heap.size w w')) :
    Calls Try.prog 110 #[.agg #[.int .i64 g, .int .i64 o, .int .i64 b, .int .i64 h], .agg #[.int .i64 g, .int .i64 o, .int .i64 b, .int .i64 h']] w fun e w' => e = .returned (.bool (R && (T && decide (h < h')))) ∧ Below w.heap.size w w' := by
  have q0 : (h == h') = false := by simpa using hne
  have q1 : (h != h') = true := by simpa using hne
  have rg : (g != g) = false := by simp
  have ro : (o != o) = false := by simp
  have rb : (b != b) = false := by simp
  cases R <;> cases T
  case false.false => 
    go_enter Try.func110, Try.ntmps110
    go_wp2_with (first
      | (have _ := hB1; go_at_call 109; refine (HT.out _).mono ?_; rintro e w2 ⟨rfl, hb2⟩; have hB2 := keepB hB1 (Nat.le_refl _) hb2; obtain ⟨hc2, hf2⟩ := bcellF hb2; have hy1 : w.heap.size + 1 < w2.heap.size := (by have := hb2.size; omega); have hy0 : w.heap.size < w2.heap.size := (by omega))
      | (go_at_call 109; refine (HR.out _).mono ?_; rintro e w1 ⟨rfl, hb1⟩; have hB1 := keepB (((Below.refl w.heap.size w).alloc (Nat.le_refl _) (.cells #[.int .i64 g, .int .i64 o, .int .i64 b, .int .i64 h] 30)).alloc (by simp) (.cells #[.int .i64 g, .int .i64 o, .int .i64 b, .int .i64 h'] 30)) (Nat.le_refl _) hb1; obtain ⟨hc1, hf1⟩ := bcellF hb1; have hz1 : w.heap.size + 1 < w1.heap.size := (by have := hb1.size; simp at this; omega); have hz0 : w.heap.size < w1.heap.size := (by omega))
      | (have _ := hB3; go_at_call 113; refine (HF.out _).mono ?_; rintro e w4 ⟨rfl, hb4⟩; have hB4 := keepB hA3 (Nat.le_refl _) hb4; obtain ⟨hc4, hf4⟩ := bcellF hb4)
      | (go_at_call 113; refine (HG.out _).mono ?_; rintro e w3 ⟨rfl, hb3⟩; have hB3 := keepB hB2 (Nat.le_refl _) hb3; obtain ⟨hc3, hf3⟩ := bcellF hb3; have hx1 : w.heap.size + 1 < w3.heap.size := (by have := hb3.size; omega); have hx0 : w.heap.size < w3.heap.size := (by omega); have hA3 := hB3.alloc hB3.size (.cells #[.int .i64 g, .int .i64 o, .int .i64 b, .int .i64 h'] 134)))
    go_ret
    exact ⟨rfl, hB1⟩
  case false.true => 
    go_enter Try.func110, Try.ntmps110
    go_wp2_with (first
      | (have _ := hB1; go_at_call 109; refine (HT.out _).mono ?_; rintro e w2 ⟨rfl, hb2⟩; have hB2 := keepB hB1 (Nat.le_refl _) hb2; obtain ⟨hc2, hf2⟩ := bcellF hb2; have hy1 : w.heap.size + 1 < w2.heap.size := (by have := hb2.size; omega); have hy0 : w.heap.size < w2.heap.size := (by omega))
      | (go_at_call 109; refine (HR.out _).mono ?_; rintro e w1 ⟨rfl, hb1⟩; have hB1 := keepB (((Below.refl w.heap.size w).alloc (Nat.le_refl _) (.cells #[.int .i64 g, .int .i64 o, .int .i64 b, .int .i64 h] 30)).alloc (by simp) (.cells #[.int .i64 g, .int .i64 o, .int .i64 b, .int .i64 h'] 30)) (Nat.le_refl _) hb1; obtain ⟨hc1, hf1⟩ := bcellF hb1; have hz1 : w.heap.size + 1 < w1.heap.size := (by have := hb1.size; simp at this; omega); have hz0 : w.heap.size < w1.heap.size := (by omega))
      | (have _ := hB3; go_at_call 113; refine (HF.out _).mono ?_; rintro e w4 ⟨rfl, hb4⟩; have hB4 := keepB hA3 (Nat.le_refl _) hb4; obtain ⟨hc4, hf4⟩ := bcellF hb4)
      | (go_at_call 113; refine (HG.out _).mono ?_; rintro e w3 ⟨rfl, hb3⟩; have hB3 := keepB hB2 (Nat.le_refl _) hb3; obtain ⟨hc3, hf3⟩ := bcellF hb3; have hx1 : w.heap.size + 1 < w3.heap.size := (by have := hb3.size; omega); have hx0 : w.heap.size < w3.heap.size := (by omega); have hA3 := hB3.alloc hB3.size (.cells #[.int .i64 g, .int .i64 o, .int .i64 b, .int .i64 h'] 134)))
    go_ret
    exact ⟨rfl, hB1⟩
  case true.false => 
    go_enter Try.func110, Try.ntmps110
    go_wp2_with (first
      | (have _ := hB1; go_at_call 109; refine (HT.out _).mono ?_; rintro e w2 ⟨rfl, hb2⟩; have hB2 := keepB hB1 (Nat.le_refl _) hb2; obtain ⟨hc2, hf2⟩ := bcellF hb2; have hy1 : w.heap.size + 1 < w2.heap.size := (by have := hb2.size; omega); have hy0 : w.heap.size < w2.heap.size := (by omega))
      | (go_at_call 109; refine (HR.out _).mono ?_; rintro e w1 ⟨rfl, hb1⟩; have hB1 := keepB (((Below.refl w.heap.size w).alloc (Nat.le_refl _) (.cells #[.int .i64 g, .int .i64 o, .int .i64 b, .int .i64 h] 30)).alloc (by simp) (.cells #[.int .i64 g, .int .i64 o, .int .i64 b, .int .i64 h'] 30)) (Nat.le_refl _) hb1; obtain ⟨hc1, hf1⟩ := bcellF hb1; have hz1 : w.heap.size + 1 < w1.heap.size := (by have := hb1.size; simp at this; omega); have hz0 : w.heap.size < w1.heap.size := (by omega))
      | (have _ := hB3; go_at_call 113; refine (HF.out _).mono ?_; rintro e w4 ⟨rfl, hb4⟩; have hB4 := keepB hA3 (Nat.le_refl _) hb4; obtain ⟨hc4, hf4⟩ := bcellF hb4)
      | (go_at_call 113; refine (HG.out _).mono ?_; rintro e w3 ⟨rfl, hb3⟩; have hB3 := keepB hB2 (Nat.le_refl _) hb3; obtain ⟨hc3, hf3⟩ := bcellF hb3; have hx1 : w.heap.size + 1 < w3.heap.size := (by have := hb3.size; omega); have hx0 : w.heap.size < w3.heap.size := (by omega); have hA3 := hB3.alloc hB3.size (.cells #[.int .i64 g, .int .i64 o, .int .i64 b, .int .i64 h'] 134)))
    go_ret
    exact ⟨rfl, hB2⟩
  case true.true =>
    go_enter Try.func110, Try.ntmps110
    go_wp2_with (first
      | (have _ := hB1; go_at_call 109; refine (HT.out _).mono ?_; rintro e w2 ⟨rfl, hb2⟩; have hB2 := keepB hB1 (Nat.le_refl _) hb2; obtain ⟨hc2, hf2⟩ := bcellF hb2; have hy1 : w.heap.size + 1 < w2.heap.size := (by have := hb2.size; omega); have hy0 : w.heap.size < w2.heap.size := (by omega))
      | (go_at_call 109; refine (HR.out _).mono ?_; rintro e w1 ⟨rfl, hb1⟩; have hB1 := keepB (((Below.refl w.heap.size w).alloc (Nat.le_refl _) (.cells #[.int .i64 g, .int .i64 o, .int .i64 b, .int .i64 h] 30)).alloc (by simp) (.cells #[.int .i64 g, .int .i64 o, .int .i64 b, .int .i64 h'] 30)) (Nat.le_refl _) hb1; obtain ⟨hc1, hf1⟩ := bcellF hb1; have hz1 : w.heap.size + 1 < w1.heap.size := (by have := hb1.size; simp at this; omega); have hz0 : w.heap.size < w1.heap.size := (by omega))
      | (have _ := hB3; go_at_call 113; refine (HF.out _).mono ?_; rintro e w4 ⟨rfl, hb4⟩; have hB4 := keepB hA3 (Nat.le_refl _) hb4; obtain ⟨hc4, hf4⟩ := bcellF hb4)
      | (go_at_call 113; refine (HG.out _).mono ?_; rintro e w3 ⟨rfl, hb3⟩; have hB3 := keepB hB2 (Nat.le_refl _) hb3; obtain ⟨hc3, hf3⟩ := bcellF hb3; have hx1 : w.heap.size + 1 < w3.heap.size := (by have := hb3.size; omega); have hx0 : w.heap.size < w3.heap.size := (by omega); have hA3 := hB3.alloc hB3.size (.cells #[.int .i64 g, .int .i64 o, .int .i64 b, .int .i64 h'] 134)))
    go_loop [25] (fun i => ∃ k : Nat, k ≤ 3 ∧ i = .int .i64 k) (fun i => 4 - (intOf i).toNat)
    case atStart => exact ⟨0, Nat.zero_le _, rfl⟩
    case round =>
      obtain ⟨k, hk, rfl⟩ := hrel
      have hk' : k = 0 ∨ k = 1 ∨ k = 2 ∨ k = 3 := by omega
      rcases hk' with rfl | rfl | rfl | rfl
      · have ix := fun w => index4_0 g o b h w
        go_wp2
        go_round
        case rel => exact ⟨1, by omega, rfl⟩
        case measure => simp [intOf]
      · have ix := fun w => index4_1 g o b h w
        go_wp2
        go_round
        case rel => exact ⟨2, by omega, rfl⟩
        case measure => simp [intOf]
      · have ix := fun w => index4_2 g o b h w
        go_wp2
        go_round
        case rel => exact ⟨3, by omega, rfl⟩
        case measure => simp [intOf]
      · have ix := fun w => index4_3 g o b h w
        go_wp2
        go_ret
        exact ⟨rfl, hB4⟩
set_option maxRecDepth 100000 in
set_option maxHeartbeats 1600000 in
theorem stampLess_4 (g o b h  : Int) (R T : Bool) (w : World)
    (HR : Hid (∀ w, Calls Try.prog 109 #[.agg #[.int .i64 g, .int .i64 o, .int .i64 b, .int .i64 h]] w fun e w' => e = .returned (.bool R) ∧ Below w.heap.size w w'))
    (HT : Hid (∀ w, Calls Try.prog 109 #[.agg #[.int .i64 g, .int .i64 o, .int .i64 b, .int .i64 h]] w fun e w' => e = .returned (.bool T) ∧ Below w.heap.size w w'))
    (HF : Hid (∀ w, Calls Try.prog 113 #[.agg #[.int .i64 g, .int .i64 o, .int .i64 b, .int .i64 h]] w fun e w' => e = .returned (.agg #[.int .i64 g, .int .i64 o, .int .i64 b, .int .i64 h]) ∧ Below w.heap.size w w'))
    (HG : Hid (∀ w, Calls Try.prog 113 #[.agg #[.int .i64 g, .int .i64 o, .int .i64 b, .int .i64 h]] w fun e w' => e = .returned (.agg #[.int .i64 g, .int .i64 o, .int .i64 b, .int .i64 h]) ∧ Below w.heap.size w w')) :
    Calls Try.prog 110 #[.agg #[.int .i64 g, .int .i64 o, .int .i64 b, .int .i64 h], .agg #[.int .i64 g, .int .i64 o, .int .i64 b, .int .i64 h]] w fun e w' => e = .returned (.bool false) ∧ Below w.heap.size w w' := by
  have q : (g == g) = true := by simp
  go_enter Try.func110, Try.ntmps110
  go_wp2
  go_ret
  exact ⟨rfl, ((Below.refl _ _).alloc (Nat.le_refl _) _).alloc (by simp) _⟩
theorem stampLess_any (s t : St) (w : World) : Calls Try.prog 110 #[.agg #[.int .i64 s.g, .int .i64 s.o, .int .i64 s.b, .int .i64 s.h], .agg #[.int .i64 t.g, .int .i64 t.o, .int .i64 t.b, .int .i64 t.h]] w fun e w' => e = .returned (.bool (s.less t)) ∧ Below w.heap.size w w' := by
  have HR : Hid _ := fun w => stampRight_any s w
  have HT : Hid _ := fun w => stampRight_any t w
  have HF : Hid _ := fun w => fieldsOf_any s w
  have HG : Hid _ := fun w => fieldsOf_any t w
  have key : s.less t = (s.right && (t.right && s.lt t)) := rfl
  have hl : s.lt t = if s.g ≠ t.g then decide (s.g < t.g) else if s.o ≠ t.o then decide (s.o < t.o) else if s.b ≠ t.b then decide (s.b < t.b) else decide (s.h < t.h) := rfl
  rw [key, hl]
  generalize s.right = R at HR
  generalize t.right = T at HT
  clear key hl
  obtain ⟨g, o, b, h⟩ := s
  obtain ⟨g', o', b', h'⟩ := t
  simp only at HR HT HF HG ⊢
  by_cases e1 : g = g'
  · subst e1
    by_cases e2 : o = o'
    · subst e2
      by_cases e3 : b = b'
      · subst e3
        by_cases e4 : h = h'
        · subst e4
          have := stampLess_4 g o b h R T w HR HT HF HG
          simpa using this
        · have := stampLess_3 g o b h h' R T e4 w HR HT HF HG
          simpa using this
      · have := stampLess_2 g o b h b' h' R T e3 w HR HT HF HG
        simpa [e3] using this
    · have := stampLess_1 g o b h o' b' h' R T e2 w HR HT HF HG
      simpa [e2] using this
  · have := stampLess_0 g o b h g' o' b' h' R T e1 w HR HT HF HG
    simpa [e1] using this
end Go.Proofs.Ytggdjiijcoklgaa
