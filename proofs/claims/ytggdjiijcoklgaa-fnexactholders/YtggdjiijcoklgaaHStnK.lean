/- THE WALKS of a right station: the program's. Written by mkstn.py. -/
import Derived.Test.YtggdjiijcoklgaaHStnJ
namespace Go.Proofs.Ytggdjiijcoklgaa
open Go.RowKit
set_option linter.unusedVariables false
set_option linter.unusedSimpArgs false

set_option maxRecDepth 100000 in
set_option maxHeartbeats 3200000 in
theorem tokenRight_any (s : Stn) (v1 v2 v3 v4 : Value) (w : World) :
    Calls Try.prog 89 #[.agg #[.int .i64 s.ad, .int .i64 s.bo, .int .i64 s.st, .int .i64 s.s.g, .int .i64 s.s.o, .int .i64 s.s.b, .int .i64 s.s.h, .int .i64 s.t.g, .int .i64 s.t.o, .int .i64 s.t.b, .int .i64 s.t.h, .int .i64 s.qu, .int .i64 s.tr, .int .i64 s.he, .int .i64 s.po, v1, v2, v3, v4]] w fun e w' => e = .returned (.bool (tokB s)) ∧ Below w.heap.size w w' := by
  have HS : Hid (∀ W : World, Calls Try.prog 109 #[.agg #[.int .i64 s.s.g, .int .i64 s.s.o, .int .i64 s.s.b, .int .i64 s.s.h]] W fun e w' => e = .returned (.bool s.s.right) ∧ Below W.heap.size W w') := fun W => stampRight_any s.s W
  have HT : Hid (∀ W : World, Calls Try.prog 109 #[.agg #[.int .i64 s.t.g, .int .i64 s.t.o, .int .i64 s.t.b, .int .i64 s.t.h]] W fun e w' => e = .returned (.bool s.t.right) ∧ Below W.heap.size W w') := fun W => stampRight_any s.t W
  have HL : Hid (∀ W : World, Calls Try.prog 110 #[.agg #[.int .i64 s.t.g, .int .i64 s.t.o, .int .i64 s.t.b, .int .i64 s.t.h], .agg #[.int .i64 s.s.g, .int .i64 s.s.o, .int .i64 s.s.b, .int .i64 s.s.h]] W fun e w' => e = .returned (.bool (s.t.less s.s)) ∧ Below W.heap.size W w') := fun W => stampLess_any s.t s.s W
  have HN : Hid (∀ W : World, Calls Try.prog 111 #[.agg #[.int .i64 s.s.g, .int .i64 s.s.o, .int .i64 s.s.b, .int .i64 s.s.h]] W fun e w' => e = .returned (.bool s.s.none) ∧ Below W.heap.size W w') := fun W => isNone_any s.s W
  have HA : Hid (∀ W : World, Calls Try.prog 87 #[.int .i64 s.he] W fun e w' => e = .returned (.bool (addrB s.he)) ∧ W = w') := fun W => isAddress_any s.he W
  unfold tokB stateB
  generalize s.s.right = R1 at HS
  generalize s.t.right = R2 at HT
  generalize s.t.less s.s = L at HL
  generalize s.s.none = N at HN
  generalize addrB s.he = AH at HA
  have hA : Hid (Below w.heap.size w _) := all_alloc w (.cells #[.int .i64 s.ad, .int .i64 s.bo, .int .i64 s.st, .int .i64 s.s.g, .int .i64 s.s.o, .int .i64 s.s.b, .int .i64 s.s.h, .int .i64 s.t.g, .int .i64 s.t.o, .int .i64 s.t.b, .int .i64 s.t.h, .int .i64 s.qu, .int .i64 s.tr, .int .i64 s.he, .int .i64 s.po, v1, v2, v3, v4] 33)
  have hX : Hid _ := heap_alloc_new w (.cells #[.int .i64 s.ad, .int .i64 s.bo, .int .i64 s.st, .int .i64 s.s.g, .int .i64 s.s.o, .int .i64 s.s.b, .int .i64 s.s.h, .int .i64 s.t.g, .int .i64 s.t.o, .int .i64 s.t.b, .int .i64 s.t.h, .int .i64 s.qu, .int .i64 s.tr, .int .i64 s.he, .int .i64 s.po, v1, v2, v3, v4] 33)
  go_enter Try.func89, Try.ntmps89
  go_upto_region 1 with fail
  generalize w.alloc (.cells #[.int .i64 s.ad, .int .i64 s.bo, .int .i64 s.st, .int .i64 s.s.g, .int .i64 s.s.o, .int .i64 s.s.b, .int .i64 s.s.h, .int .i64 s.t.g, .int .i64 s.t.o, .int .i64 s.t.b, .int .i64 s.t.h, .int .i64 s.qu, .int .i64 s.tr, .int .i64 s.he, .int .i64 s.po, v1, v2, v3, v4] 33) = A at hA hX ⊢
  have x0 : Hid _ := cellW hX.out 0 _ rfl
  have x2 : Hid _ := cellW hX.out 2 _ rfl
  have x3 : Hid _ := cellW hX.out 3 _ rfl
  have x4 : Hid _ := cellW hX.out 4 _ rfl
  have x5 : Hid _ := cellW hX.out 5 _ rfl
  have x6 : Hid _ := cellW hX.out 6 _ rfl
  have x7 : Hid _ := cellW hX.out 7 _ rfl
  have x8 : Hid _ := cellW hX.out 8 _ rfl
  have x9 : Hid _ := cellW hX.out 9 _ rfl
  have x10 : Hid _ := cellW hX.out 10 _ rfl
  have x13 : Hid _ := cellW hX.out 13 _ rfl
  have c0 := x0.out A (Below.refl _ _)
  have c2 := x2.out A (Below.refl _ _)
  have c3 := x3.out A (Below.refl _ _)
  have c4 := x4.out A (Below.refl _ _)
  have c5 := x5.out A (Below.refl _ _)
  have c6 := x6.out A (Below.refl _ _)
  have c7 := x7.out A (Below.refl _ _)
  have c8 := x8.out A (Below.refl _ _)
  have c9 := x9.out A (Below.refl _ _)
  have c10 := x10.out A (Below.refl _ _)
  have c13 := x13.out A (Below.refl _ _)
  cases R1 with
  | false =>
      go_wp2_with (first
    | (have _ := hD1; go_at_call 109; refine (HT.out _).mono ?_; rintro e w2 ⟨rfl, hb2⟩; have hB2 := keepB hB1 (Nat.le_refl _) hb2; have c3_w2 := x3.out w2 hB2; have c4_w2 := x4.out w2 hB2; have c5_w2 := x5.out w2 hB2; have c6_w2 := x6.out w2 hB2; have c7_w2 := x7.out w2 hB2; have c8_w2 := x8.out w2 hB2; have c9_w2 := x9.out w2 hB2; have c10_w2 := x10.out w2 hB2)
    | (go_at_call 109; refine (HS.out _).mono ?_; rintro e w1 ⟨rfl, hb1⟩; have hB1 : Below A.heap.size A w1 := hb1; have hD1 : Hid True := trivial; have c7_w1 := x7.out w1 hB1; have c8_w1 := x8.out w1 hB1; have c9_w1 := x9.out w1 hB1; have c10_w1 := x10.out w1 hB1)
    | (go_at_call 110; refine (HL.out _).mono ?_; rintro e w3 ⟨rfl, hb3⟩; have hB3 := keepB hB2 (Nat.le_refl _) hb3; have c2_w3 := x2.out w3 hB3; have c3_w3 := x3.out w3 hB3; have c4_w3 := x4.out w3 hB3; have c5_w3 := x5.out w3 hB3; have c6_w3 := x6.out w3 hB3; have c13_w3 := x13.out w3 hB3; have c0_w3 := x0.out w3 hB3)
    | (go_at_call 111; refine (HN.out _).mono ?_; rintro e w4 ⟨rfl, hb4⟩; have hB4 := keepB hB3 (Nat.le_refl _) hb4; have c13_w4 := x13.out w4 hB4; have c0_w4 := x0.out w4 hB4)
    | (go_at_call 87; refine (HA.out _).mono ?_; rintro e w5 ⟨rfl, rfl⟩))
      all_goals (go_ret; exact ⟨ret_bool (by simp_all), keepB hA.out (Nat.le_refl _) (by first | exact hB4 | exact hB3 | exact hB2 | exact hB1)⟩)
  | true =>
   cases R2 with
   | false =>
      go_wp2_with (first
    | (have _ := hD1; go_at_call 109; refine (HT.out _).mono ?_; rintro e w2 ⟨rfl, hb2⟩; have hB2 := keepB hB1 (Nat.le_refl _) hb2; have c3_w2 := x3.out w2 hB2; have c4_w2 := x4.out w2 hB2; have c5_w2 := x5.out w2 hB2; have c6_w2 := x6.out w2 hB2; have c7_w2 := x7.out w2 hB2; have c8_w2 := x8.out w2 hB2; have c9_w2 := x9.out w2 hB2; have c10_w2 := x10.out w2 hB2)
    | (go_at_call 109; refine (HS.out _).mono ?_; rintro e w1 ⟨rfl, hb1⟩; have hB1 : Below A.heap.size A w1 := hb1; have hD1 : Hid True := trivial; have c7_w1 := x7.out w1 hB1; have c8_w1 := x8.out w1 hB1; have c9_w1 := x9.out w1 hB1; have c10_w1 := x10.out w1 hB1)
    | (go_at_call 110; refine (HL.out _).mono ?_; rintro e w3 ⟨rfl, hb3⟩; have hB3 := keepB hB2 (Nat.le_refl _) hb3; have c2_w3 := x2.out w3 hB3; have c3_w3 := x3.out w3 hB3; have c4_w3 := x4.out w3 hB3; have c5_w3 := x5.out w3 hB3; have c6_w3 := x6.out w3 hB3; have c13_w3 := x13.out w3 hB3; have c0_w3 := x0.out w3 hB3)
    | (go_at_call 111; refine (HN.out _).mono ?_; rintro e w4 ⟨rfl, hb4⟩; have hB4 := keepB hB3 (Nat.le_refl _) hb4; have c13_w4 := x13.out w4 hB4; have c0_w4 := x0.out w4 hB4)
    | (go_at_call 87; refine (HA.out _).mono ?_; rintro e w5 ⟨rfl, rfl⟩))
      all_goals (go_ret; exact ⟨ret_bool (by simp_all), keepB hA.out (Nat.le_refl _) (by first | exact hB4 | exact hB3 | exact hB2 | exact hB1)⟩)
   | true =>
    cases L with
    | true =>
      go_wp2_with (first
    | (have _ := hD1; go_at_call 109; refine (HT.out _).mono ?_; rintro e w2 ⟨rfl, hb2⟩; have hB2 := keepB hB1 (Nat.le_refl _) hb2; have c3_w2 := x3.out w2 hB2; have c4_w2 := x4.out w2 hB2; have c5_w2 := x5.out w2 hB2; have c6_w2 := x6.out w2 hB2; have c7_w2 := x7.out w2 hB2; have c8_w2 := x8.out w2 hB2; have c9_w2 := x9.out w2 hB2; have c10_w2 := x10.out w2 hB2)
    | (go_at_call 109; refine (HS.out _).mono ?_; rintro e w1 ⟨rfl, hb1⟩; have hB1 : Below A.heap.size A w1 := hb1; have hD1 : Hid True := trivial; have c7_w1 := x7.out w1 hB1; have c8_w1 := x8.out w1 hB1; have c9_w1 := x9.out w1 hB1; have c10_w1 := x10.out w1 hB1)
    | (go_at_call 110; refine (HL.out _).mono ?_; rintro e w3 ⟨rfl, hb3⟩; have hB3 := keepB hB2 (Nat.le_refl _) hb3; have c2_w3 := x2.out w3 hB3; have c3_w3 := x3.out w3 hB3; have c4_w3 := x4.out w3 hB3; have c5_w3 := x5.out w3 hB3; have c6_w3 := x6.out w3 hB3; have c13_w3 := x13.out w3 hB3; have c0_w3 := x0.out w3 hB3)
    | (go_at_call 111; refine (HN.out _).mono ?_; rintro e w4 ⟨rfl, hb4⟩; have hB4 := keepB hB3 (Nat.le_refl _) hb4; have c13_w4 := x13.out w4 hB4; have c0_w4 := x0.out w4 hB4)
    | (go_at_call 87; refine (HA.out _).mono ?_; rintro e w5 ⟨rfl, rfl⟩))
      all_goals (go_ret; exact ⟨ret_bool (by simp_all), keepB hA.out (Nat.le_refl _) (by first | exact hB4 | exact hB3 | exact hB2 | exact hB1)⟩)
    | false =>
     by_cases h0 : s.st = 0
     · cases N with
       | true =>
          go_wp2_with (first
    | (have _ := hD1; go_at_call 109; refine (HT.out _).mono ?_; rintro e w2 ⟨rfl, hb2⟩; have hB2 := keepB hB1 (Nat.le_refl _) hb2; have c3_w2 := x3.out w2 hB2; have c4_w2 := x4.out w2 hB2; have c5_w2 := x5.out w2 hB2; have c6_w2 := x6.out w2 hB2; have c7_w2 := x7.out w2 hB2; have c8_w2 := x8.out w2 hB2; have c9_w2 := x9.out w2 hB2; have c10_w2 := x10.out w2 hB2)
    | (go_at_call 109; refine (HS.out _).mono ?_; rintro e w1 ⟨rfl, hb1⟩; have hB1 : Below A.heap.size A w1 := hb1; have hD1 : Hid True := trivial; have c7_w1 := x7.out w1 hB1; have c8_w1 := x8.out w1 hB1; have c9_w1 := x9.out w1 hB1; have c10_w1 := x10.out w1 hB1)
    | (go_at_call 110; refine (HL.out _).mono ?_; rintro e w3 ⟨rfl, hb3⟩; have hB3 := keepB hB2 (Nat.le_refl _) hb3; have c2_w3 := x2.out w3 hB3; have c3_w3 := x3.out w3 hB3; have c4_w3 := x4.out w3 hB3; have c5_w3 := x5.out w3 hB3; have c6_w3 := x6.out w3 hB3; have c13_w3 := x13.out w3 hB3; have c0_w3 := x0.out w3 hB3)
    | (go_at_call 111; refine (HN.out _).mono ?_; rintro e w4 ⟨rfl, hb4⟩; have hB4 := keepB hB3 (Nat.le_refl _) hb4; have c13_w4 := x13.out w4 hB4; have c0_w4 := x0.out w4 hB4)
    | (go_at_call 87; refine (HA.out _).mono ?_; rintro e w5 ⟨rfl, rfl⟩))
          all_goals (go_ret; exact ⟨ret_bool (by simp_all), keepB hA.out (Nat.le_refl _) (by first | exact hB4 | exact hB3 | exact hB2 | exact hB1)⟩)
       | false =>
          go_wp2_with (first
    | (have _ := hD1; go_at_call 109; refine (HT.out _).mono ?_; rintro e w2 ⟨rfl, hb2⟩; have hB2 := keepB hB1 (Nat.le_refl _) hb2; have c3_w2 := x3.out w2 hB2; have c4_w2 := x4.out w2 hB2; have c5_w2 := x5.out w2 hB2; have c6_w2 := x6.out w2 hB2; have c7_w2 := x7.out w2 hB2; have c8_w2 := x8.out w2 hB2; have c9_w2 := x9.out w2 hB2; have c10_w2 := x10.out w2 hB2)
    | (go_at_call 109; refine (HS.out _).mono ?_; rintro e w1 ⟨rfl, hb1⟩; have hB1 : Below A.heap.size A w1 := hb1; have hD1 : Hid True := trivial; have c7_w1 := x7.out w1 hB1; have c8_w1 := x8.out w1 hB1; have c9_w1 := x9.out w1 hB1; have c10_w1 := x10.out w1 hB1)
    | (go_at_call 110; refine (HL.out _).mono ?_; rintro e w3 ⟨rfl, hb3⟩; have hB3 := keepB hB2 (Nat.le_refl _) hb3; have c2_w3 := x2.out w3 hB3; have c3_w3 := x3.out w3 hB3; have c4_w3 := x4.out w3 hB3; have c5_w3 := x5.out w3 hB3; have c6_w3 := x6.out w3 hB3; have c13_w3 := x13.out w3 hB3; have c0_w3 := x0.out w3 hB3)
    | (go_at_call 111; refine (HN.out _).mono ?_; rintro e w4 ⟨rfl, hb4⟩; have hB4 := keepB hB3 (Nat.le_refl _) hb4; have c13_w4 := x13.out w4 hB4; have c0_w4 := x0.out w4 hB4)
    | (go_at_call 87; refine (HA.out _).mono ?_; rintro e w5 ⟨rfl, rfl⟩))
          all_goals (go_ret; exact ⟨ret_bool (by simp_all), keepB hA.out (Nat.le_refl _) (by first | exact hB4 | exact hB3 | exact hB2 | exact hB1)⟩)
     · by_cases h1 : s.st = 1
       · cases N with
         | true =>
            go_wp2_with (first
    | (have _ := hD1; go_at_call 109; refine (HT.out _).mono ?_; rintro e w2 ⟨rfl, hb2⟩; have hB2 := keepB hB1 (Nat.le_refl _) hb2; have c3_w2 := x3.out w2 hB2; have c4_w2 := x4.out w2 hB2; have c5_w2 := x5.out w2 hB2; have c6_w2 := x6.out w2 hB2; have c7_w2 := x7.out w2 hB2; have c8_w2 := x8.out w2 hB2; have c9_w2 := x9.out w2 hB2; have c10_w2 := x10.out w2 hB2)
    | (go_at_call 109; refine (HS.out _).mono ?_; rintro e w1 ⟨rfl, hb1⟩; have hB1 : Below A.heap.size A w1 := hb1; have hD1 : Hid True := trivial; have c7_w1 := x7.out w1 hB1; have c8_w1 := x8.out w1 hB1; have c9_w1 := x9.out w1 hB1; have c10_w1 := x10.out w1 hB1)
    | (go_at_call 110; refine (HL.out _).mono ?_; rintro e w3 ⟨rfl, hb3⟩; have hB3 := keepB hB2 (Nat.le_refl _) hb3; have c2_w3 := x2.out w3 hB3; have c3_w3 := x3.out w3 hB3; have c4_w3 := x4.out w3 hB3; have c5_w3 := x5.out w3 hB3; have c6_w3 := x6.out w3 hB3; have c13_w3 := x13.out w3 hB3; have c0_w3 := x0.out w3 hB3)
    | (go_at_call 111; refine (HN.out _).mono ?_; rintro e w4 ⟨rfl, hb4⟩; have hB4 := keepB hB3 (Nat.le_refl _) hb4; have c13_w4 := x13.out w4 hB4; have c0_w4 := x0.out w4 hB4)
    | (go_at_call 87; refine (HA.out _).mono ?_; rintro e w5 ⟨rfl, rfl⟩))
            all_goals (go_ret; exact ⟨ret_bool (by simp_all), keepB hA.out (Nat.le_refl _) (by first | exact hB4 | exact hB3 | exact hB2 | exact hB1)⟩)
         | false =>
            go_wp2_with (first
    | (have _ := hD1; go_at_call 109; refine (HT.out _).mono ?_; rintro e w2 ⟨rfl, hb2⟩; have hB2 := keepB hB1 (Nat.le_refl _) hb2; have c3_w2 := x3.out w2 hB2; have c4_w2 := x4.out w2 hB2; have c5_w2 := x5.out w2 hB2; have c6_w2 := x6.out w2 hB2; have c7_w2 := x7.out w2 hB2; have c8_w2 := x8.out w2 hB2; have c9_w2 := x9.out w2 hB2; have c10_w2 := x10.out w2 hB2)
    | (go_at_call 109; refine (HS.out _).mono ?_; rintro e w1 ⟨rfl, hb1⟩; have hB1 : Below A.heap.size A w1 := hb1; have hD1 : Hid True := trivial; have c7_w1 := x7.out w1 hB1; have c8_w1 := x8.out w1 hB1; have c9_w1 := x9.out w1 hB1; have c10_w1 := x10.out w1 hB1)
    | (go_at_call 110; refine (HL.out _).mono ?_; rintro e w3 ⟨rfl, hb3⟩; have hB3 := keepB hB2 (Nat.le_refl _) hb3; have c2_w3 := x2.out w3 hB3; have c3_w3 := x3.out w3 hB3; have c4_w3 := x4.out w3 hB3; have c5_w3 := x5.out w3 hB3; have c6_w3 := x6.out w3 hB3; have c13_w3 := x13.out w3 hB3; have c0_w3 := x0.out w3 hB3)
    | (go_at_call 111; refine (HN.out _).mono ?_; rintro e w4 ⟨rfl, hb4⟩; have hB4 := keepB hB3 (Nat.le_refl _) hb4; have c13_w4 := x13.out w4 hB4; have c0_w4 := x0.out w4 hB4)
    | (go_at_call 87; refine (HA.out _).mono ?_; rintro e w5 ⟨rfl, rfl⟩))
            all_goals (go_ret; exact ⟨ret_bool (by simp_all), keepB hA.out (Nat.le_refl _) (by first | exact hB4 | exact hB3 | exact hB2 | exact hB1)⟩)
       · by_cases h2 : s.st = 2
         · cases N with
           | true =>
              go_wp2_with (first
    | (have _ := hD1; go_at_call 109; refine (HT.out _).mono ?_; rintro e w2 ⟨rfl, hb2⟩; have hB2 := keepB hB1 (Nat.le_refl _) hb2; have c3_w2 := x3.out w2 hB2; have c4_w2 := x4.out w2 hB2; have c5_w2 := x5.out w2 hB2; have c6_w2 := x6.out w2 hB2; have c7_w2 := x7.out w2 hB2; have c8_w2 := x8.out w2 hB2; have c9_w2 := x9.out w2 hB2; have c10_w2 := x10.out w2 hB2)
    | (go_at_call 109; refine (HS.out _).mono ?_; rintro e w1 ⟨rfl, hb1⟩; have hB1 : Below A.heap.size A w1 := hb1; have hD1 : Hid True := trivial; have c7_w1 := x7.out w1 hB1; have c8_w1 := x8.out w1 hB1; have c9_w1 := x9.out w1 hB1; have c10_w1 := x10.out w1 hB1)
    | (go_at_call 110; refine (HL.out _).mono ?_; rintro e w3 ⟨rfl, hb3⟩; have hB3 := keepB hB2 (Nat.le_refl _) hb3; have c2_w3 := x2.out w3 hB3; have c3_w3 := x3.out w3 hB3; have c4_w3 := x4.out w3 hB3; have c5_w3 := x5.out w3 hB3; have c6_w3 := x6.out w3 hB3; have c13_w3 := x13.out w3 hB3; have c0_w3 := x0.out w3 hB3)
    | (go_at_call 111; refine (HN.out _).mono ?_; rintro e w4 ⟨rfl, hb4⟩; have hB4 := keepB hB3 (Nat.le_refl _) hb4; have c13_w4 := x13.out w4 hB4; have c0_w4 := x0.out w4 hB4)
    | (go_at_call 87; refine (HA.out _).mono ?_; rintro e w5 ⟨rfl, rfl⟩))
              all_goals (go_ret; exact ⟨ret_bool (by simp_all), keepB hA.out (Nat.le_refl _) (by first | exact hB4 | exact hB3 | exact hB2 | exact hB1)⟩)
           | false =>
             cases AH with
             | true =>
               go_wp2_with (first
    | (have _ := hD1; go_at_call 109; refine (HT.out _).mono ?_; rintro e w2 ⟨rfl, hb2⟩; have hB2 := keepB hB1 (Nat.le_refl _) hb2; have c3_w2 := x3.out w2 hB2; have c4_w2 := x4.out w2 hB2; have c5_w2 := x5.out w2 hB2; have c6_w2 := x6.out w2 hB2; have c7_w2 := x7.out w2 hB2; have c8_w2 := x8.out w2 hB2; have c9_w2 := x9.out w2 hB2; have c10_w2 := x10.out w2 hB2)
    | (go_at_call 109; refine (HS.out _).mono ?_; rintro e w1 ⟨rfl, hb1⟩; have hB1 : Below A.heap.size A w1 := hb1; have hD1 : Hid True := trivial; have c7_w1 := x7.out w1 hB1; have c8_w1 := x8.out w1 hB1; have c9_w1 := x9.out w1 hB1; have c10_w1 := x10.out w1 hB1)
    | (go_at_call 110; refine (HL.out _).mono ?_; rintro e w3 ⟨rfl, hb3⟩; have hB3 := keepB hB2 (Nat.le_refl _) hb3; have c2_w3 := x2.out w3 hB3; have c3_w3 := x3.out w3 hB3; have c4_w3 := x4.out w3 hB3; have c5_w3 := x5.out w3 hB3; have c6_w3 := x6.out w3 hB3; have c13_w3 := x13.out w3 hB3; have c0_w3 := x0.out w3 hB3)
    | (go_at_call 111; refine (HN.out _).mono ?_; rintro e w4 ⟨rfl, hb4⟩; have hB4 := keepB hB3 (Nat.le_refl _) hb4; have c13_w4 := x13.out w4 hB4; have c0_w4 := x0.out w4 hB4)
    | (go_at_call 87; refine (HA.out _).mono ?_; rintro e w5 ⟨rfl, rfl⟩))
               all_goals (go_ret; exact ⟨ret_bool (by simp_all), keepB hA.out (Nat.le_refl _) (by first | exact hB4 | exact hB3 | exact hB2 | exact hB1)⟩)
             | false =>
               go_wp2_with (first
    | (have _ := hD1; go_at_call 109; refine (HT.out _).mono ?_; rintro e w2 ⟨rfl, hb2⟩; have hB2 := keepB hB1 (Nat.le_refl _) hb2; have c3_w2 := x3.out w2 hB2; have c4_w2 := x4.out w2 hB2; have c5_w2 := x5.out w2 hB2; have c6_w2 := x6.out w2 hB2; have c7_w2 := x7.out w2 hB2; have c8_w2 := x8.out w2 hB2; have c9_w2 := x9.out w2 hB2; have c10_w2 := x10.out w2 hB2)
    | (go_at_call 109; refine (HS.out _).mono ?_; rintro e w1 ⟨rfl, hb1⟩; have hB1 : Below A.heap.size A w1 := hb1; have hD1 : Hid True := trivial; have c7_w1 := x7.out w1 hB1; have c8_w1 := x8.out w1 hB1; have c9_w1 := x9.out w1 hB1; have c10_w1 := x10.out w1 hB1)
    | (go_at_call 110; refine (HL.out _).mono ?_; rintro e w3 ⟨rfl, hb3⟩; have hB3 := keepB hB2 (Nat.le_refl _) hb3; have c2_w3 := x2.out w3 hB3; have c3_w3 := x3.out w3 hB3; have c4_w3 := x4.out w3 hB3; have c5_w3 := x5.out w3 hB3; have c6_w3 := x6.out w3 hB3; have c13_w3 := x13.out w3 hB3; have c0_w3 := x0.out w3 hB3)
    | (go_at_call 111; refine (HN.out _).mono ?_; rintro e w4 ⟨rfl, hb4⟩; have hB4 := keepB hB3 (Nat.le_refl _) hb4; have c13_w4 := x13.out w4 hB4; have c0_w4 := x0.out w4 hB4)
    | (go_at_call 87; refine (HA.out _).mono ?_; rintro e w5 ⟨rfl, rfl⟩))
               all_goals (go_ret; exact ⟨ret_bool (by simp_all), keepB hA.out (Nat.le_refl _) (by first | exact hB4 | exact hB3 | exact hB2 | exact hB1)⟩)
         · go_wp2_with (first
    | (have _ := hD1; go_at_call 109; refine (HT.out _).mono ?_; rintro e w2 ⟨rfl, hb2⟩; have hB2 := keepB hB1 (Nat.le_refl _) hb2; have c3_w2 := x3.out w2 hB2; have c4_w2 := x4.out w2 hB2; have c5_w2 := x5.out w2 hB2; have c6_w2 := x6.out w2 hB2; have c7_w2 := x7.out w2 hB2; have c8_w2 := x8.out w2 hB2; have c9_w2 := x9.out w2 hB2; have c10_w2 := x10.out w2 hB2)
    | (go_at_call 109; refine (HS.out _).mono ?_; rintro e w1 ⟨rfl, hb1⟩; have hB1 : Below A.heap.size A w1 := hb1; have hD1 : Hid True := trivial; have c7_w1 := x7.out w1 hB1; have c8_w1 := x8.out w1 hB1; have c9_w1 := x9.out w1 hB1; have c10_w1 := x10.out w1 hB1)
    | (go_at_call 110; refine (HL.out _).mono ?_; rintro e w3 ⟨rfl, hb3⟩; have hB3 := keepB hB2 (Nat.le_refl _) hb3; have c2_w3 := x2.out w3 hB3; have c3_w3 := x3.out w3 hB3; have c4_w3 := x4.out w3 hB3; have c5_w3 := x5.out w3 hB3; have c6_w3 := x6.out w3 hB3; have c13_w3 := x13.out w3 hB3; have c0_w3 := x0.out w3 hB3)
    | (go_at_call 111; refine (HN.out _).mono ?_; rintro e w4 ⟨rfl, hb4⟩; have hB4 := keepB hB3 (Nat.le_refl _) hb4; have c13_w4 := x13.out w4 hB4; have c0_w4 := x0.out w4 hB4)
    | (go_at_call 87; refine (HA.out _).mono ?_; rintro e w5 ⟨rfl, rfl⟩))
           all_goals (go_ret; exact ⟨ret_bool (by simp_all), keepB hA.out (Nat.le_refl _) (by first | exact hB4 | exact hB3 | exact hB2 | exact hB1)⟩)
end Go.Proofs.Ytggdjiijcoklgaa
