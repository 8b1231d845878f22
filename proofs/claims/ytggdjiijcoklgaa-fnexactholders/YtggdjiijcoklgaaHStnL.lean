/- THE WALK of a right station: the program's. Written by mkstn2.py. -/
import Derived.Test.YtggdjiijcoklgaaHStnK
import Derived.Test.YtggdjiijcoklgaaHLoadR
namespace Go.Proofs.Ytggdjiijcoklgaa
open Go.RowKit
set_option linter.unusedVariables false
set_option linter.unusedSimpArgs false

set_option maxRecDepth 100000 in
set_option maxHeartbeats 12800000 in
theorem stationRight_any (s : Stn) (v1 v2 v3 v4 : Value) (w : World) (hl1 : s.kn.length ≤ 1048576) (hl2 : s.ws.length ≤ 1048576) (hl : s.gs.length ≤ 1048576) (hlw : ∀ g ∈ s.gs, g.2.length ≤ 1048576) (hl4 : s.os.length ≤ 1048576) (hz : ∀ b ∈ s.os, b.size ≤ 9223372036854775807)
    (r1 : RowI w v1 s.kn) (r2 : RowI w v2 s.ws) (r3 : RowG w v3 s.gs) (r4 : RowS w v4 s.os) :
    Calls Try.prog 42 #[.agg #[.int .i64 s.ad, .int .i64 s.bo, .int .i64 s.st, .int .i64 s.s.g, .int .i64 s.s.o, .int .i64 s.s.b, .int .i64 s.s.h, .int .i64 s.t.g, .int .i64 s.t.o, .int .i64 s.t.b, .int .i64 s.t.h, .int .i64 s.qu, .int .i64 s.tr, .int .i64 s.he, .int .i64 s.po, v1, v2, v3, v4]] w fun e w' => e = .returned (.bool s.right) ∧ Below w.heap.size w w' := by
  have H1 : Hid (∀ W : World, Calls Try.prog 87 #[.int .i64 s.ad] W fun e w' => e = .returned (.bool (addrB s.ad)) ∧ W = w') := fun W => isAddress_any s.ad W
  have H2 : Hid (∀ W : World, Calls Try.prog 88 #[.int .i64 s.bo] W fun e w' => e = .returned (.bool (timeB s.bo)) ∧ W = w') := fun W => isTime_any s.bo W
  have H3 : Hid (∀ W : World, Calls Try.prog 88 #[.int .i64 s.qu] W fun e w' => e = .returned (.bool (timeB s.qu)) ∧ W = w') := fun W => isTime_any s.qu W
  have H4 : Hid (∀ W : World, Calls Try.prog 88 #[.int .i64 s.tr] W fun e w' => e = .returned (.bool (timeB s.tr)) ∧ W = w') := fun W => isTime_any s.tr W
  have H5 : Hid (∀ W : World, Calls Try.prog 89 #[.agg #[.int .i64 s.ad, .int .i64 s.bo, .int .i64 s.st, .int .i64 s.s.g, .int .i64 s.s.o, .int .i64 s.s.b, .int .i64 s.s.h, .int .i64 s.t.g, .int .i64 s.t.o, .int .i64 s.t.b, .int .i64 s.t.h, .int .i64 s.qu, .int .i64 s.tr, .int .i64 s.he, .int .i64 s.po, v1, v2, v3, v4]] W fun e w' => e = .returned (.bool (tokB s)) ∧ Below W.heap.size W w') := fun W => tokenRight_any s v1 v2 v3 v4 W
  have H8 : Hid (∀ W : World, Below w.heap.size w W → Calls Try.prog 90 #[v1, .int .i64 s.ad] W fun e w' => e = .returned (.bool (othersB s.ad s.kn)) ∧ W = w') := fun W hW => othersRise_any v1 s.kn s.ad W (by omega) (r1.below hW)
  have H9 : Hid (∀ W : World, Below w.heap.size w W → Calls Try.prog 91 #[v2] W fun e w' => e = .returned (.bool (wordsQ s.ws)) ∧ Below W.heap.size W w') := fun W hW => wordsRight_any v2 s.ws W (by omega) (r2.below hW)
  have H10 : Hid (∀ W : World, Below w.heap.size w W → Calls Try.prog 92 #[.agg #[.int .i64 s.ad, .int .i64 s.bo, .int .i64 s.st, .int .i64 s.s.g, .int .i64 s.s.o, .int .i64 s.s.b, .int .i64 s.s.h, .int .i64 s.t.g, .int .i64 s.t.o, .int .i64 s.t.b, .int .i64 s.t.h, .int .i64 s.qu, .int .i64 s.tr, .int .i64 s.he, .int .i64 s.po, v1, v2, v3, v4]] W fun e w' => e = .returned (.bool (globsB s.ad s.gs)) ∧ Below W.heap.size W w') := fun W hW => globsRight_any s v1 v2 v3 v4 W hl hlw (r3.below hW)
  have H11 : Hid (∀ W : World, Below w.heap.size w W → Calls Try.prog 93 #[v4] W fun e w' => e = .returned (.bool (outB s.os)) ∧ W = w') := fun W hW => outRight_any v4 s.os W (by omega) hz (r4.below hW)
  clear r1 r2 r3 r4 hl1 hl2 hl hlw hl4 hz
  unfold Stn.right
  generalize addrB s.ad = B1 at H1
  generalize timeB s.bo = B2 at H2
  generalize timeB s.qu = B3 at H3
  generalize timeB s.tr = B4 at H4
  generalize tokB s = B5 at H5
  generalize othersB s.ad s.kn = B8 at H8
  generalize wordsQ s.ws = B9 at H9
  generalize globsB s.ad s.gs = B10 at H10
  generalize outB s.os = B11 at H11
  have hA : Hid (Below w.heap.size w _) := all_alloc w (.cells #[.int .i64 s.ad, .int .i64 s.bo, .int .i64 s.st, .int .i64 s.s.g, .int .i64 s.s.o, .int .i64 s.s.b, .int .i64 s.s.h, .int .i64 s.t.g, .int .i64 s.t.o, .int .i64 s.t.b, .int .i64 s.t.h, .int .i64 s.qu, .int .i64 s.tr, .int .i64 s.he, .int .i64 s.po, v1, v2, v3, v4] 33)
  have hX : Hid _ := heap_alloc_new w (.cells #[.int .i64 s.ad, .int .i64 s.bo, .int .i64 s.st, .int .i64 s.s.g, .int .i64 s.s.o, .int .i64 s.s.b, .int .i64 s.s.h, .int .i64 s.t.g, .int .i64 s.t.o, .int .i64 s.t.b, .int .i64 s.t.h, .int .i64 s.qu, .int .i64 s.tr, .int .i64 s.he, .int .i64 s.po, v1, v2, v3, v4] 33)
  go_enter Try.func42, Try.ntmps42
  go_upto_region 1 with fail
  generalize w.alloc (.cells #[.int .i64 s.ad, .int .i64 s.bo, .int .i64 s.st, .int .i64 s.s.g, .int .i64 s.s.o, .int .i64 s.s.b, .int .i64 s.s.h, .int .i64 s.t.g, .int .i64 s.t.o, .int .i64 s.t.b, .int .i64 s.t.h, .int .i64 s.qu, .int .i64 s.tr, .int .i64 s.he, .int .i64 s.po, v1, v2, v3, v4] 33) = A at hA hX ⊢
  have x0 : Hid _ := cellW hX.out 0 _ rfl
  have x1 : Hid _ := cellW hX.out 1 _ rfl
  have x11 : Hid _ := cellW hX.out 11 _ rfl
  have x12 : Hid _ := cellW hX.out 12 _ rfl
  have x14 : Hid _ := cellW hX.out 14 _ rfl
  have x15 : Hid _ := cellW hX.out 15 _ rfl
  have x16 : Hid _ := cellW hX.out 16 _ rfl
  have x18 : Hid _ := cellW hX.out 18 _ rfl
  have c0 := x0.out A (Below.refl _ _)
  have c1 := x1.out A (Below.refl _ _)
  have c11 := x11.out A (Below.refl _ _)
  have c12 := x12.out A (Below.refl _ _)
  cases B1 with
  | false =>
    go_wp2_with (first
    | (have _ := hB2; refine wpList_load_rowG (by rfl) 33 (.tmp 1) rfl w.heap.size rfl _ _ _ _ (blk hX.out hB2) Try.underlying33 rfl (by kernel_rfl) ?_)
    | (refine wpList_load_rowG (by rfl) 33 (.tmp 1) rfl w.heap.size rfl _ _ _ _ hX.out Try.underlying33 rfl (by kernel_rfl) ?_)
    | (go_at_call 87; refine (H1.out _).mono ?_; rintro e w0 ⟨rfl, rfl⟩)
    | (have _ := hT2; go_at_call 88; refine (H4.out _).mono ?_; rintro e w0 ⟨rfl, rfl⟩)
    | (have _ := hT1; go_at_call 88; refine (H3.out _).mono ?_; rintro e w0 ⟨rfl, rfl⟩; have hT2 : Hid True := trivial)
    | (go_at_call 88; refine (H2.out _).mono ?_; rintro e w0 ⟨rfl, rfl⟩; have hT1 : Hid True := trivial)
    | (go_at_call 89; refine (H5.out _).mono ?_; rintro e w1 ⟨rfl, hb1⟩; have hB1 : Below A.heap.size A w1 := hb1; have hW1 := keepB hA.out (Nat.le_refl _) hB1; have c14_w1 := x14.out w1 hB1; have c15_w1 := x15.out w1 hB1; have c16_w1 := x16.out w1 hB1; have c0_w1 := x0.out w1 hB1)
    | (go_at_call 90; refine (H8.out _ hW1).mono ?_; rintro e w0 ⟨rfl, rfl⟩)
    | (go_at_call 91; refine (H9.out _ hW1).mono ?_; rintro e w2 ⟨rfl, hb2⟩; have hB2 := keepB hB1 (Nat.le_refl _) hb2; have hW2 := keepB hA.out (Nat.le_refl _) hB2; have c18_w2 := x18.out w2 hB2)
    | (go_at_call 92; refine (H10.out _ hW2).mono ?_; rintro e w3 ⟨rfl, hb3⟩; have hB3 := keepB hB2 (Nat.le_refl _) hb3; have hW3 := keepB hA.out (Nat.le_refl _) hB3; have c18_w3 := x18.out w3 hB3)
    | (go_at_call 93; refine (H11.out _ hW3).mono ?_; rintro e w0 ⟨rfl, rfl⟩))
    all_goals (go_ret; exact ⟨ret_bool (by simp_all <;> omega), by first | exact hW3 | exact hW2 | exact hW1 | exact hA.out⟩)
  | true =>
   cases B2 with
   | false =>
     go_wp2_with (first
    | (have _ := hB2; refine wpList_load_rowG (by rfl) 33 (.tmp 1) rfl w.heap.size rfl _ _ _ _ (blk hX.out hB2) Try.underlying33 rfl (by kernel_rfl) ?_)
    | (refine wpList_load_rowG (by rfl) 33 (.tmp 1) rfl w.heap.size rfl _ _ _ _ hX.out Try.underlying33 rfl (by kernel_rfl) ?_)
    | (go_at_call 87; refine (H1.out _).mono ?_; rintro e w0 ⟨rfl, rfl⟩)
    | (have _ := hT2; go_at_call 88; refine (H4.out _).mono ?_; rintro e w0 ⟨rfl, rfl⟩)
    | (have _ := hT1; go_at_call 88; refine (H3.out _).mono ?_; rintro e w0 ⟨rfl, rfl⟩; have hT2 : Hid True := trivial)
    | (go_at_call 88; refine (H2.out _).mono ?_; rintro e w0 ⟨rfl, rfl⟩; have hT1 : Hid True := trivial)
    | (go_at_call 89; refine (H5.out _).mono ?_; rintro e w1 ⟨rfl, hb1⟩; have hB1 : Below A.heap.size A w1 := hb1; have hW1 := keepB hA.out (Nat.le_refl _) hB1; have c14_w1 := x14.out w1 hB1; have c15_w1 := x15.out w1 hB1; have c16_w1 := x16.out w1 hB1; have c0_w1 := x0.out w1 hB1)
    | (go_at_call 90; refine (H8.out _ hW1).mono ?_; rintro e w0 ⟨rfl, rfl⟩)
    | (go_at_call 91; refine (H9.out _ hW1).mono ?_; rintro e w2 ⟨rfl, hb2⟩; have hB2 := keepB hB1 (Nat.le_refl _) hb2; have hW2 := keepB hA.out (Nat.le_refl _) hB2; have c18_w2 := x18.out w2 hB2)
    | (go_at_call 92; refine (H10.out _ hW2).mono ?_; rintro e w3 ⟨rfl, hb3⟩; have hB3 := keepB hB2 (Nat.le_refl _) hb3; have hW3 := keepB hA.out (Nat.le_refl _) hB3; have c18_w3 := x18.out w3 hB3)
    | (go_at_call 93; refine (H11.out _ hW3).mono ?_; rintro e w0 ⟨rfl, rfl⟩))
     all_goals (go_ret; exact ⟨ret_bool (by simp_all <;> omega), by first | exact hW3 | exact hW2 | exact hW1 | exact hA.out⟩)
   | true =>
    cases B3 with
    | false =>
      go_wp2_with (first
    | (have _ := hB2; refine wpList_load_rowG (by rfl) 33 (.tmp 1) rfl w.heap.size rfl _ _ _ _ (blk hX.out hB2) Try.underlying33 rfl (by kernel_rfl) ?_)
    | (refine wpList_load_rowG (by rfl) 33 (.tmp 1) rfl w.heap.size rfl _ _ _ _ hX.out Try.underlying33 rfl (by kernel_rfl) ?_)
    | (go_at_call 87; refine (H1.out _).mono ?_; rintro e w0 ⟨rfl, rfl⟩)
    | (have _ := hT2; go_at_call 88; refine (H4.out _).mono ?_; rintro e w0 ⟨rfl, rfl⟩)
    | (have _ := hT1; go_at_call 88; refine (H3.out _).mono ?_; rintro e w0 ⟨rfl, rfl⟩; have hT2 : Hid True := trivial)
    | (go_at_call 88; refine (H2.out _).mono ?_; rintro e w0 ⟨rfl, rfl⟩; have hT1 : Hid True := trivial)
    | (go_at_call 89; refine (H5.out _).mono ?_; rintro e w1 ⟨rfl, hb1⟩; have hB1 : Below A.heap.size A w1 := hb1; have hW1 := keepB hA.out (Nat.le_refl _) hB1; have c14_w1 := x14.out w1 hB1; have c15_w1 := x15.out w1 hB1; have c16_w1 := x16.out w1 hB1; have c0_w1 := x0.out w1 hB1)
    | (go_at_call 90; refine (H8.out _ hW1).mono ?_; rintro e w0 ⟨rfl, rfl⟩)
    | (go_at_call 91; refine (H9.out _ hW1).mono ?_; rintro e w2 ⟨rfl, hb2⟩; have hB2 := keepB hB1 (Nat.le_refl _) hb2; have hW2 := keepB hA.out (Nat.le_refl _) hB2; have c18_w2 := x18.out w2 hB2)
    | (go_at_call 92; refine (H10.out _ hW2).mono ?_; rintro e w3 ⟨rfl, hb3⟩; have hB3 := keepB hB2 (Nat.le_refl _) hb3; have hW3 := keepB hA.out (Nat.le_refl _) hB3; have c18_w3 := x18.out w3 hB3)
    | (go_at_call 93; refine (H11.out _ hW3).mono ?_; rintro e w0 ⟨rfl, rfl⟩))
      all_goals (go_ret; exact ⟨ret_bool (by simp_all <;> omega), by first | exact hW3 | exact hW2 | exact hW1 | exact hA.out⟩)
    | true =>
     cases B4 with
     | false =>
       go_wp2_with (first
    | (have _ := hB2; refine wpList_load_rowG (by rfl) 33 (.tmp 1) rfl w.heap.size rfl _ _ _ _ (blk hX.out hB2) Try.underlying33 rfl (by kernel_rfl) ?_)
    | (refine wpList_load_rowG (by rfl) 33 (.tmp 1) rfl w.heap.size rfl _ _ _ _ hX.out Try.underlying33 rfl (by kernel_rfl) ?_)
    | (go_at_call 87; refine (H1.out _).mono ?_; rintro e w0 ⟨rfl, rfl⟩)
    | (have _ := hT2; go_at_call 88; refine (H4.out _).mono ?_; rintro e w0 ⟨rfl, rfl⟩)
    | (have _ := hT1; go_at_call 88; refine (H3.out _).mono ?_; rintro e w0 ⟨rfl, rfl⟩; have hT2 : Hid True := trivial)
    | (go_at_call 88; refine (H2.out _).mono ?_; rintro e w0 ⟨rfl, rfl⟩; have hT1 : Hid True := trivial)
    | (go_at_call 89; refine (H5.out _).mono ?_; rintro e w1 ⟨rfl, hb1⟩; have hB1 : Below A.heap.size A w1 := hb1; have hW1 := keepB hA.out (Nat.le_refl _) hB1; have c14_w1 := x14.out w1 hB1; have c15_w1 := x15.out w1 hB1; have c16_w1 := x16.out w1 hB1; have c0_w1 := x0.out w1 hB1)
    | (go_at_call 90; refine (H8.out _ hW1).mono ?_; rintro e w0 ⟨rfl, rfl⟩)
    | (go_at_call 91; refine (H9.out _ hW1).mono ?_; rintro e w2 ⟨rfl, hb2⟩; have hB2 := keepB hB1 (Nat.le_refl _) hb2; have hW2 := keepB hA.out (Nat.le_refl _) hB2; have c18_w2 := x18.out w2 hB2)
    | (go_at_call 92; refine (H10.out _ hW2).mono ?_; rintro e w3 ⟨rfl, hb3⟩; have hB3 := keepB hB2 (Nat.le_refl _) hb3; have hW3 := keepB hA.out (Nat.le_refl _) hB3; have c18_w3 := x18.out w3 hB3)
    | (go_at_call 93; refine (H11.out _ hW3).mono ?_; rintro e w0 ⟨rfl, rfl⟩))
       all_goals (go_ret; exact ⟨ret_bool (by simp_all <;> omega), by first | exact hW3 | exact hW2 | exact hW1 | exact hA.out⟩)
     | true =>
      cases B5 with
      | false =>
        go_wp2_with (first
    | (have _ := hB2; refine wpList_load_rowG (by rfl) 33 (.tmp 1) rfl w.heap.size rfl _ _ _ _ (blk hX.out hB2) Try.underlying33 rfl (by kernel_rfl) ?_)
    | (refine wpList_load_rowG (by rfl) 33 (.tmp 1) rfl w.heap.size rfl _ _ _ _ hX.out Try.underlying33 rfl (by kernel_rfl) ?_)
    | (go_at_call 87; refine (H1.out _).mono ?_; rintro e w0 ⟨rfl, rfl⟩)
    | (have _ := hT2; go_at_call 88; refine (H4.out _).mono ?_; rintro e w0 ⟨rfl, rfl⟩)
    | (have _ := hT1; go_at_call 88; refine (H3.out _).mono ?_; rintro e w0 ⟨rfl, rfl⟩; have hT2 : Hid True := trivial)
    | (go_at_call 88; refine (H2.out _).mono ?_; rintro e w0 ⟨rfl, rfl⟩; have hT1 : Hid True := trivial)
    | (go_at_call 89; refine (H5.out _).mono ?_; rintro e w1 ⟨rfl, hb1⟩; have hB1 : Below A.heap.size A w1 := hb1; have hW1 := keepB hA.out (Nat.le_refl _) hB1; have c14_w1 := x14.out w1 hB1; have c15_w1 := x15.out w1 hB1; have c16_w1 := x16.out w1 hB1; have c0_w1 := x0.out w1 hB1)
    | (go_at_call 90; refine (H8.out _ hW1).mono ?_; rintro e w0 ⟨rfl, rfl⟩)
    | (go_at_call 91; refine (H9.out _ hW1).mono ?_; rintro e w2 ⟨rfl, hb2⟩; have hB2 := keepB hB1 (Nat.le_refl _) hb2; have hW2 := keepB hA.out (Nat.le_refl _) hB2; have c18_w2 := x18.out w2 hB2)
    | (go_at_call 92; refine (H10.out _ hW2).mono ?_; rintro e w3 ⟨rfl, hb3⟩; have hB3 := keepB hB2 (Nat.le_refl _) hb3; have hW3 := keepB hA.out (Nat.le_refl _) hB3; have c18_w3 := x18.out w3 hB3)
    | (go_at_call 93; refine (H11.out _ hW3).mono ?_; rintro e w0 ⟨rfl, rfl⟩))
        all_goals (go_ret; exact ⟨ret_bool (by simp_all <;> omega), by first | exact hW3 | exact hW2 | exact hW1 | exact hA.out⟩)
      | true =>
       by_cases hP0 : 0 ≤ s.po
       rotate_left
       · go_wp2_with (first
    | (have _ := hB2; refine wpList_load_rowG (by rfl) 33 (.tmp 1) rfl w.heap.size rfl _ _ _ _ (blk hX.out hB2) Try.underlying33 rfl (by kernel_rfl) ?_)
    | (refine wpList_load_rowG (by rfl) 33 (.tmp 1) rfl w.heap.size rfl _ _ _ _ hX.out Try.underlying33 rfl (by kernel_rfl) ?_)
    | (go_at_call 87; refine (H1.out _).mono ?_; rintro e w0 ⟨rfl, rfl⟩)
    | (have _ := hT2; go_at_call 88; refine (H4.out _).mono ?_; rintro e w0 ⟨rfl, rfl⟩)
    | (have _ := hT1; go_at_call 88; refine (H3.out _).mono ?_; rintro e w0 ⟨rfl, rfl⟩; have hT2 : Hid True := trivial)
    | (go_at_call 88; refine (H2.out _).mono ?_; rintro e w0 ⟨rfl, rfl⟩; have hT1 : Hid True := trivial)
    | (go_at_call 89; refine (H5.out _).mono ?_; rintro e w1 ⟨rfl, hb1⟩; have hB1 : Below A.heap.size A w1 := hb1; have hW1 := keepB hA.out (Nat.le_refl _) hB1; have c14_w1 := x14.out w1 hB1; have c15_w1 := x15.out w1 hB1; have c16_w1 := x16.out w1 hB1; have c0_w1 := x0.out w1 hB1)
    | (go_at_call 90; refine (H8.out _ hW1).mono ?_; rintro e w0 ⟨rfl, rfl⟩)
    | (go_at_call 91; refine (H9.out _ hW1).mono ?_; rintro e w2 ⟨rfl, hb2⟩; have hB2 := keepB hB1 (Nat.le_refl _) hb2; have hW2 := keepB hA.out (Nat.le_refl _) hB2; have c18_w2 := x18.out w2 hB2)
    | (go_at_call 92; refine (H10.out _ hW2).mono ?_; rintro e w3 ⟨rfl, hb3⟩; have hB3 := keepB hB2 (Nat.le_refl _) hb3; have hW3 := keepB hA.out (Nat.le_refl _) hB3; have c18_w3 := x18.out w3 hB3)
    | (go_at_call 93; refine (H11.out _ hW3).mono ?_; rintro e w0 ⟨rfl, rfl⟩))
         all_goals (go_ret; exact ⟨ret_bool (by simp_all <;> omega), by first | exact hW3 | exact hW2 | exact hW1 | exact hA.out⟩)
       by_cases hP8 : s.po ≤ 8
       rotate_left
       · go_wp2_with (first
    | (have _ := hB2; refine wpList_load_rowG (by rfl) 33 (.tmp 1) rfl w.heap.size rfl _ _ _ _ (blk hX.out hB2) Try.underlying33 rfl (by kernel_rfl) ?_)
    | (refine wpList_load_rowG (by rfl) 33 (.tmp 1) rfl w.heap.size rfl _ _ _ _ hX.out Try.underlying33 rfl (by kernel_rfl) ?_)
    | (go_at_call 87; refine (H1.out _).mono ?_; rintro e w0 ⟨rfl, rfl⟩)
    | (have _ := hT2; go_at_call 88; refine (H4.out _).mono ?_; rintro e w0 ⟨rfl, rfl⟩)
    | (have _ := hT1; go_at_call 88; refine (H3.out _).mono ?_; rintro e w0 ⟨rfl, rfl⟩; have hT2 : Hid True := trivial)
    | (go_at_call 88; refine (H2.out _).mono ?_; rintro e w0 ⟨rfl, rfl⟩; have hT1 : Hid True := trivial)
    | (go_at_call 89; refine (H5.out _).mono ?_; rintro e w1 ⟨rfl, hb1⟩; have hB1 : Below A.heap.size A w1 := hb1; have hW1 := keepB hA.out (Nat.le_refl _) hB1; have c14_w1 := x14.out w1 hB1; have c15_w1 := x15.out w1 hB1; have c16_w1 := x16.out w1 hB1; have c0_w1 := x0.out w1 hB1)
    | (go_at_call 90; refine (H8.out _ hW1).mono ?_; rintro e w0 ⟨rfl, rfl⟩)
    | (go_at_call 91; refine (H9.out _ hW1).mono ?_; rintro e w2 ⟨rfl, hb2⟩; have hB2 := keepB hB1 (Nat.le_refl _) hb2; have hW2 := keepB hA.out (Nat.le_refl _) hB2; have c18_w2 := x18.out w2 hB2)
    | (go_at_call 92; refine (H10.out _ hW2).mono ?_; rintro e w3 ⟨rfl, hb3⟩; have hB3 := keepB hB2 (Nat.le_refl _) hb3; have hW3 := keepB hA.out (Nat.le_refl _) hB3; have c18_w3 := x18.out w3 hB3)
    | (go_at_call 93; refine (H11.out _ hW3).mono ?_; rintro e w0 ⟨rfl, rfl⟩))
         all_goals (go_ret; exact ⟨ret_bool (by simp_all <;> omega), by first | exact hW3 | exact hW2 | exact hW1 | exact hA.out⟩)
       cases B8 with
       | false =>
         go_wp2_with (first
    | (have _ := hB2; refine wpList_load_rowG (by rfl) 33 (.tmp 1) rfl w.heap.size rfl _ _ _ _ (blk hX.out hB2) Try.underlying33 rfl (by kernel_rfl) ?_)
    | (refine wpList_load_rowG (by rfl) 33 (.tmp 1) rfl w.heap.size rfl _ _ _ _ hX.out Try.underlying33 rfl (by kernel_rfl) ?_)
    | (go_at_call 87; refine (H1.out _).mono ?_; rintro e w0 ⟨rfl, rfl⟩)
    | (have _ := hT2; go_at_call 88; refine (H4.out _).mono ?_; rintro e w0 ⟨rfl, rfl⟩)
    | (have _ := hT1; go_at_call 88; refine (H3.out _).mono ?_; rintro e w0 ⟨rfl, rfl⟩; have hT2 : Hid True := trivial)
    | (go_at_call 88; refine (H2.out _).mono ?_; rintro e w0 ⟨rfl, rfl⟩; have hT1 : Hid True := trivial)
    | (go_at_call 89; refine (H5.out _).mono ?_; rintro e w1 ⟨rfl, hb1⟩; have hB1 : Below A.heap.size A w1 := hb1; have hW1 := keepB hA.out (Nat.le_refl _) hB1; have c14_w1 := x14.out w1 hB1; have c15_w1 := x15.out w1 hB1; have c16_w1 := x16.out w1 hB1; have c0_w1 := x0.out w1 hB1)
    | (go_at_call 90; refine (H8.out _ hW1).mono ?_; rintro e w0 ⟨rfl, rfl⟩)
    | (go_at_call 91; refine (H9.out _ hW1).mono ?_; rintro e w2 ⟨rfl, hb2⟩; have hB2 := keepB hB1 (Nat.le_refl _) hb2; have hW2 := keepB hA.out (Nat.le_refl _) hB2; have c18_w2 := x18.out w2 hB2)
    | (go_at_call 92; refine (H10.out _ hW2).mono ?_; rintro e w3 ⟨rfl, hb3⟩; have hB3 := keepB hB2 (Nat.le_refl _) hb3; have hW3 := keepB hA.out (Nat.le_refl _) hB3; have c18_w3 := x18.out w3 hB3)
    | (go_at_call 93; refine (H11.out _ hW3).mono ?_; rintro e w0 ⟨rfl, rfl⟩))
         all_goals (go_ret; exact ⟨ret_bool (by simp_all <;> omega), by first | exact hW3 | exact hW2 | exact hW1 | exact hA.out⟩)
       | true =>
        cases B9 with
        | false =>
          go_wp2_with (first
    | (have _ := hB2; refine wpList_load_rowG (by rfl) 33 (.tmp 1) rfl w.heap.size rfl _ _ _ _ (blk hX.out hB2) Try.underlying33 rfl (by kernel_rfl) ?_)
    | (refine wpList_load_rowG (by rfl) 33 (.tmp 1) rfl w.heap.size rfl _ _ _ _ hX.out Try.underlying33 rfl (by kernel_rfl) ?_)
    | (go_at_call 87; refine (H1.out _).mono ?_; rintro e w0 ⟨rfl, rfl⟩)
    | (have _ := hT2; go_at_call 88; refine (H4.out _).mono ?_; rintro e w0 ⟨rfl, rfl⟩)
    | (have _ := hT1; go_at_call 88; refine (H3.out _).mono ?_; rintro e w0 ⟨rfl, rfl⟩; have hT2 : Hid True := trivial)
    | (go_at_call 88; refine (H2.out _).mono ?_; rintro e w0 ⟨rfl, rfl⟩; have hT1 : Hid True := trivial)
    | (go_at_call 89; refine (H5.out _).mono ?_; rintro e w1 ⟨rfl, hb1⟩; have hB1 : Below A.heap.size A w1 := hb1; have hW1 := keepB hA.out (Nat.le_refl _) hB1; have c14_w1 := x14.out w1 hB1; have c15_w1 := x15.out w1 hB1; have c16_w1 := x16.out w1 hB1; have c0_w1 := x0.out w1 hB1)
    | (go_at_call 90; refine (H8.out _ hW1).mono ?_; rintro e w0 ⟨rfl, rfl⟩)
    | (go_at_call 91; refine (H9.out _ hW1).mono ?_; rintro e w2 ⟨rfl, hb2⟩; have hB2 := keepB hB1 (Nat.le_refl _) hb2; have hW2 := keepB hA.out (Nat.le_refl _) hB2; have c18_w2 := x18.out w2 hB2)
    | (go_at_call 92; refine (H10.out _ hW2).mono ?_; rintro e w3 ⟨rfl, hb3⟩; have hB3 := keepB hB2 (Nat.le_refl _) hb3; have hW3 := keepB hA.out (Nat.le_refl _) hB3; have c18_w3 := x18.out w3 hB3)
    | (go_at_call 93; refine (H11.out _ hW3).mono ?_; rintro e w0 ⟨rfl, rfl⟩))
          all_goals (go_ret; exact ⟨ret_bool (by simp_all <;> omega), by first | exact hW3 | exact hW2 | exact hW1 | exact hA.out⟩)
        | true =>
         cases B10 with
         | false =>
           go_wp2_with (first
    | (have _ := hB2; refine wpList_load_rowG (by rfl) 33 (.tmp 1) rfl w.heap.size rfl _ _ _ _ (blk hX.out hB2) Try.underlying33 rfl (by kernel_rfl) ?_)
    | (refine wpList_load_rowG (by rfl) 33 (.tmp 1) rfl w.heap.size rfl _ _ _ _ hX.out Try.underlying33 rfl (by kernel_rfl) ?_)
    | (go_at_call 87; refine (H1.out _).mono ?_; rintro e w0 ⟨rfl, rfl⟩)
    | (have _ := hT2; go_at_call 88; refine (H4.out _).mono ?_; rintro e w0 ⟨rfl, rfl⟩)
    | (have _ := hT1; go_at_call 88; refine (H3.out _).mono ?_; rintro e w0 ⟨rfl, rfl⟩; have hT2 : Hid True := trivial)
    | (go_at_call 88; refine (H2.out _).mono ?_; rintro e w0 ⟨rfl, rfl⟩; have hT1 : Hid True := trivial)
    | (go_at_call 89; refine (H5.out _).mono ?_; rintro e w1 ⟨rfl, hb1⟩; have hB1 : Below A.heap.size A w1 := hb1; have hW1 := keepB hA.out (Nat.le_refl _) hB1; have c14_w1 := x14.out w1 hB1; have c15_w1 := x15.out w1 hB1; have c16_w1 := x16.out w1 hB1; have c0_w1 := x0.out w1 hB1)
    | (go_at_call 90; refine (H8.out _ hW1).mono ?_; rintro e w0 ⟨rfl, rfl⟩)
    | (go_at_call 91; refine (H9.out _ hW1).mono ?_; rintro e w2 ⟨rfl, hb2⟩; have hB2 := keepB hB1 (Nat.le_refl _) hb2; have hW2 := keepB hA.out (Nat.le_refl _) hB2; have c18_w2 := x18.out w2 hB2)
    | (go_at_call 92; refine (H10.out _ hW2).mono ?_; rintro e w3 ⟨rfl, hb3⟩; have hB3 := keepB hB2 (Nat.le_refl _) hb3; have hW3 := keepB hA.out (Nat.le_refl _) hB3; have c18_w3 := x18.out w3 hB3)
    | (go_at_call 93; refine (H11.out _ hW3).mono ?_; rintro e w0 ⟨rfl, rfl⟩))
           all_goals (go_ret; exact ⟨ret_bool (by simp_all <;> omega), by first | exact hW3 | exact hW2 | exact hW1 | exact hA.out⟩)
         | true =>
          go_wp2_with (first
    | (have _ := hB2; refine wpList_load_rowG (by rfl) 33 (.tmp 1) rfl w.heap.size rfl _ _ _ _ (blk hX.out hB2) Try.underlying33 rfl (by kernel_rfl) ?_)
    | (refine wpList_load_rowG (by rfl) 33 (.tmp 1) rfl w.heap.size rfl _ _ _ _ hX.out Try.underlying33 rfl (by kernel_rfl) ?_)
    | (go_at_call 87; refine (H1.out _).mono ?_; rintro e w0 ⟨rfl, rfl⟩)
    | (have _ := hT2; go_at_call 88; refine (H4.out _).mono ?_; rintro e w0 ⟨rfl, rfl⟩)
    | (have _ := hT1; go_at_call 88; refine (H3.out _).mono ?_; rintro e w0 ⟨rfl, rfl⟩; have hT2 : Hid True := trivial)
    | (go_at_call 88; refine (H2.out _).mono ?_; rintro e w0 ⟨rfl, rfl⟩; have hT1 : Hid True := trivial)
    | (go_at_call 89; refine (H5.out _).mono ?_; rintro e w1 ⟨rfl, hb1⟩; have hB1 : Below A.heap.size A w1 := hb1; have hW1 := keepB hA.out (Nat.le_refl _) hB1; have c14_w1 := x14.out w1 hB1; have c15_w1 := x15.out w1 hB1; have c16_w1 := x16.out w1 hB1; have c0_w1 := x0.out w1 hB1)
    | (go_at_call 90; refine (H8.out _ hW1).mono ?_; rintro e w0 ⟨rfl, rfl⟩)
    | (go_at_call 91; refine (H9.out _ hW1).mono ?_; rintro e w2 ⟨rfl, hb2⟩; have hB2 := keepB hB1 (Nat.le_refl _) hb2; have hW2 := keepB hA.out (Nat.le_refl _) hB2; have c18_w2 := x18.out w2 hB2)
    | (go_at_call 92; refine (H10.out _ hW2).mono ?_; rintro e w3 ⟨rfl, hb3⟩; have hB3 := keepB hB2 (Nat.le_refl _) hb3; have hW3 := keepB hA.out (Nat.le_refl _) hB3; have c18_w3 := x18.out w3 hB3)
    | (go_at_call 93; refine (H11.out _ hW3).mono ?_; rintro e w0 ⟨rfl, rfl⟩))
          all_goals (go_ret; exact ⟨ret_bool (by simp_all <;> omega), by first | exact hW3 | exact hW2 | exact hW1 | exact hA.out⟩)
end Go.Proofs.Ytggdjiijcoklgaa
