/- THE WALK of a right station: the model's. Written by mkstnu.py. -/
import Derived.Test.YtggdjiijcoklgaaHStnT
import Derived.Test.YtggdjiijcoklgaaHLoadR
namespace Go.Proofs.Ytggdjiijcoklgaa
open Go.RowKit
set_option linter.unusedVariables false
set_option linter.unusedSimpArgs false

/-- right, in the model's order -/
def specQ (A1 T1 T2 T3 I1 I2 R1 R2 L : Bool) (o st he ad : Int) (AH K G W O : Bool) : Bool :=
  A1 && (T1 && (T2 && (T3 && (I1 && (I2 && (R1 && (R2 && (!L && (decide ((o == 0) = (st == 0)) && (!((decide (st = 2) && (!AH || decide (he = ad))) || (!decide (st = 2) && !decide (he = 0))) && (K && (G && (W && O)))))))))))))
theorem right_spec (s : Stn) : s.right = specQ (addrB s.ad) (timeB s.bo) (timeB s.qu) (timeB s.tr) (decide (0 ≤ s.st) && decide (s.st ≤ 2)) (decide (0 ≤ s.po) && decide (s.po ≤ 8)) s.s.right s.t.right (s.t.lt s.s) s.s.o s.st s.he s.ad (addrB s.he) (othersB s.ad s.kn) (globsB s.ad s.gs) (wordsQ s.ws) (outB s.os) := by
  unfold Stn.right tokB stateB specQ St.less
  cases h1 : s.s.right with
  | false => simp
  | true =>
    cases h2 : s.t.right with
    | false => simp
    | true =>
      rw [St.none_o h1]
      cases hL : s.t.lt s.s with
      | true => simp
      | false =>
        generalize addrB s.ad = A1
        generalize timeB s.bo = T1
        generalize timeB s.qu = T2
        generalize timeB s.tr = T3
        generalize addrB s.he = AH
        generalize othersB s.ad s.kn = K
        generalize globsB s.ad s.gs = G
        generalize wordsQ s.ws = W
        generalize outB s.os = O
        generalize s.s.o = o
        generalize s.he = he
        generalize s.ad = ad
        generalize s.st = st
        generalize s.po = po
        have e1 : (he == 0) = decide (he = 0) := by rw [Bool.eq_iff_iff]; simp
        have e2 : (he != ad) = !decide (he = ad) := by rw [Bool.eq_iff_iff]; simp
        have e0 : (o == 0) = decide (o = 0) := by rw [Bool.eq_iff_iff]; simp
        rw [e0, e1, e2]
        by_cases h0 : st = 0
        · subst h0
          by_cases ho : o = 0 <;> by_cases hh : he = 0 <;> simp [ho, hh] <;> ac_rfl
        · by_cases h1 : st = 1
          · subst h1
            by_cases ho : o = 0 <;> by_cases hh : he = 0 <;> simp [ho, hh] <;> ac_rfl
          · by_cases h2 : st = 2
            · subst h2
              by_cases ho : o = 0 <;> by_cases hh : he = ad <;> cases AH <;> simp [ho, hh] <;> ac_rfl
            · have hx : ¬ (0 ≤ st ∧ st ≤ 2) := by omega
              have e3 : (decide (0 ≤ st) && decide (st ≤ 2)) = false := by rw [Bool.eq_false_iff]; intro h; simp at h; exact hx h
              simp [h0, h1, h2, e3]
set_option maxRecDepth 100000 in
set_option maxHeartbeats 12800000 in
theorem specStationRight_any (s : Stn) (v1 v2 v3 v4 : Value) (w : World) (hl1 : s.kn.length ≤ 1048576) (hl2 : s.ws.length ≤ 1048576) (hl : s.gs.length ≤ 1048576) (hlw : ∀ g ∈ s.gs, g.2.length ≤ 1048576) (hl4 : s.os.length ≤ 1048576) (hz : ∀ b ∈ s.os, b.size ≤ 9223372036854775807)
    (r1 : RowI w v1 s.kn) (r2 : RowI w v2 s.ws) (r3 : RowG w v3 s.gs) (r4 : RowS w v4 s.os) :
    Calls Try.prog 37 #[.agg #[.int .i64 s.ad, .int .i64 s.bo, .int .i64 s.st, .int .i64 s.s.g, .int .i64 s.s.o, .int .i64 s.s.b, .int .i64 s.s.h, .int .i64 s.t.g, .int .i64 s.t.o, .int .i64 s.t.b, .int .i64 s.t.h, .int .i64 s.qu, .int .i64 s.tr, .int .i64 s.he, .int .i64 s.po, v1, v2, v3, v4]] w fun e w' => e = .returned (.bool s.right) ∧ Below w.heap.size w w' := by
  have H1 : Hid (∀ W : World, Calls Try.prog 69 #[.int .i64 s.ad] W fun e w' => e = .returned (.bool (addrB s.ad)) ∧ W = w') := fun W => l02Addr_any s.ad W
  have H2 : Hid (∀ W : World, Calls Try.prog 78 #[.int .i64 s.bo] W fun e w' => e = .returned (.bool (timeB s.bo)) ∧ W = w') := fun W => l02Time_any s.bo W
  have H3 : Hid (∀ W : World, Calls Try.prog 78 #[.int .i64 s.qu] W fun e w' => e = .returned (.bool (timeB s.qu)) ∧ W = w') := fun W => l02Time_any s.qu W
  have H4 : Hid (∀ W : World, Calls Try.prog 78 #[.int .i64 s.tr] W fun e w' => e = .returned (.bool (timeB s.tr)) ∧ W = w') := fun W => l02Time_any s.tr W
  have H5 : Hid (∀ W : World, Calls Try.prog 79 #[.int .i64 s.st, .int .i64 0, .int .i64 2] W fun e w' => e = .returned (.bool (decide (0 ≤ s.st) && decide (s.st ≤ 2))) ∧ W = w') := fun W => l02Is_any s.st 0 2 W
  have H6 : Hid (∀ W : World, Calls Try.prog 79 #[.int .i64 s.po, .int .i64 0, .int .i64 8] W fun e w' => e = .returned (.bool (decide (0 ≤ s.po) && decide (s.po ≤ 8))) ∧ W = w') := fun W => l02Is_any s.po 0 8 W
  have HS : Hid (∀ W : World, Calls Try.prog 80 #[.agg #[.int .i64 s.s.g, .int .i64 s.s.o, .int .i64 s.s.b, .int .i64 s.s.h]] W fun e w' => e = .returned (.bool s.s.right) ∧ Below W.heap.size W w') := fun W => specStampRight_any s.s W
  have HT : Hid (∀ W : World, Calls Try.prog 80 #[.agg #[.int .i64 s.t.g, .int .i64 s.t.o, .int .i64 s.t.b, .int .i64 s.t.h]] W fun e w' => e = .returned (.bool s.t.right) ∧ Below W.heap.size W w') := fun W => specStampRight_any s.t W
  have HL : Hid (∀ W : World, Calls Try.prog 81 #[.agg #[.int .i64 s.t.g, .int .i64 s.t.o, .int .i64 s.t.b, .int .i64 s.t.h], .agg #[.int .i64 s.s.g, .int .i64 s.s.o, .int .i64 s.s.b, .int .i64 s.s.h]] W fun e w' => e = .returned (.bool (s.t.lt s.s)) ∧ Below W.heap.size W w') := fun W => l03Less_any s.t s.s W
  have HA : Hid (∀ W : World, Calls Try.prog 69 #[.int .i64 s.he] W fun e w' => e = .returned (.bool (addrB s.he)) ∧ W = w') := fun W => l02Addr_any s.he W
  have H8 : Hid (∀ W : World, Below w.heap.size w W → Calls Try.prog 82 #[v1, .int .i64 s.ad] W fun e w' => e = .returned (.bool (othersB s.ad s.kn)) ∧ Below W.heap.size W w') := fun W hW => l06Known_any v1 s.kn s.ad W (by omega) (r1.below hW)
  have H10 : Hid (∀ W : World, Below w.heap.size w W → Calls Try.prog 83 #[v3, .int .i64 s.ad] W fun e w' => e = .returned (.bool (globsB s.ad s.gs)) ∧ Below W.heap.size W w') := fun W hW => l06Globs_any v3 s.gs s.ad W hl hlw (r3.below hW)
  have H9 : Hid (∀ W : World, Below w.heap.size w W → Calls Try.prog 84 #[v2] W fun e w' => e = .returned (.bool (wordsQ s.ws)) ∧ Below W.heap.size W w') := fun W hW => l03Words_any v2 s.ws W (by omega) (r2.below hW)
  have H11 : Hid (∀ W : World, Below w.heap.size w W → Calls Try.prog 85 #[v4] W fun e w' => e = .returned (.bool (outB s.os)) ∧ W = w') := fun W hW => l06Out_any v4 s.os W (by omega) hz (r4.below hW)
  clear r1 r2 r3 r4 hl1 hl2 hl hlw hl4 hz
  rw [right_spec]
  generalize addrB s.ad = A1 at H1
  generalize timeB s.bo = T1 at H2
  generalize timeB s.qu = T2 at H3
  generalize timeB s.tr = T3 at H4
  generalize (decide (0 ≤ s.st) && decide (s.st ≤ 2)) = I1 at H5
  generalize (decide (0 ≤ s.po) && decide (s.po ≤ 8)) = I2 at H6
  generalize s.s.right = R1 at HS
  generalize s.t.right = R2 at HT
  generalize s.t.lt s.s = L at HL
  generalize addrB s.he = AH at HA
  generalize othersB s.ad s.kn = B8 at H8
  generalize wordsQ s.ws = B9 at H9
  generalize globsB s.ad s.gs = B10 at H10
  generalize outB s.os = B11 at H11
  have hA : Hid (Below w.heap.size w _) := all_alloc w (.cells #[.int .i64 s.ad, .int .i64 s.bo, .int .i64 s.st, .int .i64 s.s.g, .int .i64 s.s.o, .int .i64 s.s.b, .int .i64 s.s.h, .int .i64 s.t.g, .int .i64 s.t.o, .int .i64 s.t.b, .int .i64 s.t.h, .int .i64 s.qu, .int .i64 s.tr, .int .i64 s.he, .int .i64 s.po, v1, v2, v3, v4] 33)
  have hX : Hid _ := heap_alloc_new w (.cells #[.int .i64 s.ad, .int .i64 s.bo, .int .i64 s.st, .int .i64 s.s.g, .int .i64 s.s.o, .int .i64 s.s.b, .int .i64 s.s.h, .int .i64 s.t.g, .int .i64 s.t.o, .int .i64 s.t.b, .int .i64 s.t.h, .int .i64 s.qu, .int .i64 s.tr, .int .i64 s.he, .int .i64 s.po, v1, v2, v3, v4] 33)
  go_enter Try.func37, Try.ntmps37
  go_upto_region 1 with fail
  generalize w.alloc (.cells #[.int .i64 s.ad, .int .i64 s.bo, .int .i64 s.st, .int .i64 s.s.g, .int .i64 s.s.o, .int .i64 s.s.b, .int .i64 s.s.h, .int .i64 s.t.g, .int .i64 s.t.o, .int .i64 s.t.b, .int .i64 s.t.h, .int .i64 s.qu, .int .i64 s.tr, .int .i64 s.he, .int .i64 s.po, v1, v2, v3, v4] 33) = A at hA hX ⊢
  have x0 : Hid _ := cellW hX.out 0 _ rfl
  have x1 : Hid _ := cellW hX.out 1 _ rfl
  have x2 : Hid _ := cellW hX.out 2 _ rfl
  have x3 : Hid _ := cellW hX.out 3 _ rfl
  have x4 : Hid _ := cellW hX.out 4 _ rfl
  have x5 : Hid _ := cellW hX.out 5 _ rfl
  have x6 : Hid _ := cellW hX.out 6 _ rfl
  have x7 : Hid _ := cellW hX.out 7 _ rfl
  have x8 : Hid _ := cellW hX.out 8 _ rfl
  have x9 : Hid _ := cellW hX.out 9 _ rfl
  have x10 : Hid _ := cellW hX.out 10 _ rfl
  have x11 : Hid _ := cellW hX.out 11 _ rfl
  have x12 : Hid _ := cellW hX.out 12 _ rfl
  have x13 : Hid _ := cellW hX.out 13 _ rfl
  have x14 : Hid _ := cellW hX.out 14 _ rfl
  have x15 : Hid _ := cellW hX.out 15 _ rfl
  have x16 : Hid _ := cellW hX.out 16 _ rfl
  have x17 : Hid _ := cellW hX.out 17 _ rfl
  have x18 : Hid _ := cellW hX.out 18 _ rfl
  have c0 := x0.out A (Below.refl _ _)
  have c1 := x1.out A (Below.refl _ _)
  have c2 := x2.out A (Below.refl _ _)
  have c3 := x3.out A (Below.refl _ _)
  have c4 := x4.out A (Below.refl _ _)
  have c5 := x5.out A (Below.refl _ _)
  have c6 := x6.out A (Below.refl _ _)
  have c11 := x11.out A (Below.refl _ _)
  have c12 := x12.out A (Below.refl _ _)
  have c14 := x14.out A (Below.refl _ _)
  go_wp2_with (first
    | (have _ := hAD1; go_at_call 69; refine (HA.out _).mono ?_; rintro e w0 ⟨rfl, rfl⟩)
    | (go_at_call 69; refine (H1.out _).mono ?_; rintro e w0 ⟨rfl, rfl⟩; have hAD1 : Hid True := trivial)
    | (have _ := hT2; go_at_call 78; refine (H4.out _).mono ?_; rintro e w0 ⟨rfl, rfl⟩)
    | (have _ := hT1; go_at_call 78; refine (H3.out _).mono ?_; rintro e w0 ⟨rfl, rfl⟩; have hT2 : Hid True := trivial)
    | (go_at_call 78; refine (H2.out _).mono ?_; rintro e w0 ⟨rfl, rfl⟩; have hT1 : Hid True := trivial)
    | (have _ := hI1; go_at_call 79; refine (H6.out _).mono ?_; rintro e w0 ⟨rfl, rfl⟩)
    | (go_at_call 79; refine (H5.out _).mono ?_; rintro e w0 ⟨rfl, rfl⟩; have hI1 : Hid True := trivial)
    | (have _ := hB1; go_at_call 80; refine (HT.out _).mono ?_; rintro e w2 ⟨rfl, hb2⟩; have hB2 := keepB hB1 (Nat.le_refl _) hb2; have hW2 := keepB hA.out (Nat.le_refl _) hB2; have c3_w2 := x3.out w2 hB2; have c4_w2 := x4.out w2 hB2; have c5_w2 := x5.out w2 hB2; have c6_w2 := x6.out w2 hB2; have c7_w2 := x7.out w2 hB2; have c8_w2 := x8.out w2 hB2; have c9_w2 := x9.out w2 hB2; have c10_w2 := x10.out w2 hB2)
    | (go_at_call 80; refine (HS.out _).mono ?_; rintro e w1 ⟨rfl, hb1⟩; have hB1 : Below A.heap.size A w1 := hb1; have hW1 := keepB hA.out (Nat.le_refl _) hB1; have c7_w1 := x7.out w1 hB1; have c8_w1 := x8.out w1 hB1; have c9_w1 := x9.out w1 hB1; have c10_w1 := x10.out w1 hB1)
    | (go_at_call 81; refine (HL.out _).mono ?_; rintro e w3 ⟨rfl, hb3⟩; have hB3 := keepB hB2 (Nat.le_refl _) hb3; have hW3 := keepB hA.out (Nat.le_refl _) hB3; have c0_w3 := x0.out w3 hB3; have c2_w3 := x2.out w3 hB3; have c4_w3 := x4.out w3 hB3; have c13_w3 := x13.out w3 hB3; have c15_w3 := x15.out w3 hB3)
    | (go_at_call 82; refine (H8.out _ hW3).mono ?_; rintro e w4 ⟨rfl, hb4⟩; have hB4 := keepB hB3 (Nat.le_refl _) hb4; have hW4 := keepB hA.out (Nat.le_refl _) hB4; have c0_w4 := x0.out w4 hB4; have c17_w4 := x17.out w4 hB4)
    | (go_at_call 83; refine (H10.out _ hW4).mono ?_; rintro e w5 ⟨rfl, hb5⟩; have hB5 := keepB hB4 (Nat.le_refl _) hb5; have hW5 := keepB hA.out (Nat.le_refl _) hB5; have c16_w5 := x16.out w5 hB5)
    | (go_at_call 84; refine (H9.out _ hW5).mono ?_; rintro e w6 ⟨rfl, hb6⟩; have hB6 := keepB hB5 (Nat.le_refl _) hb6; have hW6 := keepB hA.out (Nat.le_refl _) hB6; have c18_w6 := x18.out w6 hB6)
    | (go_at_call 85; refine (H11.out _ hW6).mono ?_; rintro e w0 ⟨rfl, rfl⟩))
  all_goals (go_ret; exact ⟨ret_bool (by unfold specQ; simp_all), by first | exact hW6 | exact hW5 | exact hW4 | exact hW3 | exact hW2 | exact hW1 | exact hA.out⟩)
end Go.Proofs.Ytggdjiijcoklgaa
