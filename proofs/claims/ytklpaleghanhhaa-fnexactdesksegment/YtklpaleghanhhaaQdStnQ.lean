/- THE LAW'S OWN COUNT of a station, and its question whether two are the same. Written by mkstnq.py. -/
import Derived.Test.YtklpaleghanhhaaQdStnE
import Derived.Test.YtklpaleghanhhaaQdTail
namespace Go.Proofs.Ytklpaleghanhhaa
open Go.RowKit
set_option linter.unusedVariables false
set_option linter.unusedSimpArgs false

/-- how much a station counts -/
def Stn.tot (s : Stn) : Int := (s.kn.length : Int) + (s.ws.length : Int) + ((s.gs.length : Int) + (wsum s.gs : Int)) + ((s.os.length : Int) + (bsum s.os : Int))
set_option maxRecDepth 100000 in
set_option maxHeartbeats 6400000 in
theorem eqStation_same (s : Stn) (v1 v2 v3 v4 u1 u2 u3 u4 : Value) (w : World) (hl1 : s.kn.length ≤ 1048576) (hl2 : s.ws.length ≤ 1048576) (hl : s.gs.length ≤ 1048576) (hlw : ∀ g ∈ s.gs, g.2.length ≤ 1048576) (hl4 : s.os.length ≤ 1048576)
    (r1 : RowI w v1 s.kn) (r2 : RowI w v2 s.ws) (r3 : RowG w v3 s.gs) (r4 : RowS w v4 s.os) (t1 : RowI w u1 s.kn) (t2 : RowI w u2 s.ws) (t3 : RowG w u3 s.gs) (t4 : RowS w u4 s.os) :
    Calls Try.prog 101 #[.agg #[.int .i64 s.ad, .int .i64 s.bo, .int .i64 s.st, .int .i64 s.s.g, .int .i64 s.s.o, .int .i64 s.s.b, .int .i64 s.s.h, .int .i64 s.t.g, .int .i64 s.t.o, .int .i64 s.t.b, .int .i64 s.t.h, .int .i64 s.qu, .int .i64 s.tr, .int .i64 s.he, .int .i64 s.po, v1, v2, v3, v4], .agg #[.int .i64 s.ad, .int .i64 s.bo, .int .i64 s.st, .int .i64 s.s.g, .int .i64 s.s.o, .int .i64 s.s.b, .int .i64 s.s.h, .int .i64 s.t.g, .int .i64 s.t.o, .int .i64 s.t.b, .int .i64 s.t.h, .int .i64 s.qu, .int .i64 s.tr, .int .i64 s.he, .int .i64 s.po, u1, u2, u3, u4]] w fun e w' => e = .returned (.bool true) ∧ Below w.heap.size w w' := by
  have e0 : (s.ad != s.ad) = false := by simp
  have e1 : (s.bo != s.bo) = false := by simp
  have e2 : (s.st != s.st) = false := by simp
  have e11 : (s.qu != s.qu) = false := by simp
  have e12 : (s.tr != s.tr) = false := by simp
  have e13 : (s.he != s.he) = false := by simp
  have e14 : (s.po != s.po) = false := by simp
  have HS : Hid (∀ W : World, Calls Try.prog 125 #[.agg #[.int .i64 s.s.g, .int .i64 s.s.o, .int .i64 s.s.b, .int .i64 s.s.h], .agg #[.int .i64 s.s.g, .int .i64 s.s.o, .int .i64 s.s.b, .int .i64 s.s.h]] W fun e w' => e = .returned (.bool true) ∧ Below W.heap.size W w') := fun W => eqStampQ_same s.s W
  have HT : Hid (∀ W : World, Calls Try.prog 125 #[.agg #[.int .i64 s.t.g, .int .i64 s.t.o, .int .i64 s.t.b, .int .i64 s.t.h], .agg #[.int .i64 s.t.g, .int .i64 s.t.o, .int .i64 s.t.b, .int .i64 s.t.h]] W fun e w' => e = .returned (.bool true) ∧ Below W.heap.size W w') := fun W => eqStampQ_same s.t W
  have H1 : Hid (∀ W : World, Below w.heap.size w W → Calls Try.prog 126 #[v1, u1] W fun e w' => e = .returned (.bool true) ∧ Below W.heap.size W w') := fun W hW => eqInt64S_same v1 u1 s.kn W (by omega) (r1.below hW) (t1.below hW)
  have H2 : Hid (∀ W : World, Below w.heap.size w W → Calls Try.prog 126 #[v2, u2] W fun e w' => e = .returned (.bool true) ∧ Below W.heap.size W w') := fun W hW => eqInt64S_same v2 u2 s.ws W (by omega) (r2.below hW) (t2.below hW)
  have H3 : Hid (∀ W : World, Below w.heap.size w W → Calls Try.prog 127 #[v3, u3] W fun e w' => e = .returned (.bool true) ∧ Below W.heap.size W w') := fun W hW => eqGlobS_same v3 u3 s.gs W hl hlw (r3.below hW) (t3.below hW)
  have H4 : Hid (∀ W : World, Below w.heap.size w W → Calls Try.prog 40 #[v4, u4] W fun e w' => e = .returned (.bool true) ∧ Below W.heap.size W w') := fun W hW => eqStringQ_same v4 u4 s.os W hl4 (r4.below hW) (t4.below hW)
  obtain ⟨p1, c1, rfl, _⟩ := r1
  obtain ⟨p2, c2, rfl, _⟩ := r2
  obtain ⟨p3, c3, rfl, _⟩ := r3
  obtain ⟨p4, c4, rfl, _⟩ := r4
  obtain ⟨q1, d1, rfl, _⟩ := t1
  obtain ⟨q2, d2, rfl, _⟩ := t2
  obtain ⟨q3, d3, rfl, _⟩ := t3
  obtain ⟨q4, d4, rfl, _⟩ := t4
  clear hl1 hl2 hl hlw hl4
  have hA : Below w.heap.size w _ := keepB (all_alloc w (.cells #[.int .i64 s.ad, .int .i64 s.bo, .int .i64 s.st, .int .i64 s.s.g, .int .i64 s.s.o, .int .i64 s.s.b, .int .i64 s.s.h, .int .i64 s.t.g, .int .i64 s.t.o, .int .i64 s.t.b, .int .i64 s.t.h, .int .i64 s.qu, .int .i64 s.tr, .int .i64 s.he, .int .i64 s.po, .slice p1 s.kn.length c1, .slice p2 s.ws.length c2, .slice p3 s.gs.length c3, .slice p4 s.os.length c4] 135)) (Nat.le_refl _) (all_alloc _ (.cells #[.int .i64 s.ad, .int .i64 s.bo, .int .i64 s.st, .int .i64 s.s.g, .int .i64 s.s.o, .int .i64 s.s.b, .int .i64 s.s.h, .int .i64 s.t.g, .int .i64 s.t.o, .int .i64 s.t.b, .int .i64 s.t.h, .int .i64 s.qu, .int .i64 s.tr, .int .i64 s.he, .int .i64 s.po, .slice q1 s.kn.length d1, .slice q2 s.ws.length d2, .slice q3 s.gs.length d3, .slice q4 s.os.length d4] 135))
  have hX : Hid _ := blk (heap_alloc_new w (.cells #[.int .i64 s.ad, .int .i64 s.bo, .int .i64 s.st, .int .i64 s.s.g, .int .i64 s.s.o, .int .i64 s.s.b, .int .i64 s.s.h, .int .i64 s.t.g, .int .i64 s.t.o, .int .i64 s.t.b, .int .i64 s.t.h, .int .i64 s.qu, .int .i64 s.tr, .int .i64 s.he, .int .i64 s.po, .slice p1 s.kn.length c1, .slice p2 s.ws.length c2, .slice p3 s.gs.length c3, .slice p4 s.os.length c4] 135)) (all_alloc _ (.cells #[.int .i64 s.ad, .int .i64 s.bo, .int .i64 s.st, .int .i64 s.s.g, .int .i64 s.s.o, .int .i64 s.s.b, .int .i64 s.s.h, .int .i64 s.t.g, .int .i64 s.t.o, .int .i64 s.t.b, .int .i64 s.t.h, .int .i64 s.qu, .int .i64 s.tr, .int .i64 s.he, .int .i64 s.po, .slice q1 s.kn.length d1, .slice q2 s.ws.length d2, .slice q3 s.gs.length d3, .slice q4 s.os.length d4] 135))
  have hY : Hid _ := heap_alloc_new (w.alloc (.cells #[.int .i64 s.ad, .int .i64 s.bo, .int .i64 s.st, .int .i64 s.s.g, .int .i64 s.s.o, .int .i64 s.s.b, .int .i64 s.s.h, .int .i64 s.t.g, .int .i64 s.t.o, .int .i64 s.t.b, .int .i64 s.t.h, .int .i64 s.qu, .int .i64 s.tr, .int .i64 s.he, .int .i64 s.po, .slice p1 s.kn.length c1, .slice p2 s.ws.length c2, .slice p3 s.gs.length c3, .slice p4 s.os.length c4] 135)) (.cells #[.int .i64 s.ad, .int .i64 s.bo, .int .i64 s.st, .int .i64 s.s.g, .int .i64 s.s.o, .int .i64 s.s.b, .int .i64 s.s.h, .int .i64 s.t.g, .int .i64 s.t.o, .int .i64 s.t.b, .int .i64 s.t.h, .int .i64 s.qu, .int .i64 s.tr, .int .i64 s.he, .int .i64 s.po, .slice q1 s.kn.length d1, .slice q2 s.ws.length d2, .slice q3 s.gs.length d3, .slice q4 s.os.length d4] 135)
  rw [show (w.alloc (.cells #[.int .i64 s.ad, .int .i64 s.bo, .int .i64 s.st, .int .i64 s.s.g, .int .i64 s.s.o, .int .i64 s.s.b, .int .i64 s.s.h, .int .i64 s.t.g, .int .i64 s.t.o, .int .i64 s.t.b, .int .i64 s.t.h, .int .i64 s.qu, .int .i64 s.tr, .int .i64 s.he, .int .i64 s.po, .slice p1 s.kn.length c1, .slice p2 s.ws.length c2, .slice p3 s.gs.length c3, .slice p4 s.os.length c4] 135)).heap.size = w.heap.size + 1 by simp] at hY
  go_enter Try.func101, Try.ntmps101
  go_upto_region 1 with fail
  generalize (w.alloc (.cells #[.int .i64 s.ad, .int .i64 s.bo, .int .i64 s.st, .int .i64 s.s.g, .int .i64 s.s.o, .int .i64 s.s.b, .int .i64 s.s.h, .int .i64 s.t.g, .int .i64 s.t.o, .int .i64 s.t.b, .int .i64 s.t.h, .int .i64 s.qu, .int .i64 s.tr, .int .i64 s.he, .int .i64 s.po, .slice p1 s.kn.length c1, .slice p2 s.ws.length c2, .slice p3 s.gs.length c3, .slice p4 s.os.length c4] 135)).alloc (.cells #[.int .i64 s.ad, .int .i64 s.bo, .int .i64 s.st, .int .i64 s.s.g, .int .i64 s.s.o, .int .i64 s.s.b, .int .i64 s.s.h, .int .i64 s.t.g, .int .i64 s.t.o, .int .i64 s.t.b, .int .i64 s.t.h, .int .i64 s.qu, .int .i64 s.tr, .int .i64 s.he, .int .i64 s.po, .slice q1 s.kn.length d1, .slice q2 s.ws.length d2, .slice q3 s.gs.length d3, .slice q4 s.os.length d4] 135) = A at hA hX hY ⊢
  have xa0 : Hid _ := cellW hX.out 0 _ rfl
  have xb0 : Hid _ := cellW hY.out 0 _ rfl
  have xa1 : Hid _ := cellW hX.out 1 _ rfl
  have xb1 : Hid _ := cellW hY.out 1 _ rfl
  have xa2 : Hid _ := cellW hX.out 2 _ rfl
  have xb2 : Hid _ := cellW hY.out 2 _ rfl
  have xa3 : Hid _ := cellW hX.out 3 _ rfl
  have xb3 : Hid _ := cellW hY.out 3 _ rfl
  have xa4 : Hid _ := cellW hX.out 4 _ rfl
  have xb4 : Hid _ := cellW hY.out 4 _ rfl
  have xa5 : Hid _ := cellW hX.out 5 _ rfl
  have xb5 : Hid _ := cellW hY.out 5 _ rfl
  have xa6 : Hid _ := cellW hX.out 6 _ rfl
  have xb6 : Hid _ := cellW hY.out 6 _ rfl
  have xa7 : Hid _ := cellW hX.out 7 _ rfl
  have xb7 : Hid _ := cellW hY.out 7 _ rfl
  have xa8 : Hid _ := cellW hX.out 8 _ rfl
  have xb8 : Hid _ := cellW hY.out 8 _ rfl
  have xa9 : Hid _ := cellW hX.out 9 _ rfl
  have xb9 : Hid _ := cellW hY.out 9 _ rfl
  have xa10 : Hid _ := cellW hX.out 10 _ rfl
  have xb10 : Hid _ := cellW hY.out 10 _ rfl
  have xa11 : Hid _ := cellW hX.out 11 _ rfl
  have xb11 : Hid _ := cellW hY.out 11 _ rfl
  have xa12 : Hid _ := cellW hX.out 12 _ rfl
  have xb12 : Hid _ := cellW hY.out 12 _ rfl
  have xa13 : Hid _ := cellW hX.out 13 _ rfl
  have xb13 : Hid _ := cellW hY.out 13 _ rfl
  have xa14 : Hid _ := cellW hX.out 14 _ rfl
  have xb14 : Hid _ := cellW hY.out 14 _ rfl
  have xa15 : Hid _ := cellW hX.out 15 _ rfl
  have xb15 : Hid _ := cellW hY.out 15 _ rfl
  have xa16 : Hid _ := cellW hX.out 16 _ rfl
  have xb16 : Hid _ := cellW hY.out 16 _ rfl
  have xa17 : Hid _ := cellW hX.out 17 _ rfl
  have xb17 : Hid _ := cellW hY.out 17 _ rfl
  have xa18 : Hid _ := cellW hX.out 18 _ rfl
  have xb18 : Hid _ := cellW hY.out 18 _ rfl
  have a0 := xa0.out A (Below.refl _ _)
  have b0 := xb0.out A (Below.refl _ _)
  have a1 := xa1.out A (Below.refl _ _)
  have b1 := xb1.out A (Below.refl _ _)
  have a2 := xa2.out A (Below.refl _ _)
  have b2 := xb2.out A (Below.refl _ _)
  have a3 := xa3.out A (Below.refl _ _)
  have b3 := xb3.out A (Below.refl _ _)
  have a4 := xa4.out A (Below.refl _ _)
  have b4 := xb4.out A (Below.refl _ _)
  have a5 := xa5.out A (Below.refl _ _)
  have b5 := xb5.out A (Below.refl _ _)
  have a6 := xa6.out A (Below.refl _ _)
  have b6 := xb6.out A (Below.refl _ _)
  go_wp2_with (first
    | (have _ := hB1; go_at_call 125; refine (HT.out _).mono ?_; rintro e w2 ⟨rfl, hb2⟩; have hB2 := keepB hB1 (Nat.le_refl _) hb2; have hW2 := keepB hA (Nat.le_refl _) hB2; clear hB1; have a11_w2 := xa11.out w2 hB2; have b11_w2 := xb11.out w2 hB2; have a12_w2 := xa12.out w2 hB2; have b12_w2 := xb12.out w2 hB2; have a13_w2 := xa13.out w2 hB2; have b13_w2 := xb13.out w2 hB2; have a14_w2 := xa14.out w2 hB2; have b14_w2 := xb14.out w2 hB2; have a15_w2 := xa15.out w2 hB2; have b15_w2 := xb15.out w2 hB2)
    | (have _ := hD1; go_at_call 126; refine (H2.out _ hW3).mono ?_; rintro e w4 ⟨rfl, hb4⟩; have hB4 := keepB hB3 (Nat.le_refl _) hb4; have hW4 := keepB hA (Nat.le_refl _) hB4; have a17_w4 := xa17.out w4 hB4; have b17_w4 := xb17.out w4 hB4)
    | (go_at_call 125; refine (HS.out _).mono ?_; rintro e w1 ⟨rfl, hb1⟩; have hB1 : Below A.heap.size A w1 := hb1; have a7_w1 := xa7.out w1 hB1; have b7_w1 := xb7.out w1 hB1; have a8_w1 := xa8.out w1 hB1; have b8_w1 := xb8.out w1 hB1; have a9_w1 := xa9.out w1 hB1; have b9_w1 := xb9.out w1 hB1; have a10_w1 := xa10.out w1 hB1; have b10_w1 := xb10.out w1 hB1)
    | (go_at_call 126; refine (H1.out _ hW2).mono ?_; rintro e w3 ⟨rfl, hb3⟩; have hB3 := keepB hB2 (Nat.le_refl _) hb3; have hW3 := keepB hA (Nat.le_refl _) hB3; have hD1 : Hid True := trivial; have a16_w3 := xa16.out w3 hB3; have b16_w3 := xb16.out w3 hB3)
    | (go_at_call 127; refine (H3.out _ hW4).mono ?_; rintro e w5 ⟨rfl, hb5⟩; have hB5 := keepB hB4 (Nat.le_refl _) hb5; have hW5 := keepB hA (Nat.le_refl _) hB5; have a18_w5 := xa18.out w5 hB5; have b18_w5 := xb18.out w5 hB5)
    | (go_at_call 40; refine (H4.out _ hW5).mono ?_; rintro e w6 ⟨rfl, hb6⟩; have hB6 := keepB hB5 (Nat.le_refl _) hb6; have hW6 := keepB hA (Nat.le_refl _) hB6))
  go_ret
  exact ⟨rfl, hW6⟩
end Go.Proofs.Ytklpaleghanhhaa
