/- THE LAW'S OWN COUNT of a station, and its question whether two are the same. Written by mkstnq.py. -/
import Derived.Test.YtggdjiijcoklgaaHStnE
import Derived.Test.YtggdjiijcoklgaaHTail
namespace Go.Proofs.Ytggdjiijcoklgaa
open Go.RowKit
set_option linter.unusedVariables false
set_option linter.unusedSimpArgs false

/-- how much a station counts -/
def Stn.tot (s : Stn) : Int := (s.kn.length : Int) + (s.ws.length : Int) + ((s.gs.length : Int) + (wsum s.gs : Int)) + ((s.os.length : Int) + (bsum s.os : Int))
set_option maxRecDepth 100000 in
set_option maxHeartbeats 3200000 in
theorem szStation_from (L : Int) (hL : 0 ≤ L ∧ L ≤ 1048576) (s : Stn) (p1 p2 p3 p4 : Option Addr) (c1 c2 c3 c4 : Nat) (w : World) (i1 : InI w p1 s.kn) (i2 : InI w p2 s.ws) (i3 : InG w p3 s.gs) (i4 : InS w p4 s.os) :
    Calls Try.prog 7 #[.agg #[.int .i64 s.ad, .int .i64 s.bo, .int .i64 s.st, .int .i64 s.s.g, .int .i64 s.s.o, .int .i64 s.s.b, .int .i64 s.s.h, .int .i64 s.t.g, .int .i64 s.t.o, .int .i64 s.t.b, .int .i64 s.t.h, .int .i64 s.qu, .int .i64 s.tr, .int .i64 s.he, .int .i64 s.po, .slice p1 s.kn.length c1, .slice p2 s.ws.length c2, .slice p3 s.gs.length c3, .slice p4 s.os.length c4], .int .i64 L] w fun x w' => x = .returned (.int .i64 (if s.tot ≤ L then L - s.tot else -1)) ∧ Below w.heap.size w w' := by
  have hn1 := i1.1
  have hn2 := i2.1
  have H1 : Hid (∀ W : World, Calls Try.prog 33 #[.slice p1 s.kn.length c1, .int .i64 L] W fun x w' => x = .returned (.int .i64 (if (s.kn.length : Int) ≤ L then L - (s.kn.length : Int) else -1)) ∧ W = w') := fun W => szInt64S_from L hL p1 s.kn.length c1 W hn1
  have G2 : ∀ M : Int, 0 ≤ M ∧ M ≤ 1048576 → ∀ W : World, Calls Try.prog 33 #[.slice p2 s.ws.length c2, .int .i64 M] W fun x w' => x = .returned (.int .i64 (if (s.ws.length : Int) ≤ M then M - (s.ws.length : Int) else -1)) ∧ W = w' := fun M hL W => szInt64S_from M hL p2 s.ws.length c2 W hn2
  have G3 : ∀ M : Int, 0 ≤ M ∧ M ≤ 1048576 → ∀ W : World, Below w.heap.size w W → Calls Try.prog 34 #[.slice p3 s.gs.length c3, .int .i64 M] W fun x w' => x = .returned (.int .i64 (if (s.gs.length : Int) + (wsum s.gs : Int) ≤ M then M - ((s.gs.length : Int) + (wsum s.gs : Int)) else -1)) ∧ Below W.heap.size W w' := fun M hL W hW => szGlobS_any M hL p3 c3 s.gs W (i3.below hW)
  have G4 : ∀ M : Int, 0 ≤ M ∧ M ≤ 1048576 → ∀ W : World, Below w.heap.size w W → Calls Try.prog 35 #[.slice p4 s.os.length c4, .int .i64 M] W fun x w' => x = .returned (.int .i64 (if (s.os.length : Int) + (bsum s.os : Int) ≤ M then M - ((s.os.length : Int) + (bsum s.os : Int)) else -1)) ∧ W = w' := fun M hL W hW => szStringS_any M hL p4 c4 s.os W (i4.below hW)
  clear i1 i2 i3 i4 hn1 hn2
  obtain ⟨V, hV⟩ : ∃ V, (if s.tot ≤ L then L - s.tot else -1) = V := ⟨_, rfl⟩
  rw [hV]
  unfold Stn.tot at hV
  have hA := all_alloc w (.cells #[.int .i64 s.ad, .int .i64 s.bo, .int .i64 s.st, .int .i64 s.s.g, .int .i64 s.s.o, .int .i64 s.s.b, .int .i64 s.s.h, .int .i64 s.t.g, .int .i64 s.t.o, .int .i64 s.t.b, .int .i64 s.t.h, .int .i64 s.qu, .int .i64 s.tr, .int .i64 s.he, .int .i64 s.po, .slice p1 s.kn.length c1, .slice p2 s.ws.length c2, .slice p3 s.gs.length c3, .slice p4 s.os.length c4] 28)
  have hX : Hid _ := heap_alloc_new w (.cells #[.int .i64 s.ad, .int .i64 s.bo, .int .i64 s.st, .int .i64 s.s.g, .int .i64 s.s.o, .int .i64 s.s.b, .int .i64 s.s.h, .int .i64 s.t.g, .int .i64 s.t.o, .int .i64 s.t.b, .int .i64 s.t.h, .int .i64 s.qu, .int .i64 s.tr, .int .i64 s.he, .int .i64 s.po, .slice p1 s.kn.length c1, .slice p2 s.ws.length c2, .slice p3 s.gs.length c3, .slice p4 s.os.length c4] 28)
  generalize hn3 : (s.gs.length : Int) + (wsum s.gs : Int) = N3 at *
  generalize hn4 : (s.os.length : Int) + (bsum s.os : Int) = N4 at *
  have hp3 : 0 ≤ N3 := by omega
  have hp4 : 0 ≤ N4 := by omega
  clear hn3 hn4
  generalize s.kn.length = n1 at *
  generalize s.ws.length = n2 at *
  by_cases h1 : (n1 : Int) ≤ L
  · rw [if_pos h1] at H1
    have f1 : ¬ L - (n1 : Int) < 0 := by omega
    have H2 : Hid (∀ W : World, Calls Try.prog 33 #[.slice p2 n2 c2, .int .i64 (L - (n1 : Int))] W fun x w' => x = .returned (.int .i64 (if (n2 : Int) ≤ L - (n1 : Int) then L - (n1 : Int) - (n2 : Int) else -1)) ∧ W = w') := G2 (L - (n1 : Int)) (by omega)
    clear G2
    by_cases h2 : (n2 : Int) ≤ L - (n1 : Int)
    · rw [if_pos h2] at H2
      have f2 : ¬ L - (n1 : Int) - (n2 : Int) < 0 := by omega
      have H3 : Hid (∀ W : World, Below w.heap.size w W → Calls Try.prog 34 #[.slice p3 s.gs.length c3, .int .i64 (L - (n1 : Int) - (n2 : Int))] W fun x w' => x = .returned (.int .i64 (if N3 ≤ L - (n1 : Int) - (n2 : Int) then L - (n1 : Int) - (n2 : Int) - N3 else -1)) ∧ Below W.heap.size W w') := G3 (L - (n1 : Int) - (n2 : Int)) (by omega)
      clear G3
      by_cases h3 : N3 ≤ L - (n1 : Int) - (n2 : Int)
      · rw [if_pos h3] at H3
        have f3 : ¬ L - (n1 : Int) - (n2 : Int) - N3 < 0 := by omega
        have H4 : Hid (∀ W : World, Below w.heap.size w W → Calls Try.prog 35 #[.slice p4 s.os.length c4, .int .i64 (L - (n1 : Int) - (n2 : Int) - N3)] W fun x w' => x = .returned (.int .i64 (if N4 ≤ L - (n1 : Int) - (n2 : Int) - N3 then L - (n1 : Int) - (n2 : Int) - N3 - N4 else -1)) ∧ W = w') := G4 (L - (n1 : Int) - (n2 : Int) - N3) (by omega)
        clear G4
        by_cases h4 : N4 ≤ L - (n1 : Int) - (n2 : Int) - N3
        · rw [if_pos h4] at H4
          have f4 : ¬ L - (n1 : Int) - (n2 : Int) - N3 - N4 < 0 := by omega
          obtain rfl : V = L - (n1 : Int) - (n2 : Int) - N3 - N4 := by rw [← hV, if_pos (by omega)]; omega
          clear hV h1 h2 h3 h4
          go_enter Try.func7, Try.ntmps7
          go_upto_region 1 with fail
          generalize w.alloc (.cells #[.int .i64 s.ad, .int .i64 s.bo, .int .i64 s.st, .int .i64 s.s.g, .int .i64 s.s.o, .int .i64 s.s.b, .int .i64 s.s.h, .int .i64 s.t.g, .int .i64 s.t.o, .int .i64 s.t.b, .int .i64 s.t.h, .int .i64 s.qu, .int .i64 s.tr, .int .i64 s.he, .int .i64 s.po, .slice p1 n1 c1, .slice p2 n2 c2, .slice p3 s.gs.length c3, .slice p4 s.os.length c4] 28) = A at hA hX ⊢
          have x15 : Hid _ := cellW hX.out 15 _ rfl
          have d15 := x15.out A (Below.refl _ _)
          have x16 : Hid _ := cellW hX.out 16 _ rfl
          have d16 := x16.out A (Below.refl _ _)
          have x17 : Hid _ := cellW hX.out 17 _ rfl
          have d17 := x17.out A (Below.refl _ _)
          have x18 : Hid _ := cellW hX.out 18 _ rfl
          have d18 := x18.out A (Below.refl _ _)
          go_wp2_with (first
    | (have _ := hD1; go_at_call 33; refine (H2.out _).mono ?_; rintro e w2 ⟨rfl, rfl⟩)
    | (go_at_call 33; refine (H1.out _).mono ?_; rintro e w1 ⟨rfl, rfl⟩; have hD1 : Hid True := trivial)
    | (go_at_call 34; refine (H3.out _ hA).mono ?_; rintro e w3 ⟨rfl, hb3⟩; have hB3 : Below w.heap.size w w3 := keepB hA (Nat.le_refl _) hb3; have d18 := x18.out w3 hb3)
    | (go_at_call 35; refine (H4.out _ hB3).mono ?_; rintro e w4 ⟨rfl, rfl⟩))
          go_ret
          exact ⟨rfl, by first | exact hB3 | exact hA⟩
        · rw [if_neg h4] at H4
          obtain rfl : V = -1 := by rw [← hV, if_neg (by omega)]
          clear hV h1 h2 h3 h4
          go_enter Try.func7, Try.ntmps7
          go_upto_region 1 with fail
          generalize w.alloc (.cells #[.int .i64 s.ad, .int .i64 s.bo, .int .i64 s.st, .int .i64 s.s.g, .int .i64 s.s.o, .int .i64 s.s.b, .int .i64 s.s.h, .int .i64 s.t.g, .int .i64 s.t.o, .int .i64 s.t.b, .int .i64 s.t.h, .int .i64 s.qu, .int .i64 s.tr, .int .i64 s.he, .int .i64 s.po, .slice p1 n1 c1, .slice p2 n2 c2, .slice p3 s.gs.length c3, .slice p4 s.os.length c4] 28) = A at hA hX ⊢
          have x15 : Hid _ := cellW hX.out 15 _ rfl
          have d15 := x15.out A (Below.refl _ _)
          have x16 : Hid _ := cellW hX.out 16 _ rfl
          have d16 := x16.out A (Below.refl _ _)
          have x17 : Hid _ := cellW hX.out 17 _ rfl
          have d17 := x17.out A (Below.refl _ _)
          have x18 : Hid _ := cellW hX.out 18 _ rfl
          have d18 := x18.out A (Below.refl _ _)
          go_wp2_with (first
    | (have _ := hD1; go_at_call 33; refine (H2.out _).mono ?_; rintro e w2 ⟨rfl, rfl⟩)
    | (go_at_call 33; refine (H1.out _).mono ?_; rintro e w1 ⟨rfl, rfl⟩; have hD1 : Hid True := trivial)
    | (go_at_call 34; refine (H3.out _ hA).mono ?_; rintro e w3 ⟨rfl, hb3⟩; have hB3 : Below w.heap.size w w3 := keepB hA (Nat.le_refl _) hb3; have d18 := x18.out w3 hb3)
    | (go_at_call 35; refine (H4.out _ hB3).mono ?_; rintro e w4 ⟨rfl, rfl⟩))
          go_ret
          exact ⟨rfl, by first | exact hB3 | exact hA⟩
      · rw [if_neg h3] at H3
        obtain rfl : V = -1 := by rw [← hV, if_neg (by omega)]
        clear hV h1 h2 h3
        go_enter Try.func7, Try.ntmps7
        go_upto_region 1 with fail
        generalize w.alloc (.cells #[.int .i64 s.ad, .int .i64 s.bo, .int .i64 s.st, .int .i64 s.s.g, .int .i64 s.s.o, .int .i64 s.s.b, .int .i64 s.s.h, .int .i64 s.t.g, .int .i64 s.t.o, .int .i64 s.t.b, .int .i64 s.t.h, .int .i64 s.qu, .int .i64 s.tr, .int .i64 s.he, .int .i64 s.po, .slice p1 n1 c1, .slice p2 n2 c2, .slice p3 s.gs.length c3, .slice p4 s.os.length c4] 28) = A at hA hX ⊢
        have x15 : Hid _ := cellW hX.out 15 _ rfl
        have d15 := x15.out A (Below.refl _ _)
        have x16 : Hid _ := cellW hX.out 16 _ rfl
        have d16 := x16.out A (Below.refl _ _)
        have x17 : Hid _ := cellW hX.out 17 _ rfl
        have d17 := x17.out A (Below.refl _ _)
        have x18 : Hid _ := cellW hX.out 18 _ rfl
        have d18 := x18.out A (Below.refl _ _)
        go_wp2_with (first
    | (have _ := hD1; go_at_call 33; refine (H2.out _).mono ?_; rintro e w2 ⟨rfl, rfl⟩)
    | (go_at_call 33; refine (H1.out _).mono ?_; rintro e w1 ⟨rfl, rfl⟩; have hD1 : Hid True := trivial)
    | (go_at_call 34; refine (H3.out _ hA).mono ?_; rintro e w3 ⟨rfl, hb3⟩; have hB3 : Below w.heap.size w w3 := keepB hA (Nat.le_refl _) hb3; have d18 := x18.out w3 hb3)
    | (go_at_call 35; refine (H4.out _ hB3).mono ?_; rintro e w4 ⟨rfl, rfl⟩))
        go_ret
        exact ⟨rfl, by first | exact hB3 | exact hA⟩
    · rw [if_neg h2] at H2
      obtain rfl : V = -1 := by rw [← hV, if_neg (by omega)]
      clear hV h1 h2
      go_enter Try.func7, Try.ntmps7
      go_upto_region 1 with fail
      generalize w.alloc (.cells #[.int .i64 s.ad, .int .i64 s.bo, .int .i64 s.st, .int .i64 s.s.g, .int .i64 s.s.o, .int .i64 s.s.b, .int .i64 s.s.h, .int .i64 s.t.g, .int .i64 s.t.o, .int .i64 s.t.b, .int .i64 s.t.h, .int .i64 s.qu, .int .i64 s.tr, .int .i64 s.he, .int .i64 s.po, .slice p1 n1 c1, .slice p2 n2 c2, .slice p3 s.gs.length c3, .slice p4 s.os.length c4] 28) = A at hA hX ⊢
      have x15 : Hid _ := cellW hX.out 15 _ rfl
      have d15 := x15.out A (Below.refl _ _)
      have x16 : Hid _ := cellW hX.out 16 _ rfl
      have d16 := x16.out A (Below.refl _ _)
      have x17 : Hid _ := cellW hX.out 17 _ rfl
      have d17 := x17.out A (Below.refl _ _)
      have x18 : Hid _ := cellW hX.out 18 _ rfl
      have d18 := x18.out A (Below.refl _ _)
      go_wp2_with (first
    | (have _ := hD1; go_at_call 33; refine (H2.out _).mono ?_; rintro e w2 ⟨rfl, rfl⟩)
    | (go_at_call 33; refine (H1.out _).mono ?_; rintro e w1 ⟨rfl, rfl⟩; have hD1 : Hid True := trivial)
    | (go_at_call 34; refine (H3.out _ hA).mono ?_; rintro e w3 ⟨rfl, hb3⟩; have hB3 : Below w.heap.size w w3 := keepB hA (Nat.le_refl _) hb3; have d18 := x18.out w3 hb3)
    | (go_at_call 35; refine (H4.out _ hB3).mono ?_; rintro e w4 ⟨rfl, rfl⟩))
      go_ret
      exact ⟨rfl, by first | exact hB3 | exact hA⟩
  · rw [if_neg h1] at H1
    obtain rfl : V = -1 := by rw [← hV, if_neg (by omega)]
    clear hV h1
    go_enter Try.func7, Try.ntmps7
    go_upto_region 1 with fail
    generalize w.alloc (.cells #[.int .i64 s.ad, .int .i64 s.bo, .int .i64 s.st, .int .i64 s.s.g, .int .i64 s.s.o, .int .i64 s.s.b, .int .i64 s.s.h, .int .i64 s.t.g, .int .i64 s.t.o, .int .i64 s.t.b, .int .i64 s.t.h, .int .i64 s.qu, .int .i64 s.tr, .int .i64 s.he, .int .i64 s.po, .slice p1 n1 c1, .slice p2 n2 c2, .slice p3 s.gs.length c3, .slice p4 s.os.length c4] 28) = A at hA hX ⊢
    have x15 : Hid _ := cellW hX.out 15 _ rfl
    have d15 := x15.out A (Below.refl _ _)
    have x16 : Hid _ := cellW hX.out 16 _ rfl
    have d16 := x16.out A (Below.refl _ _)
    have x17 : Hid _ := cellW hX.out 17 _ rfl
    have d17 := x17.out A (Below.refl _ _)
    have x18 : Hid _ := cellW hX.out 18 _ rfl
    have d18 := x18.out A (Below.refl _ _)
    go_wp2_with (first
    | (have _ := hD1; go_at_call 33; refine (H2.out _).mono ?_; rintro e w2 ⟨rfl, rfl⟩)
    | (go_at_call 33; refine (H1.out _).mono ?_; rintro e w1 ⟨rfl, rfl⟩; have hD1 : Hid True := trivial)
    | (go_at_call 34; refine (H3.out _ hA).mono ?_; rintro e w3 ⟨rfl, hb3⟩; have hB3 : Below w.heap.size w w3 := keepB hA (Nat.le_refl _) hb3; have d18 := x18.out w3 hb3)
    | (go_at_call 35; refine (H4.out _ hB3).mono ?_; rintro e w4 ⟨rfl, rfl⟩))
    go_ret
    exact ⟨rfl, by first | exact hB3 | exact hA⟩
theorem szStation_any (s : Stn) (p1 p2 p3 p4 : Option Addr) (c1 c2 c3 c4 : Nat) (w : World) (i1 : InI w p1 s.kn) (i2 : InI w p2 s.ws) (i3 : InG w p3 s.gs) (i4 : InS w p4 s.os) :
    Calls Try.prog 7 #[.agg #[.int .i64 s.ad, .int .i64 s.bo, .int .i64 s.st, .int .i64 s.s.g, .int .i64 s.s.o, .int .i64 s.s.b, .int .i64 s.s.h, .int .i64 s.t.g, .int .i64 s.t.o, .int .i64 s.t.b, .int .i64 s.t.h, .int .i64 s.qu, .int .i64 s.tr, .int .i64 s.he, .int .i64 s.po, .slice p1 s.kn.length c1, .slice p2 s.ws.length c2, .slice p3 s.gs.length c3, .slice p4 s.os.length c4], .int .i64 1048576] w fun x w' => x = .returned (.int .i64 (if s.tot ≤ 1048576 then 1048576 - s.tot else -1)) ∧ Below w.heap.size w w' := szStation_from 1048576 (by omega) s p1 p2 p3 p4 c1 c2 c3 c4 w i1 i2 i3 i4
set_option maxRecDepth 100000 in
set_option maxHeartbeats 6400000 in
theorem eqStation_same (s : Stn) (v1 v2 v3 v4 u1 u2 u3 u4 : Value) (w : World) (hl1 : s.kn.length ≤ 1048576) (hl2 : s.ws.length ≤ 1048576) (hl : s.gs.length ≤ 1048576) (hlw : ∀ g ∈ s.gs, g.2.length ≤ 1048576) (hl4 : s.os.length ≤ 1048576)
    (r1 : RowI w v1 s.kn) (r2 : RowI w v2 s.ws) (r3 : RowG w v3 s.gs) (r4 : RowS w v4 s.os) (t1 : RowI w u1 s.kn) (t2 : RowI w u2 s.ws) (t3 : RowG w u3 s.gs) (t4 : RowS w u4 s.os) :
    Calls Try.prog 12 #[.agg #[.int .i64 s.ad, .int .i64 s.bo, .int .i64 s.st, .int .i64 s.s.g, .int .i64 s.s.o, .int .i64 s.s.b, .int .i64 s.s.h, .int .i64 s.t.g, .int .i64 s.t.o, .int .i64 s.t.b, .int .i64 s.t.h, .int .i64 s.qu, .int .i64 s.tr, .int .i64 s.he, .int .i64 s.po, v1, v2, v3, v4], .agg #[.int .i64 s.ad, .int .i64 s.bo, .int .i64 s.st, .int .i64 s.s.g, .int .i64 s.s.o, .int .i64 s.s.b, .int .i64 s.s.h, .int .i64 s.t.g, .int .i64 s.t.o, .int .i64 s.t.b, .int .i64 s.t.h, .int .i64 s.qu, .int .i64 s.tr, .int .i64 s.he, .int .i64 s.po, u1, u2, u3, u4]] w fun e w' => e = .returned (.bool true) ∧ Below w.heap.size w w' := by
  have e0 : (s.ad != s.ad) = false := by simp
  have e1 : (s.bo != s.bo) = false := by simp
  have e2 : (s.st != s.st) = false := by simp
  have e11 : (s.qu != s.qu) = false := by simp
  have e12 : (s.tr != s.tr) = false := by simp
  have e13 : (s.he != s.he) = false := by simp
  have e14 : (s.po != s.po) = false := by simp
  have HS : Hid (∀ W : World, Calls Try.prog 47 #[.agg #[.int .i64 s.s.g, .int .i64 s.s.o, .int .i64 s.s.b, .int .i64 s.s.h], .agg #[.int .i64 s.s.g, .int .i64 s.s.o, .int .i64 s.s.b, .int .i64 s.s.h]] W fun e w' => e = .returned (.bool true) ∧ Below W.heap.size W w') := fun W => eqStampQ_same s.s W
  have HT : Hid (∀ W : World, Calls Try.prog 47 #[.agg #[.int .i64 s.t.g, .int .i64 s.t.o, .int .i64 s.t.b, .int .i64 s.t.h], .agg #[.int .i64 s.t.g, .int .i64 s.t.o, .int .i64 s.t.b, .int .i64 s.t.h]] W fun e w' => e = .returned (.bool true) ∧ Below W.heap.size W w') := fun W => eqStampQ_same s.t W
  have H1 : Hid (∀ W : World, Below w.heap.size w W → Calls Try.prog 25 #[v1, u1] W fun e w' => e = .returned (.bool true) ∧ Below W.heap.size W w') := fun W hW => eqInt64S_same v1 u1 s.kn W (by omega) (r1.below hW) (t1.below hW)
  have H2 : Hid (∀ W : World, Below w.heap.size w W → Calls Try.prog 25 #[v2, u2] W fun e w' => e = .returned (.bool true) ∧ Below W.heap.size W w') := fun W hW => eqInt64S_same v2 u2 s.ws W (by omega) (r2.below hW) (t2.below hW)
  have H3 : Hid (∀ W : World, Below w.heap.size w W → Calls Try.prog 48 #[v3, u3] W fun e w' => e = .returned (.bool true) ∧ Below W.heap.size W w') := fun W hW => eqGlobS_same v3 u3 s.gs W hl hlw (r3.below hW) (t3.below hW)
  have H4 : Hid (∀ W : World, Below w.heap.size w W → Calls Try.prog 49 #[v4, u4] W fun e w' => e = .returned (.bool true) ∧ Below W.heap.size W w') := fun W hW => eqStringQ_same v4 u4 s.os W hl4 (r4.below hW) (t4.below hW)
  obtain ⟨p1, c1, rfl, _⟩ := r1
  obtain ⟨p2, c2, rfl, _⟩ := r2
  obtain ⟨p3, c3, rfl, _⟩ := r3
  obtain ⟨p4, c4, rfl, _⟩ := r4
  obtain ⟨q1, d1, rfl, _⟩ := t1
  obtain ⟨q2, d2, rfl, _⟩ := t2
  obtain ⟨q3, d3, rfl, _⟩ := t3
  obtain ⟨q4, d4, rfl, _⟩ := t4
  clear hl1 hl2 hl hlw hl4
  have hA : Below w.heap.size w _ := keepB (all_alloc w (.cells #[.int .i64 s.ad, .int .i64 s.bo, .int .i64 s.st, .int .i64 s.s.g, .int .i64 s.s.o, .int .i64 s.s.b, .int .i64 s.s.h, .int .i64 s.t.g, .int .i64 s.t.o, .int .i64 s.t.b, .int .i64 s.t.h, .int .i64 s.qu, .int .i64 s.tr, .int .i64 s.he, .int .i64 s.po, .slice p1 s.kn.length c1, .slice p2 s.ws.length c2, .slice p3 s.gs.length c3, .slice p4 s.os.length c4] 33)) (Nat.le_refl _) (all_alloc _ (.cells #[.int .i64 s.ad, .int .i64 s.bo, .int .i64 s.st, .int .i64 s.s.g, .int .i64 s.s.o, .int .i64 s.s.b, .int .i64 s.s.h, .int .i64 s.t.g, .int .i64 s.t.o, .int .i64 s.t.b, .int .i64 s.t.h, .int .i64 s.qu, .int .i64 s.tr, .int .i64 s.he, .int .i64 s.po, .slice q1 s.kn.length d1, .slice q2 s.ws.length d2, .slice q3 s.gs.length d3, .slice q4 s.os.length d4] 33))
  have hX : Hid _ := blk (heap_alloc_new w (.cells #[.int .i64 s.ad, .int .i64 s.bo, .int .i64 s.st, .int .i64 s.s.g, .int .i64 s.s.o, .int .i64 s.s.b, .int .i64 s.s.h, .int .i64 s.t.g, .int .i64 s.t.o, .int .i64 s.t.b, .int .i64 s.t.h, .int .i64 s.qu, .int .i64 s.tr, .int .i64 s.he, .int .i64 s.po, .slice p1 s.kn.length c1, .slice p2 s.ws.length c2, .slice p3 s.gs.length c3, .slice p4 s.os.length c4] 33)) (all_alloc _ (.cells #[.int .i64 s.ad, .int .i64 s.bo, .int .i64 s.st, .int .i64 s.s.g, .int .i64 s.s.o, .int .i64 s.s.b, .int .i64 s.s.h, .int .i64 s.t.g, .int .i64 s.t.o, .int .i64 s.t.b, .int .i64 s.t.h, .int .i64 s.qu, .int .i64 s.tr, .int .i64 s.he, .int .i64 s.po, .slice q1 s.kn.length d1, .slice q2 s.ws.length d2, .slice q3 s.gs.length d3, .slice q4 s.os.length d4] 33))
  have hY : Hid _ := heap_alloc_new (w.alloc (.cells #[.int .i64 s.ad, .int .i64 s.bo, .int .i64 s.st, .int .i64 s.s.g, .int .i64 s.s.o, .int .i64 s.s.b, .int .i64 s.s.h, .int .i64 s.t.g, .int .i64 s.t.o, .int .i64 s.t.b, .int .i64 s.t.h, .int .i64 s.qu, .int .i64 s.tr, .int .i64 s.he, .int .i64 s.po, .slice p1 s.kn.length c1, .slice p2 s.ws.length c2, .slice p3 s.gs.length c3, .slice p4 s.os.length c4] 33)) (.cells #[.int .i64 s.ad, .int .i64 s.bo, .int .i64 s.st, .int .i64 s.s.g, .int .i64 s.s.o, .int .i64 s.s.b, .int .i64 s.s.h, .int .i64 s.t.g, .int .i64 s.t.o, .int .i64 s.t.b, .int .i64 s.t.h, .int .i64 s.qu, .int .i64 s.tr, .int .i64 s.he, .int .i64 s.po, .slice q1 s.kn.length d1, .slice q2 s.ws.length d2, .slice q3 s.gs.length d3, .slice q4 s.os.length d4] 33)
  rw [show (w.alloc (.cells #[.int .i64 s.ad, .int .i64 s.bo, .int .i64 s.st, .int .i64 s.s.g, .int .i64 s.s.o, .int .i64 s.s.b, .int .i64 s.s.h, .int .i64 s.t.g, .int .i64 s.t.o, .int .i64 s.t.b, .int .i64 s.t.h, .int .i64 s.qu, .int .i64 s.tr, .int .i64 s.he, .int .i64 s.po, .slice p1 s.kn.length c1, .slice p2 s.ws.length c2, .slice p3 s.gs.length c3, .slice p4 s.os.length c4] 33)).heap.size = w.heap.size + 1 by simp] at hY
  go_enter Try.func12, Try.ntmps12
  go_upto_region 1 with fail
  generalize (w.alloc (.cells #[.int .i64 s.ad, .int .i64 s.bo, .int .i64 s.st, .int .i64 s.s.g, .int .i64 s.s.o, .int .i64 s.s.b, .int .i64 s.s.h, .int .i64 s.t.g, .int .i64 s.t.o, .int .i64 s.t.b, .int .i64 s.t.h, .int .i64 s.qu, .int .i64 s.tr, .int .i64 s.he, .int .i64 s.po, .slice p1 s.kn.length c1, .slice p2 s.ws.length c2, .slice p3 s.gs.length c3, .slice p4 s.os.length c4] 33)).alloc (.cells #[.int .i64 s.ad, .int .i64 s.bo, .int .i64 s.st, .int .i64 s.s.g, .int .i64 s.s.o, .int .i64 s.s.b, .int .i64 s.s.h, .int .i64 s.t.g, .int .i64 s.t.o, .int .i64 s.t.b, .int .i64 s.t.h, .int .i64 s.qu, .int .i64 s.tr, .int .i64 s.he, .int .i64 s.po, .slice q1 s.kn.length d1, .slice q2 s.ws.length d2, .slice q3 s.gs.length d3, .slice q4 s.os.length d4] 33) = A at hA hX hY ⊢
  have xa0 : Hid _ := cellW hX.out 0 _ rfl
  have xb0 : Hid _ := cellW hY.out 0 _ rfl
  have xa1 : Hid _ := cellW hX.out 1 _ rfl
  have xb1 : Hid _ := cellW hY.out 1 _ rfl
  have xa2 : Hid _ := cellW hX.out 2 _ rfl
  have xb2 : Hid _ := cellW hY.out 2 _ rfl
  have xa3 : Hid _ := cellW hX.out 3 _ rfl
  have xb3 : Hid _ := cellW hY.out 3 _ rfl
  have xa4 : Hid _ := cellW hX.out 4 _ rfl
  have xb4 : Hid _ := cellW hY.out 4 _ rfl
  have xa5 : Hid _ := cellW hX.out 5 _ rfl
  have xb5 : Hid _ := cellW hY.out 5 _ rfl
  have xa6 : Hid _ := cellW hX.out 6 _ rfl
  have xb6 : Hid _ := cellW hY.out 6 _ rfl
  have xa7 : Hid _ := cellW hX.out 7 _ rfl
  have xb7 : Hid _ := cellW hY.out 7 _ rfl
  have xa8 : Hid _ := cellW hX.out 8 _ rfl
  have xb8 : Hid _ := cellW hY.out 8 _ rfl
  have xa9 : Hid _ := cellW hX.out 9 _ rfl
  have xb9 : Hid _ := cellW hY.out 9 _ rfl
  have xa10 : Hid _ := cellW hX.out 10 _ rfl
  have xb10 : Hid _ := cellW hY.out 10 _ rfl
  have xa11 : Hid _ := cellW hX.out 11 _ rfl
  have xb11 : Hid _ := cellW hY.out 11 _ rfl
  have xa12 : Hid _ := cellW hX.out 12 _ rfl
  have xb12 : Hid _ := cellW hY.out 12 _ rfl
  have xa13 : Hid _ := cellW hX.out 13 _ rfl
  have xb13 : Hid _ := cellW hY.out 13 _ rfl
  have xa14 : Hid _ := cellW hX.out 14 _ rfl
  have xb14 : Hid _ := cellW hY.out 14 _ rfl
  have xa15 : Hid _ := cellW hX.out 15 _ rfl
  have xb15 : Hid _ := cellW hY.out 15 _ rfl
  have xa16 : Hid _ := cellW hX.out 16 _ rfl
  have xb16 : Hid _ := cellW hY.out 16 _ rfl
  have xa17 : Hid _ := cellW hX.out 17 _ rfl
  have xb17 : Hid _ := cellW hY.out 17 _ rfl
  have xa18 : Hid _ := cellW hX.out 18 _ rfl
  have xb18 : Hid _ := cellW hY.out 18 _ rfl
  have a0 := xa0.out A (Below.refl _ _)
  have b0 := xb0.out A (Below.refl _ _)
  have a1 := xa1.out A (Below.refl _ _)
  have b1 := xb1.out A (Below.refl _ _)
  have a2 := xa2.out A (Below.refl _ _)
  have b2 := xb2.out A (Below.refl _ _)
  have a3 := xa3.out A (Below.refl _ _)
  have b3 := xb3.out A (Below.refl _ _)
  have a4 := xa4.out A (Below.refl _ _)
  have b4 := xb4.out A (Below.refl _ _)
  have a5 := xa5.out A (Below.refl _ _)
  have b5 := xb5.out A (Below.refl _ _)
  have a6 := xa6.out A (Below.refl _ _)
  have b6 := xb6.out A (Below.refl _ _)
  go_wp2_with (first
    | (have _ := hB1; go_at_call 47; refine (HT.out _).mono ?_; rintro e w2 ⟨rfl, hb2⟩; have hB2 := keepB hB1 (Nat.le_refl _) hb2; have hW2 := keepB hA (Nat.le_refl _) hB2; clear hB1; have a11_w2 := xa11.out w2 hB2; have b11_w2 := xb11.out w2 hB2; have a12_w2 := xa12.out w2 hB2; have b12_w2 := xb12.out w2 hB2; have a13_w2 := xa13.out w2 hB2; have b13_w2 := xb13.out w2 hB2; have a14_w2 := xa14.out w2 hB2; have b14_w2 := xb14.out w2 hB2; have a15_w2 := xa15.out w2 hB2; have b15_w2 := xb15.out w2 hB2)
    | (have _ := hD1; go_at_call 25; refine (H2.out _ hW3).mono ?_; rintro e w4 ⟨rfl, hb4⟩; have hB4 := keepB hB3 (Nat.le_refl _) hb4; have hW4 := keepB hA (Nat.le_refl _) hB4; have a17_w4 := xa17.out w4 hB4; have b17_w4 := xb17.out w4 hB4)
    | (go_at_call 47; refine (HS.out _).mono ?_; rintro e w1 ⟨rfl, hb1⟩; have hB1 : Below A.heap.size A w1 := hb1; have a7_w1 := xa7.out w1 hB1; have b7_w1 := xb7.out w1 hB1; have a8_w1 := xa8.out w1 hB1; have b8_w1 := xb8.out w1 hB1; have a9_w1 := xa9.out w1 hB1; have b9_w1 := xb9.out w1 hB1; have a10_w1 := xa10.out w1 hB1; have b10_w1 := xb10.out w1 hB1)
    | (go_at_call 25; refine (H1.out _ hW2).mono ?_; rintro e w3 ⟨rfl, hb3⟩; have hB3 := keepB hB2 (Nat.le_refl _) hb3; have hW3 := keepB hA (Nat.le_refl _) hB3; have hD1 : Hid True := trivial; have a16_w3 := xa16.out w3 hB3; have b16_w3 := xb16.out w3 hB3)
    | (go_at_call 48; refine (H3.out _ hW4).mono ?_; rintro e w5 ⟨rfl, hb5⟩; have hB5 := keepB hB4 (Nat.le_refl _) hb5; have hW5 := keepB hA (Nat.le_refl _) hB5; have a18_w5 := xa18.out w5 hB5; have b18_w5 := xb18.out w5 hB5)
    | (go_at_call 49; refine (H4.out _ hW5).mono ?_; rintro e w6 ⟨rfl, hb6⟩; have hB6 := keepB hB5 (Nat.le_refl _) hb6; have hW6 := keepB hA (Nat.le_refl _) hB6))
  go_ret
  exact ⟨rfl, hW6⟩
end Go.Proofs.Ytggdjiijcoklgaa
