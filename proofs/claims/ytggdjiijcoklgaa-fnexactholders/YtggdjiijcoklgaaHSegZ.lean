/- THE LAW'S OWN COUNT of a segment. -/
import Derived.Test.YtggdjiijcoklgaaHSegG
import Derived.Deep.DeepCutAuto
namespace Go.Proofs.Ytggdjiijcoklgaa
open Go.RowKit
set_option linter.unusedVariables false
set_option linter.unusedSimpArgs false

set_option maxRecDepth 100000 in
set_option maxHeartbeats 1600000 in
theorem szStationS_any (L : Int) (hL : 0 ≤ L ∧ L ≤ 1048576) (a : Option Addr) (c : Nat) (ss : List Stn) (w : World) (hr : InSt w a ss) :
    Calls Try.prog 55 #[.slice a ss.length c, .int .i64 L] w fun x w' => x = .returned (.int .i64 (if (ss.length : Int) + ssum ss ≤ L then L - ((ss.length : Int) + ssum ss) else -1)) ∧ Below w.heap.size w w' := by
  have hn := hr.1
  by_cases h : (ss.length : Int) ≤ L
  · have h1 : ¬ L - (ss.length : Int) < 0 := by omega
    have HR : Hid (∀ W, Below w.heap.size w W → InSt W a ss) := fun W hW => hr.below hW
    have hpos : Hid (0 ≤ ssum ss) := ssum_pos ss
    clear hr
    obtain ⟨V, hV⟩ : ∃ V, Hid ((if (ss.length : Int) + ssum ss ≤ L then L - ((ss.length : Int) + ssum ss) else -1) = V) := ⟨_, show _ = _ from rfl⟩
    rw [hV.out]
    go_enter Try.func55, Try.ntmps55
    go_wp2
    go_loopw [1, 5] (fun l i wr => ∃ (k : Nat) (M : Int), k ≤ ss.length ∧ i = .int .i64 k ∧ l = .int .i64 M ∧ (0 ≤ M ∧ M ≤ 1048576) ∧ Hid (M = L - (ss.length : Int) - ssum (ss.take k)) ∧ Below w.heap.size w wr) (fun _ i _ => ss.length - (intOf i).toNat)
    case atStart => exact ⟨0, L - (ss.length : Int), Nat.zero_le _, rfl, rfl, by omega, (show _ = _ by simp [ssum]), Below.refl _ _⟩
    case round =>
      obtain ⟨k, M, hk, rfl, rfl, hM, HM, hbel⟩ := hrel
      by_cases hlt : k < ss.length
      · obtain ⟨g, o, p1, p2, p3, p4, c1, c2, c3, c4, rfl, l1, hrg, i1, i2, i3, i4⟩ := (HR.out wr hbel).2 k hlt
        have HT : Hid _ := ssum_take ss k hlt
        have HE : Hid _ := ssum_le ss (k + 1)
        have HC : Hid (∀ W, Below wr.heap.size wr W → Calls Try.prog 7 #[.agg (stC ss[k] ⟨.slice p1 ss[k].kn.length c1, .slice p2 ss[k].ws.length c2, .slice p3 ss[k].gs.length c3, .slice p4 ss[k].os.length c4⟩).toArray, .int .i64 M] W fun x w' => x = .returned (.int .i64 (if ss[k].tot ≤ M then M - ss[k].tot else -1)) ∧ Below W.heap.size W w') := fun W hW => szStation_from M hM ss[k] p1 p2 p3 p4 c1 c2 c3 c4 W (i1.below hW) (i2.below hW) (i3.below hW) (i4.below hW)
        have HRG : Hid _ := hrg
        have hp := tot_pos ss[k]
        clear i1 i2 i3 i4 hrg
        generalize ss[k] = s at HC HRG HT hp
        generalize (⟨.slice p1 s.kn.length c1, .slice p2 s.ws.length c2, .slice p3 s.gs.length c3, .slice p4 s.os.length c4⟩ : Vs) = u at HC HRG
        generalize s.tot = T at HC HT hp
        by_cases h5 : T ≤ M
        · rw [if_pos h5] at HC
          have h6 : ¬ M - T < 0 := by omega
          go_wp2_with (first
            | (refine wpList_load_mid rfl 28 (.tmp 20) rfl g (o + k * 19) rfl (stC s u) _ HRG.out Try.underlying28 rfl (by kernel_rfl) ?_)
            | (go_at_call 7; refine (HC.out _ (Below.refl _ _)).mono ?_; rintro e w1 ⟨rfl, hb1⟩))
          go_roundw
          case rel => exact ⟨k + 1, M - T, by omega, by go_num, by go_num, by omega, (show _ = _ by rw [HT.out, HM.out]; omega), keepB hbel (Nat.le_refl _) hb1⟩
          case measure => simp [intOf]; omega
        · rw [if_neg h5] at HC
          go_wp2_with (first
            | (refine wpList_load_mid rfl 28 (.tmp 20) rfl g (o + k * 19) rfl (stC s u) _ HRG.out Try.underlying28 rfl (by kernel_rfl) ?_)
            | (go_at_call 7; refine (HC.out _ (Below.refl _ _)).mono ?_; rintro e w1 ⟨rfl, hb1⟩))
          go_ret
          have e1 := HM.out
          have e2 := HT.out
          have e3 := HE.out
          have e4 : V = -1 := by rw [← hV.out, if_neg (by omega)]
          exact ⟨by rw [e4]; rfl, keepB hbel (Nat.le_refl _) hb1⟩
      · have hkk : Hid (k = ss.length) := (by omega : k = ss.length)
        go_wp2
        go_ret
        have e1 := HM.out
        rw [hkk.out, List.take_length] at e1
        have e4 : V = M := by rw [← hV.out, if_pos (by omega)]; omega
        exact ⟨by rw [e4]; rfl, hbel⟩
  · have h1 : L - (ss.length : Int) < 0 := by omega
    have hpos := ssum_pos ss
    rw [if_neg (by omega)]
    clear hr
    go_enter Try.func55, Try.ntmps55
    go_wp2
    go_ret
    exact ⟨rfl, Below.refl _ _⟩
set_option maxRecDepth 100000 in
theorem szBoolS_any (L : Int) (hL : 0 ≤ L ∧ L ≤ 1048576) (a : Option Addr) (n c : Nat) (w : World) (hn : n ≤ 9223372036854775807) :
    Calls Try.prog 56 #[.slice a n c, .int .i64 L] w fun x w' => x = .returned (.int .i64 (if (n : Int) ≤ L then L - (n : Int) else -1)) ∧ w = w' := by
  by_cases h : (n : Int) ≤ L
  · rw [if_pos h]
    have h1 : ¬ L - (n : Int) < 0 := by omega
    go_enter Try.func56, Try.ntmps56
    go_wp2
    go_ret
    exact ⟨rfl, rfl⟩
  · rw [if_neg h]
    have h1 : L - (n : Int) < 0 := by omega
    go_enter Try.func56, Try.ntmps56
    go_wp2
    go_ret
    exact ⟨rfl, rfl⟩
set_option maxRecDepth 100000 in
theorem szNote_any (L : Int) (hL : 0 ≤ L ∧ L ≤ 1048576) (a t : Int) (b : ByteArray) (w : World) (hn : b.size ≤ 9223372036854775807) :
    Calls Try.prog 102 #[.agg #[.int .i64 a, .int .i64 t, .string b], .int .i64 L] w fun x w' => x = .returned (.int .i64 (if (b.size : Int) ≤ L then L - (b.size : Int) else -1)) ∧ Below w.heap.size w w' := by
  by_cases h : (b.size : Int) ≤ L
  · rw [if_pos h]
    have h1 : ¬ L - (b.size : Int) < 0 := by omega
    go_enter Try.func102, Try.ntmps102
    go_wp2
    go_ret
    exact ⟨rfl, all_alloc _ _⟩
  · rw [if_neg h]
    have h1 : L - (b.size : Int) < 0 := by omega
    go_enter Try.func102, Try.ntmps102
    go_wp2
    go_ret
    exact ⟨rfl, all_alloc _ _⟩
set_option maxRecDepth 100000 in
set_option maxHeartbeats 1600000 in
theorem szNoteS_any (L : Int) (hL : 0 ≤ L ∧ L ≤ 1048576) (a : Option Addr) (c : Nat) (ns : List Nt) (w : World) (hr : InN w a ns) :
    Calls Try.prog 57 #[.slice a ns.length c, .int .i64 L] w fun x w' => x = .returned (.int .i64 (if (ns.length : Int) + nsum ns ≤ L then L - ((ns.length : Int) + nsum ns) else -1)) ∧ Below w.heap.size w w' := by
  have hn := hr.1
  by_cases h : (ns.length : Int) ≤ L
  · have h1 : ¬ L - (ns.length : Int) < 0 := by omega
    have HR : Hid (∀ W, Below w.heap.size w W → InN W a ns) := fun W hW => hr.below hW
    have hpos : Hid (0 ≤ nsum ns) := nsum_pos ns
    clear hr
    obtain ⟨V, hV⟩ : ∃ V, Hid ((if (ns.length : Int) + nsum ns ≤ L then L - ((ns.length : Int) + nsum ns) else -1) = V) := ⟨_, show _ = _ from rfl⟩
    rw [hV.out]
    go_enter Try.func57, Try.ntmps57
    go_wp2
    go_loopw [1, 5] (fun l i wr => ∃ (k : Nat) (M : Int), k ≤ ns.length ∧ i = .int .i64 k ∧ l = .int .i64 M ∧ (0 ≤ M ∧ M ≤ 1048576) ∧ Hid (M = L - (ns.length : Int) - nsum (ns.take k)) ∧ Below w.heap.size w wr) (fun _ i _ => ns.length - (intOf i).toNat)
    case atStart => exact ⟨0, L - (ns.length : Int), Nat.zero_le _, rfl, rfl, by omega, (show _ = _ by simp [nsum]), Below.refl _ _⟩
    case round =>
      obtain ⟨k, M, hk, rfl, rfl, hM, HM, hbel⟩ := hrel
      by_cases hlt : k < ns.length
      · obtain ⟨_, hz0, hcs⟩ := HR.out wr hbel
        obtain ⟨g, o, rfl, l1, q1, q2, q3⟩ := hcs k hlt
        clear hcs
        have hz := hz0 ns[k] (List.getElem_mem hlt)
        clear hz0
        unfold maxLen at hz
        have HT : Hid _ := nsum_take ns k hlt
        have HE : Hid _ := nsum_le ns (k + 1)
        generalize ns[k] = s at q1 q2 q3 HT hz
        have HC : Hid (∀ W : World, Calls Try.prog 102 #[.agg #[.int .i64 s.f, .int .i64 s.t, .string s.b], .int .i64 M] W fun x w' => x = .returned (.int .i64 (if (s.b.size : Int) ≤ M then M - (s.b.size : Int) else -1)) ∧ Below W.heap.size W w') := fun W => szNote_any M hM s.f s.t s.b W (by omega)
        by_cases h5 : (s.b.size : Int) ≤ M
        · rw [if_pos h5] at HC
          have h6 : ¬ M - (s.b.size : Int) < 0 := by omega
          go_wp2_with (go_at_call 102; refine (HC.out _).mono ?_; rintro e w1 ⟨rfl, hb1⟩)
          go_roundw
          case rel => exact ⟨k + 1, M - (s.b.size : Int), by omega, by go_num, by go_num, by omega, (show _ = _ by rw [HT.out, HM.out]; omega), keepB hbel (Nat.le_refl _) hb1⟩
          case measure => simp [intOf]; omega
        · rw [if_neg h5] at HC
          go_wp2_with (go_at_call 102; refine (HC.out _).mono ?_; rintro e w1 ⟨rfl, hb1⟩)
          go_ret
          have e1 := HM.out
          have e2 := HT.out
          have e3 := HE.out
          have e4 : V = -1 := by rw [← hV.out, if_neg (by omega)]
          exact ⟨by rw [e4]; rfl, keepB hbel (Nat.le_refl _) hb1⟩
      · have hkk : Hid (k = ns.length) := (by omega : k = ns.length)
        go_wp2
        go_ret
        have e1 := HM.out
        rw [hkk.out, List.take_length] at e1
        have e4 : V = M := by rw [← hV.out, if_pos (by omega)]; omega
        exact ⟨by rw [e4]; rfl, hbel⟩
  · have h1 : L - (ns.length : Int) < 0 := by omega
    have hpos := nsum_pos ns
    rw [if_neg (by omega)]
    clear hr
    go_enter Try.func57, Try.ntmps57
    go_wp2
    go_ret
    exact ⟨rfl, Below.refl _ _⟩
set_option maxRecDepth 100000 in
set_option maxHeartbeats 3200000 in
theorem szSegment_any (s : Seg) (p1 p2 p3 : Option Addr) (c1 c2 c3 : Nat) (w : World) (i1 : InSt w p1 s.ss) (i2 : InBo w p2 s.us) (i3 : InN w p3 s.ns) :
    Calls Try.prog 16 #[.agg #[.slice p1 s.ss.length c1, .slice p2 s.us.length c2, .slice p3 s.ns.length c3], .int .i64 1048576] w fun x w' => x = .returned (.int .i64 (if s.tot ≤ 1048576 then 1048576 - s.tot else -1)) ∧ Below w.heap.size w w' := by
  have hn2 := i2.1
  have H1 : Hid (∀ W : World, Below w.heap.size w W → Calls Try.prog 55 #[.slice p1 s.ss.length c1, .int .i64 1048576] W fun x w' => x = .returned (.int .i64 (if (s.ss.length : Int) + ssum s.ss ≤ 1048576 then 1048576 - ((s.ss.length : Int) + ssum s.ss) else -1)) ∧ Below W.heap.size W w') := fun W hW => szStationS_any 1048576 (by omega) p1 c1 s.ss W (i1.below hW)
  have G2 : ∀ L : Int, 0 ≤ L ∧ L ≤ 1048576 → ∀ W : World, Calls Try.prog 56 #[.slice p2 s.us.length c2, .int .i64 L] W fun x w' => x = .returned (.int .i64 (if (s.us.length : Int) ≤ L then L - (s.us.length : Int) else -1)) ∧ W = w' := fun L hL W => szBoolS_any L hL p2 s.us.length c2 W hn2
  have G3 : ∀ L : Int, 0 ≤ L ∧ L ≤ 1048576 → ∀ W : World, Below w.heap.size w W → Calls Try.prog 57 #[.slice p3 s.ns.length c3, .int .i64 L] W fun x w' => x = .returned (.int .i64 (if (s.ns.length : Int) + nsum s.ns ≤ L then L - ((s.ns.length : Int) + nsum s.ns) else -1)) ∧ Below W.heap.size W w' := fun L hL W hW => szNoteS_any L hL p3 c3 s.ns W (i3.below hW)
  have hp1 := ssum_pos s.ss
  have hp3 := nsum_pos s.ns
  clear i1 i2 i3 hn2
  obtain ⟨V, hV⟩ : ∃ V, (if s.tot ≤ 1048576 then 1048576 - s.tot else -1) = V := ⟨_, rfl⟩
  rw [hV]
  unfold Seg.tot at hV
  have hA := all_alloc w (.cells #[.slice p1 s.ss.length c1, .slice p2 s.us.length c2, .slice p3 s.ns.length c3] 48)
  have hX : Hid _ := heap_alloc_new w (.cells #[.slice p1 s.ss.length c1, .slice p2 s.us.length c2, .slice p3 s.ns.length c3] 48)
  generalize ssum s.ss = S1 at *
  generalize nsum s.ns = S3 at *
  generalize s.ss.length = n1 at *
  generalize s.us.length = n2 at *
  generalize s.ns.length = n3 at *
  generalize e1 : (n1 : Int) + S1 = N1 at *
  generalize e3 : (n3 : Int) + S3 = N3 at *
  have hq1 : 0 ≤ N1 := by omega
  have hq3 : 0 ≤ N3 := by omega
  clear e1 e3 hp1 hp3
  by_cases h1 : N1 ≤ 1048576
  · rw [if_pos h1] at H1
    have f1 : ¬ (1048576 : Int) - N1 < 0 := by omega
    have H2 : Hid (∀ W : World, Calls Try.prog 56 #[.slice p2 n2 c2, .int .i64 (1048576 - N1)] W fun x w' => x = .returned (.int .i64 (if (n2 : Int) ≤ 1048576 - N1 then 1048576 - N1 - (n2 : Int) else -1)) ∧ W = w') := G2 (1048576 - N1) (by omega)
    clear G2
    by_cases h2 : (n2 : Int) ≤ 1048576 - N1
    · rw [if_pos h2] at H2
      have f2 : ¬ (1048576 : Int) - N1 - (n2 : Int) < 0 := by omega
      have H3 : Hid (∀ W : World, Below w.heap.size w W → Calls Try.prog 57 #[.slice p3 n3 c3, .int .i64 (1048576 - N1 - (n2 : Int))] W fun x w' => x = .returned (.int .i64 (if N3 ≤ 1048576 - N1 - (n2 : Int) then 1048576 - N1 - (n2 : Int) - N3 else -1)) ∧ Below W.heap.size W w') := G3 (1048576 - N1 - (n2 : Int)) (by omega)
      clear G3
      by_cases h3 : N3 ≤ 1048576 - N1 - (n2 : Int)
      · rw [if_pos h3] at H3
        have f3 : ¬ (1048576 : Int) - N1 - (n2 : Int) - N3 < 0 := by omega
        obtain rfl : V = 1048576 - N1 - (n2 : Int) - N3 := by rw [← hV, if_pos (by omega)]; omega
        clear hV h1 h2 h3
        go_enter Try.func16, Try.ntmps16
        go_upto_region 1 with fail
        generalize w.alloc (.cells #[.slice p1 n1 c1, .slice p2 n2 c2, .slice p3 n3 c3] 48) = A at hA hX ⊢
        have x0 : Hid _ := cellW hX.out 0 _ rfl
        have d0 := x0.out A (Below.refl _ _)
        have x1 : Hid _ := cellW hX.out 1 _ rfl
        have d1 := x1.out A (Below.refl _ _)
        have x2 : Hid _ := cellW hX.out 2 _ rfl
        have d2 := x2.out A (Below.refl _ _)
        go_wp2_with (first
          | (go_at_call 55; refine (H1.out _ hA).mono ?_; rintro e w1 ⟨rfl, hb1⟩; have hB1 : Below w.heap.size w w1 := keepB hA (Nat.le_refl _) hb1; have y1 := x1.out w1 hb1; have y2 := x2.out w1 hb1)
          | (go_at_call 56; refine (H2.out _).mono ?_; rintro e w2 ⟨rfl, rfl⟩)
          | (go_at_call 57; refine (H3.out _ hB1).mono ?_; rintro e w3 ⟨rfl, hb3⟩; have hB3 : Below w.heap.size w w3 := keepB hB1 (Nat.le_refl _) hb3))
        go_ret
        exact ⟨rfl, by first | exact hB3 | exact hB1⟩
      · rw [if_neg h3] at H3
        obtain rfl : V = -1 := by rw [← hV, if_neg (by omega)]
        clear hV h1 h2 h3
        go_enter Try.func16, Try.ntmps16
        go_upto_region 1 with fail
        generalize w.alloc (.cells #[.slice p1 n1 c1, .slice p2 n2 c2, .slice p3 n3 c3] 48) = A at hA hX ⊢
        have x0 : Hid _ := cellW hX.out 0 _ rfl
        have d0 := x0.out A (Below.refl _ _)
        have x1 : Hid _ := cellW hX.out 1 _ rfl
        have d1 := x1.out A (Below.refl _ _)
        have x2 : Hid _ := cellW hX.out 2 _ rfl
        have d2 := x2.out A (Below.refl _ _)
        go_wp2_with (first
          | (go_at_call 55; refine (H1.out _ hA).mono ?_; rintro e w1 ⟨rfl, hb1⟩; have hB1 : Below w.heap.size w w1 := keepB hA (Nat.le_refl _) hb1; have y1 := x1.out w1 hb1; have y2 := x2.out w1 hb1)
          | (go_at_call 56; refine (H2.out _).mono ?_; rintro e w2 ⟨rfl, rfl⟩)
          | (go_at_call 57; refine (H3.out _ hB1).mono ?_; rintro e w3 ⟨rfl, hb3⟩; have hB3 : Below w.heap.size w w3 := keepB hB1 (Nat.le_refl _) hb3))
        go_ret
        exact ⟨rfl, by first | exact hB3 | exact hB1⟩
    · rw [if_neg h2] at H2
      obtain rfl : V = -1 := by rw [← hV, if_neg (by omega)]
      clear hV h1 h2
      go_enter Try.func16, Try.ntmps16
      go_upto_region 1 with fail
      generalize w.alloc (.cells #[.slice p1 n1 c1, .slice p2 n2 c2, .slice p3 n3 c3] 48) = A at hA hX ⊢
      have x0 : Hid _ := cellW hX.out 0 _ rfl
      have d0 := x0.out A (Below.refl _ _)
      have x1 : Hid _ := cellW hX.out 1 _ rfl
      have d1 := x1.out A (Below.refl _ _)
      have x2 : Hid _ := cellW hX.out 2 _ rfl
      have d2 := x2.out A (Below.refl _ _)
      go_wp2_with (first
        | (go_at_call 55; refine (H1.out _ hA).mono ?_; rintro e w1 ⟨rfl, hb1⟩; have hB1 : Below w.heap.size w w1 := keepB hA (Nat.le_refl _) hb1; have y1 := x1.out w1 hb1; have y2 := x2.out w1 hb1)
        | (go_at_call 56; refine (H2.out _).mono ?_; rintro e w2 ⟨rfl, rfl⟩)
        | (go_at_call 57; refine (H3.out _ hB1).mono ?_; rintro e w3 ⟨rfl, hb3⟩; have hB3 : Below w.heap.size w w3 := keepB hB1 (Nat.le_refl _) hb3))
      go_ret
      exact ⟨rfl, by first | exact hB3 | exact hB1⟩
  · rw [if_neg h1] at H1
    obtain rfl : V = -1 := by rw [← hV, if_neg (by omega)]
    clear hV h1
    go_enter Try.func16, Try.ntmps16
    go_upto_region 1 with fail
    generalize w.alloc (.cells #[.slice p1 n1 c1, .slice p2 n2 c2, .slice p3 n3 c3] 48) = A at hA hX ⊢
    have x0 : Hid _ := cellW hX.out 0 _ rfl
    have d0 := x0.out A (Below.refl _ _)
    have x1 : Hid _ := cellW hX.out 1 _ rfl
    have d1 := x1.out A (Below.refl _ _)
    have x2 : Hid _ := cellW hX.out 2 _ rfl
    have d2 := x2.out A (Below.refl _ _)
    go_wp2_with (first
      | (go_at_call 55; refine (H1.out _ hA).mono ?_; rintro e w1 ⟨rfl, hb1⟩; have hB1 : Below w.heap.size w w1 := keepB hA (Nat.le_refl _) hb1; have y1 := x1.out w1 hb1; have y2 := x2.out w1 hb1)
      | (go_at_call 56; refine (H2.out _).mono ?_; rintro e w2 ⟨rfl, rfl⟩)
      | (go_at_call 57; refine (H3.out _ hB1).mono ?_; rintro e w3 ⟨rfl, hb3⟩; have hB3 : Below w.heap.size w w3 := keepB hB1 (Nat.le_refl _) hb3))
    go_ret
    exact ⟨rfl, by first | exact hB3 | exact hB1⟩
end Go.Proofs.Ytggdjiijcoklgaa
