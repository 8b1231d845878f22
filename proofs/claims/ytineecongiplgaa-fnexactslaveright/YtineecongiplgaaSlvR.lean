/- A RIGHT SLAVE: the program's and the model's. Written by mkslr.py. -/
import Derived.Test.YtineecongiplgaaSlvL
import Derived.Test.YtineecongiplgaaTail
import Derived.Deep.DeepCutAuto
import Derived.Deep.RegionHeld3
namespace Go.Proofs.Ytineecongiplgaa
open Go.RowKit
set_option linter.unusedVariables false
set_option linter.unusedSimpArgs false

theorem Slv.right_no {s : Slv} (h : riseD s.lo s.cs = false) : s.right = false := by unfold Slv.right; rw [h]; simp
theorem Slv.right_yes {s : Slv} (h1 : s.t.right = true) (h2 : timeB s.lo = true) (h3 : timeB s.ru = true) (h : riseD s.lo s.cs = true) : s.right = decide (s.cs.length ≤ 4) := by unfold Slv.right; rw [h1, h2, h3, h]; simp
theorem wrapR (n : Nat) (h : n < 9223372036854775808) : IntKind.i64.wrap (n : Int) = (n : Int) := by
  have e : (n : Int) % 2 ^ 64 = n := Int.emod_eq_of_lt (by omega) (by omega)
  simp only [IntKind.wrap, IntKind.bits, IntKind.signed, e]
  rw [if_neg]
  simp
  omega
set_option maxRecDepth 100000 in
set_option maxHeartbeats 3200000 in
theorem slaveRight_any (s : Slv) (v1 v2 v3 : Value) (w : World) (ht : s.tot ≤ 1048576) (h : RowSlv w v1 v2 v3 s) :
    Calls Try.prog 35 #[.agg #[v1, v2, .int .i64 s.lo, v3, .int .i64 s.ru]] w fun e w' => e = .returned (.bool s.right) ∧ Below w.heap.size w w' := by
  have p3' := csum_pos Dn.sz s.cs
  have hb0 : s.t.cs.length ≤ 1048576 ∧ s.t.rs.length ≤ 1048576 ∧ s.cs.length ≤ 1048576 ∧ csum Dn.sz s.cs ≤ 1048576 := by unfold Slv.tot at ht; omega
  obtain ⟨b1, b2, b3, b4⟩ := hb0
  have HZ : Hid (∀ x ∈ s.cs, x.a.size ≤ maxLen) := fun x hx => by have := csum_each Dn.sz hx; have e : Dn.sz x = x.a.size := rfl; unfold maxLen; omega
  have HD : Hid (∀ W, Below w.heap.size w W → RowD W v3 s.cs) := fun W hW => RowC.below h.d hW
  obtain ⟨⟨p1, c1, rfl, r1⟩, ⟨p2, c2, rfl, r2⟩, ⟨p3, c3, rfl, r3⟩⟩ := h
  have H1 : Hid (∀ W, Below w.heap.size w W → Calls Try.prog 75 #[.agg #[.slice p1 s.t.cs.length c1, .slice p2 s.t.rs.length c2]] W fun e w' => e = .returned (.bool s.t.right) ∧ Below W.heap.size W w') := fun W hW => tableRight_any s.t p1 p2 c1 c2 W (by omega) (by omega) (RowI.below ⟨p1, c1, rfl, r1⟩ hW) (RowI.below ⟨p2, c2, rfl, r2⟩ hW)
  have H2 : Hid (∀ W, Calls Try.prog 76 #[.int .i64 s.lo] W fun e w' => e = .returned (.bool (timeB s.lo)) ∧ W = w') := fun W => isTime_any s.lo W
  have H3 : Hid (∀ W, Calls Try.prog 76 #[.int .i64 s.ru] W fun e w' => e = .returned (.bool (timeB s.ru)) ∧ W = w') := fun W => isTime_any s.ru W
  have hlo : timeB s.lo = true → 0 ≤ s.lo ∧ s.lo ≤ 1000000 := fun h => by unfold timeB at h; simpa using h
  clear p3' ht b1 b2 b4 r1 r2 r3
  have hA := all_alloc w (.cells #[.slice p1 s.t.cs.length c1, .slice p2 s.t.rs.length c2, .int .i64 s.lo, .slice p3 s.cs.length c3, .int .i64 s.ru] 64)
  have hX : Hid _ := heap_alloc_new w (.cells #[.slice p1 s.t.cs.length c1, .slice p2 s.t.rs.length c2, .int .i64 s.lo, .slice p3 s.cs.length c3, .int .i64 s.ru] 64)
  obtain ⟨R, hR⟩ : ∃ R, s.right = R := ⟨_, rfl⟩
  have HR0 : Hid (s.t.right = false → R = false) := fun h => by rw [← hR]; unfold Slv.right; rw [h]; rfl
  have HR1 : Hid (timeB s.lo = false → R = false) := fun h => by rw [← hR]; unfold Slv.right; rw [h]; simp
  have HR2 : Hid (timeB s.ru = false → R = false) := fun h => by rw [← hR]; unfold Slv.right; rw [h]; simp
  have HR3 : Hid (riseD s.lo s.cs = false → R = false) := fun h => by rw [← hR]; exact Slv.right_no h
  have HR4 : Hid (s.t.right = true → timeB s.lo = true → timeB s.ru = true → riseD s.lo s.cs = true → R = decide (s.cs.length ≤ 4)) := fun h1 h2 h3 h => by rw [← hR]; exact Slv.right_yes h1 h2 h3 h
  rw [hR]
  clear hR
  go_enter Try.func35, Try.ntmps35
  go_upto_region 1 with fail
  generalize w.alloc (.cells #[.slice p1 s.t.cs.length c1, .slice p2 s.t.rs.length c2, .int .i64 s.lo, .slice p3 s.cs.length c3, .int .i64 s.ru] 64) = A at hA hX ⊢
  have x0 := cellW hX.out 0 _ rfl A (Below.refl _ _)
  have x1 := cellW hX.out 1 _ rfl A (Below.refl _ _)
  have x2 : Hid _ := cellW hX.out 2 _ rfl
  have x4 : Hid _ := cellW hX.out 4 _ rfl
  cases hB1 : s.t.right with
  | false =>
    rw [hB1] at H1
    obtain rfl := HR0.out hB1
    go_wp2_with (first
        | (go_at_call 75; refine (H1.out _ hA).mono ?_; rintro e w1 ⟨rfl, hb1⟩; have y2 := x2.out w1 hb1; have y4 := x4.out w1 hb1)
        | (have _ := hD1; go_at_call 76; refine (H3.out _).mono ?_; rintro e w3 ⟨rfl, rfl⟩)
        | (go_at_call 76; refine (H2.out _).mono ?_; rintro e w2 ⟨rfl, rfl⟩; have hD1 : Hid True := trivial))
    go_ret
    exact ⟨rfl, keepB hA (Nat.le_refl _) hb1⟩
  | true =>
  rw [hB1] at H1
  cases hB2 : timeB s.lo with
  | false =>
    rw [hB2] at H2
    obtain rfl := HR1.out hB2
    go_wp2_with (first
        | (go_at_call 75; refine (H1.out _ hA).mono ?_; rintro e w1 ⟨rfl, hb1⟩; have y2 := x2.out w1 hb1; have y4 := x4.out w1 hb1)
        | (have _ := hD1; go_at_call 76; refine (H3.out _).mono ?_; rintro e w3 ⟨rfl, rfl⟩)
        | (go_at_call 76; refine (H2.out _).mono ?_; rintro e w2 ⟨rfl, rfl⟩; have hD1 : Hid True := trivial))
    go_ret
    exact ⟨rfl, keepB hA (Nat.le_refl _) hb1⟩
  | true =>
  rw [hB2] at H2
  cases hB3 : timeB s.ru with
  | false =>
    rw [hB3] at H3
    obtain rfl := HR2.out hB3
    go_wp2_with (first
        | (go_at_call 75; refine (H1.out _ hA).mono ?_; rintro e w1 ⟨rfl, hb1⟩; have y2 := x2.out w1 hb1; have y4 := x4.out w1 hb1)
        | (have _ := hD1; go_at_call 76; refine (H3.out _).mono ?_; rintro e w3 ⟨rfl, rfl⟩)
        | (go_at_call 76; refine (H2.out _).mono ?_; rintro e w2 ⟨rfl, rfl⟩; have hD1 : Hid True := trivial))
    go_ret
    exact ⟨rfl, keepB hA (Nat.le_refl _) hb1⟩
  | true =>
  rw [hB3] at H3
  obtain ⟨hl0, hl1⟩ := hlo hB2
  replace HR4 : Hid (riseD s.lo s.cs = true → R = decide (s.cs.length ≤ 4)) := fun h => HR4.out hB1 hB2 hB3 h
  clear HR0 HR1 HR2 hB1 hB2 hB3 hlo
  go_upto_region 3 with (first
        | (go_at_call 75; refine (H1.out _ hA).mono ?_; rintro e w1 ⟨rfl, hb1⟩; have y2 := x2.out w1 hb1; have y4 := x4.out w1 hb1)
        | (have _ := hD1; go_at_call 76; refine (H3.out _).mono ?_; rintro e w3 ⟨rfl, rfl⟩)
        | (go_at_call 76; refine (H2.out _).mono ?_; rintro e w2 ⟨rfl, rfl⟩; have hD1 : Hid True := trivial))
  clear y2 y4 x0 x1 x2 x4 H1 H2 H3
  have hz1 := hb1.size
  replace hX : Hid _ := blk hX.out hb1
  replace hA : Below w.heap.size w w1 := keepB hA (Nat.le_refl _) hb1
  clear hb1
  have a2 := cellW hX.out 2 _ rfl w1 (Below.refl _ _)
  have a3 := cellW hX.out 3 _ rfl w1 (Below.refl _ _)
  go_wp2
  go_loopw [3, 27] (fun la i wr => ∃ k : Nat, k ≤ s.cs.length ∧ i = .int .i64 k ∧ la = .int .i64 (lastD s.lo s.cs k) ∧ Hid (riseD s.lo s.cs = riseD (lastD s.lo s.cs k) (s.cs.drop k)) ∧ Below w1.heap.size w1 wr) (fun _ i _ => s.cs.length - (intOf i).toNat)
  case atStart => exact ⟨0, Nat.zero_le _, rfl, by rw [lastD_zero], (rfl : riseD s.lo s.cs = riseD (lastD s.lo s.cs 0) (s.cs.drop 0)), Below.refl _ _⟩
  case round =>
    obtain ⟨k, hk, rfl, rfl, HK, hbel⟩ := hrel
    by_cases hlt : k < s.cs.length
    · obtain ⟨g, o, c, e1, q1⟩ := RowC.at (HD.out wr (keepB hA (Nat.le_refl _) hbel)) k hlt
      cases e1
      have hz := HZ.out _ (List.getElem_mem hlt)
      have HE : Hid _ := riseD_drop (lo := s.lo) hlt
      rw [lastD_succ _ _ _ hlt] at HE
      have HNX : Hid (lastD s.lo s.cs (k + 1) = s.cs[k].i) := lastD_succ _ _ _ hlt
      have Q1 : Hid (∀ W, Below wr.heap.size wr W → W.rangeAt g (o + k * 2) [.int .i64 s.cs[k].i, .string s.cs[k].a]) := q1
      clear q1
      have HC : Hid (∀ W, Calls Try.prog 77 #[.string s.cs[k].a] W fun e w' => e = .returned (.bool (bodyB s.cs[k].a)) ∧ W = w') := fun W => letterFits_any _ W hz
      clear hz
      generalize s.cs[k] = d at HE HNX Q1 HC
      generalize lastD s.lo s.cs k = la at HK HE ⊢
      have hload : Hid True := trivial
      by_cases h1 : la < d.i
      case neg =>
        have h1' : d.i ≤ la := by omega
        obtain rfl := HR3.out (by rw [HK.out, HE.out, decide_eq_false h1]; rfl)
        clear HK HE h1
        go_wp2_with (first
          | (have _ := hload; refine wpList_load_mid rfl 90 (.tmp 29) rfl g (o + k * 2) rfl _ _ (Q1.out wr (Below.refl _ _)) Try.underlying90 rfl (by kernel_rfl) ?_; clear hload))
        go_ret
        exact ⟨rfl, keepB hA (Nat.le_refl _) (keepB hbel (Nat.le_refl _) (all_alloc _ _))⟩
      have h1' : ¬ d.i ≤ la := by omega
      by_cases h2 : d.i ≤ 1000000
      case neg =>
        have h2' : 1000000 < d.i := by omega
        obtain rfl := HR3.out (by rw [HK.out, HE.out, decide_eq_false h2]; simp)
        clear HK HE h1 h2
        go_wp2_with (first
          | (have _ := hload; refine wpList_load_mid rfl 90 (.tmp 29) rfl g (o + k * 2) rfl _ _ (Q1.out wr (Below.refl _ _)) Try.underlying90 rfl (by kernel_rfl) ?_; clear hload))
        go_ret
        exact ⟨rfl, keepB hA (Nat.le_refl _) (keepB hbel (Nat.le_refl _) (all_alloc _ _))⟩
      have h2' : ¬ 1000000 < d.i := by omega
      cases hB : bodyB d.a with
      | false =>
        rw [hB] at HC
        obtain rfl := HR3.out (by rw [HK.out, HE.out, hB]; simp)
        clear HK HE h1 h2 hB
        go_wp2_with (first
          | (have _ := hload; refine wpList_load_mid rfl 90 (.tmp 29) rfl g (o + k * 2) rfl _ _ (Q1.out wr (Below.refl _ _)) Try.underlying90 rfl (by kernel_rfl) ?_; clear hload)
          | (go_at_call 77; refine (HC.out _).mono ?_; rintro e w5 ⟨rfl, rfl⟩))
        go_ret
        exact ⟨rfl, keepB hA (Nat.le_refl _) (keepB hbel (Nat.le_refl _) (all_alloc _ _))⟩
      | true =>
        rw [hB] at HC
        have HK2 : Hid (riseD s.lo s.cs = riseD (lastD s.lo s.cs (k + 1)) (s.cs.drop (k + 1))) := (by rw [HK.out, HE.out, hB, decide_eq_true h1, decide_eq_true h2, HNX.out]; rfl : riseD s.lo s.cs = riseD (lastD s.lo s.cs (k + 1)) (s.cs.drop (k + 1)))
        clear HK HE h1 h2 hB
        go_wp2_with (first
          | (have _ := hload; refine wpList_load_mid rfl 90 (.tmp 29) rfl g (o + k * 2) rfl _ _ (Q1.out wr (Below.refl _ _)) Try.underlying90 rfl (by kernel_rfl) ?_; clear hload)
          | (go_at_call 77; refine (HC.out _).mono ?_; rintro e w5 ⟨rfl, rfl⟩))
        go_roundw
        case rel => exact ⟨k + 1, by omega, by go_num, by rw [HNX.out], HK2.out, keepB hbel (Nat.le_refl _) (all_alloc _ _)⟩
        case measure => simp [intOf]; omega
    · have hkk : k = s.cs.length := by omega
      have hr : riseD s.lo s.cs = true := by rw [HK.out, hkk, List.drop_length]; rfl
      have e := HR4.out hr
      have hX2 : Hid _ := blk hX.out hbel
      have a3' := cellW hX2.out 3 _ rfl wr (Below.refl _ _)
      clear hkk hr
      by_cases hn : s.cs.length ≤ 4
      · obtain rfl : R = true := by rw [e]; exact decide_eq_true hn
        clear e
        have hn' : (s.cs.length : Int) ≤ 4 := by omega
        go_wp2
        go_ret
        exact ⟨by simp [hn'], keepB hA (Nat.le_refl _) hbel⟩
      · obtain rfl : R = false := by rw [e]; exact decide_eq_false hn
        clear e
        have hn' : ¬ (s.cs.length : Int) ≤ 4 := by omega
        go_wp2
        go_ret
        exact ⟨by simp [hn'], keepB hA (Nat.le_refl _) hbel⟩
end Go.Proofs.Ytineecongiplgaa
