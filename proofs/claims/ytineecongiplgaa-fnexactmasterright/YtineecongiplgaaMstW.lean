/- WHAT MAY BE OPEN: the program's. Written by mkmstw.py. -/
import Derived.Test.YtineecongiplgaaMstL
import Derived.Test.YtineecongiplgaaTail
import Derived.Deep.DeepCutAuto
import Derived.Deep.RegionHeld3
namespace Go.Proofs.Ytineecongiplgaa
open Go.RowKit
set_option linter.unusedVariables false
set_option linter.unusedSimpArgs false

theorem openW_no {nx : Int} {l : List Wt} (h : riseW 0 nx l = false) : openW nx l = false := by unfold openW; rw [h]; rfl
theorem openW_yes {nx : Int} {l : List Wt} (h : riseW 0 nx l = true) : openW nx l = decide (l.length ≤ 3) := by unfold openW; rw [h]; rfl
theorem wrapM (n : Nat) (h : n < 9223372036854775808) : IntKind.i64.wrap (n : Int) = (n : Int) := by
  have e : (n : Int) % 2 ^ 64 = n := Int.emod_eq_of_lt (by omega) (by omega)
  simp only [IntKind.wrap, IntKind.bits, IntKind.signed, e]
  rw [if_neg]
  simp
  omega
set_option maxRecDepth 100000 in
set_option maxHeartbeats 3200000 in
theorem waitsRight_any (nx : Int) (l : List Wt) (G : Nat) (v : Value) (w : World) (hl : l.length ≤ 1048576) (hz : ∀ x ∈ l, x.t.size ≤ maxLen) (hG : ∀ W, Below w.heap.size w W → W.cell? ⟨G, 0, none⟩ = some v) (hr : RowW w v l) :
    Calls Try.prog 66 #[.pointer (some ⟨G, 0, none⟩), .int .i64 nx] w fun e w' => e = .returned (.bool (openW nx l)) ∧ Below w.heap.size w w' := by
  have HZ : Hid (∀ x ∈ l, x.t.size ≤ maxLen) := hz
  have HW : Hid (∀ W, Below w.heap.size w W → RowW W v l) := fun W hW => RowC.below hr hW
  obtain ⟨p, c, rfl, _⟩ := hr
  obtain ⟨R, hR⟩ : ∃ R, openW nx l = R := ⟨_, rfl⟩
  have HR3 : Hid (riseW 0 nx l = false → R = false) := fun h => by rw [← hR]; exact openW_no h
  have HR4 : Hid (riseW 0 nx l = true → R = decide (l.length ≤ 3)) := fun h => by rw [← hR]; exact openW_yes h
  rw [hR]
  have HGC : Hid (∀ W, Below w.heap.size w W → W.cell? ⟨G, 0, none⟩ = some (.slice p l.length c)) := hG
  clear hR hz hG
  have g0 := HGC.out w (Below.refl _ _)
  go_enter Try.func66, Try.ntmps66
  go_wp2
  go_loopw [5, 13] (fun la i wr => ∃ k : Nat, k ≤ l.length ∧ i = .int .i64 k ∧ la = .int .i64 (lastW l k) ∧ Hid (riseW 0 nx l = riseW (lastW l k) nx (l.drop k)) ∧ Below w.heap.size w wr) (fun _ i _ => l.length - (intOf i).toNat)
  case atStart => exact ⟨0, Nat.zero_le _, rfl, by rw [lastW_zero], (rfl : riseW 0 nx l = riseW (lastW l 0) nx (l.drop 0)), Below.refl _ _⟩
  case round =>
    clear g0
    obtain ⟨k, hk, rfl, rfl, HK, hbel⟩ := hrel
    by_cases hlt : k < l.length
    · obtain ⟨g, o, c', e1, q1⟩ := RowC.at (HW.out wr hbel) k hlt
      cases e1
      have hz := HZ.out _ (List.getElem_mem hlt)
      have HE : Hid _ := riseW_drop (nx := nx) hlt
      rw [lastW_succ _ _ hlt] at HE
      have HNX : Hid (lastW l (k + 1) = l[k].i) := lastW_succ _ _ hlt
      have Q1 : Hid (∀ W, Below wr.heap.size wr W → W.rangeAt g (o + k * 4) [.int .i64 l[k].i, .string l[k].t, .int .i64 l[k].r, .int .i64 l[k].g]) := q1
      clear q1
      have HC : Hid (∀ W, Calls Try.prog 77 #[.string l[k].t] W fun e w' => e = .returned (.bool (bodyB l[k].t)) ∧ W = w') := fun W => letterFits_any _ W hz
      clear hz
      generalize l[k] = d at HE HNX Q1 HC
      generalize lastW l k = la at HK HE ⊢
      have hload : Hid True := trivial
      by_cases h1 : la < d.i
      case neg =>
        have n1 : d.i ≤ la := by omega
        obtain rfl := HR3.out (by rw [HK.out, HE.out, decide_eq_false h1]; simp)
        clear HK HE h1
        go_wp2_with (first
          | (have _ := hload; refine wpList_load_mid rfl 122 (.tmp 15) rfl g (o + k * 4) rfl _ _ (Q1.out wr (Below.refl _ _)) Try.underlying122 rfl (by kernel_rfl) ?_; clear hload))
        go_ret
        exact ⟨rfl, keepB hbel (Nat.le_refl _) (all_alloc _ _)⟩
      have n1 : ¬ (d.i ≤ la) := by omega
      by_cases h2 : d.i < nx
      case neg =>
        have n2 : nx ≤ d.i := by omega
        obtain rfl := HR3.out (by rw [HK.out, HE.out, decide_eq_false h2]; simp)
        clear HK HE h2
        go_wp2_with (first
          | (have _ := hload; refine wpList_load_mid rfl 122 (.tmp 15) rfl g (o + k * 4) rfl _ _ (Q1.out wr (Below.refl _ _)) Try.underlying122 rfl (by kernel_rfl) ?_; clear hload))
        go_ret
        exact ⟨rfl, keepB hbel (Nat.le_refl _) (all_alloc _ _)⟩
      have n2 : ¬ (nx ≤ d.i) := by omega
      cases hB : bodyB d.t with
      | false =>
        rw [hB] at HC
        obtain rfl := HR3.out (by rw [HK.out, HE.out, hB]; simp)
        clear HK HE hB
        go_wp2_with (first
          | (have _ := hload; refine wpList_load_mid rfl 122 (.tmp 15) rfl g (o + k * 4) rfl _ _ (Q1.out wr (Below.refl _ _)) Try.underlying122 rfl (by kernel_rfl) ?_; clear hload)
          | (go_at_call 77; refine (HC.out _).mono ?_; rintro e w5 ⟨rfl, rfl⟩))
        go_ret
        exact ⟨rfl, keepB hbel (Nat.le_refl _) (all_alloc _ _)⟩
      | true =>
      rw [hB] at HC
      by_cases h3 : 1 ≤ d.r
      case neg =>
        have n3 : d.r < 1 := by omega
        obtain rfl := HR3.out (by rw [HK.out, HE.out, decide_eq_false h3]; simp)
        clear HK HE h3 hB
        go_wp2_with (first
          | (have _ := hload; refine wpList_load_mid rfl 122 (.tmp 15) rfl g (o + k * 4) rfl _ _ (Q1.out wr (Below.refl _ _)) Try.underlying122 rfl (by kernel_rfl) ?_; clear hload)
          | (go_at_call 77; refine (HC.out _).mono ?_; rintro e w5 ⟨rfl, rfl⟩))
        go_ret
        exact ⟨rfl, keepB hbel (Nat.le_refl _) (all_alloc _ _)⟩
      have n3 : ¬ (d.r < 1) := by omega
      by_cases h4 : d.r ≤ 3
      case neg =>
        have n4 : 3 < d.r := by omega
        obtain rfl := HR3.out (by rw [HK.out, HE.out, decide_eq_false h4]; simp)
        clear HK HE h4 hB
        go_wp2_with (first
          | (have _ := hload; refine wpList_load_mid rfl 122 (.tmp 15) rfl g (o + k * 4) rfl _ _ (Q1.out wr (Below.refl _ _)) Try.underlying122 rfl (by kernel_rfl) ?_; clear hload)
          | (go_at_call 77; refine (HC.out _).mono ?_; rintro e w5 ⟨rfl, rfl⟩))
        go_ret
        exact ⟨rfl, keepB hbel (Nat.le_refl _) (all_alloc _ _)⟩
      have n4 : ¬ (3 < d.r) := by omega
      by_cases h5 : 0 ≤ d.g
      case neg =>
        have n5 : d.g < 0 := by omega
        obtain rfl := HR3.out (by rw [HK.out, HE.out, decide_eq_false h5]; simp)
        clear HK HE h5 hB
        go_wp2_with (first
          | (have _ := hload; refine wpList_load_mid rfl 122 (.tmp 15) rfl g (o + k * 4) rfl _ _ (Q1.out wr (Below.refl _ _)) Try.underlying122 rfl (by kernel_rfl) ?_; clear hload)
          | (go_at_call 77; refine (HC.out _).mono ?_; rintro e w5 ⟨rfl, rfl⟩))
        go_ret
        exact ⟨rfl, keepB hbel (Nat.le_refl _) (all_alloc _ _)⟩
      have n5 : ¬ (d.g < 0) := by omega
      by_cases h6 : d.g ≤ 2
      case neg =>
        have n6 : 3 ≤ d.g := by omega
        obtain rfl := HR3.out (by rw [HK.out, HE.out, decide_eq_false h6]; simp)
        clear HK HE h6 hB
        go_wp2_with (first
          | (have _ := hload; refine wpList_load_mid rfl 122 (.tmp 15) rfl g (o + k * 4) rfl _ _ (Q1.out wr (Below.refl _ _)) Try.underlying122 rfl (by kernel_rfl) ?_; clear hload)
          | (go_at_call 77; refine (HC.out _).mono ?_; rintro e w5 ⟨rfl, rfl⟩))
        go_ret
        exact ⟨rfl, keepB hbel (Nat.le_refl _) (all_alloc _ _)⟩
      have n6 : ¬ (3 ≤ d.g) := by omega
      have HK2 : Hid (riseW 0 nx l = riseW (lastW l (k + 1)) nx (l.drop (k + 1))) := (by rw [HK.out, HE.out, hB, decide_eq_true h1, decide_eq_true h2, decide_eq_true h3, decide_eq_true h4, decide_eq_true h5, decide_eq_true h6, HNX.out]; rfl : riseW 0 nx l = riseW (lastW l (k + 1)) nx (l.drop (k + 1)))
      clear HK HE h1 h2 h3 h4 h5 h6 hB
      go_wp2_with (first
        | (have _ := hload; refine wpList_load_mid rfl 122 (.tmp 15) rfl g (o + k * 4) rfl _ _ (Q1.out wr (Below.refl _ _)) Try.underlying122 rfl (by kernel_rfl) ?_; clear hload)
        | (go_at_call 77; refine (HC.out _).mono ?_; rintro e w5 ⟨rfl, rfl⟩))
      go_roundw
      case rel => exact ⟨k + 1, by omega, by go_num, by rw [HNX.out], HK2.out, keepB hbel (Nat.le_refl _) (all_alloc _ _)⟩
      case measure => simp [intOf]; omega
    · have hkk : k = l.length := by omega
      have hr : riseW 0 nx l = true := by rw [HK.out, hkk, List.drop_length]; rfl
      have e := HR4.out hr
      have g0 := HGC.out wr hbel
      clear hkk hr
      by_cases hn : l.length ≤ 3
      · obtain rfl : R = true := by rw [e]; exact decide_eq_true hn
        clear e
        have hn' : (l.length : Int) ≤ 3 := by omega
        go_wp2
        go_ret
        exact ⟨by simp [hn'], hbel⟩
      · obtain rfl : R = false := by rw [e]; exact decide_eq_false hn
        clear e
        have hn' : ¬ (l.length : Int) ≤ 3 := by omega
        go_wp2
        go_ret
        exact ⟨by simp [hn'], hbel⟩
end Go.Proofs.Ytineecongiplgaa
