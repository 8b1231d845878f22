/- WHAT MAY BE OPEN: the program's. Written by mkmstw.py. -/
import Derived.Test.YtghchcipobcpjaaQtMstL
import Derived.Test.YtghchcipobcpjaaQtTail
import Derived.Deep.DeepCutAuto
import Derived.Deep.RegionHeld3
namespace Go.Proofs.Ytghchcipobcpjaa
open Go.RowKit
set_option linter.unusedVariables false
set_option linter.unusedSimpArgs false

theorem openW_no {nx : Int} {l : List Wt} (h : riseW 0 nx l = false) : openW nx l = false := by unfold openW; rw [h]; rfl
theorem openW_yes {nx : Int} {l : List Wt} (h : riseW 0 nx l = true) : openW nx l = decide (l.length ≤ 3) := by unfold openW; rw [h]; rfl
theorem wrapM (n : Nat) (h : n < 9223372036854775808) : IntKind.i64.wrap (n : Int) = (n : Int) := by
  have e : (n : Int) % 2 ^ 64 = n := Int.emod_eq_of_lt (by omega) (by omega)
  simp only [IntKind.wrap, IntKind.bits, IntKind.signed, e]
  rw [if_neg]
  simp
  omega
set_option maxRecDepth 100000 in
set_option maxHeartbeats 3200000 in
theorem waitsRight_any (nx : Int) (l : List Wt) (G : Nat) (v : Value) (w : World) (hl : l.length ≤ 1048576) (hz : ∀ x ∈ l, x.t.size ≤ maxLen) (hG : ∀ W, Below w.heap.size w W → W.cell? ⟨G, 0, none⟩ = some v) (hr : RowW w v l) :
    Calls Try.prog 53 #[.pointer (some ⟨G, 0, none⟩), .int .i64 nx] w fun e w' => e = .returned (.bool (openW nx l)) ∧ Below w.heap.size w w' := by
  have HZ : Hid (∀ x ∈ l, x.t.size ≤ maxLen) := hz
  have HW : Hid (∀ W, Below w.heap.size w W → RowW W v l) := fun W hW => RowC.below hr hW
  obtain ⟨p, c, rfl, _⟩ := hr
  obtain ⟨R, hR⟩ : ∃ R, openW nx l = R := ⟨_, rfl⟩
  have HR3 : Hid (riseW 0 nx l = false → R = false) := fun h => by rw [← hR]; exact openW_no h
  have HR4 : Hid (riseW 0 nx l = true → R = decide (l.length ≤ 3)) := fun h => by rw [← hR]; exact openW_yes h
  rw [hR]
  have HGC : Hid (∀ W, Below w.heap.size w W → W.cell? ⟨G, 0, none⟩ = some (.slice p l.length c)) := hG
  clear hR hz hG
  have g0 := HGC.out w (Below.refl _ _)
  go_enter Try.func53, Try.ntmps53
  go_wp2
  go_loopw [5, 13] (fun la i wr => ∃ k : Nat, k ≤ l.length ∧ i = .int .i64 k ∧ la = .int .i64 (lastW l k) ∧ Hid (riseW 0 nx l = riseW (lastW l k) nx (l.drop k)) ∧ Below w.heap.size w wr) (fun _ i _ => l.length - (intOf i).toNat)
  case atStart => exact ⟨0, Nat.zero_le _, rfl, by rw [lastW_zero], (rfl : riseW 0 nx l = riseW (lastW l 0) nx (l.drop 0)), Below.refl _ _⟩
  case round =>
    clear g0
    obtain ⟨k, hk, rfl, rfl, HK, hbel⟩ := hrel
    by_cases hlt : k < l.length
    · obtain ⟨g, o, c', e1, q1⟩ := RowC.at (HW.out wr hbel) k hlt
      cases e1
      have hz := HZ.out _ (List.getElem_mem hlt)
      have HE : Hid _ := riseW_drop (nx := nx) hlt
      rw [lastW_succ _ _ hlt] at HE
      have HNX : Hid (lastW l (k + 1) = l[k].i) := lastW_succ _ _ hlt
      have Q1 : Hid (∀ W, Below wr.heap.size wr W → W.rangeAt g (o + k * 4) [.int .i64 l[k].i, .string l[k].t, .int .i64 l[k].r, .int .i64 l[k].g]) := q1
      clear q1
      have HC : Hid (∀ W, Calls Try.prog 26 #[.string l[k].t] W fun e w' => e = .returned (.bool (bodyB l[k].t)) ∧ W = w') := fun W => letterFits_any _ W hz
      clear hz
      generalize l[k] = d at HE HNX Q1 HC
      generalize lastW l k = la at HK HE ⊢
      have hload : Hid True := trivial
      by_cases h1 : la < d.i
      case neg =>
        have n1 : d.i ≤ la := by omega
        obtain rfl := HR3.out (by rw [HK.out, HE.out, decide_eq_false h1]; simp)
        clear HK HE h1
        go_wp2_with (first
          | (have _ := hload; refine wpList_load_mid rfl 50 (.tmp 15) rfl g (o + k * 4) rfl _ _ (Q1.out wr (Below.refl _ _)) Try.underlying50 rfl (by kernel_rfl) ?_; clear hload))
        go_ret
        exact ⟨rfl, keepB hbel (Nat.le_refl _) (all_alloc _ _)⟩
      have n1 : ¬ (d.i ≤ la) := by omega
      by_cases h2 : d.i < nx
      case neg =>
        have n2 : nx ≤ d.i := by omega
        obtain rfl := HR3.out (by rw [HK.out, HE.out, decide_eq_false h2]; simp)
        clear HK HE h2
        go_wp2_with (first
          | (have _ := hload; refine wpList_load_mid rfl 50 (.tmp 15) rfl g (o + k * 4) rfl _ _ (Q1.out wr (Below.refl _ _)) Try.underlying50 rfl (by kernel_rfl) ?_; clear hload))
        go_ret
        exact ⟨rfl, keepB hbel (Nat.le_refl _) (all_alloc _ _)⟩
      have n2 : ¬ (nx ≤ d.i) := by omega
      cases hB : bodyB d.t with
      | false =>
        rw [hB] at HC
        obtain rfl := HR3.out (by rw [HK.out, HE.out, hB]; simp)
        clear HK HE hB
        go_wp2_with (first
          | (have _ := hload; refine wpList_load_mid rfl 50 (.tmp 15) rfl g (o + k * 4) rfl _ _ (Q1.out wr (Below.refl _ _)) Try.underlying50 rfl (by kernel_rfl) ?_; clear hload)
          | (go_at_call 26; refine (HC.out _).mono ?_; rintro e w5 ⟨rfl, rfl⟩))
        go_ret
        exact ⟨rfl, keepB hbel (Nat.le_refl _) (all_alloc _ _)⟩
      | true =>
      rw [hB] at HC
      by_cases h3 : 1 ≤ d.r
      case neg =>
        have n3 : d.r < 1 := by omega
        obtain rfl := HR3.out (by rw [HK.out, HE.out, decide_eq_false h3]; simp)
        clear HK HE h3 hB
        go_wp2_with (first
          | (have _ := hload; refine wpList_load_mid rfl 50 (.tmp 15) rfl g (o + k * 4) rfl _ _ (Q1.out wr (Below.refl _ _)) Try.underlying50 rfl (by kernel_rfl) ?_; clear hload)
          | (go_at_call 26; refine (HC.out _).mono ?_; rintro e w5 ⟨rfl, rfl⟩))
        go_ret
        exact ⟨rfl, keepB hbel (Nat.le_refl _) (all_alloc _ _)⟩
      have n3 : ¬ (d.r < 1) := by omega
      by_cases h4 : d.r ≤ 3
      case neg =>
        have n4 : 3 < d.r := by omega
        obtain rfl := HR3.out (by rw [HK.out, HE.out, decide_eq_false h4]; simp)
        clear HK HE h4 hB
        go_wp2_with (first
          | (have _ := hload; refine wpList_load_mid rfl 50 (.tmp 15) rfl g (o + k * 4) rfl _ _ (Q1.out wr (Below.refl _ _)) Try.underlying50 rfl (by kernel_rfl) ?_; clear hload)
          | (go_at_call 26; refine (HC.out _).mono ?_; rintro e w5 ⟨rfl, rfl⟩))
        go_ret
        exact ⟨rfl, keepB hbel (Nat.le_refl _) (all_alloc _ _)⟩
      have n4 : ¬ (3 < d.r) := by omega
      by_cases h5 : 0 ≤ d.g
      case neg =>
        have n5 : d.g < 0 := by omega
        obtain rfl := HR3.out (by rw [HK.out, HE.out, decide_eq_false h5]; simp)
        clear HK HE h5 hB
        go_wp2_with (first
          | (have _ := hload; refine wpList_load_mid rfl 50 (.tmp 15) rfl g (o + k * 4) rfl _ _ (Q1.out wr (Below.refl _ _)) Try.underlying50 rfl (by kernel_rfl) ?_; clear hload)
          | (go_at_call 26; refine (HC.out _).mono ?_; rintro e w5 ⟨rfl, rfl⟩))
        go_ret
        exact ⟨rfl, keepB hbel (Nat.le_refl _) (all_alloc _ _)⟩
      have n5 : ¬ (d.g < 0) := by omega
      by_cases h6 : d.g ≤ 2
      case neg =>
        have n6 : 3 ≤ d.g := by omega
        obtain rfl := HR3.out (by rw [HK.out, HE.out, decide_eq_false h6]; simp)
        clear HK HE h6 hB
        go_wp2_with (first
          | (have _ := hload; refine wpList_load_mid rfl 50 (.tmp 15) rfl g (o + k * 4) rfl _ _ (Q1.out wr (Below.refl _ _)) Try.underlying50 rfl (by kernel_rfl) ?_; clear hload)
          | (go_at_call 26; refine (HC.out _).mono ?_; rintro e w5 ⟨rfl, rfl⟩))
        go_ret
        exact ⟨rfl, keepB hbel (Nat.le_refl _) (all_alloc _ _)⟩
      have n6 : ¬ (3 ≤ d.g) := by omega
      have HK2 : Hid (riseW 0 nx l = riseW (lastW l (k + 1)) nx (l.drop (k + 1))) := (by rw [HK.out, HE.out, hB, decide_eq_true h1, decide_eq_true h2, decide_eq_true h3, decide_eq_true h4, decide_eq_true h5, decide_eq_true h6, HNX.out]; rfl : riseW 0 nx l = riseW (lastW l (k + 1)) nx (l.drop (k + 1)))
      clear HK HE h1 h2 h3 h4 h5 h6 hB
      go_wp2_with (first
        | (have _ := hload; refine wpList_load_mid rfl 50 (.tmp 15) rfl g (o + k * 4) rfl _ _ (Q1.out wr (Below.refl _ _)) Try.underlying50 rfl (by kernel_rfl) ?_; clear hload)
        | (go_at_call 26; refine (HC.out _).mono ?_; rintro e w5 ⟨rfl, rfl⟩))
      go_roundw
      case rel => exact ⟨k + 1, by omega, by go_num, by rw [HNX.out], HK2.out, keepB hbel (Nat.le_refl _) (all_alloc _ _)⟩
      case measure => simp [intOf]; omega
    · have hkk : k = l.length := by omega
      have hr : riseW 0 nx l = true := by rw [HK.out, hkk, List.drop_length]; rfl
      have e := HR4.out hr
      have g0 := HGC.out wr hbel
      clear hkk hr
      by_cases hn : l.length ≤ 3
      · obtain rfl : R = true := by rw [e]; exact decide_eq_true hn
        clear e
        have hn' : (l.length : Int) ≤ 3 := by omega
        go_wp2
        go_ret
        exact ⟨by simp [hn'], hbel⟩
      · obtain rfl : R = false := by rw [e]; exact decide_eq_false hn
        clear e
        have hn' : ¬ (l.length : Int) ≤ 3 := by omega
        go_wp2
        go_ret
        exact ⟨by simp [hn'], hbel⟩
end Go.Proofs.Ytghchcipobcpjaa
/- WHETHER A NUMBER IS OPEN: the program's (a closure handed to slices.ContainsFunc) and the model's. -/
namespace Go.Proofs.Ytghchcipobcpjaa
open Go.RowKit
set_option linter.unusedVariables false
set_option linter.unusedSimpArgs false

def atW (l : List Wt) (i : Int) : Int := if placeW l i < l.length then (placeW l i : Int) else -1
theorem atW_opB (l : List Wt) (i : Int) : decide (0 ≤ atW l i) = opB l i := by
  unfold atW opB
  by_cases h : placeW l i < l.length
  · rw [if_pos h, decide_eq_true h]; exact decide_eq_true (by omega)
  · rw [if_neg h, decide_eq_false h]; rfl
theorem atW_lt (l : List Wt) (i : Int) : -1 ≤ atW l i ∧ atW l i < l.length + 1 := by
  unfold atW
  split <;> omega
theorem atW_at {l : List Wt} {i : Int} {k : Nat} (h : k < l.length) (hi : l[k].i = i) (hb : ∀ j (hj : j < k), (l[j]'(by omega)).i ≠ i) : atW l i = (k : Int) := by
  unfold atW
  rw [placeW_at h hi hb, if_pos h]
theorem atW_no {l : List Wt} {i : Int} (hb : ∀ j (hj : j < l.length), l[j].i ≠ i) : atW l i = -1 := by
  unfold atW
  rw [placeW_no hb, if_neg (by omega)]
set_option maxRecDepth 100000 in
theorem isOpen1_any (x : Wt) (i : Int) (g : Nat) (w : World) (hg : ∀ W, Below w.heap.size w W → W.cell? ⟨g, 0, none⟩ = some (.int .i64 i)) :
    Calls Try.prog 75 #[.agg #[.int .i64 x.i, .string x.t, .int .i64 x.r, .int .i64 x.g], .pointer (some ⟨g, 0, none⟩)] w fun e w' => e = .returned (.bool (x.i == i)) ∧ Below w.heap.size w w' := by
  have hc := hg _ (all_alloc w (.cells #[.int .i64 x.i, .string x.t, .int .i64 x.r, .int .i64 x.g] 50))
  clear hg
  go_enter Try.func75, Try.ntmps75
  go_wp2
  go_ret
  exact ⟨rfl, all_alloc _ _⟩
set_option maxRecDepth 100000 in
set_option maxHeartbeats 1600000 in
theorem indexWait_any (l : List Wt) (i : Int) (g : Nat) (v : Value) (w : World) (hl : l.length ≤ 1048576) (hg : ∀ W, Below w.heap.size w W → W.cell? ⟨g, 0, none⟩ = some (.int .i64 i)) (hr : RowW w v l) :
    Calls Try.prog 79 #[v, .func (.func 75) #[] #[.pointer (some ⟨g, 0, none⟩)]] w fun e w' => e = .returned (.int .i64 (atW l i)) ∧ Below w.heap.size w w' := by
  have HW : Hid (∀ W, Below w.heap.size w W → RowW W v l) := fun W hW => RowC.below hr hW
  have HG : Hid (∀ W, Below w.heap.size w W → ∀ x : Wt, Calls Try.prog 75 #[.agg #[.int .i64 x.i, .string x.t, .int .i64 x.r, .int .i64 x.g], .pointer (some ⟨g, 0, none⟩)] W fun e w' => e = .returned (.bool (x.i == i)) ∧ Below W.heap.size W w') := fun W hW x => isOpen1_any x i g W (fun Z hZ => hg Z (keepB hW (Nat.le_refl _) hZ))
  obtain ⟨p, c, rfl, _⟩ := hr
  clear hg
  obtain ⟨R, hR⟩ : ∃ R, Hid (atW l i = R) := ⟨_, (show _ = _ from rfl)⟩
  rw [hR.out]
  go_enter Try.func79, Try.ntmps79
  go_wp2
  go_loopw [8] (fun n wr => ∃ k : Nat, k ≤ l.length ∧ n = .int .i64 k ∧ Hid (∀ j (hj : j < k) (hj' : j < l.length), l[j].i ≠ i) ∧ Below w.heap.size w wr) (fun n _ => l.length - (intOf n).toNat)
  case atStart => exact ⟨0, Nat.zero_le _, rfl, (fun j hj => absurd hj (by omega) : ∀ j (hj : j < 0) (hj' : j < l.length), l[j].i ≠ i), Below.refl _ _⟩
  case round =>
    obtain ⟨k, hk, rfl, HB, hbel⟩ := hrel
    by_cases hlt : k < l.length
    · obtain ⟨g', o, c', e1, q1⟩ := RowC.at (HW.out wr hbel) k hlt
      cases e1
      have Q1 : Hid (∀ W, Below wr.heap.size wr W → W.rangeAt g' (o + k * 4) [.int .i64 l[k].i, .string l[k].t, .int .i64 l[k].r, .int .i64 l[k].g]) := q1
      clear q1
      have HC : Hid (∀ W, W = wr → Calls Try.prog 75 #[.agg #[.int .i64 l[k].i, .string l[k].t, .int .i64 l[k].r, .int .i64 l[k].g], .pointer (some ⟨g, 0, none⟩)] W fun e w' => e = .returned (.bool (l[k].i == i)) ∧ Below W.heap.size W w') := fun W hW => by subst hW; exact HG.out W hbel l[k]
      have HY : Hid (l[k].i = i → R = (k : Int)) := fun h => by rw [← hR.out]; exact atW_at hlt h (fun j hj => HB.out j hj (by omega))
      have HN : Hid (l[k].i ≠ i → ∀ j (hj : j < k + 1) (hj' : j < l.length), l[j].i ≠ i) := fun h j hj hj' => by
        by_cases h1 : j < k
        · exact HB.out j h1 hj'
        · obtain rfl : j = k := by omega
          exact h
      generalize l[k] = d at Q1 HC HY HN
      have hload : Hid True := trivial
      by_cases he : d.i = i
      · have hb : (d.i == i) = true := by simpa using he
        rw [hb] at HC
        obtain rfl := HY.out he
        clear he hb HY HN
        go_wp2_with (first
          | (have _ := hload; refine wpList_load_mid rfl 50 (.tmp 14) rfl g' (o + k * 4) rfl _ _ (Q1.out wr (Below.refl _ _)) Try.underlying50 rfl (by kernel_rfl) ?_; clear hload)
          | (go_at_call 75; refine (HC.out _ rfl).mono ?_; rintro e w2 ⟨rfl, hb2⟩))
        go_ret
        exact ⟨rfl, keepB hbel (Nat.le_refl _) hb2⟩
      · have hb : (d.i == i) = false := by simpa using he
        rw [hb] at HC
        have HN2 : Hid (∀ j (hj : j < k + 1) (hj' : j < l.length), l[j].i ≠ i) := HN.out he
        clear he hb HY HN
        go_wp2_with (first
          | (have _ := hload; refine wpList_load_mid rfl 50 (.tmp 14) rfl g' (o + k * 4) rfl _ _ (Q1.out wr (Below.refl _ _)) Try.underlying50 rfl (by kernel_rfl) ?_; clear hload)
          | (go_at_call 75; refine (HC.out _ rfl).mono ?_; rintro e w2 ⟨rfl, hb2⟩))
        go_roundw
        case rel => exact ⟨k + 1, by omega, by go_num, HN2.out, keepB hbel (Nat.le_refl _) hb2⟩
        case measure => simp [intOf] <;> omega
    · have hkk : k = l.length := by omega
      obtain rfl : R = -1 := by rw [← hR.out]; exact atW_no (fun j hj => HB.out j (by omega) hj)
      clear hkk
      go_wp2
      go_ret
      exact ⟨rfl, hbel⟩
set_option maxRecDepth 100000 in
theorem containsWait_any (l : List Wt) (i : Int) (g : Nat) (v : Value) (w : World) (hl : l.length ≤ 1048576) (hg : ∀ W, Below w.heap.size w W → W.cell? ⟨g, 0, none⟩ = some (.int .i64 i)) (hr : RowW w v l) :
    Calls Try.prog 74 #[v, .func (.func 75) #[] #[.pointer (some ⟨g, 0, none⟩)]] w fun e w' => e = .returned (.bool (opB l i)) ∧ Below w.heap.size w w' := by
  have H : Hid (∀ W, W = w → Calls Try.prog 79 #[v, .func (.func 75) #[] #[.pointer (some ⟨g, 0, none⟩)]] W fun e w' => e = .returned (.int .i64 (atW l i)) ∧ Below W.heap.size W w') := fun W hW => by subst hW; exact indexWait_any l i g v W hl hg hr
  have hb := atW_opB l i
  obtain ⟨p, c, rfl, _⟩ := hr
  generalize atW l i = A at H hb
  rw [← hb]
  clear hb hg
  go_enter Try.func74, Try.ntmps74
  go_wp2_with (go_at_call 79; refine (H.out _ rfl).mono ?_; rintro e w2 ⟨rfl, hb2⟩)
  go_ret
  exact ⟨rfl, hb2⟩
set_option maxRecDepth 100000 in
theorem isOpen_any (l : List Wt) (i : Int) (G : Nat) (v : Value) (w : World) (hl : l.length ≤ 1048576) (hG : ∀ W, Below w.heap.size w W → W.cell? ⟨G, 0, none⟩ = some v) (hr : RowW w v l) :
    Calls Try.prog 67 #[.pointer (some ⟨G, 0, none⟩), .int .i64 i] w fun e w' => e = .returned (.bool (opB l i)) ∧ Below w.heap.size w w' := by
  have hmf : ∀ (fn : Fn) (first cap : Array Value) (w : World), (Instr.makeFunc fn first cap).run Try.prog w = .ok (.func fn first cap) w := fun _ _ _ _ => rfl
  have hA := all_alloc w (.cells #[.int .i64 i] 2)
  have hX := heap_alloc_new w (.cells #[.int .i64 i] 2)
  have H : Hid (∀ W, Below (w.alloc (.cells #[.int .i64 i] 2)).heap.size (w.alloc (.cells #[.int .i64 i] 2)) W → Calls Try.prog 74 #[v, .func (.func 75) #[] #[.pointer (some ⟨w.heap.size, 0, none⟩)]] W fun e w' => e = .returned (.bool (opB l i)) ∧ Below W.heap.size W w') := fun W hW =>
    containsWait_any l i w.heap.size v W hl (fun Z hZ => cellW hX 0 _ rfl Z (keepB hW (Nat.le_refl _) hZ)) (RowC.below hr (keepB hA (Nat.le_refl _) hW))
  have hc := hG _ hA
  obtain ⟨p, c, rfl, _⟩ := hr
  clear hG hX
  go_enter Try.func67, Try.ntmps67
  go_wp2_with (go_at_call 74; refine (H.out _ (Below.refl _ _)).mono ?_; rintro e w2 ⟨rfl, hb2⟩)
  go_ret
  exact ⟨rfl, keepB hA (Nat.le_refl _) hb2⟩
set_option maxRecDepth 100000 in
set_option maxHeartbeats 1600000 in
theorem l09At_any (l : List Wt) (i : Int) (v : Value) (w : World) (hl : l.length ≤ 1048576) (hr : RowW w v l) :
    Calls Try.prog 46 #[v, .int .i64 i] w fun e w' => e = .returned (.int .i64 (atW l i)) ∧ w = w' := by
  have HW : Hid (RowW w v l) := hr
  obtain ⟨p, c, rfl, _⟩ := hr
  obtain ⟨R, hR⟩ : ∃ R, Hid (atW l i = R) := ⟨_, (show _ = _ from rfl)⟩
  rw [hR.out]
  go_enter Try.func46, Try.ntmps46
  go_wp2
  go_loopw [5] (fun n wr => ∃ k : Nat, k ≤ l.length ∧ n = .int .i64 k ∧ Hid (∀ j (hj : j < k) (hj' : j < l.length), l[j].i ≠ i) ∧ wr = w) (fun n _ => l.length - (intOf n).toNat)
  case atStart => exact ⟨0, Nat.zero_le _, rfl, (fun j hj => absurd hj (by omega) : ∀ j (hj : j < 0) (hj' : j < l.length), l[j].i ≠ i), rfl⟩
  case round =>
    obtain ⟨k, hk, rfl, HB, rfl⟩ := hrel
    by_cases hlt : k < l.length
    · obtain ⟨g', o, c', e1, q1⟩ := RowC.at HW.out k hlt
      cases e1
      have c0 : wr.cell? ⟨g', o + k * 4, none⟩ = some (.int .i64 l[k].i) := by simpa using rcRange_cells (q1 wr (Below.refl _ _)) 0 _ rfl
      clear q1
      have HY : Hid (l[k].i = i → R = (k : Int)) := fun h => by rw [← hR.out]; exact atW_at hlt h (fun j hj => HB.out j hj (by omega))
      have HN : Hid (l[k].i ≠ i → ∀ j (hj : j < k + 1) (hj' : j < l.length), l[j].i ≠ i) := fun h j hj hj' => by
        by_cases h1 : j < k
        · exact HB.out j h1 hj'
        · obtain rfl : j = k := by omega
          exact h
      generalize l[k] = d at c0 HY HN
      by_cases he : d.i = i
      · have hb : (d.i == i) = true := by simpa using he
        obtain rfl := HY.out he
        clear he HY HN
        go_wp2
        go_ret
        exact ⟨rfl, rfl⟩
      · have hb : (d.i == i) = false := by simpa using he
        have HN2 : Hid (∀ j (hj : j < k + 1) (hj' : j < l.length), l[j].i ≠ i) := HN.out he
        clear he HY HN
        go_wp2
        go_roundw
        case rel => exact ⟨k + 1, by omega, by go_num, HN2.out, by first | rfl | trivial⟩
        case measure => simp [intOf] <;> omega
    · have hkk : k = l.length := by omega
      obtain rfl : R = -1 := by rw [← hR.out]; exact atW_no (fun j hj => HB.out j (by omega) hj)
      clear hkk
      go_wp2
      go_ret
      exact ⟨rfl, rfl⟩
end Go.Proofs.Ytghchcipobcpjaa
