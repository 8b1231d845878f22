/- THE LAW'S OWN COUNT of a station. -/
import Derived.Test.YtggdjiijcoklgaaQTail
import Derived.Deep.DeepCutAuto
namespace Go.Proofs.Ytggdjiijcoklgaa
open Go.RowKit
set_option linter.unusedVariables false
set_option linter.unusedSimpArgs false

def wsum (gs : List (Int × List Int)) : Nat := (gs.map fun g => g.2.length).sum
def bsum (ss : List ByteArray) : Nat := (ss.map fun s => s.size).sum
theorem wsum_take (gs : List (Int × List Int)) (k : Nat) (h : k < gs.length) : wsum (gs.take (k + 1)) = wsum (gs.take k) + gs[k].2.length := by
  unfold wsum
  rw [List.take_succ_eq_append_getElem h, List.map_append, List.sum_append]
  simp
theorem bsum_take (ss : List ByteArray) (k : Nat) (h : k < ss.length) : bsum (ss.take (k + 1)) = bsum (ss.take k) + ss[k].size := by
  unfold bsum
  rw [List.take_succ_eq_append_getElem h, List.map_append, List.sum_append]
  simp
theorem wsum_le (gs : List (Int × List Int)) (k : Nat) : wsum (gs.take k) ≤ wsum gs := by
  have : wsum gs = wsum (gs.take k) + wsum (gs.drop k) := by
    unfold wsum
    rw [← List.sum_append, ← List.map_append, List.take_append_drop]
  omega
theorem bsum_le (ss : List ByteArray) (k : Nat) : bsum (ss.take k) ≤ bsum ss := by
  have : bsum ss = bsum (ss.take k) + bsum (ss.drop k) := by
    unfold bsum
    rw [← List.sum_append, ← List.map_append, List.take_append_drop]
  omega
theorem wsum_each {gs : List (Int × List Int)} {g : Int × List Int} (h : g ∈ gs) : g.2.length ≤ wsum gs := by
  obtain ⟨k, hk, rfl⟩ := List.getElem_of_mem h
  have h1 := wsum_take gs k hk
  have h2 := wsum_le gs (k + 1)
  omega
theorem bsum_each {ss : List ByteArray} {s : ByteArray} (h : s ∈ ss) : s.size ≤ bsum ss := by
  obtain ⟨k, hk, rfl⟩ := List.getElem_of_mem h
  have h1 := bsum_take ss k hk
  have h2 := bsum_le ss (k + 1)
  omega
set_option maxRecDepth 100000 in
theorem szGlob_any (L : Int) (hL : 0 ≤ L ∧ L ≤ 1048576) (a : Int) (p : Option Addr) (n c : Nat) (w : World) (hn : n ≤ 9223372036854775807) :
    Calls Try.prog 77 #[.agg #[.int .i64 a, .slice p n c], .int .i64 L] w fun x w' => x = .returned (.int .i64 (if (n : Int) ≤ L then L - (n : Int) else -1)) ∧ Below w.heap.size w w' := by
  have H1 : Hid (∀ W : World, Calls Try.prog 33 #[.slice p n c, .int .i64 L] W fun x w' => x = .returned (.int .i64 (if (n : Int) ≤ L then L - (n : Int) else -1)) ∧ W = w') := fun W => szInt64S_from L hL p n c W hn
  by_cases h : (n : Int) ≤ L
  · rw [if_pos h] at H1 ⊢
    have h1 : ¬ L - (n : Int) < 0 := by omega
    go_enter Try.func77, Try.ntmps77
    go_wp2_with (go_at_call 33; refine (H1.out _).mono ?_; rintro e w1 ⟨rfl, rfl⟩)
    go_ret
    exact ⟨rfl, all_alloc _ _⟩
  · rw [if_neg h] at H1 ⊢
    go_enter Try.func77, Try.ntmps77
    go_wp2_with (go_at_call 33; refine (H1.out _).mono ?_; rintro e w1 ⟨rfl, rfl⟩)
    go_ret
    exact ⟨rfl, all_alloc _ _⟩
set_option maxRecDepth 100000 in
set_option maxHeartbeats 1600000 in
theorem szGlobS_any (L : Int) (hL : 0 ≤ L ∧ L ≤ 1048576) (a : Option Addr) (c : Nat) (gs : List (Int × List Int)) (w : World) (hr : InG w a gs) :
    Calls Try.prog 34 #[.slice a gs.length c, .int .i64 L] w fun x w' => x = .returned (.int .i64 (if (gs.length : Int) + (wsum gs : Int) ≤ L then L - ((gs.length : Int) + (wsum gs : Int)) else -1)) ∧ Below w.heap.size w w' := by
  have hn := hr.1
  by_cases h : (gs.length : Int) ≤ L
  · have h1 : ¬ L - (gs.length : Int) < 0 := by omega
    have HR : Hid (∀ W, Below w.heap.size w W → ∀ k (h : k < gs.length), ∃ g o u c, a = some ⟨g, o, none⟩ ∧ g < W.heap.size ∧ W.cell? ⟨g, o + k * 2, none⟩ = some (.int .i64 gs[k].1) ∧ W.cell? ⟨g, o + k * 2 + 1, none⟩ = some (.slice u gs[k].2.length c) ∧ InI W u gs[k].2) := fun W hW => (hr.below hW).2
    clear hr
    obtain ⟨V, hV⟩ : ∃ V, Hid ((if (gs.length : Int) + (wsum gs : Int) ≤ L then L - ((gs.length : Int) + (wsum gs : Int)) else -1) = V) := ⟨_, show _ = _ from rfl⟩
    rw [hV.out]
    go_enter Try.func34, Try.ntmps34
    go_wp2
    go_loopw [1, 5] (fun l i wr => ∃ (k : Nat) (M : Int), k ≤ gs.length ∧ i = .int .i64 k ∧ l = .int .i64 M ∧ (0 ≤ M ∧ M ≤ 1048576) ∧ Hid (M = L - (gs.length : Int) - (wsum (gs.take k) : Int)) ∧ Below w.heap.size w wr) (fun _ i _ => gs.length - (intOf i).toNat)
    case atStart => exact ⟨0, L - (gs.length : Int), Nat.zero_le _, rfl, rfl, by omega, (show _ = _ by simp [wsum]), Below.refl _ _⟩
    case round =>
      obtain ⟨k, M, hk, rfl, rfl, hM, HM, hbel⟩ := hrel
      by_cases hlt : k < gs.length
      · obtain ⟨g, o, u, cu, rfl, l1, q1, q2, hu⟩ := HR.out wr hbel k hlt
        have HT : Hid _ := wsum_take gs k hlt
        have HE : Hid _ := wsum_le gs (k + 1)
        have hnw := hu.1
        clear hu
        have HC : Hid (∀ W : World, Calls Try.prog 77 #[.agg #[.int .i64 gs[k].1, .slice u gs[k].2.length cu], .int .i64 M] W fun x w' => x = .returned (.int .i64 (if (gs[k].2.length : Int) ≤ M then M - (gs[k].2.length : Int) else -1)) ∧ Below W.heap.size W w') := fun W => szGlob_any M hM gs[k].1 u gs[k].2.length cu W hnw
        generalize gs[k].1 = z at q1 HC
        generalize gs[k].2.length = n at q2 HC HT hnw
        by_cases h5 : (n : Int) ≤ M
        · rw [if_pos h5] at HC
          have h6 : ¬ M - (n : Int) < 0 := by omega
          go_wp2_with (go_at_call 77; refine (HC.out _).mono ?_; rintro e w1 ⟨rfl, hb1⟩)
          go_roundw
          case rel => exact ⟨k + 1, M - (n : Int), by omega, by go_num, by go_num, by omega, (show _ = _ by rw [HT.out, HM.out]; omega), keepB hbel (Nat.le_refl _) hb1⟩
          case measure => simp [intOf]; omega
        · rw [if_neg h5] at HC
          go_wp2_with (go_at_call 77; refine (HC.out _).mono ?_; rintro e w1 ⟨rfl, hb1⟩)
          go_ret
          have e1 := HM.out
          have e2 := HT.out
          have e3 := HE.out
          have e4 : V = -1 := by rw [← hV.out, if_neg (by omega)]
          exact ⟨by rw [e4]; rfl, keepB hbel (Nat.le_refl _) hb1⟩
      · have hkk : Hid (k = gs.length) := (by omega : k = gs.length)
        go_wp2
        go_ret
        have e1 := HM.out
        rw [hkk.out, List.take_length] at e1
        have e4 : V = M := by rw [← hV.out, if_pos (by omega)]; omega
        exact ⟨by rw [e4]; rfl, hbel⟩
  · have h1 : L - (gs.length : Int) < 0 := by omega
    rw [if_neg (by omega)]
    clear hr
    go_enter Try.func34, Try.ntmps34
    go_wp2
    go_ret
    exact ⟨rfl, Below.refl _ _⟩
set_option maxRecDepth 100000 in
set_option maxHeartbeats 1600000 in
theorem szStringS_any (L : Int) (hL : 0 ≤ L ∧ L ≤ 1048576) (a : Option Addr) (c : Nat) (ss : List ByteArray) (w : World) (hr : InS w a ss) :
    Calls Try.prog 35 #[.slice a ss.length c, .int .i64 L] w fun x w' => x = .returned (.int .i64 (if (ss.length : Int) + (bsum ss : Int) ≤ L then L - ((ss.length : Int) + (bsum ss : Int)) else -1)) ∧ w = w' := by
  have hn := hr.1
  by_cases h : (ss.length : Int) ≤ L
  · have h1 : ¬ L - (ss.length : Int) < 0 := by omega
    have HR : Hid _ := hr.2.2
    have HZ : Hid _ := hr.2.1
    clear hr
    obtain ⟨V, hV⟩ : ∃ V, Hid ((if (ss.length : Int) + (bsum ss : Int) ≤ L then L - ((ss.length : Int) + (bsum ss : Int)) else -1) = V) := ⟨_, show _ = _ from rfl⟩
    rw [hV.out]
    go_enter Try.func35, Try.ntmps35
    go_wp2
    go_loop [1, 5] (fun l i => ∃ (k : Nat) (M : Int), k ≤ ss.length ∧ i = .int .i64 k ∧ l = .int .i64 M ∧ (0 ≤ M ∧ M ≤ 1048576) ∧ Hid (M = L - (ss.length : Int) - (bsum (ss.take k) : Int))) (fun _ i => ss.length - (intOf i).toNat)
    case atStart => exact ⟨0, L - (ss.length : Int), Nat.zero_le _, rfl, rfl, by omega, (show _ = _ by simp [bsum])⟩
    case round =>
      obtain ⟨k, M, hk, rfl, rfl, hM, HM⟩ := hrel
      by_cases hlt : k < ss.length
      · obtain ⟨g, o, rfl, l1, q1⟩ := HR.out k hlt
        have HT : Hid _ := bsum_take ss k hlt
        have HE : Hid _ := bsum_le ss (k + 1)
        have hz := HZ.out ss[k] (List.getElem_mem hlt)
        unfold maxLen at hz
        generalize ss[k] = z at q1 HT hz
        by_cases h5 : (z.size : Int) ≤ M
        · have h6 : ¬ M - (z.size : Int) < 0 := by omega
          go_wp2
          go_round
          case rel => exact ⟨k + 1, M - (z.size : Int), by omega, by go_num, by go_num, by omega, (show _ = _ by rw [HT.out, HM.out]; omega)⟩
          case measure => simp [intOf]; omega
        · have h6 : M - (z.size : Int) < 0 := by omega
          go_wp2
          go_ret
          have e1 := HM.out
          have e2 := HT.out
          have e3 := HE.out
          have e4 : V = -1 := by rw [← hV.out, if_neg (by omega)]
          exact ⟨by rw [e4]; rfl, rfl⟩
      · have hkk : Hid (k = ss.length) := (by omega : k = ss.length)
        go_wp2
        go_ret
        have e1 := HM.out
        rw [hkk.out, List.take_length] at e1
        have e4 : V = M := by rw [← hV.out, if_pos (by omega)]; omega
        exact ⟨by rw [e4]; rfl, rfl⟩
  · have h1 : L - (ss.length : Int) < 0 := by omega
    rw [if_neg (by omega)]
    clear hr
    go_enter Try.func35, Try.ntmps35
    go_wp2
    go_ret
    exact ⟨rfl, rfl⟩
end Go.Proofs.Ytggdjiijcoklgaa
