/- THE WALKS of stamps: right, and below: the program's and the model's. -/
import Derived.Test.YtineecongiplgaaProg
import Derived.Test.YtineecongiplgaaQpLaws
import Derived.Test.YtineecongiplgaaQpPlainSt
import Derived.Test.YtineecongiplgaaQpPathP
import Derived.Test.YtineecongiplgaaQpPaG
import Derived.Test.YtineecongiplgaaQpBits
import Derived.Test.YtineecongiplgaaQpBox
import Derived.WalkKit
import Derived.WalkSpells
import Derived.Outline
import Derived.Below
namespace Go.Proofs.Ytineecongiplgaa
open Go.RowKit
set_option linter.unusedVariables false
set_option linter.unusedSimpArgs false

theorem isTime_any (n : Int) (w : World) : Calls Try.prog 76 #[.int .i64 n] w fun e w' => e = .returned (.bool (timeB n)) ∧ w = w' := by
  by_cases h1 : 0 ≤ n <;> by_cases h2 : n ≤ 1000000
  all_goals
    go_enter Try.func76, Try.ntmps76
    go_wp2
    go_ret
    exact ⟨ret_bool (by simp [timeB, h1, h2]), rfl⟩
theorem isAddress_any (n : Int) (w : World) : Calls Try.prog 51 #[.int .i64 n] w fun e w' => e = .returned (.bool (addrB n)) ∧ w = w' := by
  by_cases h1 : 1 ≤ n <;> by_cases h2 : n ≤ 8
  all_goals
    go_enter Try.func51, Try.ntmps51
    go_wp2
    go_ret
    exact ⟨ret_bool (by simp [addrB, h1, h2]), rfl⟩
theorem l02Is_any (n lo hi : Int) (w : World) : Calls Try.prog 61 #[.int .i64 n, .int .i64 lo, .int .i64 hi] w fun e w' => e = .returned (.bool (decide (lo ≤ n) && decide (n ≤ hi))) ∧ w = w' := by
  by_cases h1 : lo ≤ n <;> by_cases h2 : n ≤ hi
  all_goals
    go_enter Try.func61, Try.ntmps61
    go_wp2
    go_ret
    exact ⟨ret_bool (by simp [h1, h2]), rfl⟩
theorem l02Time_any (n : Int) (w : World) : Calls Try.prog 72 #[.int .i64 n] w fun e w' => e = .returned (.bool (timeB n)) ∧ w = w' := by
  go_enter Try.func72, Try.ntmps72
  go_wp2_with (go_at_call 61; refine (l02Is_any n 0 1000000 _).mono ?_; rintro e w' ⟨rfl, rfl⟩)
  go_ret
  exact ⟨rfl, rfl⟩
theorem l02Addr_any (n : Int) (w : World) : Calls Try.prog 53 #[.int .i64 n] w fun e w' => e = .returned (.bool (addrB n)) ∧ w = w' := by
  go_enter Try.func53, Try.ntmps53
  go_wp2_with (go_at_call 61; refine (l02Is_any n 1 8 _).mono ?_; rintro e w' ⟨rfl, rfl⟩)
  go_ret
  exact ⟨rfl, rfl⟩
theorem l02Word_any (n : Int) (w : World) : Calls Try.prog 92 #[.int .i64 n] w fun e w' => e = .returned (.bool (wordB n)) ∧ w = w' := by
  go_enter Try.func92, Try.ntmps92
  go_wp2_with (go_at_call 61; refine (l02Is_any n 0 65535 _).mono ?_; rintro e w' ⟨rfl, rfl⟩)
  go_ret
  exact ⟨rfl, rfl⟩
end Go.Proofs.Ytineecongiplgaa
/- PATHS that are right: the program's and the model's. -/
namespace Go.Proofs.Ytineecongiplgaa
open Go.RowKit
set_option linter.unusedVariables false
set_option linter.unusedSimpArgs false

set_option maxRecDepth 100000 in
set_option maxHeartbeats 800000 in
theorem hopsRight_any (v : Value) (zs : List Int) (w : World) (hl : zs.length ≤ 10000000) (hr : RowI w v zs) :
    Calls Try.prog 41 #[v] w fun e w' => e = .returned (.bool (hopsB zs)) ∧ w = w' := by
  obtain ⟨p, c, rfl, hr⟩ := hr
  have HR : Hid _ := hr
  have HC : Hid (∀ (z : Int) (W : World), Calls Try.prog 51 #[.int .i64 z] W fun e w' => e = .returned (.bool (addrB z)) ∧ W = w') := fun z W => isAddress_any z W
  clear hr
  unfold hopsB
  obtain ⟨B, hB⟩ : ∃ B, Hid (zs.all addrB = B) := ⟨_, show _ = _ from rfl⟩
  rw [hB.out]
  go_enter Try.func41, Try.ntmps41
  go_wp2
  go_loop [7] (fun i => ∃ k : Nat, k ≤ zs.length ∧ i = .int .i64 k ∧ Hid ((zs.take k).all addrB = true)) (fun i => zs.length - (intOf i).toNat)
  case atStart => exact ⟨0, Nat.zero_le _, rfl, rfl⟩
  case round =>
    obtain ⟨k, hk, rfl, HA⟩ := hrel
    by_cases hlt : k < zs.length
    · obtain ⟨g, rfl, l1, q1⟩ := HR.out k hlt
      have HN : Hid _ := @all_no addrB zs k hlt
      have HY : Hid _ := @all_take addrB zs k hlt HA.out
      have HCz : Hid _ := HC.out zs[k]
      generalize zs[k] = z at q1 HN HY HCz
      generalize addrB z = b at HN HY HCz
      cases b with
      | false =>
        go_wp2_with (go_at_call 51; refine (HCz.out _).mono ?_; rintro e w1 ⟨rfl, rfl⟩)
        go_ret
        exact ⟨ret_bool (by rw [← hB.out, HN.out (by first | trivial | rfl), Bool.false_and]), rfl⟩
      | true =>
        go_wp2_with (go_at_call 51; refine (HCz.out _).mono ?_; rintro e w1 ⟨rfl, rfl⟩)
        go_round
        case rel => exact ⟨k + 1, by omega, by go_num, HY.out (by first | trivial | rfl)⟩
        case measure => simp [intOf]; omega
    · have e1 : zs.take k = zs := List.take_of_length_le (by omega)
      have e2 : B = true := by rw [← hB.out, ← HA.out, e1]
      go_wp2
      go_ret
      exact ⟨ret_bool (by first | (rw [e2, Bool.true_and]; exact decide_eq_decide.2 (by omega)) | exact decide_eq_decide.2 (by omega)), rfl⟩
set_option maxRecDepth 100000 in
set_option maxHeartbeats 800000 in
theorem l08Addrs_any (v : Value) (zs : List Int) (w : World) (hl : zs.length ≤ 10000000) (hr : RowI w v zs) :
    Calls Try.prog 50 #[v] w fun e w' => e = .returned (.bool (hopsB zs)) ∧ w = w' := by
  obtain ⟨p, c, rfl, hr⟩ := hr
  have HR : Hid _ := hr
  have HC : Hid (∀ (z : Int) (W : World), Calls Try.prog 53 #[.int .i64 z] W fun e w' => e = .returned (.bool (addrB z)) ∧ W = w') := fun z W => l02Addr_any z W
  clear hr
  unfold hopsB
  obtain ⟨B, hB⟩ : ∃ B, Hid (zs.all addrB = B) := ⟨_, show _ = _ from rfl⟩
  rw [hB.out]
  go_enter Try.func50, Try.ntmps50
  go_wp2
  go_loop [3] (fun i => ∃ k : Nat, k ≤ zs.length ∧ i = .int .i64 k ∧ Hid ((zs.take k).all addrB = true)) (fun i => zs.length - (intOf i).toNat)
  case atStart => exact ⟨0, Nat.zero_le _, rfl, rfl⟩
  case round =>
    obtain ⟨k, hk, rfl, HA⟩ := hrel
    by_cases hlt : k < zs.length
    · obtain ⟨g, rfl, l1, q1⟩ := HR.out k hlt
      have HN : Hid _ := @all_no addrB zs k hlt
      have HY : Hid _ := @all_take addrB zs k hlt HA.out
      have HCz : Hid _ := HC.out zs[k]
      generalize zs[k] = z at q1 HN HY HCz
      generalize addrB z = b at HN HY HCz
      cases b with
      | false =>
        go_wp2_with (go_at_call 53; refine (HCz.out _).mono ?_; rintro e w1 ⟨rfl, rfl⟩)
        go_ret
        exact ⟨ret_bool (by rw [← hB.out, HN.out (by first | trivial | rfl), Bool.false_and]), rfl⟩
      | true =>
        go_wp2_with (go_at_call 53; refine (HCz.out _).mono ?_; rintro e w1 ⟨rfl, rfl⟩)
        go_round
        case rel => exact ⟨k + 1, by omega, by go_num, HY.out (by first | trivial | rfl)⟩
        case measure => simp [intOf]; omega
    · have e1 : zs.take k = zs := List.take_of_length_le (by omega)
      have e2 : B = true := by rw [← hB.out, ← HA.out, e1]
      go_wp2
      go_ret
      exact ⟨ret_bool (by first | (rw [e2, Bool.true_and]; exact decide_eq_decide.2 (by omega)) | exact decide_eq_decide.2 (by omega)), rfl⟩
set_option maxRecDepth 100000 in
set_option maxHeartbeats 800000 in
theorem pathRight_any (t : Tb) (p1 p2 : Option Addr) (c1 c2 : Nat) (w : World) (hl1 : t.cs.length ≤ 1500000) (hl2 : t.rs.length ≤ 1500000) (h1 : RowI w (.slice p1 t.cs.length c1) t.cs) (h2 : RowI w (.slice p2 t.rs.length c2) t.rs) :
    Calls Try.prog 23 #[.agg #[.slice p1 t.cs.length c1, .slice p2 t.rs.length c2]] w fun e w' => e = .returned (.bool t.path) ∧ Below w.heap.size w w' := by
  have HT : Hid (∀ (W : World) (g : Nat), Below w.heap.size w W → W.heap[g]? = some (.cells #[.slice p1 t.cs.length c1, .slice p2 t.rs.length c2] 23 (0, 0)) → Calls Try.prog 52 #[.slice (some ⟨g, 0, none⟩) 2 2] W fun e w' => ∃ v, e = .returned v ∧ OwnI w' W.heap.size v (t.cs ++ t.rs) ∧ Below W.heap.size W w') := fun W g hW hg => together_I g (0, 0) _ _ t.cs t.rs W hg (h1.src.below hW) (h2.src.below hW) hl1 hl2
  have HH : Hid (∀ (W : World) (B : Nat) (v : Value), OwnI W B v (t.cs ++ t.rs) → Calls Try.prog 41 #[v] W fun e w' => e = .returned (.bool (hopsB (t.cs ++ t.rs))) ∧ W = w') := fun W B v h => hopsRight_any v _ W (by rw [List.length_append]; omega) h.row
  have hA0 := all_alloc w (.cells #[.slice p1 t.cs.length c1, .slice p2 t.rs.length c2] 26)
  have hG : Hid _ := heap_alloc_new (w.alloc (.cells #[.slice p1 t.cs.length c1, .slice p2 t.rs.length c2] 26)) (.cells #[.slice p1 t.cs.length c1, .slice p2 t.rs.length c2] 23)
  rw [show (w.alloc (.cells #[.slice p1 t.cs.length c1, .slice p2 t.rs.length c2] 26)).heap.size = w.heap.size + 1 by simp] at hG
  have hA1 : Hid (Below w.heap.size w _) := keepB hA0 (Nat.le_refl _) (all_alloc _ (.cells #[.slice p1 t.cs.length c1, .slice p2 t.rs.length c2] 23))
  unfold Tb.path
  generalize hopsB (t.cs ++ t.rs) = B at HH ⊢
  clear h1 h2
  go_enter Try.func23, Try.ntmps23
  go_wp2_with (first
    | (go_at_call 52; refine (HT.out _ _ hA1.out hG.out).mono ?_; rintro e w2 ⟨v, rfl, own2, hb2⟩)
    | (go_at_call 41; refine (HH.out _ _ _ own2).mono ?_; rintro e w3 ⟨rfl, rfl⟩))
  go_ret
  exact ⟨rfl, keepB hA1.out (Nat.le_refl _) hb2⟩
set_option maxRecDepth 100000 in
set_option maxHeartbeats 800000 in
theorem specPathRight_any (t : Tb) (p1 p2 : Option Addr) (c1 c2 : Nat) (w : World) (hl1 : t.cs.length ≤ 1500000) (hl2 : t.rs.length ≤ 1500000) (h1 : RowI w (.slice p1 t.cs.length c1) t.cs) (h2 : RowI w (.slice p2 t.rs.length c2) t.rs) :
    Calls Try.prog 24 #[.agg #[.slice p1 t.cs.length c1, .slice p2 t.rs.length c2]] w fun e w' => e = .returned (.bool t.path) ∧ Below w.heap.size w w' := by
  have H1 : Hid (∀ W, Below w.heap.size w W → Calls Try.prog 50 #[.slice p1 t.cs.length c1] W fun e w' => e = .returned (.bool (hopsB t.cs)) ∧ W = w') := fun W hW => l08Addrs_any _ t.cs W (by omega) (h1.below hW)
  have H2 : Hid (∀ W, Below w.heap.size w W → Calls Try.prog 50 #[.slice p2 t.rs.length c2] W fun e w' => e = .returned (.bool (hopsB t.rs)) ∧ W = w') := fun W hW => l08Addrs_any _ t.rs W (by omega) (h2.below hW)
  have hA0 := all_alloc w (.cells #[.slice p1 t.cs.length c1, .slice p2 t.rs.length c2] 26)
  rw [← Tb.path_spec]
  generalize hopsB t.cs = B1 at H1 ⊢
  generalize hopsB t.rs = B2 at H2 ⊢
  clear h1 h2
  generalize t.cs.length = n1 at *
  generalize t.rs.length = n2 at *
  cases B1 <;> cases B2
  all_goals
    go_enter Try.func24, Try.ntmps24
    go_wp2_with (first
      | (have _ := hD; go_at_call 50; refine (H2.out _ hA0).mono ?_; rintro e w1 ⟨rfl, rfl⟩)
      | (go_at_call 50; refine (H1.out _ hA0).mono ?_; rintro e w1 ⟨rfl, rfl⟩; have hD : Hid True := trivial))
    go_ret
    exact ⟨ret_bool (by first | rfl | (rw [Bool.true_and, Bool.true_and]; exact decide_eq_decide.2 (by omega))), hA0⟩
end Go.Proofs.Ytineecongiplgaa
