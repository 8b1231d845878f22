/- PATHS that are right: the program's and the model's. -/
import Derived.Test.YtimocipgikefoabPathP
import Derived.Test.YtimocipgikefoabPaG
import Derived.Test.YtimocipgikefoabBits
import Derived.Test.YtimocipgikefoabBox
import Derived.Test.YtimocipgikefoabSt
namespace Go.Proofs.Ytimocipgikefoab
open Go.RowKit
set_option linter.unusedVariables false
set_option linter.unusedSimpArgs false

set_option maxRecDepth 100000 in
set_option maxHeartbeats 800000 in
theorem hopsRight_any (v : Value) (zs : List Int) (w : World) (hl : zs.length ≤ 10000000) (hr : RowI w v zs) :
    Calls Try.prog 28 #[v] w fun e w' => e = .returned (.bool (hopsB zs)) ∧ w = w' := by
  obtain ⟨p, c, rfl, hr⟩ := hr
  have HR : Hid _ := hr
  have HC : Hid (∀ (z : Int) (W : World), Calls Try.prog 33 #[.int .i64 z] W fun e w' => e = .returned (.bool (addrB z)) ∧ W = w') := fun z W => isAddress_any z W
  clear hr
  unfold hopsB
  obtain ⟨B, hB⟩ : ∃ B, Hid (zs.all addrB = B) := ⟨_, show _ = _ from rfl⟩
  rw [hB.out]
  go_enter Try.func28, Try.ntmps28
  go_wp2
  go_loop [7] (fun i => ∃ k : Nat, k ≤ zs.length ∧ i = .int .i64 k ∧ Hid ((zs.take k).all addrB = true)) (fun i => zs.length - (intOf i).toNat)
  case atStart => exact ⟨0, Nat.zero_le _, rfl, rfl⟩
  case round =>
    obtain ⟨k, hk, rfl, HA⟩ := hrel
    by_cases hlt : k < zs.length
    · obtain ⟨g, rfl, l1, q1⟩ := HR.out k hlt
      have HN : Hid _ := @all_no addrB zs k hlt
      have HY : Hid _ := @all_take addrB zs k hlt HA.out
      have HCz : Hid _ := HC.out zs[k]
      generalize zs[k] = z at q1 HN HY HCz
      generalize addrB z = b at HN HY HCz
      cases b with
      | false =>
        go_wp2_with (go_at_call 33; refine (HCz.out _).mono ?_; rintro e w1 ⟨rfl, rfl⟩)
        go_ret
        exact ⟨ret_bool (by rw [← hB.out, HN.out (by first | trivial | rfl), Bool.false_and]), rfl⟩
      | true =>
        go_wp2_with (go_at_call 33; refine (HCz.out _).mono ?_; rintro e w1 ⟨rfl, rfl⟩)
        go_round
        case rel => exact ⟨k + 1, by omega, by go_num, HY.out (by first | trivial | rfl)⟩
        case measure => simp [intOf]; omega
    · have e1 : zs.take k = zs := List.take_of_length_le (by omega)
      have e2 : B = true := by rw [← hB.out, ← HA.out, e1]
      go_wp2
      go_ret
      exact ⟨ret_bool (by first | (rw [e2, Bool.true_and]; exact decide_eq_decide.2 (by omega)) | exact decide_eq_decide.2 (by omega)), rfl⟩
set_option maxRecDepth 100000 in
set_option maxHeartbeats 800000 in
theorem l08Addrs_any (v : Value) (zs : List Int) (w : World) (hl : zs.length ≤ 10000000) (hr : RowI w v zs) :
    Calls Try.prog 27 #[v] w fun e w' => e = .returned (.bool (hopsB zs)) ∧ w = w' := by
  obtain ⟨p, c, rfl, hr⟩ := hr
  have HR : Hid _ := hr
  have HC : Hid (∀ (z : Int) (W : World), Calls Try.prog 32 #[.int .i64 z] W fun e w' => e = .returned (.bool (addrB z)) ∧ W = w') := fun z W => l02Addr_any z W
  clear hr
  unfold hopsB
  obtain ⟨B, hB⟩ : ∃ B, Hid (zs.all addrB = B) := ⟨_, show _ = _ from rfl⟩
  rw [hB.out]
  go_enter Try.func27, Try.ntmps27
  go_wp2
  go_loop [3] (fun i => ∃ k : Nat, k ≤ zs.length ∧ i = .int .i64 k ∧ Hid ((zs.take k).all addrB = true)) (fun i => zs.length - (intOf i).toNat)
  case atStart => exact ⟨0, Nat.zero_le _, rfl, rfl⟩
  case round =>
    obtain ⟨k, hk, rfl, HA⟩ := hrel
    by_cases hlt : k < zs.length
    · obtain ⟨g, rfl, l1, q1⟩ := HR.out k hlt
      have HN : Hid _ := @all_no addrB zs k hlt
      have HY : Hid _ := @all_take addrB zs k hlt HA.out
      have HCz : Hid _ := HC.out zs[k]
      generalize zs[k] = z at q1 HN HY HCz
      generalize addrB z = b at HN HY HCz
      cases b with
      | false =>
        go_wp2_with (go_at_call 32; refine (HCz.out _).mono ?_; rintro e w1 ⟨rfl, rfl⟩)
        go_ret
        exact ⟨ret_bool (by rw [← hB.out, HN.out (by first | trivial | rfl), Bool.false_and]), rfl⟩
      | true =>
        go_wp2_with (go_at_call 32; refine (HCz.out _).mono ?_; rintro e w1 ⟨rfl, rfl⟩)
        go_round
        case rel => exact ⟨k + 1, by omega, by go_num, HY.out (by first | trivial | rfl)⟩
        case measure => simp [intOf]; omega
    · have e1 : zs.take k = zs := List.take_of_length_le (by omega)
      have e2 : B = true := by rw [← hB.out, ← HA.out, e1]
      go_wp2
      go_ret
      exact ⟨ret_bool (by first | (rw [e2, Bool.true_and]; exact decide_eq_decide.2 (by omega)) | exact decide_eq_decide.2 (by omega)), rfl⟩
set_option maxRecDepth 100000 in
set_option maxHeartbeats 800000 in
theorem pathRight_any (t : Tb) (p1 p2 : Option Addr) (c1 c2 : Nat) (w : World) (hl1 : t.cs.length ≤ 1500000) (hl2 : t.rs.length ≤ 1500000) (h1 : RowI w (.slice p1 t.cs.length c1) t.cs) (h2 : RowI w (.slice p2 t.rs.length c2) t.rs) :
    Calls Try.prog 19 #[.agg #[.slice p1 t.cs.length c1, .slice p2 t.rs.length c2]] w fun e w' => e = .returned (.bool t.path) ∧ Below w.heap.size w w' := by
  have HT : Hid (∀ (W : World) (g : Nat), Below w.heap.size w W → W.heap[g]? = some (.cells #[.slice p1 t.cs.length c1, .slice p2 t.rs.length c2] 22 (0, 0)) → Calls Try.prog 29 #[.slice (some ⟨g, 0, none⟩) 2 2] W fun e w' => ∃ v, e = .returned v ∧ OwnI w' W.heap.size v (t.cs ++ t.rs) ∧ Below W.heap.size W w') := fun W g hW hg => together_I g (0, 0) _ _ t.cs t.rs W hg (h1.src.below hW) (h2.src.below hW) hl1 hl2
  have HH : Hid (∀ (W : World) (B : Nat) (v : Value), OwnI W B v (t.cs ++ t.rs) → Calls Try.prog 28 #[v] W fun e w' => e = .returned (.bool (hopsB (t.cs ++ t.rs))) ∧ W = w') := fun W B v h => hopsRight_any v _ W (by rw [List.length_append]; omega) h.row
  have hA0 := all_alloc w (.cells #[.slice p1 t.cs.length c1, .slice p2 t.rs.length c2] 27)
  have hG : Hid _ := heap_alloc_new (w.alloc (.cells #[.slice p1 t.cs.length c1, .slice p2 t.rs.length c2] 27)) (.cells #[.slice p1 t.cs.length c1, .slice p2 t.rs.length c2] 22)
  rw [show (w.alloc (.cells #[.slice p1 t.cs.length c1, .slice p2 t.rs.length c2] 27)).heap.size = w.heap.size + 1 by simp] at hG
  have hA1 : Hid (Below w.heap.size w _) := keepB hA0 (Nat.le_refl _) (all_alloc _ (.cells #[.slice p1 t.cs.length c1, .slice p2 t.rs.length c2] 22))
  unfold Tb.path
  generalize hopsB (t.cs ++ t.rs) = B at HH ⊢
  clear h1 h2
  go_enter Try.func19, Try.ntmps19
  go_wp2_with (first
    | (go_at_call 29; refine (HT.out _ _ hA1.out hG.out).mono ?_; rintro e w2 ⟨v, rfl, own2, hb2⟩)
    | (go_at_call 28; refine (HH.out _ _ _ own2).mono ?_; rintro e w3 ⟨rfl, rfl⟩))
  go_ret
  exact ⟨rfl, keepB hA1.out (Nat.le_refl _) hb2⟩
set_option maxRecDepth 100000 in
set_option maxHeartbeats 800000 in
theorem specPathRight_any (t : Tb) (p1 p2 : Option Addr) (c1 c2 : Nat) (w : World) (hl1 : t.cs.length ≤ 1500000) (hl2 : t.rs.length ≤ 1500000) (h1 : RowI w (.slice p1 t.cs.length c1) t.cs) (h2 : RowI w (.slice p2 t.rs.length c2) t.rs) :
    Calls Try.prog 16 #[.agg #[.slice p1 t.cs.length c1, .slice p2 t.rs.length c2]] w fun e w' => e = .returned (.bool t.path) ∧ Below w.heap.size w w' := by
  have H1 : Hid (∀ W, Below w.heap.size w W → Calls Try.prog 27 #[.slice p1 t.cs.length c1] W fun e w' => e = .returned (.bool (hopsB t.cs)) ∧ W = w') := fun W hW => l08Addrs_any _ t.cs W (by omega) (h1.below hW)
  have H2 : Hid (∀ W, Below w.heap.size w W → Calls Try.prog 27 #[.slice p2 t.rs.length c2] W fun e w' => e = .returned (.bool (hopsB t.rs)) ∧ W = w') := fun W hW => l08Addrs_any _ t.rs W (by omega) (h2.below hW)
  have hA0 := all_alloc w (.cells #[.slice p1 t.cs.length c1, .slice p2 t.rs.length c2] 27)
  rw [← Tb.path_spec]
  generalize hopsB t.cs = B1 at H1 ⊢
  generalize hopsB t.rs = B2 at H2 ⊢
  clear h1 h2
  generalize t.cs.length = n1 at *
  generalize t.rs.length = n2 at *
  cases B1 <;> cases B2
  all_goals
    go_enter Try.func16, Try.ntmps16
    go_wp2_with (first
      | (have _ := hD; go_at_call 27; refine (H2.out _ hA0).mono ?_; rintro e w1 ⟨rfl, rfl⟩)
      | (go_at_call 27; refine (H1.out _ hA0).mono ?_; rintro e w1 ⟨rfl, rfl⟩; have hD : Hid True := trivial))
    go_ret
    exact ⟨ret_bool (by first | rfl | (rw [Bool.true_and, Bool.true_and]; exact decide_eq_decide.2 (by omega))), hA0⟩
end Go.Proofs.Ytimocipgikefoab
