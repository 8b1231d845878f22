/- TABLES that are right: the program's and the model's. -/
import Derived.Test.YtineecongiplgaaPlainTb
import Derived.Test.YtineecongiplgaaBits
import Derived.Test.YtineecongiplgaaBox
import Derived.Test.YtineecongiplgaaSt
import Derived.Deep.RegionHeld3
import Derived.Deep.QuietTactic
import Derived.BigQuiet
namespace Go.Proofs.Ytineecongiplgaa
open Go.RowKit
set_option linter.unusedVariables false
set_option linter.unusedSimpArgs false

theorem upTo_bit : upTo 1 = bitB := rfl
theorem upTo_word : upTo 65535 = wordB := rfl
set_option maxRecDepth 100000 in
set_option maxHeartbeats 800000 in
theorem tableRight_any (t : Tb) (p1 p2 : Option Addr) (c1 c2 : Nat) (w : World) (hl1 : t.cs.length ≤ 10000000) (hl2 : t.rs.length ≤ 10000000) (h1 : RowI w (.slice p1 t.cs.length c1) t.cs) (h2 : RowI w (.slice p2 t.rs.length c2) t.rs) :
    Calls Try.prog 75 #[.agg #[.slice p1 t.cs.length c1, .slice p2 t.rs.length c2]] w fun e w' => e = .returned (.bool t.right) ∧ Below w.heap.size w w' := by
  have HC : Hid (∀ W, Below w.heap.size w W → Calls Try.prog 95 #[.slice p1 t.cs.length c1, .int .i64 1] W fun e w' => e = .returned (.bool (t.cs.all bitB)) ∧ W = w') := fun W hW => allUpTo_any _ t.cs 1 W hl1 (h1.below hW)
  have HR : Hid (∀ W, Below w.heap.size w W → Calls Try.prog 95 #[.slice p2 t.rs.length c2, .int .i64 65535] W fun e w' => e = .returned (.bool (t.rs.all wordB)) ∧ W = w') := fun W hW => allUpTo_any _ t.rs 65535 W hl2 (h2.below hW)
  have hA0 := all_alloc w (.cells #[.slice p1 t.cs.length c1, .slice p2 t.rs.length c2] 62)
  unfold Tb.right
  generalize t.cs.all bitB = B1 at HC ⊢
  generalize t.rs.all wordB = B2 at HR ⊢
  clear h1 h2
  generalize t.cs.length = n1 at *
  generalize t.rs.length = n2 at *
  by_cases hn1 : n1 ≤ 24
  · cases B1 with
    | true =>
      by_cases hn2 : n2 ≤ 12
      · go_enter Try.func75, Try.ntmps75
        go_wp2_with (first
          | (have _ := hD; go_at_call 95; refine (HR.out _ hA0).mono ?_; rintro e w1 ⟨rfl, rfl⟩)
          | (go_at_call 95; refine (HC.out _ hA0).mono ?_; rintro e w1 ⟨rfl, rfl⟩; have hD : Hid True := trivial))
        go_ret
        exact ⟨ret_bool (by simp [hn1, hn2]), hA0⟩
      · go_enter Try.func75, Try.ntmps75
        go_wp2_with (first
          | (go_at_call 95; refine (HC.out _ hA0).mono ?_; rintro e w1 ⟨rfl, rfl⟩))
        go_ret
        exact ⟨ret_bool (by simp [hn1, hn2]), hA0⟩
    | false =>
      go_enter Try.func75, Try.ntmps75
      go_wp2_with (first
        | (go_at_call 95; refine (HC.out _ hA0).mono ?_; rintro e w1 ⟨rfl, rfl⟩))
      go_ret
      exact ⟨ret_bool (by simp [hn1]), hA0⟩
  · go_enter Try.func75, Try.ntmps75
    go_wp2
    go_ret
    exact ⟨ret_bool (by simp [hn1]), hA0⟩
set_option maxRecDepth 100000 in
set_option maxHeartbeats 800000 in
theorem specTableRight_any (t : Tb) (p1 p2 : Option Addr) (c1 c2 : Nat) (w : World) (hl1 : t.cs.length ≤ 10000000) (hl2 : t.rs.length ≤ 10000000) (h1 : RowI w (.slice p1 t.cs.length c1) t.cs) (h2 : RowI w (.slice p2 t.rs.length c2) t.rs) :
    Calls Try.prog 71 #[.agg #[.slice p1 t.cs.length c1, .slice p2 t.rs.length c2]] w fun e w' => e = .returned (.bool t.right) ∧ Below w.heap.size w w' := by
  have HC : Hid (∀ W, Below w.heap.size w W → Calls Try.prog 93 #[.slice p1 t.cs.length c1, .int .i64 24] W fun e w' => e = .returned (.bool (t.cs.all bitB && decide (t.cs.length ≤ 24))) ∧ W = w') := fun W hW => l04Bits_any _ t.cs 24 W hl1 (by omega) (h1.below hW)
  have HW : Hid (∀ (n : Int) (W : World), Calls Try.prog 92 #[.int .i64 n] W fun e w' => e = .returned (.bool (wordB n)) ∧ W = w') := fun n W => l02Word_any n W
  have HR : Hid _ := fun W (hW : Below w.heap.size w W) => h2.below hW
  have hA0 := all_alloc w (.cells #[.slice p1 t.cs.length c1, .slice p2 t.rs.length c2] 62)
  have hX : Hid _ := heap_alloc_new w (.cells #[.slice p1 t.cs.length c1, .slice p2 t.rs.length c2] 62)
  have hr : t.right = (t.cs.all bitB && decide (t.cs.length ≤ 24) && decide (t.rs.length ≤ 12) && t.rs.all wordB) := by
    unfold Tb.right
    rw [Bool.and_comm (decide (t.cs.length ≤ 24)), Bool.and_assoc, Bool.and_assoc, Bool.and_assoc]
  rw [hr]
  generalize (t.cs.all bitB && decide (t.cs.length ≤ 24)) = B1 at HC ⊢
  clear h1 h2 hr
  generalize t.cs.length = n1 at *
  generalize t.rs = rs at *
  go_enter Try.func71, Try.ntmps71
  go_wp2
  generalize w.alloc (.cells #[.slice p1 n1 c1, .slice p2 rs.length c2] 62) = A at hA0 hX ⊢
  have x0 := cellW hX.out 0 _ rfl
  have x1 := cellW hX.out 1 _ rfl
  go_loopw [3] (fun i wr => ∃ k : Nat, k ≤ rs.length ∧ i = .int .i64 k ∧ (rs.take k).all wordB = true ∧ Below A.heap.size A wr) (fun i _ => rs.length - (intOf i).toNat)
  case atStart => exact ⟨0, Nat.zero_le _, rfl, rfl, Below.refl _ _⟩
  case round =>
    obtain ⟨k, hk, rfl, hall, hbel⟩ := hrel
    have y0 := x0 _ hbel
    have y1 := x1 _ hbel
    by_cases hlt : k < rs.length
    · obtain ⟨p', c', hsl, hcell⟩ := HR.out wr (keepB hA0 (Nat.le_refl _) hbel)
      obtain ⟨g, hp, lg, qc⟩ := hcell k hlt
      cases hsl
      subst hp
      have hst : (rs.take (k + 1)).all wordB = wordB rs[k] := by rw [List.take_succ_eq_append_getElem hlt, List.all_append, hall]; simp
      have hno : wordB rs[k] = false → rs.all wordB = false := fun h => by
        rw [List.all_eq_false]
        exact ⟨rs[k], List.getElem_mem hlt, by simp [h]⟩
      have HWk := HW.out rs[k]
      generalize rs[k] = z at qc hst hno HWk
      have HWk' : Hid _ := HWk
      clear HWk hcell
      generalize wordB z = b at hst hno HWk'
      cases b with
      | true =>
        go_wp2_with (go_at_call 92; refine (HWk'.out _).mono ?_; rintro e w1 ⟨rfl, rfl⟩)
        go_roundw
        case rel => exact ⟨k + 1, by omega, by go_num, hst, hbel⟩
        case measure => simp [intOf]; omega
      | false =>
        have hn := hno rfl
        clear hno
        go_wp2_with (go_at_call 92; refine (HWk'.out _).mono ?_; rintro e w1 ⟨rfl, rfl⟩)
        go_ret
        exact ⟨ret_bool (by rw [hn]; simp), keepB hA0 (Nat.le_refl _) hbel⟩
    · obtain rfl : k = rs.length := by omega
      rw [List.take_length] at hall
      have hB := keepB hA0 (Nat.le_refl _) hbel
      cases B1 with
      | true =>
        go_wp2_with (go_at_call 93; refine (HC.out _ hB).mono ?_; rintro e w1 ⟨rfl, rfl⟩)
        go_ret
        exact ⟨ret_bool (by rw [hall]; simp <;> omega), hB⟩
      | false =>
        go_wp2_with (go_at_call 93; refine (HC.out _ hB).mono ?_; rintro e w1 ⟨rfl, rfl⟩)
        go_ret
        exact ⟨ret_bool (by rw [hall]; simp <;> omega), hB⟩
end Go.Proofs.Ytineecongiplgaa
