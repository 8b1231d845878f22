/- NEW TABLES: the program's and the model's. -/
import Derived.Test.YtfpibedloodjlabTabIn
import Derived.Test.YtfpibedloodjlabSt
import Derived.BigRegion
import Derived.Deep.DeepCutAuto
namespace Go.Proofs.Ytfpibedloodjlab
open Go.RowKit
set_option linter.unusedVariables false
set_option linter.unusedSimpArgs false

/-- cells of zeros -/
def zc (n : Nat) : Array Value := madeCells (Value.int .i64 0).cells (n * 1)
theorem make_I (n : Nat) (hn : n ≤ 1000) (W : World) : (Instr.makeSlice 22 (.int .i64 n) (.int .i64 n)).run Try.prog W = .ok (.slice (some ⟨W.heap.size, 0, none⟩) n n) (W.alloc (.cells (zc n) 2)) := by
  obtain ⟨i0, hi, hz0, hz1, hz2⟩ := info_parts info64
  have hr := run_make (P := Try.prog) W 22 2 i0 (.int .i64 0) Try.underlying22 hi hz0 .i64 .i64 n n (by omega) (Int.le_refl _) (by rw [hz2]; omega) (by omega)
  rw [hz1] at hr
  simp only [Int.toNat_natCast] at hr
  exact hr
theorem own_made (W : World) (n : Nat) (hn : n ≤ 1000) (base : Nat) (hb : base ≤ W.heap.size) : OwnI (W.alloc (.cells (zc n) 2)) base (.slice (some ⟨W.heap.size, 0, none⟩) n n) (List.replicate n 0) := by
  unfold OwnI
  rw [List.length_replicate]
  have := World.ownsRow_lit (e := 2) (size := 1) W (zc n) n hb (by unfold maxLen; omega) (size_madeCells _ _)
  rw [show (zc n).toList = (List.replicate n (0 : Int)).map (Value.int .i64) from zeros_list n] at this
  exact this
theorem new_fin1 (w A : World) (n m : Nat) (hn : n ≤ 24) (hm : m ≤ 12) (e : A.heap.size = w.heap.size + 1) : OwnT ((A.alloc (.cells (zc n) 2)).alloc (.cells (zc m) 2)).drew w.heap.size (.slice (some ⟨w.heap.size + 1, 0, none⟩) n n) (.slice (some ⟨w.heap.size + 1 + 1, 0, none⟩) m m) ⟨List.replicate n 0, List.replicate m 0⟩ := by
  have o1 := own_made A n (by omega) w.heap.size (by omega)
  have o2 := own_made (A.alloc (.cells (zc n) 2)) m (by omega) w.heap.size (by simp; omega)
  rw [e] at o1
  rw [show (A.alloc (.cells (zc n) 2)).heap.size = w.heap.size + 1 + 1 by simp; omega] at o2
  exact ⟨OwnI.below (w' := World.drew _) (o1.below (all_alloc _ _)) (Below.drew (Below.refl _ _)), OwnI.below (w' := World.drew _) o2 (Below.drew (Below.refl _ _)), fun a b ha hb => by cases ha; cases hb; simp only; omega⟩
theorem new_fin2 (w A : World) (n m : Nat) (hn : n ≤ 24) (hm : m ≤ 12) (e : A.heap.size = w.heap.size + 1) : OwnT ((A.alloc (.cells (zc m) 2)).alloc (.cells (zc n) 2)).drew w.heap.size (.slice (some ⟨w.heap.size + 1 + 1, 0, none⟩) n n) (.slice (some ⟨w.heap.size + 1, 0, none⟩) m m) ⟨List.replicate n 0, List.replicate m 0⟩ := by
  have o1 := own_made A m (by omega) w.heap.size (by omega)
  have o2 := own_made (A.alloc (.cells (zc m) 2)) n (by omega) w.heap.size (by simp; omega)
  rw [e] at o1
  rw [show (A.alloc (.cells (zc m) 2)).heap.size = w.heap.size + 1 + 1 by simp; omega] at o2
  exact ⟨OwnI.below (w' := World.drew _) o2 (Below.drew (Below.refl _ _)), OwnI.below (w' := World.drew _) (o1.below (all_alloc _ _)) (Below.drew (Below.refl _ _)), fun a b ha hb => by cases ha; cases hb; simp only; omega⟩
theorem new_cells {A : World} {g : Nat} (h : A.heap[g]? = some (.cells #[.slice none 0 0, .slice none 0 0] 31 (0, 0))) (o1 o2 : Obj) (x y : Value) : ((((A.setCell ⟨g, 0, none⟩ x).setCell ⟨g, 1, none⟩ y).alloc o1).alloc o2).cell? ⟨g, 0, none⟩ = some x ∧ ((((A.setCell ⟨g, 0, none⟩ x).setCell ⟨g, 1, none⟩ y).alloc o1).alloc o2).cell? ⟨g, 1, none⟩ = some y := by
  have h1 : ((A.setCell ⟨g, 0, none⟩ x).setCell ⟨g, 1, none⟩ y).heap[g]? = some (Obj.cells #[x, y] 31 (0, 0)) := blk_set (blk_set h 0 x) 1 y
  have h2 := blk (blk h1 (all_alloc _ o1)) (all_alloc _ o2)
  exact ⟨cellW h2 0 _ rfl _ (Below.refl _ _), cellW h2 1 _ rfl _ (Below.refl _ _)⟩
theorem new_keep {w A : World} (h : Below w.heap.size w A) (e : A.heap.size = w.heap.size + 1) (o1 o2 : Obj) (x y : Value) : Below w.heap.size w ((((A.setCell ⟨w.heap.size, 0, none⟩ x).setCell ⟨w.heap.size, 1, none⟩ y).alloc o1).alloc o2).drew := by
  have k1 : Below w.heap.size w ((A.setCell ⟨w.heap.size, 0, none⟩ x).setCell ⟨w.heap.size, 1, none⟩ y) := (h.setCell (Nat.le_refl _) _).setCell (Nat.le_refl _) _
  exact Below.drew (keepB (keepB k1 (Nat.le_refl _) (all_alloc _ _)) (Nat.le_refl _) (all_alloc _ _))
set_option maxRecDepth 100000 in
set_option maxHeartbeats 1600000 in
theorem tableNew_any (a b : Int) (w : World) :
    Calls Try.prog 18 #[.int .i64 a, .int .i64 b] w fun e w' => ∃ v1 v2, e = .returned (.agg #[v1, v2]) ∧ OwnT w' w.heap.size v1 v2 (newT a b) ∧ Below w.heap.size w w' := by
  have hY : Hid _ := heap_alloc_new w (.cells #[.slice none 0 0, .slice none 0 0] 31)
  have hA0 : Below w.heap.size w (w.alloc (.cells #[.slice none 0 0, .slice none 0 0] 31)) := all_alloc _ _
  have e1 : (w.alloc (.cells #[.slice none 0 0, .slice none 0 0] 31)).heap.size = w.heap.size + 1 := by simp
  by_cases h : (0 ≤ a ∧ a ≤ 24) ∧ 0 ≤ b ∧ b ≤ 12
  · obtain ⟨n, rfl⟩ : ∃ n : Nat, a = n := ⟨a.toNat, by omega⟩
    obtain ⟨m, rfl⟩ : ∃ m : Nat, b = m := ⟨b.toNat, by omega⟩
    have hz : newT n m = ⟨List.replicate n 0, List.replicate m 0⟩ := by unfold newT; rw [if_pos h]; rfl
    rw [hz]
    have hn : n ≤ 24 := by omega
    have hm : m ≤ 12 := by omega
    have M1 := make_I n (by omega)
    have M2 := make_I m (by omega)
    have i1 : ¬ (n : Int) < 0 := by omega
    have i2 : ¬ (24 : Int) < n := by omega
    have i3 : ¬ (m : Int) < 0 := by omega
    have i4 : ¬ (12 : Int) < m := by omega
    go_enter Try.func18, Try.ntmps18
    go_upto_region 3 with fail
    generalize w.alloc (.cells #[.slice none 0 0, .slice none 0 0] 31) = A at hY hA0 e1 ⊢
    have y0 := cellW hY.out 0 _ rfl A (Below.refl _ _)
    have y1 := cellW hY.out 1 _ rfl A (Below.refl _ _)
    have g0 := frozenW hY.out 0 A (Below.refl _ _)
    have g1 := frozenW hY.out 1 A (Below.refl _ _)
    have E2 : ∀ x y : Value, ((A.setCell ⟨w.heap.size, 0, none⟩ x).setCell ⟨w.heap.size, 1, none⟩ y).heap.size = w.heap.size + 1 := fun x y => by rw [show ((A.setCell ⟨w.heap.size, 0, none⟩ x).setCell ⟨w.heap.size, 1, none⟩ y).heap.size = A.heap.size by simp [World.setCell]]; exact e1
    have E2' : Hid _ := E2
    have e1' : Hid _ := e1
    clear E2
    go_region
    all_goals go_wp2
    · exact bodyPost_ret (v := .agg #[.slice (some ⟨w.heap.size + 1, 0, none⟩) n n, .slice (some ⟨w.heap.size + 1 + 1, 0, none⟩) m m]) (by simp [results, Try.results18, go_sem, (new_cells hY.out _ _ _ _).1, (new_cells hY.out _ _ _ _).2]) rfl ⟨_, _, rfl, new_fin1 w _ n m hn hm (E2'.out _ _), new_keep hA0 e1'.out _ _ _ _⟩
    · exact bodyPost_ret (v := .agg #[.slice (some ⟨w.heap.size + 1 + 1, 0, none⟩) n n, .slice (some ⟨w.heap.size + 1, 0, none⟩) m m]) (by simp [results, Try.results18, go_sem, (new_cells hY.out _ _ _ _).1, (new_cells hY.out _ _ _ _).2]) rfl ⟨_, _, rfl, new_fin2 w _ n m hn hm (E2'.out _ _), new_keep hA0 e1'.out _ _ _ _⟩
  · have hz : newT a b = zeroT := by unfold newT; rw [if_neg h]
    rw [hz]
    have hO : OwnT (w.alloc (.cells #[.slice none 0 0, .slice none 0 0] 31)) w.heap.size (.slice none 0 0) (.slice none 0 0) zeroT := ⟨OwnI.nil _ _, OwnI.nil _ _, fun a b h => by cases h⟩
    have H : Hid (OwnT _ _ _ _ _) := hO
    clear hO
    by_cases h1 : a < 0
    · go_enter Try.func18, Try.ntmps18
      go_wp2
      exact bodyPost_ret (v := .agg #[.slice none 0 0, .slice none 0 0]) (by simp [results, Try.results18, go_sem]) rfl ⟨_, _, rfl, H.out, hA0⟩
    · by_cases h2 : 24 < a
      · go_enter Try.func18, Try.ntmps18
        go_wp2
        exact bodyPost_ret (v := .agg #[.slice none 0 0, .slice none 0 0]) (by simp [results, Try.results18, go_sem]) rfl ⟨_, _, rfl, H.out, hA0⟩
      · by_cases h3 : b < 0
        · go_enter Try.func18, Try.ntmps18
          go_wp2
          exact bodyPost_ret (v := .agg #[.slice none 0 0, .slice none 0 0]) (by simp [results, Try.results18, go_sem]) rfl ⟨_, _, rfl, H.out, hA0⟩
        · have h4 : 12 < b := by omega
          go_enter Try.func18, Try.ntmps18
          go_wp2
          exact bodyPost_ret (v := .agg #[.slice none 0 0, .slice none 0 0]) (by simp [results, Try.results18, go_sem]) rfl ⟨_, _, rfl, H.out, hA0⟩
set_option maxRecDepth 100000 in
set_option maxHeartbeats 1600000 in
theorem specTableNew_any (a b : Int) (w : World) :
    Calls Try.prog 17 #[.int .i64 a, .int .i64 b] w fun e w' => ∃ v1 v2, e = .returned (.agg #[v1, v2]) ∧ OwnT w' w.heap.size v1 v2 (newT a b) ∧ Below w.heap.size w w' := by
  have hY : Hid _ := heap_alloc_new w (.cells #[.slice none 0 0, .slice none 0 0] 31)
  have hA0 : Below w.heap.size w (w.alloc (.cells #[.slice none 0 0, .slice none 0 0] 31)) := all_alloc _ _
  have e1 : (w.alloc (.cells #[.slice none 0 0, .slice none 0 0] 31)).heap.size = w.heap.size + 1 := by simp
  have HA : Hid (∀ W, Calls Try.prog 23 #[.int .i64 a, .int .i64 0, .int .i64 24] W fun e w' => e = .returned (.bool (decide (0 ≤ a) && decide (a ≤ 24))) ∧ W = w') := fun W => l02Is_any a 0 24 W
  have HB : Hid (∀ W, Calls Try.prog 23 #[.int .i64 b, .int .i64 0, .int .i64 12] W fun e w' => e = .returned (.bool (decide (0 ≤ b) && decide (b ≤ 12))) ∧ W = w') := fun W => l02Is_any b 0 12 W
  by_cases h : (0 ≤ a ∧ a ≤ 24) ∧ 0 ≤ b ∧ b ≤ 12
  · obtain ⟨n, rfl⟩ : ∃ n : Nat, a = n := ⟨a.toNat, by omega⟩
    obtain ⟨m, rfl⟩ : ∃ m : Nat, b = m := ⟨b.toNat, by omega⟩
    have hz : newT n m = ⟨List.replicate n 0, List.replicate m 0⟩ := by unfold newT; rw [if_pos h]; rfl
    rw [hz]
    have hn : n ≤ 24 := by omega
    have hm : m ≤ 12 := by omega
    have M1 := make_I n (by omega)
    have M2 := make_I m (by omega)
    rw [show (decide (0 ≤ (n : Int)) && decide ((n : Int) ≤ 24)) = true by simp; omega] at HA
    rw [show (decide (0 ≤ (m : Int)) && decide ((m : Int) ≤ 12)) = true by simp; omega] at HB
    go_enter Try.func17, Try.ntmps17
    go_upto_region 3 with (first | (have _ := hD; go_at_call 23; refine (HB.out _).mono ?_; rintro e w1 ⟨rfl, rfl⟩) | (go_at_call 23; refine (HA.out _).mono ?_; rintro e w1 ⟨rfl, rfl⟩; have hD : Hid True := trivial))
    generalize w.alloc (.cells #[.slice none 0 0, .slice none 0 0] 31) = A at hY hA0 e1 ⊢
    have y0 := cellW hY.out 0 _ rfl A (Below.refl _ _)
    have y1 := cellW hY.out 1 _ rfl A (Below.refl _ _)
    have g0 := frozenW hY.out 0 A (Below.refl _ _)
    have g1 := frozenW hY.out 1 A (Below.refl _ _)
    have E2 : ∀ x y : Value, ((A.setCell ⟨w.heap.size, 0, none⟩ x).setCell ⟨w.heap.size, 1, none⟩ y).heap.size = w.heap.size + 1 := fun x y => by rw [show ((A.setCell ⟨w.heap.size, 0, none⟩ x).setCell ⟨w.heap.size, 1, none⟩ y).heap.size = A.heap.size by simp [World.setCell]]; exact e1
    have E2' : Hid _ := E2
    have e1' : Hid _ := e1
    clear E2
    go_region
    all_goals go_wp2
    · exact bodyPost_ret (v := .agg #[.slice (some ⟨w.heap.size + 1, 0, none⟩) n n, .slice (some ⟨w.heap.size + 1 + 1, 0, none⟩) m m]) (by simp [results, Try.results17, go_sem, (new_cells hY.out _ _ _ _).1, (new_cells hY.out _ _ _ _).2]) rfl ⟨_, _, rfl, new_fin1 w _ n m hn hm (E2'.out _ _), new_keep hA0 e1'.out _ _ _ _⟩
    · exact bodyPost_ret (v := .agg #[.slice (some ⟨w.heap.size + 1 + 1, 0, none⟩) n n, .slice (some ⟨w.heap.size + 1, 0, none⟩) m m]) (by simp [results, Try.results17, go_sem, (new_cells hY.out _ _ _ _).1, (new_cells hY.out _ _ _ _).2]) rfl ⟨_, _, rfl, new_fin2 w _ n m hn hm (E2'.out _ _), new_keep hA0 e1'.out _ _ _ _⟩
  · have hz : newT a b = zeroT := by unfold newT; rw [if_neg h]
    rw [hz]
    have hO : OwnT (w.alloc (.cells #[.slice none 0 0, .slice none 0 0] 31)) w.heap.size (.slice none 0 0) (.slice none 0 0) zeroT := ⟨OwnI.nil _ _, OwnI.nil _ _, fun a b h => by cases h⟩
    have H : Hid (OwnT _ _ _ _ _) := hO
    clear hO
    by_cases h1 : 0 ≤ a ∧ a ≤ 24
    · rw [show (decide (0 ≤ a) && decide (a ≤ 24)) = true by simp; omega] at HA
      rw [show (decide (0 ≤ b) && decide (b ≤ 12)) = false by simp; omega] at HB
      go_enter Try.func17, Try.ntmps17
      go_wp2_with (first | (have _ := hD; go_at_call 23; refine (HB.out _).mono ?_; rintro e w1 ⟨rfl, rfl⟩) | (go_at_call 23; refine (HA.out _).mono ?_; rintro e w1 ⟨rfl, rfl⟩; have hD : Hid True := trivial))
      exact bodyPost_ret (v := .agg #[.slice none 0 0, .slice none 0 0]) (by simp [results, Try.results17, go_sem]) rfl ⟨_, _, rfl, H.out, hA0⟩
    · rw [show (decide (0 ≤ a) && decide (a ≤ 24)) = false by simp; omega] at HA
      go_enter Try.func17, Try.ntmps17
      go_wp2_with (go_at_call 23; refine (HA.out _).mono ?_; rintro e w1 ⟨rfl, rfl⟩)
      exact bodyPost_ret (v := .agg #[.slice none 0 0, .slice none 0 0]) (by simp [results, Try.results17, go_sem]) rfl ⟨_, _, rfl, H.out, hA0⟩
end Go.Proofs.Ytfpibedloodjlab
