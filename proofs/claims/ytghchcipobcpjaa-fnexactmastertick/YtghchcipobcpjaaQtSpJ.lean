/- A QUESTION ISSUED, the model's, where it refuses. Written by mkspj.py. -/
import Derived.Test.YtghchcipobcpjaaQtSpI
import Derived.Test.YtghchcipobcpjaaQtMstS
namespace Go.Proofs.Ytghchcipobcpjaa
open Go.RowKit
set_option linter.unusedVariables false
set_option linter.unusedSimpArgs false

set_option maxRecDepth 100000 in
set_option maxHeartbeats 6400000 in
theorem specIssue2 (s : Mst) (v1 v2 : Value) (ask : ByteArray) (w : World) (ht : s.tot ≤ 1048576) (hask : ask.size ≤ maxLen) (h : RowMst w v1 v2 s) (h8 : 8000 < ask.size) :
    Calls Try.prog 6 #[.agg #[.int .i64 s.nx, v1, v2], .string ask] w fun e w' => e = .returned (.agg #[.int .i64 0, .slice none 0 0, .slice none 0 0, .slice none 0 0, .int .i64 0, .int .i64 2]) ∧ Below w.heap.size w w' := by
  have HI : Hid (∀ W, Calls Try.prog 18 #[.int .i64 2] W fun e w' => e = .returned (.agg #[.int .i64 0, .slice none 0 0, .slice none 0 0, .slice none 0 0, .int .i64 0, .int .i64 2]) ∧ Below W.heap.size W w') := fun W => l09Ill_any 2 W
  have q1 := csum_pos Wt.sz s.op
  have q3 := csum_pos Dn.sz s.dn
  have b1 : s.op.length ≤ 1048576 := by unfold Mst.tot at ht; omega
  have b2 : s.dn.length ≤ 1048576 := by unfold Mst.tot at ht; omega
  clear q1 q3
  have HR : Hid (∀ W, Below w.heap.size w W → Calls Try.prog 19 #[.agg #[.int .i64 s.nx, v1, v2]] W fun e w' => e = .returned (.bool s.right) ∧ Below W.heap.size W w') := fun W hW => specMasterRight_any s v1 v2 W ht (h.below hW)
  have HF : Hid (∀ W, Calls Try.prog 20 #[.string ask] W fun e w' => e = .returned (.bool (bodyB ask)) ∧ W = w') := fun W => l09Body_any ask W hask
  obtain ⟨⟨p1, c1, rfl, _⟩, ⟨p2, c2, rfl, _⟩⟩ := h
  clear ht
  have hm := hask
  unfold maxLen at hm
  have hX0 : Hid _ := blk (heap_alloc_new w (.cells #[.int .i64 s.nx, .slice p1 s.op.length c1, .slice p2 s.dn.length c2] 30)) (all_alloc _ (.cells #[.int .i64 0, .slice none 0 0, .slice none 0 0, .slice none 0 0, .int .i64 0, .int .i64 0] 33))
  have hY0 : Hid _ := heap_alloc_new (w.alloc (.cells #[.int .i64 s.nx, .slice p1 s.op.length c1, .slice p2 s.dn.length c2] 30)) (.cells #[.int .i64 0, .slice none 0 0, .slice none 0 0, .slice none 0 0, .int .i64 0, .int .i64 0] 33)
  have hA0 : Below w.heap.size w ((w.alloc (.cells #[.int .i64 s.nx, .slice p1 s.op.length c1, .slice p2 s.dn.length c2] 30)).alloc (.cells #[.int .i64 0, .slice none 0 0, .slice none 0 0, .slice none 0 0, .int .i64 0, .int .i64 0] 33)) := keepB (all_alloc w _) (Nat.le_refl _) (all_alloc _ _)
  have e2 : ((w.alloc (.cells #[.int .i64 s.nx, .slice p1 s.op.length c1, .slice p2 s.dn.length c2] 30)).alloc (.cells #[.int .i64 0, .slice none 0 0, .slice none 0 0, .slice none 0 0, .int .i64 0, .int .i64 0] 33)).heap.size = w.heap.size + 1 + 1 := by simp
  rw [show (w.alloc (.cells #[.int .i64 s.nx, .slice p1 s.op.length c1, .slice p2 s.dn.length c2] 30)).heap.size = w.heap.size + 1 by simp] at hY0
  go_enter Try.func6, Try.ntmps6
  go_upto_region 1 with fail
  have hX := hX0
  have hY := hY0
  have hA := hA0
  generalize (w.alloc (.cells #[.int .i64 s.nx, .slice p1 s.op.length c1, .slice p2 s.dn.length c2] 30)).alloc (.cells #[.int .i64 0, .slice none 0 0, .slice none 0 0, .slice none 0 0, .int .i64 0, .int .i64 0] 33) = A at hX hY hA e2 ⊢
  clear hX0 hY0 hA0
  have g2 : w.heap.size + 1 + 1 ≤ A.heap.size := by omega
  clear e2
  have x0 := cellW hX.out 0 _ rfl A (Below.refl _ _)
  have x1 := cellW hX.out 1 _ rfl A (Below.refl _ _)
  have x2 := cellW hX.out 2 _ rfl A (Below.refl _ _)
  go_wp2_with (first | (go_at_call 18; refine (HI.out _).mono ?_; rintro e w9 ⟨rfl, hb9⟩; have hY9 : Hid _ := blk hY.out hb9) | (refine wpList_store_row rfl 33 (.tmp 4) (.tmp 9) rfl (w.heap.size + 1) #[.int .i64 0, .slice none 0 0, .slice none 0 0, .slice none 0 0, .int .i64 0, .int .i64 2] rfl rfl _ _ hY9.out (by kernel_rfl) rfl (by simp [Value.oneCell']) ?_))
  go_wp2
  have hYf := setRow_heap _ (w.heap.size + 1) _ #[.int .i64 0, .slice none 0 0, .slice none 0 0, .slice none 0 0, .int .i64 0, .int .i64 2] _ _ hY9.out
  have hAf : Below w.heap.size w (w9.setRow (w.heap.size + 1) #[.int .i64 0, .slice none 0 0, .slice none 0 0, .slice none 0 0, .int .i64 0, .int .i64 2]) := rcBelow_setRow (keepB hA (Nat.le_refl _) hb9) (by omega) _
  exact bodyPost_ret (v := .agg #[.int .i64 0, .slice none 0 0, .slice none 0 0, .slice none 0 0, .int .i64 0, .int .i64 2]) (results_cell_row Try.results6 _ _ (w.heap.size + 1) _ _ _ _ rfl hYf Try.underlying33 rfl (by kernel_rfl)) rfl ⟨rfl, hAf⟩
set_option maxRecDepth 100000 in
set_option maxHeartbeats 6400000 in
theorem specIssue1 (s : Mst) (v1 v2 : Value) (ask : ByteArray) (w : World) (ht : s.tot ≤ 1048576) (hask : ask.size ≤ maxLen) (h : RowMst w v1 v2 s) (h8 : ¬ 8000 < ask.size) (hn : ¬ (s.right = true ∧ bodyB ask = true)) :
    Calls Try.prog 6 #[.agg #[.int .i64 s.nx, v1, v2], .string ask] w fun e w' => e = .returned (.agg #[.int .i64 0, .slice none 0 0, .slice none 0 0, .slice none 0 0, .int .i64 0, .int .i64 1]) ∧ Below w.heap.size w w' := by
  have HI : Hid (∀ W, Calls Try.prog 18 #[.int .i64 1] W fun e w' => e = .returned (.agg #[.int .i64 0, .slice none 0 0, .slice none 0 0, .slice none 0 0, .int .i64 0, .int .i64 1]) ∧ Below W.heap.size W w') := fun W => l09Ill_any 1 W
  have q1 := csum_pos Wt.sz s.op
  have q3 := csum_pos Dn.sz s.dn
  have b1 : s.op.length ≤ 1048576 := by unfold Mst.tot at ht; omega
  have b2 : s.dn.length ≤ 1048576 := by unfold Mst.tot at ht; omega
  clear q1 q3
  have HR : Hid (∀ W, Below w.heap.size w W → Calls Try.prog 19 #[.agg #[.int .i64 s.nx, v1, v2]] W fun e w' => e = .returned (.bool s.right) ∧ Below W.heap.size W w') := fun W hW => specMasterRight_any s v1 v2 W ht (h.below hW)
  have HF : Hid (∀ W, Calls Try.prog 20 #[.string ask] W fun e w' => e = .returned (.bool (bodyB ask)) ∧ W = w') := fun W => l09Body_any ask W hask
  obtain ⟨⟨p1, c1, rfl, _⟩, ⟨p2, c2, rfl, _⟩⟩ := h
  clear ht
  have hm := hask
  unfold maxLen at hm
  have hX0 : Hid _ := blk (heap_alloc_new w (.cells #[.int .i64 s.nx, .slice p1 s.op.length c1, .slice p2 s.dn.length c2] 30)) (all_alloc _ (.cells #[.int .i64 0, .slice none 0 0, .slice none 0 0, .slice none 0 0, .int .i64 0, .int .i64 0] 33))
  have hY0 : Hid _ := heap_alloc_new (w.alloc (.cells #[.int .i64 s.nx, .slice p1 s.op.length c1, .slice p2 s.dn.length c2] 30)) (.cells #[.int .i64 0, .slice none 0 0, .slice none 0 0, .slice none 0 0, .int .i64 0, .int .i64 0] 33)
  have hA0 : Below w.heap.size w ((w.alloc (.cells #[.int .i64 s.nx, .slice p1 s.op.length c1, .slice p2 s.dn.length c2] 30)).alloc (.cells #[.int .i64 0, .slice none 0 0, .slice none 0 0, .slice none 0 0, .int .i64 0, .int .i64 0] 33)) := keepB (all_alloc w _) (Nat.le_refl _) (all_alloc _ _)
  have e2 : ((w.alloc (.cells #[.int .i64 s.nx, .slice p1 s.op.length c1, .slice p2 s.dn.length c2] 30)).alloc (.cells #[.int .i64 0, .slice none 0 0, .slice none 0 0, .slice none 0 0, .int .i64 0, .int .i64 0] 33)).heap.size = w.heap.size + 1 + 1 := by simp
  rw [show (w.alloc (.cells #[.int .i64 s.nx, .slice p1 s.op.length c1, .slice p2 s.dn.length c2] 30)).heap.size = w.heap.size + 1 by simp] at hY0
  cases hr : s.right with
  | false =>
    rw [hr] at HR
    go_enter Try.func6, Try.ntmps6
    go_upto_region 1 with fail
    have hX := hX0
    have hY := hY0
    have hA := hA0
    generalize (w.alloc (.cells #[.int .i64 s.nx, .slice p1 s.op.length c1, .slice p2 s.dn.length c2] 30)).alloc (.cells #[.int .i64 0, .slice none 0 0, .slice none 0 0, .slice none 0 0, .int .i64 0, .int .i64 0] 33) = A at hX hY hA e2 ⊢
    clear hX0 hY0 hA0
    have g2 : w.heap.size + 1 + 1 ≤ A.heap.size := by omega
    clear e2
    have x0 := cellW hX.out 0 _ rfl A (Below.refl _ _)
    have x1 := cellW hX.out 1 _ rfl A (Below.refl _ _)
    have x2 := cellW hX.out 2 _ rfl A (Below.refl _ _)
    go_upto_region 4 with (first | (go_at_call 19; refine (HR.out _ hA).mono ?_; rintro e w1 ⟨rfl, hb1⟩) | (go_at_call 20; refine (HF.out _).mono ?_; rintro e w2 ⟨rfl, rfl⟩))
    replace hY : Hid _ := blk hY.out hb1
    replace hA : Below w.heap.size w w1 := keepB hA (Nat.le_refl _) hb1
    have hg1 := hb1.size
    go_wp2_with (first | (go_at_call 18; refine (HI.out _).mono ?_; rintro e w9 ⟨rfl, hb9⟩; have hY9 : Hid _ := blk hY.out hb9) | (refine wpList_store_row rfl 33 (.tmp 4) (.tmp 18) rfl (w.heap.size + 1) #[.int .i64 0, .slice none 0 0, .slice none 0 0, .slice none 0 0, .int .i64 0, .int .i64 1] rfl rfl _ _ hY9.out (by kernel_rfl) rfl (by simp [Value.oneCell']) ?_))
    go_wp2
    have hYf := setRow_heap _ (w.heap.size + 1) _ #[.int .i64 0, .slice none 0 0, .slice none 0 0, .slice none 0 0, .int .i64 0, .int .i64 1] _ _ hY9.out
    have hAf : Below w.heap.size w (w9.setRow (w.heap.size + 1) #[.int .i64 0, .slice none 0 0, .slice none 0 0, .slice none 0 0, .int .i64 0, .int .i64 1]) := rcBelow_setRow (keepB hA (Nat.le_refl _) hb9) (by omega) _
    exact bodyPost_ret (v := .agg #[.int .i64 0, .slice none 0 0, .slice none 0 0, .slice none 0 0, .int .i64 0, .int .i64 1]) (results_cell_row Try.results6 _ _ (w.heap.size + 1) _ _ _ _ rfl hYf Try.underlying33 rfl (by kernel_rfl)) rfl ⟨rfl, hAf⟩
  | true =>
    rw [hr] at HR
    cases hB : bodyB ask with
    | true => exact absurd ⟨hr, hB⟩ hn
    | false =>
    rw [hB] at HF
    go_enter Try.func6, Try.ntmps6
    go_upto_region 1 with fail
    have hX := hX0
    have hY := hY0
    have hA := hA0
    generalize (w.alloc (.cells #[.int .i64 s.nx, .slice p1 s.op.length c1, .slice p2 s.dn.length c2] 30)).alloc (.cells #[.int .i64 0, .slice none 0 0, .slice none 0 0, .slice none 0 0, .int .i64 0, .int .i64 0] 33) = A at hX hY hA e2 ⊢
    clear hX0 hY0 hA0
    have g2 : w.heap.size + 1 + 1 ≤ A.heap.size := by omega
    clear e2
    have x0 := cellW hX.out 0 _ rfl A (Below.refl _ _)
    have x1 := cellW hX.out 1 _ rfl A (Below.refl _ _)
    have x2 := cellW hX.out 2 _ rfl A (Below.refl _ _)
    go_upto_region 4 with (first | (go_at_call 19; refine (HR.out _ hA).mono ?_; rintro e w1 ⟨rfl, hb1⟩) | (go_at_call 20; refine (HF.out _).mono ?_; rintro e w2 ⟨rfl, rfl⟩))
    replace hY : Hid _ := blk hY.out hb1
    replace hA : Below w.heap.size w w1 := keepB hA (Nat.le_refl _) hb1
    have hg1 := hb1.size
    go_wp2_with (first | (go_at_call 18; refine (HI.out _).mono ?_; rintro e w9 ⟨rfl, hb9⟩; have hY9 : Hid _ := blk hY.out hb9) | (refine wpList_store_row rfl 33 (.tmp 4) (.tmp 18) rfl (w.heap.size + 1) #[.int .i64 0, .slice none 0 0, .slice none 0 0, .slice none 0 0, .int .i64 0, .int .i64 1] rfl rfl _ _ hY9.out (by kernel_rfl) rfl (by simp [Value.oneCell']) ?_))
    go_wp2
    have hYf := setRow_heap _ (w.heap.size + 1) _ #[.int .i64 0, .slice none 0 0, .slice none 0 0, .slice none 0 0, .int .i64 0, .int .i64 1] _ _ hY9.out
    have hAf : Below w.heap.size w (w9.setRow (w.heap.size + 1) #[.int .i64 0, .slice none 0 0, .slice none 0 0, .slice none 0 0, .int .i64 0, .int .i64 1]) := rcBelow_setRow (keepB hA (Nat.le_refl _) hb9) (by omega) _
    exact bodyPost_ret (v := .agg #[.int .i64 0, .slice none 0 0, .slice none 0 0, .slice none 0 0, .int .i64 0, .int .i64 1]) (results_cell_row Try.results6 _ _ (w.heap.size + 1) _ _ _ _ rfl hYf Try.underlying33 rfl (by kernel_rfl)) rfl ⟨rfl, hAf⟩
set_option maxRecDepth 100000 in
set_option maxHeartbeats 6400000 in
theorem specIssue9 (s : Mst) (v1 v2 : Value) (ask : ByteArray) (w : World) (ht : s.tot ≤ 1048576) (hask : ask.size ≤ maxLen) (h : RowMst w v1 v2 s) (h8 : ¬ 8000 < ask.size) (hr : s.right = true) (hB : bodyB ask = true) (hfu : fullB s = true) :
    Calls Try.prog 6 #[.agg #[.int .i64 s.nx, v1, v2], .string ask] w fun e w' => e = .returned (.agg #[.int .i64 0, .slice none 0 0, .slice none 0 0, .slice none 0 0, .int .i64 0, .int .i64 9]) ∧ Below w.heap.size w w' := by
  have HI : Hid (∀ W, Calls Try.prog 18 #[.int .i64 9] W fun e w' => e = .returned (.agg #[.int .i64 0, .slice none 0 0, .slice none 0 0, .slice none 0 0, .int .i64 0, .int .i64 9]) ∧ Below W.heap.size W w') := fun W => l09Ill_any 9 W
  have q1 := csum_pos Wt.sz s.op
  have q3 := csum_pos Dn.sz s.dn
  have b1 : s.op.length ≤ 1048576 := by unfold Mst.tot at ht; omega
  have b2 : s.dn.length ≤ 1048576 := by unfold Mst.tot at ht; omega
  clear q1 q3
  have HR : Hid (∀ W, Below w.heap.size w W → Calls Try.prog 19 #[.agg #[.int .i64 s.nx, v1, v2]] W fun e w' => e = .returned (.bool s.right) ∧ Below W.heap.size W w') := fun W hW => specMasterRight_any s v1 v2 W ht (h.below hW)
  have HF : Hid (∀ W, Calls Try.prog 20 #[.string ask] W fun e w' => e = .returned (.bool (bodyB ask)) ∧ W = w') := fun W => l09Body_any ask W hask
  obtain ⟨⟨p1, c1, rfl, _⟩, ⟨p2, c2, rfl, _⟩⟩ := h
  clear ht
  have hm := hask
  unfold maxLen at hm
  have hX0 : Hid _ := blk (heap_alloc_new w (.cells #[.int .i64 s.nx, .slice p1 s.op.length c1, .slice p2 s.dn.length c2] 30)) (all_alloc _ (.cells #[.int .i64 0, .slice none 0 0, .slice none 0 0, .slice none 0 0, .int .i64 0, .int .i64 0] 33))
  have hY0 : Hid _ := heap_alloc_new (w.alloc (.cells #[.int .i64 s.nx, .slice p1 s.op.length c1, .slice p2 s.dn.length c2] 30)) (.cells #[.int .i64 0, .slice none 0 0, .slice none 0 0, .slice none 0 0, .int .i64 0, .int .i64 0] 33)
  have hA0 : Below w.heap.size w ((w.alloc (.cells #[.int .i64 s.nx, .slice p1 s.op.length c1, .slice p2 s.dn.length c2] 30)).alloc (.cells #[.int .i64 0, .slice none 0 0, .slice none 0 0, .slice none 0 0, .int .i64 0, .int .i64 0] 33)) := keepB (all_alloc w _) (Nat.le_refl _) (all_alloc _ _)
  have e2 : ((w.alloc (.cells #[.int .i64 s.nx, .slice p1 s.op.length c1, .slice p2 s.dn.length c2] 30)).alloc (.cells #[.int .i64 0, .slice none 0 0, .slice none 0 0, .slice none 0 0, .int .i64 0, .int .i64 0] 33)).heap.size = w.heap.size + 1 + 1 := by simp
  rw [show (w.alloc (.cells #[.int .i64 s.nx, .slice p1 s.op.length c1, .slice p2 s.dn.length c2] 30)).heap.size = w.heap.size + 1 by simp] at hY0
  rw [hr] at HR
  rw [hB] at HF
  have hws : IntKind.i64.wrap ((s.op.length : Int) + (s.dn.length : Int)) = (s.op.length : Int) + (s.dn.length : Int) := by
    have := wrapM (s.op.length + s.dn.length) (by omega)
    simpa using this
  by_cases h1 : 3 ≤ s.op.length
  · have h1' : (3 : Int) ≤ (s.op.length : Int) := by omega
    clear hfu h1
    go_enter Try.func6, Try.ntmps6
    go_upto_region 1 with fail
    have hX := hX0
    have hY := hY0
    have hA := hA0
    generalize (w.alloc (.cells #[.int .i64 s.nx, .slice p1 s.op.length c1, .slice p2 s.dn.length c2] 30)).alloc (.cells #[.int .i64 0, .slice none 0 0, .slice none 0 0, .slice none 0 0, .int .i64 0, .int .i64 0] 33) = A at hX hY hA e2 ⊢
    clear hX0 hY0 hA0
    have g2 : w.heap.size + 1 + 1 ≤ A.heap.size := by omega
    clear e2
    have x0 := cellW hX.out 0 _ rfl A (Below.refl _ _)
    have x1 := cellW hX.out 1 _ rfl A (Below.refl _ _)
    have x2 := cellW hX.out 2 _ rfl A (Below.refl _ _)
    go_upto_region 5 with (first | (go_at_call 19; refine (HR.out _ hA).mono ?_; rintro e w1 ⟨rfl, hb1⟩; have x0' := cellW hX.out 0 _ rfl w1 hb1; have x1' := cellW hX.out 1 _ rfl w1 hb1; have x2' := cellW hX.out 2 _ rfl w1 hb1) | (go_at_call 20; refine (HF.out _).mono ?_; rintro e w2 ⟨rfl, rfl⟩))
    replace hY : Hid _ := blk hY.out hb1
    replace hA : Below w.heap.size w w1 := keepB hA (Nat.le_refl _) hb1
    have hg1 := hb1.size
    go_wp2_with (first | (go_at_call 18; refine (HI.out _).mono ?_; rintro e w9 ⟨rfl, hb9⟩; have hY9 : Hid _ := blk hY.out hb9) | (refine wpList_store_row rfl 33 (.tmp 4) (.tmp 38) rfl (w.heap.size + 1) #[.int .i64 0, .slice none 0 0, .slice none 0 0, .slice none 0 0, .int .i64 0, .int .i64 9] rfl rfl _ _ hY9.out (by kernel_rfl) rfl (by simp [Value.oneCell']) ?_))
    go_wp2
    have hYf := setRow_heap _ (w.heap.size + 1) _ #[.int .i64 0, .slice none 0 0, .slice none 0 0, .slice none 0 0, .int .i64 0, .int .i64 9] _ _ hY9.out
    have hAf : Below w.heap.size w (w9.setRow (w.heap.size + 1) #[.int .i64 0, .slice none 0 0, .slice none 0 0, .slice none 0 0, .int .i64 0, .int .i64 9]) := rcBelow_setRow (keepB hA (Nat.le_refl _) hb9) (by omega) _
    exact bodyPost_ret (v := .agg #[.int .i64 0, .slice none 0 0, .slice none 0 0, .slice none 0 0, .int .i64 0, .int .i64 9]) (results_cell_row Try.results6 _ _ (w.heap.size + 1) _ _ _ _ rfl hYf Try.underlying33 rfl (by kernel_rfl)) rfl ⟨rfl, hAf⟩
  · have h1' : ¬ (3 : Int) ≤ (s.op.length : Int) := by omega
    by_cases h2 : 20 ≤ s.op.length + s.dn.length
    · have h2' : (20 : Int) ≤ (s.op.length : Int) + (s.dn.length : Int) := by omega
      clear hfu h1 h2
      go_enter Try.func6, Try.ntmps6
      go_upto_region 1 with fail
      have hX := hX0
      have hY := hY0
      have hA := hA0
      generalize (w.alloc (.cells #[.int .i64 s.nx, .slice p1 s.op.length c1, .slice p2 s.dn.length c2] 30)).alloc (.cells #[.int .i64 0, .slice none 0 0, .slice none 0 0, .slice none 0 0, .int .i64 0, .int .i64 0] 33) = A at hX hY hA e2 ⊢
      clear hX0 hY0 hA0
      have g2 : w.heap.size + 1 + 1 ≤ A.heap.size := by omega
      clear e2
      have x0 := cellW hX.out 0 _ rfl A (Below.refl _ _)
      have x1 := cellW hX.out 1 _ rfl A (Below.refl _ _)
      have x2 := cellW hX.out 2 _ rfl A (Below.refl _ _)
      go_upto_region 5 with (first | (go_at_call 19; refine (HR.out _ hA).mono ?_; rintro e w1 ⟨rfl, hb1⟩; have x0' := cellW hX.out 0 _ rfl w1 hb1; have x1' := cellW hX.out 1 _ rfl w1 hb1; have x2' := cellW hX.out 2 _ rfl w1 hb1) | (go_at_call 20; refine (HF.out _).mono ?_; rintro e w2 ⟨rfl, rfl⟩))
      replace hY : Hid _ := blk hY.out hb1
      replace hA : Below w.heap.size w w1 := keepB hA (Nat.le_refl _) hb1
      have hg1 := hb1.size
      go_wp2_with (first | (go_at_call 18; refine (HI.out _).mono ?_; rintro e w9 ⟨rfl, hb9⟩; have hY9 : Hid _ := blk hY.out hb9) | (refine wpList_store_row rfl 33 (.tmp 4) (.tmp 38) rfl (w.heap.size + 1) #[.int .i64 0, .slice none 0 0, .slice none 0 0, .slice none 0 0, .int .i64 0, .int .i64 9] rfl rfl _ _ hY9.out (by kernel_rfl) rfl (by simp [Value.oneCell']) ?_))
      go_wp2
      have hYf := setRow_heap _ (w.heap.size + 1) _ #[.int .i64 0, .slice none 0 0, .slice none 0 0, .slice none 0 0, .int .i64 0, .int .i64 9] _ _ hY9.out
      have hAf : Below w.heap.size w (w9.setRow (w.heap.size + 1) #[.int .i64 0, .slice none 0 0, .slice none 0 0, .slice none 0 0, .int .i64 0, .int .i64 9]) := rcBelow_setRow (keepB hA (Nat.le_refl _) hb9) (by omega) _
      exact bodyPost_ret (v := .agg #[.int .i64 0, .slice none 0 0, .slice none 0 0, .slice none 0 0, .int .i64 0, .int .i64 9]) (results_cell_row Try.results6 _ _ (w.heap.size + 1) _ _ _ _ rfl hYf Try.underlying33 rfl (by kernel_rfl)) rfl ⟨rfl, hAf⟩
    · have h2' : ¬ (20 : Int) ≤ (s.op.length : Int) + (s.dn.length : Int) := by omega
      have h3 : 1000000 ≤ s.nx := by
        unfold fullB at hfu
        rw [decide_eq_false h1, decide_eq_false h2] at hfu
        simpa using hfu
      clear hfu h1 h2
      go_enter Try.func6, Try.ntmps6
      go_upto_region 1 with fail
      have hX := hX0
      have hY := hY0
      have hA := hA0
      generalize (w.alloc (.cells #[.int .i64 s.nx, .slice p1 s.op.length c1, .slice p2 s.dn.length c2] 30)).alloc (.cells #[.int .i64 0, .slice none 0 0, .slice none 0 0, .slice none 0 0, .int .i64 0, .int .i64 0] 33) = A at hX hY hA e2 ⊢
      clear hX0 hY0 hA0
      have g2 : w.heap.size + 1 + 1 ≤ A.heap.size := by omega
      clear e2
      have x0 := cellW hX.out 0 _ rfl A (Below.refl _ _)
      have x1 := cellW hX.out 1 _ rfl A (Below.refl _ _)
      have x2 := cellW hX.out 2 _ rfl A (Below.refl _ _)
      go_upto_region 5 with (first | (go_at_call 19; refine (HR.out _ hA).mono ?_; rintro e w1 ⟨rfl, hb1⟩; have x0' := cellW hX.out 0 _ rfl w1 hb1; have x1' := cellW hX.out 1 _ rfl w1 hb1; have x2' := cellW hX.out 2 _ rfl w1 hb1) | (go_at_call 20; refine (HF.out _).mono ?_; rintro e w2 ⟨rfl, rfl⟩))
      replace hY : Hid _ := blk hY.out hb1
      replace hA : Below w.heap.size w w1 := keepB hA (Nat.le_refl _) hb1
      have hg1 := hb1.size
      go_wp2_with (first | (go_at_call 18; refine (HI.out _).mono ?_; rintro e w9 ⟨rfl, hb9⟩; have hY9 : Hid _ := blk hY.out hb9) | (refine wpList_store_row rfl 33 (.tmp 4) (.tmp 38) rfl (w.heap.size + 1) #[.int .i64 0, .slice none 0 0, .slice none 0 0, .slice none 0 0, .int .i64 0, .int .i64 9] rfl rfl _ _ hY9.out (by kernel_rfl) rfl (by simp [Value.oneCell']) ?_))
      go_wp2
      have hYf := setRow_heap _ (w.heap.size + 1) _ #[.int .i64 0, .slice none 0 0, .slice none 0 0, .slice none 0 0, .int .i64 0, .int .i64 9] _ _ hY9.out
      have hAf : Below w.heap.size w (w9.setRow (w.heap.size + 1) #[.int .i64 0, .slice none 0 0, .slice none 0 0, .slice none 0 0, .int .i64 0, .int .i64 9]) := rcBelow_setRow (keepB hA (Nat.le_refl _) hb9) (by omega) _
      exact bodyPost_ret (v := .agg #[.int .i64 0, .slice none 0 0, .slice none 0 0, .slice none 0 0, .int .i64 0, .int .i64 9]) (results_cell_row Try.results6 _ _ (w.heap.size + 1) _ _ _ _ rfl hYf Try.underlying33 rfl (by kernel_rfl)) rfl ⟨rfl, hAf⟩
end Go.Proofs.Ytghchcipobcpjaa
