/- A MASTER: counted, copied and held against another by the law itself. Written by mkmstl.py. -/
import Derived.Test.YtghchcipobcpjaaQtLoadR
import Derived.Test.YtghchcipobcpjaaQtOwnM
namespace Go.Proofs.Ytghchcipobcpjaa
open Go.RowKit
set_option linter.unusedVariables false
set_option linter.unusedSimpArgs false

structure RowMst (w : World) (v1 v2 : Value) (s : Mst) : Prop where
  o : RowW w v1 s.op
  d : RowD w v2 s.dn
theorem RowMst.below {w w' : World} {v1 v2 : Value} {s : Mst} (h : RowMst w v1 v2 s) (hb : Below w.heap.size w w') : RowMst w' v1 v2 s := ⟨RowC.below h.o hb, RowC.below h.d hb⟩
/-- a master's own lists: what is open below a mark, what is done between it and a top -/
structure OwnMst (w : World) (base top : Nat) (v1 v2 : Value) (s : Mst) : Prop where
  all : ∃ m, base ≤ m ∧ m ≤ top ∧ OwnW w base m v1 s.op ∧ OwnD w m top v2 s.dn
theorem OwnMst.row {w : World} {base top : Nat} {v1 v2 : Value} {s : Mst} (h : OwnMst w base top v1 v2 s) : RowMst w v1 v2 s := by
  obtain ⟨m, _, _, o1, o2⟩ := h.all
  exact ⟨OwnC.row o1, OwnC.row o2⟩
theorem OwnMst.same {w w' : World} {base top : Nat} {v1 v2 : Value} {s : Mst} (h : OwnMst w base top v1 v2 s) (hs : SameR w w' base top) (hz : w.heap.size ≤ w'.heap.size) : OwnMst w' base top v1 v2 s := by
  obtain ⟨m, a, b, o1, o2⟩ := h.all
  exact ⟨m, a, b, OwnC.same o1 (hs.mono (Nat.le_refl _) b) hz, OwnC.same o2 (hs.mono a (Nat.le_refl _)) hz⟩
theorem OwnMst.le {w : World} {base top : Nat} {v1 v2 : Value} {s : Mst} (h : OwnMst w base top v1 v2 s) : top ≤ w.heap.size := by
  obtain ⟨m, a, b, o1, o2⟩ := h.all
  exact o2.1
theorem OwnMst.below {w w' : World} {base top : Nat} {v1 v2 : Value} {s : Mst} (h : OwnMst w base top v1 v2 s) (hb : Below w.heap.size w w') : OwnMst w' base top v1 v2 s := h.same (SameR.below hb h.le) hb.size
set_option maxRecDepth 100000 in
set_option maxHeartbeats 1600000 in
theorem szMaster_any (s : Mst) (p1 p2 : Option Addr) (c1 c2 : Nat) (w : World) (i1 : InW w p1 s.op) (i2 : InD w p2 s.dn) :
    Calls Try.prog 5 #[.agg #[.int .i64 s.nx, .slice p1 s.op.length c1, .slice p2 s.dn.length c2], .int .i64 1048576] w fun x w' => x = .returned (.int .i64 (if s.tot ≤ 1048576 then 1048576 - s.tot else -1)) ∧ Below w.heap.size w w' := by
  have H1 : Hid (∀ W : World, Below w.heap.size w W → Calls Try.prog 16 #[.slice p1 s.op.length c1, .int .i64 1048576] W fun x w' => x = .returned (.int .i64 (if (s.op.length : Int) + csum Wt.sz s.op ≤ 1048576 then 1048576 - ((s.op.length : Int) + csum Wt.sz s.op) else -1)) ∧ Below W.heap.size W w') := fun W hW => szWaitS_any 1048576 (by omega) p1 c1 s.op W (i1.below hW)
  have G3 : ∀ L : Int, 0 ≤ L ∧ L ≤ 1048576 → ∀ W : World, Below w.heap.size w W → Calls Try.prog 17 #[.slice p2 s.dn.length c2, .int .i64 L] W fun x w' => x = .returned (.int .i64 (if (s.dn.length : Int) + csum Dn.sz s.dn ≤ L then L - ((s.dn.length : Int) + csum Dn.sz s.dn) else -1)) ∧ Below W.heap.size W w' := fun L hL W hW => szDoneS_any L hL p2 c2 s.dn W (i2.below hW)
  have hp1 := csum_pos Wt.sz s.op
  have hp3 := csum_pos Dn.sz s.dn
  clear i1 i2
  obtain ⟨V, hV⟩ : ∃ V, (if s.tot ≤ 1048576 then 1048576 - s.tot else -1) = V := ⟨_, rfl⟩
  rw [hV]
  unfold Mst.tot at hV
  have hA := all_alloc w (.cells #[.int .i64 s.nx, .slice p1 s.op.length c1, .slice p2 s.dn.length c2] 25)
  have hX : Hid _ := heap_alloc_new w (.cells #[.int .i64 s.nx, .slice p1 s.op.length c1, .slice p2 s.dn.length c2] 25)
  generalize csum Wt.sz s.op = S1 at *
  generalize csum Dn.sz s.dn = S3 at *
  generalize s.op.length = n1 at *
  generalize s.dn.length = n3 at *
  generalize e1 : (n1 : Int) + S1 = N1 at *
  generalize e3 : (n3 : Int) + S3 = N3 at *
  have hq1 : 0 ≤ N1 := by omega
  have hq3 : 0 ≤ N3 := by omega
  clear e1 e3 hp1 hp3
  by_cases h1 : N1 ≤ 1048576
  · rw [if_pos h1] at H1
    have f1 : ¬ (1048576 : Int) - N1 < 0 := by omega
    have H3 : Hid (∀ W : World, Below w.heap.size w W → Calls Try.prog 17 #[.slice p2 n3 c2, .int .i64 (1048576 - N1)] W fun x w' => x = .returned (.int .i64 (if N3 ≤ 1048576 - N1 then 1048576 - N1 - N3 else -1)) ∧ Below W.heap.size W w') := G3 (1048576 - N1) (by omega)
    clear G3
    by_cases h3 : N3 ≤ 1048576 - N1
    · rw [if_pos h3] at H3
      have f3 : ¬ (1048576 : Int) - N1 - N3 < 0 := by omega
      obtain rfl : V = 1048576 - N1 - N3 := by rw [← hV, if_pos (by omega)]; omega
      clear hV h1 h3
      go_enter Try.func5, Try.ntmps5
      go_upto_region 1 with fail
      generalize w.alloc (.cells #[.int .i64 s.nx, .slice p1 n1 c1, .slice p2 n3 c2] 25) = A at hA hX ⊢
      have d1 := cellW hX.out 1 _ rfl A (Below.refl _ _)
      have x2 : Hid _ := cellW hX.out 2 _ rfl
      go_wp2_with (first
        | (go_at_call 16; refine (H1.out _ hA).mono ?_; rintro e w1 ⟨rfl, hb1⟩; have hB1 : Below w.heap.size w w1 := keepB hA (Nat.le_refl _) hb1; have y2 := x2.out w1 hb1)
        | (go_at_call 17; refine (H3.out _ hB1).mono ?_; rintro e w3 ⟨rfl, hb3⟩; have hB3 : Below w.heap.size w w3 := keepB hB1 (Nat.le_refl _) hb3))
      go_ret
      exact ⟨rfl, by first | exact hB3 | exact hB1⟩
    · rw [if_neg h3] at H3
      obtain rfl : V = -1 := by rw [← hV, if_neg (by omega)]
      clear hV h1 h3
      go_enter Try.func5, Try.ntmps5
      go_upto_region 1 with fail
      generalize w.alloc (.cells #[.int .i64 s.nx, .slice p1 n1 c1, .slice p2 n3 c2] 25) = A at hA hX ⊢
      have d1 := cellW hX.out 1 _ rfl A (Below.refl _ _)
      have x2 : Hid _ := cellW hX.out 2 _ rfl
      go_wp2_with (first
        | (go_at_call 16; refine (H1.out _ hA).mono ?_; rintro e w1 ⟨rfl, hb1⟩; have hB1 : Below w.heap.size w w1 := keepB hA (Nat.le_refl _) hb1; have y2 := x2.out w1 hb1)
        | (go_at_call 17; refine (H3.out _ hB1).mono ?_; rintro e w3 ⟨rfl, hb3⟩; have hB3 : Below w.heap.size w w3 := keepB hB1 (Nat.le_refl _) hb3))
      go_ret
      exact ⟨rfl, by first | exact hB3 | exact hB1⟩
  · rw [if_neg h1] at H1
    obtain rfl : V = -1 := by rw [← hV, if_neg (by omega)]
    clear hV h1 G3
    go_enter Try.func5, Try.ntmps5
    go_upto_region 1 with fail
    generalize w.alloc (.cells #[.int .i64 s.nx, .slice p1 n1 c1, .slice p2 n3 c2] 25) = A at hA hX ⊢
    have d1 := cellW hX.out 1 _ rfl A (Below.refl _ _)
    have x2 : Hid _ := cellW hX.out 2 _ rfl
    go_wp2_with (first
      | (go_at_call 16; refine (H1.out _ hA).mono ?_; rintro e w1 ⟨rfl, hb1⟩; have hB1 : Below w.heap.size w w1 := keepB hA (Nat.le_refl _) hb1; have y2 := x2.out w1 hb1)
      | (go_at_call 17; refine (H3.out _ hB1).mono ?_; rintro e w3 ⟨rfl, hb3⟩; have hB3 : Below w.heap.size w w3 := keepB hB1 (Nat.le_refl _) hb3))
    go_ret
    exact ⟨rfl, by first | exact hB3 | exact hB1⟩
set_option maxRecDepth 100000 in
set_option maxHeartbeats 3200000 in
theorem toMaster_any (s : Mst) (p1 p2 : Option Addr) (c1 c2 : Nat) (w : World) (ht : s.tot ≤ 1048576) (i1 : InW w p1 s.op) (i2 : InD w p2 s.dn) :
    Calls Try.prog 7 #[.agg #[.int .i64 s.nx, .slice p1 s.op.length c1, .slice p2 s.dn.length c2]] w fun x w' => ∃ v1 v2, x = .returned (.agg #[.int .i64 s.nx, v1, v2]) ∧ OwnMst w' w.heap.size w'.heap.size v1 v2 s ∧ Below w.heap.size w w' := by
  have q1 := csum_pos Wt.sz s.op
  have q3 := csum_pos Dn.sz s.dn
  have hb0 : s.op.length ≤ 1048576 ∧ s.dn.length ≤ 1048576 := by unfold Mst.tot at ht; omega
  have H1 : Hid (∀ W, Below w.heap.size w W → Calls Try.prog 23 #[.slice p1 s.op.length c1] W fun e w' => ∃ v, e = .returned v ∧ OwnW w' W.heap.size w'.heap.size v s.op ∧ Below W.heap.size W w') := fun W hW => toWaitS_any p1 c1 s.op W hb0.1 (i1.below hW)
  have H3 : Hid (∀ W, Below w.heap.size w W → Calls Try.prog 24 #[.slice p2 s.dn.length c2] W fun e w' => ∃ v, e = .returned v ∧ OwnD w' W.heap.size w'.heap.size v s.dn ∧ Below W.heap.size W w') := fun W hW => toDoneS_any p2 c2 s.dn W hb0.2 (i2.below hW)
  clear i1 i2 q1 q3 hb0 ht
  have hX0 : Hid _ := blk (blk (heap_alloc_new w (.cells #[.int .i64 s.nx, .slice p1 s.op.length c1, .slice p2 s.dn.length c2] 25)) (all_alloc _ (.cells #[.int .i64 0, .slice none 0 0, .slice none 0 0] 30))) (all_alloc _ (.cells #[.int .i64 0, .slice none 0 0, .slice none 0 0] 30))
  have hY0 : Hid _ := blk (heap_alloc_new (w.alloc (.cells #[.int .i64 s.nx, .slice p1 s.op.length c1, .slice p2 s.dn.length c2] 25)) (.cells #[.int .i64 0, .slice none 0 0, .slice none 0 0] 30)) (all_alloc _ (.cells #[.int .i64 0, .slice none 0 0, .slice none 0 0] 30))
  have hZ0 : Hid _ := heap_alloc_new ((w.alloc (.cells #[.int .i64 s.nx, .slice p1 s.op.length c1, .slice p2 s.dn.length c2] 25)).alloc (.cells #[.int .i64 0, .slice none 0 0, .slice none 0 0] 30)) (.cells #[.int .i64 0, .slice none 0 0, .slice none 0 0] 30)
  have hA : Below w.heap.size w (((w.alloc (.cells #[.int .i64 s.nx, .slice p1 s.op.length c1, .slice p2 s.dn.length c2] 25)).alloc (.cells #[.int .i64 0, .slice none 0 0, .slice none 0 0] 30)).alloc (.cells #[.int .i64 0, .slice none 0 0, .slice none 0 0] 30)) := keepB (keepB (all_alloc w _) (Nat.le_refl _) (all_alloc _ _)) (Nat.le_refl _) (all_alloc _ _)
  have e3 : (((w.alloc (.cells #[.int .i64 s.nx, .slice p1 s.op.length c1, .slice p2 s.dn.length c2] 25)).alloc (.cells #[.int .i64 0, .slice none 0 0, .slice none 0 0] 30)).alloc (.cells #[.int .i64 0, .slice none 0 0, .slice none 0 0] 30)).heap.size = w.heap.size + 1 + 1 + 1 := by simp
  rw [show (w.alloc (.cells #[.int .i64 s.nx, .slice p1 s.op.length c1, .slice p2 s.dn.length c2] 25)).heap.size = w.heap.size + 1 by simp] at hY0
  rw [show ((w.alloc (.cells #[.int .i64 s.nx, .slice p1 s.op.length c1, .slice p2 s.dn.length c2] 25)).alloc (.cells #[.int .i64 0, .slice none 0 0, .slice none 0 0] 30)).heap.size = w.heap.size + 1 + 1 by simp] at hZ0
  go_enter Try.func7, Try.ntmps7
  go_upto_region 2 with fail
  have hX := hX0
  have hY := hY0
  have hZ := hZ0
  clear hX0 hY0 hZ0
  generalize ((w.alloc (.cells #[.int .i64 s.nx, .slice p1 s.op.length c1, .slice p2 s.dn.length c2] 25)).alloc (.cells #[.int .i64 0, .slice none 0 0, .slice none 0 0] 30)).alloc (.cells #[.int .i64 0, .slice none 0 0, .slice none 0 0] 30) = A0 at hX hY hZ hA e3 ⊢
  have g0 : w.heap.size + 1 + 1 + 1 ≤ A0.heap.size := by omega
  clear e3
  have x0 := cellW hX.out 0 _ rfl A0 (Below.refl _ _)
  have z0 := cellW hZ.out 0 _ rfl A0 (Below.refl _ _)
  have f0 := frozenW hZ.out 0 A0 (Below.refl _ _)
  go_upto_region 3 with fail
  have hXn : Hid ((A0.setCell ⟨w.heap.size + 1 + 1, 0, none⟩ (.int .i64 s.nx)).heap[w.heap.size]? = some (.cells #[.int .i64 s.nx, .slice p1 s.op.length c1, .slice p2 s.dn.length c2] 25 (0, 0))) := blk_far (a := ⟨w.heap.size + 1 + 1, 0, none⟩) (hX.out) (by simp only; omega) (.int .i64 s.nx)
  have hYn : Hid ((A0.setCell ⟨w.heap.size + 1 + 1, 0, none⟩ (.int .i64 s.nx)).heap[w.heap.size + 1]? = some (.cells #[.int .i64 0, .slice none 0 0, .slice none 0 0] 30 (0, 0))) := blk_far (a := ⟨w.heap.size + 1 + 1, 0, none⟩) (hY.out) (by simp only; omega) (.int .i64 s.nx)
  have hZn : Hid ((A0.setCell ⟨w.heap.size + 1 + 1, 0, none⟩ (.int .i64 s.nx)).heap[w.heap.size + 1 + 1]? = some (.cells #[.int .i64 s.nx, .slice none 0 0, .slice none 0 0] 30 (0, 0))) := blk_set (hZ.out) 0 (.int .i64 s.nx)
  have hAn : Below w.heap.size w (A0.setCell ⟨w.heap.size + 1 + 1, 0, none⟩ (.int .i64 s.nx)) := (hA).setCell (by simp only; omega) _
  have hq : (A0.setCell ⟨w.heap.size + 1 + 1, 0, none⟩ (.int .i64 s.nx)).heap.size = A0.heap.size := by simp [World.setCell]
  have g1 : w.heap.size + 1 + 1 + 1 ≤ (A0.setCell ⟨w.heap.size + 1 + 1, 0, none⟩ (.int .i64 s.nx)).heap.size := by omega
  clear hX hY hZ hA 
  generalize (A0.setCell ⟨w.heap.size + 1 + 1, 0, none⟩ (.int .i64 s.nx)) = A1 at hXn hYn hZn hAn hq g1  ⊢
  have hX := hXn
  have hY := hYn
  have hZ := hZn
  have hA := hAn
  clear hXn hYn hZn hAn
  have k1 : A0.heap.size ≤ A1.heap.size := by omega
  clear hq
  clear x0 z0 f0
  have x1 := cellW hX.out 1 _ rfl A1 (Below.refl _ _)
  go_upto_region 4 with (go_at_call 23; refine (H1.out _ hA).mono ?_; rintro e w1 ⟨v, rfl, own1, hb1⟩; obtain ⟨a1, d1, rfl⟩ := OwnC.shape own1; have hZ' : Hid _ := blk hZ.out hb1; have z1 := cellW hZ'.out 1 _ rfl w1 (Below.refl _ _); have f1 := frozenW hZ'.out 1 w1 (Below.refl _ _))
  have s2 := hb1.size
  have hXn : Hid ((w1.setCell ⟨w.heap.size + 1 + 1, 1, none⟩ (.slice a1 s.op.length d1)).heap[w.heap.size]? = some (.cells #[.int .i64 s.nx, .slice p1 s.op.length c1, .slice p2 s.dn.length c2] 25 (0, 0))) := blk_far (a := ⟨w.heap.size + 1 + 1, 1, none⟩) (blk hX.out hb1) (by simp only; omega) (.slice a1 s.op.length d1)
  have hYn : Hid ((w1.setCell ⟨w.heap.size + 1 + 1, 1, none⟩ (.slice a1 s.op.length d1)).heap[w.heap.size + 1]? = some (.cells #[.int .i64 0, .slice none 0 0, .slice none 0 0] 30 (0, 0))) := blk_far (a := ⟨w.heap.size + 1 + 1, 1, none⟩) (blk hY.out hb1) (by simp only; omega) (.slice a1 s.op.length d1)
  have hZn : Hid ((w1.setCell ⟨w.heap.size + 1 + 1, 1, none⟩ (.slice a1 s.op.length d1)).heap[w.heap.size + 1 + 1]? = some (.cells #[.int .i64 s.nx, .slice a1 s.op.length d1, .slice none 0 0] 30 (0, 0))) := blk_set (blk hZ.out hb1) 1 (.slice a1 s.op.length d1)
  have hAn : Below w.heap.size w (w1.setCell ⟨w.heap.size + 1 + 1, 1, none⟩ (.slice a1 s.op.length d1)) := (keepB hA (Nat.le_refl _) hb1).setCell (by simp only; omega) _
  have o1n : Hid (OwnW (w1.setCell ⟨w.heap.size + 1 + 1, 1, none⟩ (.slice a1 s.op.length d1)) A1.heap.size w1.heap.size (.slice a1 s.op.length d1) s.op) := OwnC.same (own1) (SameR.far (a := ⟨w.heap.size + 1 + 1, 1, none⟩) (by simp only; omega) (.slice a1 s.op.length d1)) (by simp [World.setCell])
  have hq : (w1.setCell ⟨w.heap.size + 1 + 1, 1, none⟩ (.slice a1 s.op.length d1)).heap.size = w1.heap.size := by simp [World.setCell]
  have g2 : w.heap.size + 1 + 1 + 1 ≤ (w1.setCell ⟨w.heap.size + 1 + 1, 1, none⟩ (.slice a1 s.op.length d1)).heap.size := by omega
  clear hX hY hZ hA 
  generalize (w1.setCell ⟨w.heap.size + 1 + 1, 1, none⟩ (.slice a1 s.op.length d1)) = A2 at hXn hYn hZn hAn hq g2 o1n ⊢
  have hX := hXn
  have hY := hYn
  have hZ := hZn
  have hA := hAn
  clear hXn hYn hZn hAn
  have o1 := o1n
  clear o1n
  have k2 : w1.heap.size ≤ A2.heap.size := by omega
  clear hq
  clear own1 hZ' z1 f1 x1
  have x2 := cellW hX.out 2 _ rfl A2 (Below.refl _ _)
  go_upto_region 5 with (go_at_call 24; refine (H3.out _ hA).mono ?_; rintro e w2 ⟨v, rfl, own2, hb2⟩; obtain ⟨a2, d2, rfl⟩ := OwnC.shape own2; have hZ' : Hid _ := blk hZ.out hb2; have z2 := cellW hZ'.out 2 _ rfl w2 (Below.refl _ _); have f2 := frozenW hZ'.out 2 w2 (Below.refl _ _))
  have s3 := hb2.size
  have hXn : Hid ((w2.setCell ⟨w.heap.size + 1 + 1, 2, none⟩ (.slice a2 s.dn.length d2)).heap[w.heap.size]? = some (.cells #[.int .i64 s.nx, .slice p1 s.op.length c1, .slice p2 s.dn.length c2] 25 (0, 0))) := blk_far (a := ⟨w.heap.size + 1 + 1, 2, none⟩) (blk hX.out hb2) (by simp only; omega) (.slice a2 s.dn.length d2)
  have hYn : Hid ((w2.setCell ⟨w.heap.size + 1 + 1, 2, none⟩ (.slice a2 s.dn.length d2)).heap[w.heap.size + 1]? = some (.cells #[.int .i64 0, .slice none 0 0, .slice none 0 0] 30 (0, 0))) := blk_far (a := ⟨w.heap.size + 1 + 1, 2, none⟩) (blk hY.out hb2) (by simp only; omega) (.slice a2 s.dn.length d2)
  have hZn : Hid ((w2.setCell ⟨w.heap.size + 1 + 1, 2, none⟩ (.slice a2 s.dn.length d2)).heap[w.heap.size + 1 + 1]? = some (.cells #[.int .i64 s.nx, .slice a1 s.op.length d1, .slice a2 s.dn.length d2] 30 (0, 0))) := blk_set (blk hZ.out hb2) 2 (.slice a2 s.dn.length d2)
  have hAn : Below w.heap.size w (w2.setCell ⟨w.heap.size + 1 + 1, 2, none⟩ (.slice a2 s.dn.length d2)) := (keepB hA (Nat.le_refl _) hb2).setCell (by simp only; omega) _
  have o1n : Hid (OwnW (w2.setCell ⟨w.heap.size + 1 + 1, 2, none⟩ (.slice a2 s.dn.length d2)) A1.heap.size w1.heap.size (.slice a1 s.op.length d1) s.op) := OwnC.same (OwnC.below o1.out hb2) (SameR.far (a := ⟨w.heap.size + 1 + 1, 2, none⟩) (by simp only; omega) (.slice a2 s.dn.length d2)) (by simp [World.setCell])
  have o2n : Hid (OwnD (w2.setCell ⟨w.heap.size + 1 + 1, 2, none⟩ (.slice a2 s.dn.length d2)) A2.heap.size w2.heap.size (.slice a2 s.dn.length d2) s.dn) := OwnC.same (own2) (SameR.far (a := ⟨w.heap.size + 1 + 1, 2, none⟩) (by simp only; omega) (.slice a2 s.dn.length d2)) (by simp [World.setCell])
  have hq : (w2.setCell ⟨w.heap.size + 1 + 1, 2, none⟩ (.slice a2 s.dn.length d2)).heap.size = w2.heap.size := by simp [World.setCell]
  have g3 : w.heap.size + 1 + 1 + 1 ≤ (w2.setCell ⟨w.heap.size + 1 + 1, 2, none⟩ (.slice a2 s.dn.length d2)).heap.size := by omega
  clear hX hY hZ hA o1
  generalize (w2.setCell ⟨w.heap.size + 1 + 1, 2, none⟩ (.slice a2 s.dn.length d2)) = A3 at hXn hYn hZn hAn hq g3 o1n o2n ⊢
  have hX := hXn
  have hY := hYn
  have hZ := hZn
  have hA := hAn
  clear hXn hYn hZn hAn
  have o1 := o1n
  clear o1n
  have o2 := o2n
  clear o2n
  have k3 : w2.heap.size ≤ A3.heap.size := by omega
  clear hq
  clear own2 hZ' z2 f2 x2
  go_wp2_with (first
    | (refine wpList_load_rowG (by rfl) 30 (.tmp 3) rfl (w.heap.size + 1 + 1) rfl _ _ _ _ hZ.out Try.underlying30 rfl (by kernel_rfl) ?_)
    | (refine wpList_store_row rfl 30 (.tmp 2) (.tmp 15) rfl (w.heap.size + 1) #[.int .i64 s.nx, .slice a1 s.op.length d1, .slice a2 s.dn.length d2] rfl rfl _ _ hY.out (by kernel_rfl) rfl (by simp [Value.oneCell']) ?_))
  go_wp2
  have hYf := setRow_heap _ (w.heap.size + 1) _ #[.int .i64 s.nx, .slice a1 s.op.length d1, .slice a2 s.dn.length d2] _ _ hY.out
  have hAf : Below w.heap.size w (A3.setRow (w.heap.size + 1) #[.int .i64 s.nx, .slice a1 s.op.length d1, .slice a2 s.dn.length d2]) := rcBelow_setRow hA (by omega) _
  have hSm : ∀ lo hi, w.heap.size + 1 < lo → SameR A3 (A3.setRow (w.heap.size + 1) #[.int .i64 s.nx, .slice a1 s.op.length d1, .slice a2 s.dn.length d2]) lo hi := fun lo hi h k h1 h2 => setRow_other A3 (w.heap.size + 1) k #[.int .i64 s.nx, .slice a1 s.op.length d1, .slice a2 s.dn.length d2] (by omega)
  have hzf : (A3.setRow (w.heap.size + 1) #[.int .i64 s.nx, .slice a1 s.op.length d1, .slice a2 s.dn.length d2]).heap.size = A3.heap.size := setRow_size _ _ _
  exact bodyPost_ret (v := .agg #[.int .i64 s.nx, .slice a1 s.op.length d1, .slice a2 s.dn.length d2]) (results_cell_row Try.results7 _ _ (w.heap.size + 1) _ _ _ _ rfl hYf Try.underlying30 rfl (by kernel_rfl)) rfl ⟨_, _, rfl, ⟨A2.heap.size, by omega, by omega, OwnC.wide (OwnC.same o1.out (hSm _ _ (by omega)) (by omega)) (by omega) (by omega) (by omega), OwnC.wide (OwnC.same o2.out (hSm _ _ (by omega)) (by omega)) (Nat.le_refl _) (by omega) (Nat.le_refl _)⟩, hAf⟩
set_option maxRecDepth 100000 in
set_option maxHeartbeats 3200000 in
theorem eqMaster_same (s : Mst) (v1 v2 u1 u2 : Value) (w : World) (ht : s.tot ≤ 1048576) (h1 : RowMst w v1 v2 s) (h2 : RowMst w u1 u2 s) :
    Calls Try.prog 10 #[.agg #[.int .i64 s.nx, v1, v2], .agg #[.int .i64 s.nx, u1, u2]] w fun e w' => e = .returned (.bool true) ∧ Below w.heap.size w w' := by
  have p1 := csum_pos Wt.sz s.op
  have p3 := csum_pos Dn.sz s.dn
  have hb : s.op.length ≤ 1048576 ∧ s.dn.length ≤ 1048576 := by unfold Mst.tot at ht; omega
  have H1 : Hid (∀ W : World, Below w.heap.size w W → Calls Try.prog 32 #[v1, u1] W fun e w' => e = .returned (.bool true) ∧ Below W.heap.size W w') := fun W hW => eqWaitS_same v1 u1 s.op W hb.1 (RowC.below h1.o hW) (RowC.below h2.o hW)
  have H3 : Hid (∀ W : World, Below w.heap.size w W → Calls Try.prog 33 #[v2, u2] W fun e w' => e = .returned (.bool true) ∧ Below W.heap.size W w') := fun W hW => eqDoneS_same v2 u2 s.dn W hb.2 (RowC.below h1.d hW) (RowC.below h2.d hW)
  have el : (s.nx != s.nx) = false := by simp
  obtain ⟨⟨a1, c1, rfl, _⟩, ⟨a2, c2, rfl, _⟩⟩ := h1
  obtain ⟨⟨b1, d1, rfl, _⟩, ⟨b2, d2, rfl, _⟩⟩ := h2
  clear hb p1 p3 ht
  have hA : Below w.heap.size w _ := keepB (all_alloc w (.cells #[.int .i64 s.nx, .slice a1 s.op.length c1, .slice a2 s.dn.length c2] 30)) (Nat.le_refl _) (all_alloc _ (.cells #[.int .i64 s.nx, .slice b1 s.op.length d1, .slice b2 s.dn.length d2] 30))
  have hX : Hid _ := blk (heap_alloc_new w (.cells #[.int .i64 s.nx, .slice a1 s.op.length c1, .slice a2 s.dn.length c2] 30)) (all_alloc _ (.cells #[.int .i64 s.nx, .slice b1 s.op.length d1, .slice b2 s.dn.length d2] 30))
  have hY : Hid _ := heap_alloc_new (w.alloc (.cells #[.int .i64 s.nx, .slice a1 s.op.length c1, .slice a2 s.dn.length c2] 30)) (.cells #[.int .i64 s.nx, .slice b1 s.op.length d1, .slice b2 s.dn.length d2] 30)
  rw [show (w.alloc (.cells #[.int .i64 s.nx, .slice a1 s.op.length c1, .slice a2 s.dn.length c2] 30)).heap.size = w.heap.size + 1 by simp] at hY
  go_enter Try.func10, Try.ntmps10
  go_upto_region 1 with fail
  generalize (w.alloc (.cells #[.int .i64 s.nx, .slice a1 s.op.length c1, .slice a2 s.dn.length c2] 30)).alloc (.cells #[.int .i64 s.nx, .slice b1 s.op.length d1, .slice b2 s.dn.length d2] 30) = A at hA hX hY ⊢
  have xa0 := cellW hX.out 0 _ rfl A (Below.refl _ _)
  have xb0 := cellW hY.out 0 _ rfl A (Below.refl _ _)
  have xa1 := cellW hX.out 1 _ rfl A (Below.refl _ _)
  have xb1 := cellW hY.out 1 _ rfl A (Below.refl _ _)
  have xa2 : Hid _ := cellW hX.out 2 _ rfl
  have xb2 : Hid _ := cellW hY.out 2 _ rfl
  go_wp2_with (first
    | (go_at_call 32; refine (H1.out _ hA).mono ?_; rintro e w1 ⟨rfl, hb1⟩; have hB1 := keepB hA (Nat.le_refl _) hb1; have a2' := xa2.out w1 hb1; have b2' := xb2.out w1 hb1)
    | (go_at_call 33; refine (H3.out _ hB1).mono ?_; rintro e w2 ⟨rfl, hb2⟩; have hB2 := keepB hB1 (Nat.le_refl _) hb2))
  go_ret
  exact ⟨rfl, hB2⟩
end Go.Proofs.Ytghchcipobcpjaa
