/- A SLAVE: counted, copied and held against another by the law itself. Written by mkslv.py. -/
import Derived.Test.YtineecongiplgaaMsP
import Derived.Test.YtineecongiplgaaTabL
import Derived.Test.YtineecongiplgaaLoadR
namespace Go.Proofs.Ytineecongiplgaa
open Go.RowKit
set_option linter.unusedVariables false
set_option linter.unusedSimpArgs false

/-- a slave's three lists in memory, to be read -/
structure RowSlv (w : World) (v1 v2 v3 : Value) (s : Slv) : Prop where
  c : RowI w v1 s.t.cs
  r : RowI w v2 s.t.rs
  d : RowD w v3 s.cs
theorem RowSlv.below {w w' : World} {v1 v2 v3 : Value} {s : Slv} (h : RowSlv w v1 v2 v3 s) (hb : Below w.heap.size w w') : RowSlv w' v1 v2 v3 s := ⟨h.c.below hb, h.r.below hb, RowC.below h.d hb⟩
/-- a slave's own lists: the table's below a mark, the answers between it and a top -/
structure OwnSlv (w : World) (base top : Nat) (v1 v2 v3 : Value) (s : Slv) : Prop where
  all : ∃ m, base ≤ m ∧ m ≤ top ∧ OwnT w base v1 v2 s.t ∧ (∀ k, (v1.ownBlock = some k ∨ v2.ownBlock = some k) → k < m) ∧ OwnD w m top v3 s.cs
theorem OwnSlv.row {w : World} {base top : Nat} {v1 v2 v3 : Value} {s : Slv} (h : OwnSlv w base top v1 v2 v3 s) : RowSlv w v1 v2 v3 s := by
  obtain ⟨m, _, _, o1, _, o2⟩ := h.all
  exact ⟨o1.c.row, o1.r.row, OwnC.row o2⟩
theorem OwnSlv.below {w w' : World} {base top : Nat} {v1 v2 v3 : Value} {s : Slv} (h : OwnSlv w base top v1 v2 v3 s) (hb : Below w.heap.size w w') : OwnSlv w' base top v1 v2 v3 s := by
  obtain ⟨m, a, b, o1, l, o2⟩ := h.all
  exact ⟨m, a, b, o1.below hb, l, OwnC.below o2 hb⟩
set_option maxRecDepth 100000 in
set_option maxHeartbeats 1600000 in
theorem szSlave_any (s : Slv) (p1 p2 p3 : Option Addr) (c1 c2 c3 : Nat) (w : World) (i1 : InI w p1 s.t.cs) (i2 : InI w p2 s.t.rs) (i3 : InD w p3 s.cs) :
    Calls Try.prog 32 #[.agg #[.slice p1 s.t.cs.length c1, .slice p2 s.t.rs.length c2, .int .i64 s.lo, .slice p3 s.cs.length c3, .int .i64 s.ru], .int .i64 1048576] w fun x w' => x = .returned (.int .i64 (if s.tot ≤ 1048576 then 1048576 - s.tot else -1)) ∧ Below w.heap.size w w' := by
  have hn1 := i1.1
  have hn2 := i2.1
  have H1 : Hid (∀ W : World, Calls Try.prog 70 #[.agg #[.slice p1 s.t.cs.length c1, .slice p2 s.t.rs.length c2], .int .i64 1048576] W fun x w' => x = .returned (.int .i64 (leftT s.t)) ∧ Below W.heap.size W w') := fun W => szTable_any s.t p1 p2 c1 c2 W hn1 hn2
  have G3 : ∀ L : Int, 0 ≤ L ∧ L ≤ 1048576 → ∀ W : World, Below w.heap.size w W → Calls Try.prog 58 #[.slice p3 s.cs.length c3, .int .i64 L] W fun x w' => x = .returned (.int .i64 (if (s.cs.length : Int) + csum Dn.sz s.cs ≤ L then L - ((s.cs.length : Int) + csum Dn.sz s.cs) else -1)) ∧ Below W.heap.size W w' := fun L hL W hW => szDoneS_any L hL p3 c3 s.cs W (i3.below hW)
  have hp3 := csum_pos Dn.sz s.cs
  clear i1 i2 i3 hn1 hn2
  unfold leftT at H1
  obtain ⟨V, hV⟩ : ∃ V, (if s.tot ≤ 1048576 then 1048576 - s.tot else -1) = V := ⟨_, rfl⟩
  rw [hV]
  unfold Slv.tot at hV
  have hA := all_alloc w (.cells #[.slice p1 s.t.cs.length c1, .slice p2 s.t.rs.length c2, .int .i64 s.lo, .slice p3 s.cs.length c3, .int .i64 s.ru] 59)
  have hX : Hid _ := heap_alloc_new w (.cells #[.slice p1 s.t.cs.length c1, .slice p2 s.t.rs.length c2, .int .i64 s.lo, .slice p3 s.cs.length c3, .int .i64 s.ru] 59)
  generalize csum Dn.sz s.cs = S3 at *
  generalize s.t.cs.length = n1 at *
  generalize s.t.rs.length = n2 at *
  generalize s.cs.length = n3 at *
  generalize e3 : (n3 : Int) + S3 = N3 at *
  have hq3 : 0 ≤ N3 := by omega
  clear e3 hp3
  by_cases h1 : n1 + n2 ≤ 1048576
  · rw [if_pos h1] at H1
    have f1 : ¬ (1048576 : Int) - (n1 : Int) - (n2 : Int) < 0 := by omega
    have H3 : Hid (∀ W : World, Below w.heap.size w W → Calls Try.prog 58 #[.slice p3 n3 c3, .int .i64 (1048576 - (n1 : Int) - (n2 : Int))] W fun x w' => x = .returned (.int .i64 (if N3 ≤ 1048576 - (n1 : Int) - (n2 : Int) then 1048576 - (n1 : Int) - (n2 : Int) - N3 else -1)) ∧ Below W.heap.size W w') := G3 (1048576 - (n1 : Int) - (n2 : Int)) (by omega)
    clear G3
    by_cases h3 : N3 ≤ 1048576 - (n1 : Int) - (n2 : Int)
    · rw [if_pos h3] at H3
      have f3 : ¬ (1048576 : Int) - (n1 : Int) - (n2 : Int) - N3 < 0 := by omega
      obtain rfl : V = 1048576 - (n1 : Int) - (n2 : Int) - N3 := by rw [← hV, if_pos (by omega)]; omega
      clear hV h1 h3
      go_enter Try.func32, Try.ntmps32
      go_upto_region 1 with fail
      generalize w.alloc (.cells #[.slice p1 n1 c1, .slice p2 n2 c2, .int .i64 s.lo, .slice p3 n3 c3, .int .i64 s.ru] 59) = A at hA hX ⊢
      have d0 := cellW hX.out 0 _ rfl A (Below.refl _ _)
      have d1 := cellW hX.out 1 _ rfl A (Below.refl _ _)
      have x3 : Hid _ := cellW hX.out 3 _ rfl
      go_wp2_with (first
        | (go_at_call 70; refine (H1.out _).mono ?_; rintro e w1 ⟨rfl, hb1⟩; have hB1 : Below w.heap.size w w1 := keepB hA (Nat.le_refl _) hb1; have y3 := x3.out w1 hb1)
        | (go_at_call 58; refine (H3.out _ hB1).mono ?_; rintro e w3 ⟨rfl, hb3⟩; have hB3 : Below w.heap.size w w3 := keepB hB1 (Nat.le_refl _) hb3))
      go_ret
      exact ⟨rfl, by first | exact hB3 | exact hB1⟩
    · rw [if_neg h3] at H3
      obtain rfl : V = -1 := by rw [← hV, if_neg (by omega)]
      clear hV h1 h3
      go_enter Try.func32, Try.ntmps32
      go_upto_region 1 with fail
      generalize w.alloc (.cells #[.slice p1 n1 c1, .slice p2 n2 c2, .int .i64 s.lo, .slice p3 n3 c3, .int .i64 s.ru] 59) = A at hA hX ⊢
      have d0 := cellW hX.out 0 _ rfl A (Below.refl _ _)
      have d1 := cellW hX.out 1 _ rfl A (Below.refl _ _)
      have x3 : Hid _ := cellW hX.out 3 _ rfl
      go_wp2_with (first
        | (go_at_call 70; refine (H1.out _).mono ?_; rintro e w1 ⟨rfl, hb1⟩; have hB1 : Below w.heap.size w w1 := keepB hA (Nat.le_refl _) hb1; have y3 := x3.out w1 hb1)
        | (go_at_call 58; refine (H3.out _ hB1).mono ?_; rintro e w3 ⟨rfl, hb3⟩; have hB3 : Below w.heap.size w w3 := keepB hB1 (Nat.le_refl _) hb3))
      go_ret
      exact ⟨rfl, by first | exact hB3 | exact hB1⟩
  · rw [if_neg h1] at H1
    obtain rfl : V = -1 := by rw [← hV, if_neg (by omega)]
    clear hV h1 G3
    go_enter Try.func32, Try.ntmps32
    go_upto_region 1 with fail
    generalize w.alloc (.cells #[.slice p1 n1 c1, .slice p2 n2 c2, .int .i64 s.lo, .slice p3 n3 c3, .int .i64 s.ru] 59) = A at hA hX ⊢
    have d0 := cellW hX.out 0 _ rfl A (Below.refl _ _)
    have d1 := cellW hX.out 1 _ rfl A (Below.refl _ _)
    have x3 : Hid _ := cellW hX.out 3 _ rfl
    go_wp2_with (first
      | (go_at_call 70; refine (H1.out _).mono ?_; rintro e w1 ⟨rfl, hb1⟩; have hB1 : Below w.heap.size w w1 := keepB hA (Nat.le_refl _) hb1; have y3 := x3.out w1 hb1)
      | (go_at_call 58; refine (H3.out _ hB1).mono ?_; rintro e w3 ⟨rfl, hb3⟩; have hB3 : Below w.heap.size w w3 := keepB hB1 (Nat.le_refl _) hb3))
    go_ret
    exact ⟨rfl, by first | exact hB3 | exact hB1⟩
set_option maxRecDepth 100000 in
set_option maxHeartbeats 3200000 in
theorem toSlave_any (s : Slv) (p1 p2 p3 : Option Addr) (c1 c2 c3 : Nat) (w : World) (ht : s.tot ≤ 1048576) (i1 : InI w p1 s.t.cs) (i2 : InI w p2 s.t.rs) (i3 : InD w p3 s.cs) :
    Calls Try.prog 34 #[.agg #[.slice p1 s.t.cs.length c1, .slice p2 s.t.rs.length c2, .int .i64 s.lo, .slice p3 s.cs.length c3, .int .i64 s.ru]] w fun x w' => ∃ v1 v2 v3, x = .returned (.agg #[v1, v2, .int .i64 s.lo, v3, .int .i64 s.ru]) ∧ OwnSlv w' w.heap.size w'.heap.size v1 v2 v3 s ∧ Below w.heap.size w w' := by
  have q3 := csum_pos Dn.sz s.cs
  have hb0 : s.t.cs.length ≤ 1048576 ∧ s.t.rs.length ≤ 1048576 ∧ s.cs.length ≤ 1048576 := by unfold Slv.tot at ht; omega
  have H1 : Hid (∀ W, Below w.heap.size w W → Calls Try.prog 74 #[.agg #[.slice p1 s.t.cs.length c1, .slice p2 s.t.rs.length c2]] W fun x w' => ∃ v1 v2, x = .returned (.agg #[v1, v2]) ∧ OwnT w' W.heap.size v1 v2 s.t ∧ Below W.heap.size W w') := fun W hW => toTable_any s.t p1 p2 c1 c2 W hb0.1 hb0.2.1 (i1.below hW) (i2.below hW)
  have H3 : Hid (∀ W, Below w.heap.size w W → Calls Try.prog 64 #[.slice p3 s.cs.length c3] W fun e w' => ∃ v, e = .returned v ∧ OwnD w' W.heap.size w'.heap.size v s.cs ∧ Below W.heap.size W w') := fun W hW => toDoneS_any p3 c3 s.cs W hb0.2.2 (i3.below hW)
  clear i1 i2 i3 q3 hb0 ht
  have hX0 : Hid _ := blk (blk (heap_alloc_new w (.cells #[.slice p1 s.t.cs.length c1, .slice p2 s.t.rs.length c2, .int .i64 s.lo, .slice p3 s.cs.length c3, .int .i64 s.ru] 59)) (all_alloc _ (.cells #[.slice none 0 0, .slice none 0 0, .int .i64 0, .slice none 0 0, .int .i64 0] 64))) (all_alloc _ (.cells #[.slice none 0 0, .slice none 0 0, .int .i64 0, .slice none 0 0, .int .i64 0] 64))
  have hY0 : Hid _ := blk (heap_alloc_new (w.alloc (.cells #[.slice p1 s.t.cs.length c1, .slice p2 s.t.rs.length c2, .int .i64 s.lo, .slice p3 s.cs.length c3, .int .i64 s.ru] 59)) (.cells #[.slice none 0 0, .slice none 0 0, .int .i64 0, .slice none 0 0, .int .i64 0] 64)) (all_alloc _ (.cells #[.slice none 0 0, .slice none 0 0, .int .i64 0, .slice none 0 0, .int .i64 0] 64))
  have hZ0 : Hid _ := heap_alloc_new ((w.alloc (.cells #[.slice p1 s.t.cs.length c1, .slice p2 s.t.rs.length c2, .int .i64 s.lo, .slice p3 s.cs.length c3, .int .i64 s.ru] 59)).alloc (.cells #[.slice none 0 0, .slice none 0 0, .int .i64 0, .slice none 0 0, .int .i64 0] 64)) (.cells #[.slice none 0 0, .slice none 0 0, .int .i64 0, .slice none 0 0, .int .i64 0] 64)
  have hA : Below w.heap.size w (((w.alloc (.cells #[.slice p1 s.t.cs.length c1, .slice p2 s.t.rs.length c2, .int .i64 s.lo, .slice p3 s.cs.length c3, .int .i64 s.ru] 59)).alloc (.cells #[.slice none 0 0, .slice none 0 0, .int .i64 0, .slice none 0 0, .int .i64 0] 64)).alloc (.cells #[.slice none 0 0, .slice none 0 0, .int .i64 0, .slice none 0 0, .int .i64 0] 64)) := keepB (keepB (all_alloc w _) (Nat.le_refl _) (all_alloc _ _)) (Nat.le_refl _) (all_alloc _ _)
  have e3 : (((w.alloc (.cells #[.slice p1 s.t.cs.length c1, .slice p2 s.t.rs.length c2, .int .i64 s.lo, .slice p3 s.cs.length c3, .int .i64 s.ru] 59)).alloc (.cells #[.slice none 0 0, .slice none 0 0, .int .i64 0, .slice none 0 0, .int .i64 0] 64)).alloc (.cells #[.slice none 0 0, .slice none 0 0, .int .i64 0, .slice none 0 0, .int .i64 0] 64)).heap.size = w.heap.size + 1 + 1 + 1 := by simp
  rw [show (w.alloc (.cells #[.slice p1 s.t.cs.length c1, .slice p2 s.t.rs.length c2, .int .i64 s.lo, .slice p3 s.cs.length c3, .int .i64 s.ru] 59)).heap.size = w.heap.size + 1 by simp] at hY0
  rw [show ((w.alloc (.cells #[.slice p1 s.t.cs.length c1, .slice p2 s.t.rs.length c2, .int .i64 s.lo, .slice p3 s.cs.length c3, .int .i64 s.ru] 59)).alloc (.cells #[.slice none 0 0, .slice none 0 0, .int .i64 0, .slice none 0 0, .int .i64 0] 64)).heap.size = w.heap.size + 1 + 1 by simp] at hZ0
  go_enter Try.func34, Try.ntmps34
  go_upto_region 2 with fail
  have hX := hX0
  have hY := hY0
  have hZ := hZ0
  clear hX0 hY0 hZ0
  generalize ((w.alloc (.cells #[.slice p1 s.t.cs.length c1, .slice p2 s.t.rs.length c2, .int .i64 s.lo, .slice p3 s.cs.length c3, .int .i64 s.ru] 59)).alloc (.cells #[.slice none 0 0, .slice none 0 0, .int .i64 0, .slice none 0 0, .int .i64 0] 64)).alloc (.cells #[.slice none 0 0, .slice none 0 0, .int .i64 0, .slice none 0 0, .int .i64 0] 64) = A0 at hX hY hZ hA e3 ⊢
  have g0 : w.heap.size + 1 + 1 + 1 ≤ A0.heap.size := by omega
  clear e3
  have x0 := cellW hX.out 0 _ rfl A0 (Below.refl _ _)
  have x1 := cellW hX.out 1 _ rfl A0 (Below.refl _ _)
  go_upto_region 3 with (go_at_call 74; refine (H1.out _ hA).mono ?_; rintro e w0 ⟨v1, v2, rfl, own0, hb0⟩; obtain ⟨a0, d0, rfl⟩ := own0.c.shape; obtain ⟨a1, d1, rfl⟩ := own0.r.shape; have hZ' : Hid _ := blk hZ.out hb0; have z0 := cellW hZ'.out 0 _ rfl w0 (Below.refl _ _); have f0 := frozenW hZ'.out 0 w0 (Below.refl _ _); have z1 := cellW hZ'.out 1 _ rfl w0 (Below.refl _ _); have f1 := frozenW hZ'.out 1 w0 (Below.refl _ _))
  have s1 := hb0.size
  have hXn : Hid (((w0.setCell ⟨w.heap.size + 1 + 1, 0, none⟩ (.slice a0 s.t.cs.length d0)).setCell ⟨w.heap.size + 1 + 1, 1, none⟩ (.slice a1 s.t.rs.length d1)).heap[w.heap.size]? = some (.cells #[.slice p1 s.t.cs.length c1, .slice p2 s.t.rs.length c2, .int .i64 s.lo, .slice p3 s.cs.length c3, .int .i64 s.ru] 59 (0, 0))) := blk_far (a := ⟨w.heap.size + 1 + 1, 1, none⟩) (blk_far (a := ⟨w.heap.size + 1 + 1, 0, none⟩) (blk hX.out hb0) (by simp only; omega) (.slice a0 s.t.cs.length d0)) (by simp only; omega) (.slice a1 s.t.rs.length d1)
  have hYn : Hid (((w0.setCell ⟨w.heap.size + 1 + 1, 0, none⟩ (.slice a0 s.t.cs.length d0)).setCell ⟨w.heap.size + 1 + 1, 1, none⟩ (.slice a1 s.t.rs.length d1)).heap[w.heap.size + 1]? = some (.cells #[.slice none 0 0, .slice none 0 0, .int .i64 0, .slice none 0 0, .int .i64 0] 64 (0, 0))) := blk_far (a := ⟨w.heap.size + 1 + 1, 1, none⟩) (blk_far (a := ⟨w.heap.size + 1 + 1, 0, none⟩) (blk hY.out hb0) (by simp only; omega) (.slice a0 s.t.cs.length d0)) (by simp only; omega) (.slice a1 s.t.rs.length d1)
  have hZn : Hid (((w0.setCell ⟨w.heap.size + 1 + 1, 0, none⟩ (.slice a0 s.t.cs.length d0)).setCell ⟨w.heap.size + 1 + 1, 1, none⟩ (.slice a1 s.t.rs.length d1)).heap[w.heap.size + 1 + 1]? = some (.cells #[.slice a0 s.t.cs.length d0, .slice a1 s.t.rs.length d1, .int .i64 0, .slice none 0 0, .int .i64 0] 64 (0, 0))) := blk_set (blk_set (blk hZ.out hb0) 0 (.slice a0 s.t.cs.length d0)) 1 (.slice a1 s.t.rs.length d1)
  have hAn : Below w.heap.size w ((w0.setCell ⟨w.heap.size + 1 + 1, 0, none⟩ (.slice a0 s.t.cs.length d0)).setCell ⟨w.heap.size + 1 + 1, 1, none⟩ (.slice a1 s.t.rs.length d1)) := ((keepB hA (Nat.le_refl _) hb0).setCell (by simp only; omega) _).setCell (by simp only; omega) _
  have o1n : Hid (OwnT ((w0.setCell ⟨w.heap.size + 1 + 1, 0, none⟩ (.slice a0 s.t.cs.length d0)).setCell ⟨w.heap.size + 1 + 1, 1, none⟩ (.slice a1 s.t.rs.length d1)) A0.heap.size (.slice a0 s.t.cs.length d0) (.slice a1 s.t.rs.length d1) s.t) := OwnT.farT (OwnT.farT (own0) (a := ⟨w.heap.size + 1 + 1, 0, none⟩) (by simp only; omega) (.slice a0 s.t.cs.length d0)) (a := ⟨w.heap.size + 1 + 1, 1, none⟩) (by simp only; omega) (.slice a1 s.t.rs.length d1)
  have hq : ((w0.setCell ⟨w.heap.size + 1 + 1, 0, none⟩ (.slice a0 s.t.cs.length d0)).setCell ⟨w.heap.size + 1 + 1, 1, none⟩ (.slice a1 s.t.rs.length d1)).heap.size = w0.heap.size := by simp [World.setCell]
  have g1 : w.heap.size + 1 + 1 + 1 ≤ ((w0.setCell ⟨w.heap.size + 1 + 1, 0, none⟩ (.slice a0 s.t.cs.length d0)).setCell ⟨w.heap.size + 1 + 1, 1, none⟩ (.slice a1 s.t.rs.length d1)).heap.size := by omega
  have hlt : ∀ k, ((Value.slice a0 s.t.cs.length d0).ownBlock = some k ∨ (Value.slice a1 s.t.rs.length d1).ownBlock = some k) → k < w0.heap.size := fun k hk => hk.elim (fun e => (OwnI.lt own0.c k e).2) (fun e => (OwnI.lt own0.r k e).2)
  clear hX hY hZ hA own0 hZ' z0 z1 f0 f1 x0 x1
  generalize ((w0.setCell ⟨w.heap.size + 1 + 1, 0, none⟩ (.slice a0 s.t.cs.length d0)).setCell ⟨w.heap.size + 1 + 1, 1, none⟩ (.slice a1 s.t.rs.length d1)) = A1 at hXn hYn hZn hAn hq g1 o1n ⊢
  have hX := hXn
  have hY := hYn
  have hZ := hZn
  have hA := hAn
  clear hXn hYn hZn hAn
  have o1 := o1n
  clear o1n
  have k1 : w0.heap.size ≤ A1.heap.size := by omega
  have x2 := cellW hX.out 2 _ rfl A1 (Below.refl _ _)
  have z2 := cellW hZ.out 2 _ rfl A1 (Below.refl _ _)
  have f2 := frozenW hZ.out 2 A1 (Below.refl _ _)
  go_upto_region 4 with fail
  have hXn : Hid ((A1.setCell ⟨w.heap.size + 1 + 1, 2, none⟩ (.int .i64 s.lo)).heap[w.heap.size]? = some (.cells #[.slice p1 s.t.cs.length c1, .slice p2 s.t.rs.length c2, .int .i64 s.lo, .slice p3 s.cs.length c3, .int .i64 s.ru] 59 (0, 0))) := blk_far (a := ⟨w.heap.size + 1 + 1, 2, none⟩) (hX.out) (by simp only; omega) (.int .i64 s.lo)
  have hYn : Hid ((A1.setCell ⟨w.heap.size + 1 + 1, 2, none⟩ (.int .i64 s.lo)).heap[w.heap.size + 1]? = some (.cells #[.slice none 0 0, .slice none 0 0, .int .i64 0, .slice none 0 0, .int .i64 0] 64 (0, 0))) := blk_far (a := ⟨w.heap.size + 1 + 1, 2, none⟩) (hY.out) (by simp only; omega) (.int .i64 s.lo)
  have hZn : Hid ((A1.setCell ⟨w.heap.size + 1 + 1, 2, none⟩ (.int .i64 s.lo)).heap[w.heap.size + 1 + 1]? = some (.cells #[.slice a0 s.t.cs.length d0, .slice a1 s.t.rs.length d1, .int .i64 s.lo, .slice none 0 0, .int .i64 0] 64 (0, 0))) := blk_set (hZ.out) 2 (.int .i64 s.lo)
  have hAn : Below w.heap.size w (A1.setCell ⟨w.heap.size + 1 + 1, 2, none⟩ (.int .i64 s.lo)) := (hA).setCell (by simp only; omega) _
  have o1n : Hid (OwnT (A1.setCell ⟨w.heap.size + 1 + 1, 2, none⟩ (.int .i64 s.lo)) A0.heap.size (.slice a0 s.t.cs.length d0) (.slice a1 s.t.rs.length d1) s.t) := OwnT.farT (o1.out) (a := ⟨w.heap.size + 1 + 1, 2, none⟩) (by simp only; omega) (.int .i64 s.lo)
  have hq : (A1.setCell ⟨w.heap.size + 1 + 1, 2, none⟩ (.int .i64 s.lo)).heap.size = A1.heap.size := by simp [World.setCell]
  have g2 : w.heap.size + 1 + 1 + 1 ≤ (A1.setCell ⟨w.heap.size + 1 + 1, 2, none⟩ (.int .i64 s.lo)).heap.size := by omega
  clear hX hY hZ hA o1
  generalize (A1.setCell ⟨w.heap.size + 1 + 1, 2, none⟩ (.int .i64 s.lo)) = A2 at hXn hYn hZn hAn hq g2 o1n ⊢
  have hX := hXn
  have hY := hYn
  have hZ := hZn
  have hA := hAn
  clear hXn hYn hZn hAn
  have o1 := o1n
  clear o1n
  have k2 : A1.heap.size ≤ A2.heap.size := by omega
  clear x2 z2 f2
  have x3 := cellW hX.out 3 _ rfl A2 (Below.refl _ _)
  go_upto_region 5 with (go_at_call 64; refine (H3.out _ hA).mono ?_; rintro e w2 ⟨v, rfl, own2, hb2⟩; obtain ⟨a3, d3, rfl⟩ := OwnC.shape own2; have hZ' : Hid _ := blk hZ.out hb2; have z3 := cellW hZ'.out 3 _ rfl w2 (Below.refl _ _); have f3 := frozenW hZ'.out 3 w2 (Below.refl _ _))
  have s3 := hb2.size
  have hXn : Hid ((w2.setCell ⟨w.heap.size + 1 + 1, 3, none⟩ (.slice a3 s.cs.length d3)).heap[w.heap.size]? = some (.cells #[.slice p1 s.t.cs.length c1, .slice p2 s.t.rs.length c2, .int .i64 s.lo, .slice p3 s.cs.length c3, .int .i64 s.ru] 59 (0, 0))) := blk_far (a := ⟨w.heap.size + 1 + 1, 3, none⟩) (blk hX.out hb2) (by simp only; omega) (.slice a3 s.cs.length d3)
  have hYn : Hid ((w2.setCell ⟨w.heap.size + 1 + 1, 3, none⟩ (.slice a3 s.cs.length d3)).heap[w.heap.size + 1]? = some (.cells #[.slice none 0 0, .slice none 0 0, .int .i64 0, .slice none 0 0, .int .i64 0] 64 (0, 0))) := blk_far (a := ⟨w.heap.size + 1 + 1, 3, none⟩) (blk hY.out hb2) (by simp only; omega) (.slice a3 s.cs.length d3)
  have hZn : Hid ((w2.setCell ⟨w.heap.size + 1 + 1, 3, none⟩ (.slice a3 s.cs.length d3)).heap[w.heap.size + 1 + 1]? = some (.cells #[.slice a0 s.t.cs.length d0, .slice a1 s.t.rs.length d1, .int .i64 s.lo, .slice a3 s.cs.length d3, .int .i64 0] 64 (0, 0))) := blk_set (blk hZ.out hb2) 3 (.slice a3 s.cs.length d3)
  have hAn : Below w.heap.size w (w2.setCell ⟨w.heap.size + 1 + 1, 3, none⟩ (.slice a3 s.cs.length d3)) := (keepB hA (Nat.le_refl _) hb2).setCell (by simp only; omega) _
  have o1n : Hid (OwnT (w2.setCell ⟨w.heap.size + 1 + 1, 3, none⟩ (.slice a3 s.cs.length d3)) A0.heap.size (.slice a0 s.t.cs.length d0) (.slice a1 s.t.rs.length d1) s.t) := OwnT.farT ((o1.out).below hb2) (a := ⟨w.heap.size + 1 + 1, 3, none⟩) (by simp only; omega) (.slice a3 s.cs.length d3)
  have o3n : Hid (OwnD (w2.setCell ⟨w.heap.size + 1 + 1, 3, none⟩ (.slice a3 s.cs.length d3)) A2.heap.size w2.heap.size (.slice a3 s.cs.length d3) s.cs) := OwnC.same (own2) (SameR.far (a := ⟨w.heap.size + 1 + 1, 3, none⟩) (by simp only; omega) (.slice a3 s.cs.length d3)) (by simp [World.setCell])
  have hq : (w2.setCell ⟨w.heap.size + 1 + 1, 3, none⟩ (.slice a3 s.cs.length d3)).heap.size = w2.heap.size := by simp [World.setCell]
  have g3 : w.heap.size + 1 + 1 + 1 ≤ (w2.setCell ⟨w.heap.size + 1 + 1, 3, none⟩ (.slice a3 s.cs.length d3)).heap.size := by omega
  clear hX hY hZ hA o1
  generalize (w2.setCell ⟨w.heap.size + 1 + 1, 3, none⟩ (.slice a3 s.cs.length d3)) = A3 at hXn hYn hZn hAn hq g3 o1n o3n ⊢
  have hX := hXn
  have hY := hYn
  have hZ := hZn
  have hA := hAn
  clear hXn hYn hZn hAn
  have o1 := o1n
  clear o1n
  have o3 := o3n
  clear o3n
  have k3 : w2.heap.size ≤ A3.heap.size := by omega
  clear own2 hZ' z3 f3 x3
  have x4 := cellW hX.out 4 _ rfl A3 (Below.refl _ _)
  have z4 := cellW hZ.out 4 _ rfl A3 (Below.refl _ _)
  have f4 := frozenW hZ.out 4 A3 (Below.refl _ _)
  go_upto_region 6 with fail
  have hXn : Hid ((A3.setCell ⟨w.heap.size + 1 + 1, 4, none⟩ (.int .i64 s.ru)).heap[w.heap.size]? = some (.cells #[.slice p1 s.t.cs.length c1, .slice p2 s.t.rs.length c2, .int .i64 s.lo, .slice p3 s.cs.length c3, .int .i64 s.ru] 59 (0, 0))) := blk_far (a := ⟨w.heap.size + 1 + 1, 4, none⟩) (hX.out) (by simp only; omega) (.int .i64 s.ru)
  have hYn : Hid ((A3.setCell ⟨w.heap.size + 1 + 1, 4, none⟩ (.int .i64 s.ru)).heap[w.heap.size + 1]? = some (.cells #[.slice none 0 0, .slice none 0 0, .int .i64 0, .slice none 0 0, .int .i64 0] 64 (0, 0))) := blk_far (a := ⟨w.heap.size + 1 + 1, 4, none⟩) (hY.out) (by simp only; omega) (.int .i64 s.ru)
  have hZn : Hid ((A3.setCell ⟨w.heap.size + 1 + 1, 4, none⟩ (.int .i64 s.ru)).heap[w.heap.size + 1 + 1]? = some (.cells #[.slice a0 s.t.cs.length d0, .slice a1 s.t.rs.length d1, .int .i64 s.lo, .slice a3 s.cs.length d3, .int .i64 s.ru] 64 (0, 0))) := blk_set (hZ.out) 4 (.int .i64 s.ru)
  have hAn : Below w.heap.size w (A3.setCell ⟨w.heap.size + 1 + 1, 4, none⟩ (.int .i64 s.ru)) := (hA).setCell (by simp only; omega) _
  have o1n : Hid (OwnT (A3.setCell ⟨w.heap.size + 1 + 1, 4, none⟩ (.int .i64 s.ru)) A0.heap.size (.slice a0 s.t.cs.length d0) (.slice a1 s.t.rs.length d1) s.t) := OwnT.farT (o1.out) (a := ⟨w.heap.size + 1 + 1, 4, none⟩) (by simp only; omega) (.int .i64 s.ru)
  have o3n : Hid (OwnD (A3.setCell ⟨w.heap.size + 1 + 1, 4, none⟩ (.int .i64 s.ru)) A2.heap.size w2.heap.size (.slice a3 s.cs.length d3) s.cs) := OwnC.same (o3.out) (SameR.far (a := ⟨w.heap.size + 1 + 1, 4, none⟩) (by simp only; omega) (.int .i64 s.ru)) (by simp [World.setCell])
  have hq : (A3.setCell ⟨w.heap.size + 1 + 1, 4, none⟩ (.int .i64 s.ru)).heap.size = A3.heap.size := by simp [World.setCell]
  have g4 : w.heap.size + 1 + 1 + 1 ≤ (A3.setCell ⟨w.heap.size + 1 + 1, 4, none⟩ (.int .i64 s.ru)).heap.size := by omega
  clear hX hY hZ hA o1 o3
  generalize (A3.setCell ⟨w.heap.size + 1 + 1, 4, none⟩ (.int .i64 s.ru)) = A4 at hXn hYn hZn hAn hq g4 o1n o3n ⊢
  have hX := hXn
  have hY := hYn
  have hZ := hZn
  have hA := hAn
  clear hXn hYn hZn hAn
  have o1 := o1n
  clear o1n
  have o3 := o3n
  clear o3n
  have k4 : A3.heap.size ≤ A4.heap.size := by omega
  clear x4 z4 f4
  go_wp2_with (first
    | (refine wpList_load_rowG (by rfl) 64 (.tmp 3) rfl (w.heap.size + 1 + 1) rfl _ _ _ _ hZ.out Try.underlying64 rfl (by kernel_rfl) ?_)
    | (refine wpList_store_row rfl 64 (.tmp 2) (.tmp 18) rfl (w.heap.size + 1) #[.slice a0 s.t.cs.length d0, .slice a1 s.t.rs.length d1, .int .i64 s.lo, .slice a3 s.cs.length d3, .int .i64 s.ru] rfl rfl _ _ hY.out (by kernel_rfl) rfl (by simp [Value.oneCell']) ?_))
  go_wp2
  have hYf := setRow_heap _ (w.heap.size + 1) _ #[.slice a0 s.t.cs.length d0, .slice a1 s.t.rs.length d1, .int .i64 s.lo, .slice a3 s.cs.length d3, .int .i64 s.ru] _ _ hY.out
  have hAf : Below w.heap.size w (A4.setRow (w.heap.size + 1) #[.slice a0 s.t.cs.length d0, .slice a1 s.t.rs.length d1, .int .i64 s.lo, .slice a3 s.cs.length d3, .int .i64 s.ru]) := ⟨hA.os, hA.tape, hA.output, by rw [setRow_size]; exact hA.size, fun k hk => (setRow_other A4 (w.heap.size + 1) k #[.slice a0 s.t.cs.length d0, .slice a1 s.t.rs.length d1, .int .i64 s.lo, .slice a3 s.cs.length d3, .int .i64 s.ru] (by omega)).trans (hA.block k hk)⟩
  have hSm : ∀ lo hi, w.heap.size + 1 < lo → SameR A4 (A4.setRow (w.heap.size + 1) #[.slice a0 s.t.cs.length d0, .slice a1 s.t.rs.length d1, .int .i64 s.lo, .slice a3 s.cs.length d3, .int .i64 s.ru]) lo hi := fun lo hi h k h1 h2 => setRow_other A4 (w.heap.size + 1) k #[.slice a0 s.t.cs.length d0, .slice a1 s.t.rs.length d1, .int .i64 s.lo, .slice a3 s.cs.length d3, .int .i64 s.ru] (by omega)
  have hTf : OwnT (A4.setRow (w.heap.size + 1) #[.slice a0 s.t.cs.length d0, .slice a1 s.t.rs.length d1, .int .i64 s.lo, .slice a3 s.cs.length d3, .int .i64 s.ru]) A0.heap.size (.slice a0 s.t.cs.length d0) (.slice a1 s.t.rs.length d1) s.t := by
    have hI : ∀ (v : Value) (zs : List Int), OwnI A4 A0.heap.size v zs → OwnI (A4.setRow (w.heap.size + 1) #[.slice a0 s.t.cs.length d0, .slice a1 s.t.rs.length d1, .int .i64 s.lo, .slice a3 s.cs.length d3, .int .i64 s.ru]) A0.heap.size v zs := fun v zs h => by
      refine ⟨h.1, h.2.imp id ?_⟩
      rintro ⟨k, cap, cur, e1, e2, e3⟩
      exact ⟨k, cap, cur, e1, e2, (setRow_other A4 (w.heap.size + 1) k #[.slice a0 s.t.cs.length d0, .slice a1 s.t.rs.length d1, .int .i64 s.lo, .slice a3 s.cs.length d3, .int .i64 s.ru] (by omega)).trans e3.1, e3.2⟩
    exact ⟨hI _ _ o1.out.c, hI _ _ o1.out.r, o1.out.ne⟩
  have hzf : (A4.setRow (w.heap.size + 1) #[.slice a0 s.t.cs.length d0, .slice a1 s.t.rs.length d1, .int .i64 s.lo, .slice a3 s.cs.length d3, .int .i64 s.ru]).heap.size = A4.heap.size := setRow_size _ _ _
  exact bodyPost_ret (v := .agg #[.slice a0 s.t.cs.length d0, .slice a1 s.t.rs.length d1, .int .i64 s.lo, .slice a3 s.cs.length d3, .int .i64 s.ru]) (results_cell_row Try.results34 _ _ (w.heap.size + 1) _ _ _ _ rfl hYf Try.underlying64 rfl (by kernel_rfl)) rfl ⟨_, _, _, rfl, ⟨A2.heap.size, by omega, by omega, OwnT.leT hTf (by omega), fun k hk => by have := hlt k hk; omega, OwnC.wide (OwnC.same o3.out (hSm _ _ (by omega)) (by omega)) (Nat.le_refl _) (by omega) (Nat.le_refl _)⟩, hAf⟩
set_option maxRecDepth 100000 in
set_option maxHeartbeats 3200000 in
theorem eqSlave_same (s : Slv) (v1 v2 v3 u1 u2 u3 : Value) (w : World) (ht : s.tot ≤ 1048576) (h1 : RowSlv w v1 v2 v3 s) (h2 : RowSlv w u1 u2 u3 s) :
    Calls Try.prog 36 #[.agg #[v1, v2, .int .i64 s.lo, v3, .int .i64 s.ru], .agg #[u1, u2, .int .i64 s.lo, u3, .int .i64 s.ru]] w fun e w' => e = .returned (.bool true) ∧ Below w.heap.size w w' := by
  have p3 := csum_pos Dn.sz s.cs
  have hb : s.t.cs.length ≤ 1048576 ∧ s.t.rs.length ≤ 1048576 ∧ s.cs.length ≤ 1048576 := by unfold Slv.tot at ht; omega
  have H1 : Hid (∀ W : World, Below w.heap.size w W → Calls Try.prog 78 #[.agg #[v1, v2], .agg #[u1, u2]] W fun e w' => e = .returned (.bool true) ∧ Below W.heap.size W w') := fun W hW => eqTable_same s.t v1 v2 u1 u2 W (by omega) (by omega) (h1.c.below hW) (h1.r.below hW) (h2.c.below hW) (h2.r.below hW)
  have H3 : Hid (∀ W : World, Below w.heap.size w W → Calls Try.prog 69 #[v3, u3] W fun e w' => e = .returned (.bool true) ∧ Below W.heap.size W w') := fun W hW => eqDoneS_same v3 u3 s.cs W hb.2.2 (RowC.below h1.d hW) (RowC.below h2.d hW)
  have el : (s.lo != s.lo) = false := by simp
  have er : (s.ru != s.ru) = false := by simp
  obtain ⟨⟨a1, c1, rfl, _⟩, ⟨a2, c2, rfl, _⟩, ⟨a3, c3, rfl, _⟩⟩ := h1
  obtain ⟨⟨b1, d1, rfl, _⟩, ⟨b2, d2, rfl, _⟩, ⟨b3, d3, rfl, _⟩⟩ := h2
  clear hb p3 ht
  have hA : Below w.heap.size w _ := keepB (all_alloc w (.cells #[.slice a1 s.t.cs.length c1, .slice a2 s.t.rs.length c2, .int .i64 s.lo, .slice a3 s.cs.length c3, .int .i64 s.ru] 64)) (Nat.le_refl _) (all_alloc _ (.cells #[.slice b1 s.t.cs.length d1, .slice b2 s.t.rs.length d2, .int .i64 s.lo, .slice b3 s.cs.length d3, .int .i64 s.ru] 64))
  have hX : Hid _ := blk (heap_alloc_new w (.cells #[.slice a1 s.t.cs.length c1, .slice a2 s.t.rs.length c2, .int .i64 s.lo, .slice a3 s.cs.length c3, .int .i64 s.ru] 64)) (all_alloc _ (.cells #[.slice b1 s.t.cs.length d1, .slice b2 s.t.rs.length d2, .int .i64 s.lo, .slice b3 s.cs.length d3, .int .i64 s.ru] 64))
  have hY : Hid _ := heap_alloc_new (w.alloc (.cells #[.slice a1 s.t.cs.length c1, .slice a2 s.t.rs.length c2, .int .i64 s.lo, .slice a3 s.cs.length c3, .int .i64 s.ru] 64)) (.cells #[.slice b1 s.t.cs.length d1, .slice b2 s.t.rs.length d2, .int .i64 s.lo, .slice b3 s.cs.length d3, .int .i64 s.ru] 64)
  rw [show (w.alloc (.cells #[.slice a1 s.t.cs.length c1, .slice a2 s.t.rs.length c2, .int .i64 s.lo, .slice a3 s.cs.length c3, .int .i64 s.ru] 64)).heap.size = w.heap.size + 1 by simp] at hY
  go_enter Try.func36, Try.ntmps36
  go_upto_region 1 with fail
  generalize (w.alloc (.cells #[.slice a1 s.t.cs.length c1, .slice a2 s.t.rs.length c2, .int .i64 s.lo, .slice a3 s.cs.length c3, .int .i64 s.ru] 64)).alloc (.cells #[.slice b1 s.t.cs.length d1, .slice b2 s.t.rs.length d2, .int .i64 s.lo, .slice b3 s.cs.length d3, .int .i64 s.ru] 64) = A at hA hX hY ⊢
  have xa0 := cellW hX.out 0 _ rfl A (Below.refl _ _)
  have xb0 := cellW hY.out 0 _ rfl A (Below.refl _ _)
  have xa1 := cellW hX.out 1 _ rfl A (Below.refl _ _)
  have xb1 := cellW hY.out 1 _ rfl A (Below.refl _ _)
  have xa2 : Hid _ := cellW hX.out 2 _ rfl
  have xb2 : Hid _ := cellW hY.out 2 _ rfl
  have xa3 : Hid _ := cellW hX.out 3 _ rfl
  have xb3 : Hid _ := cellW hY.out 3 _ rfl
  have xa4 : Hid _ := cellW hX.out 4 _ rfl
  have xb4 : Hid _ := cellW hY.out 4 _ rfl
  go_wp2_with (first
    | (go_at_call 78; refine (H1.out _ hA).mono ?_; rintro e w1 ⟨rfl, hb1⟩; have hB1 := keepB hA (Nat.le_refl _) hb1; have a2' := xa2.out w1 hb1; have b2' := xb2.out w1 hb1; have a3' := xa3.out w1 hb1; have b3' := xb3.out w1 hb1)
    | (go_at_call 69; refine (H3.out _ hB1).mono ?_; rintro e w2 ⟨rfl, hb2⟩; have hB2 := keepB hB1 (Nat.le_refl _) hb2; have a4' := xa4.out w2 (keepB hb1 (Nat.le_refl _) hb2); have b4' := xb4.out w2 (keepB hb1 (Nat.le_refl _) hb2)))
  go_ret
  exact ⟨rfl, hB2⟩
end Go.Proofs.Ytineecongiplgaa
