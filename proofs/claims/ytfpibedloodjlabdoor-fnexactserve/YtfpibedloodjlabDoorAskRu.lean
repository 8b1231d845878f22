/- WHAT THE MODEL READS of bytes: l04Read where several registers are set; and at every text. -/
import Derived.Test.YtfpibedloodjlabDoorAskRt
namespace Go.Proofs.YtfpibedloodjlabDoor
open Go.RowKit
set_option linter.unusedVariables false
set_option linter.unusedSimpArgs false

theorem wordsAt_snoc (s : ByteArray) (i j : Nat) : wordsAt s i (j + 1) = wordsAt s i j ++ [wordAt s (i + 2 * j)] := by simp [wordsAt, List.range_succ]
theorem grown_keep {w w' : World} {base X : Nat} {v : Value} {l : List Int} (ho : OwnI w base v l) (hX : X < base) (hl : X < w.heap.size) (gr : w.grownBy w' v.ownBlock) : w'.heap[X]? = w.heap[X]? :=
  gr.block X hl (by intro e; have := (World.ownsRow.lt ho X e.symm).1; omega)
set_option maxRecDepth 100000 in
set_option maxHeartbeats 1600000 in
theorem l04Read_16 (s : ByteArray) (w : World) (h5 : 5 ≤ s.size) (hs : s.size ≤ 8000) (h1 : (byteAt s 0 : Int) = 16) :
    Calls Tryd.prog 51 #[.string s] w fun e w' => ∃ v, e = .returned (.agg #[.int .i64 (readS s).c, .int .i64 (readS s).a, .int .i64 (readS s).m, v]) ∧ OwnI w' w.heap.size v (readS s).vs ∧ Below w.heap.size w w' := by
  have hixK := index_K s (by omega)
  have H1 : Hid (∀ W, Calls Tryd.prog 60 #[.string s, .int .i64 1] W fun e w' => e = .returned (.int .i64 (wordAt s 1)) ∧ Below W.heap.size W w') := fun W => l04Word_any s 1 W hs (by omega)
  have H3 : Hid (∀ W, Calls Tryd.prog 60 #[.string s, .int .i64 3] W fun e w' => e = .returned (.int .i64 (wordAt s 3)) ∧ Below W.heap.size W w') := fun W => l04Word_any s 3 W hs (by omega)
  have hrd : readS s = ⟨(byteAt s 0 : Int), wordAt s 1, wordAt s 3, wordsAt s 6 (min 7 ((s.size - 6) / 2))⟩ := by
    unfold readS
    dsimp only
    rw [if_neg (by omega), if_neg (by omega), if_neg (by omega), if_pos h1]
  rw [hrd]
  have hA := wordAt_range s 1
  have hM := wordAt_range s 3
  have hK := byteAt_range s 0
  obtain ⟨K, eK⟩ : ∃ K, (byteAt s 0 : Int) = K := ⟨_, rfl⟩
  have hK0 : 0 ≤ K := by omega
  have hK1 : K < 256 := by omega
  have ewK : IntKind.i64.wrap K = K := by
    obtain ⟨k, rfl⟩ : ∃ k : Nat, K = (k : Int) := ⟨K.toNat, by omega⟩
    exact wrap64_small k (by omega)
  rw [eK] at hixK h1 ⊢
  clear hrd hK eK
  generalize wordAt s 1 = A at H1 hA ⊢
  generalize wordAt s 3 = M at H3 hM ⊢
  obtain ⟨hA0, hA1⟩ := hA
  obtain ⟨hM0, hM1⟩ := hM
  have e5 : (K == 5) = false := by simp [h1]
  have e6 : (K == 6) = false := by simp [h1]
  have e15 : (K == 15) = false := by simp [h1]
  have e16 : (K == 16) = true := by simp [h1]
  obtain ⟨N, hN⟩ : ∃ N, Hid (min 7 ((s.size - 6) / 2) = N) := ⟨_, show _ = _ from rfl⟩
  rw [hN.out]
  have HWj : Hid (∀ (j : Nat), 6 + 2 * j + 1 < s.size → ∀ W, Calls Tryd.prog 60 #[.string s, .int .i64 (6 + 2 * (j : Int))] W fun e w' => e = .returned (.int .i64 (wordAt s (6 + 2 * j))) ∧ Below W.heap.size W w') := fun j hj W => by
    have := l04Word_any s (6 + 2 * j) W hs hj
    rwa [show ((6 + 2 * j : Nat) : Int) = 6 + 2 * (j : Int) by omega] at this
  clear h1
  have hA0 : Below w.heap.size w (w.alloc (.cells #[.int .i64 0, .int .i64 0, .int .i64 0, .slice none 0 0] 43)) := all_alloc w (.cells #[.int .i64 0, .int .i64 0, .int .i64 0, .slice none 0 0] 43)
  have hZ0 : Hid _ := heap_alloc_new w (.cells #[.int .i64 0, .int .i64 0, .int .i64 0, .slice none 0 0] 43)
  have hz1 : (w.alloc (.cells #[.int .i64 0, .int .i64 0, .int .i64 0, .slice none 0 0] 43)).heap.size = w.heap.size + 1 := by simp
  go_enter Tryd.func51, Tryd.ntmps51
  go_upto_region 1 with fail
  generalize w.alloc (.cells #[.int .i64 0, .int .i64 0, .int .i64 0, .slice none 0 0] 43) = A0 at hA0 hZ0 hz1 ⊢
  go_cut [3] (fun s3 wx => ∃ X, s3 = .pointer (some ⟨X, 0, none⟩) ∧ w.heap.size < X ∧ Hid (wx.heap[X]? = some (.cells #[.int .i64 K, .int .i64 A, .int .i64 M, .slice none 0 0] 43 (0, 0))) ∧ Hid (wx.heap[w.heap.size]? = some (.cells #[.int .i64 0, .int .i64 0, .int .i64 0, .slice none 0 0] 43 (0, 0))) ∧ Below w.heap.size w wx)
  case first =>
    have hE0 : Hid ((World.drew (A0.alloc (.cells #[.int .i64 0, .int .i64 0, .int .i64 0, .slice none 0 0] 43))).heap[A0.heap.size]? = some (.cells #[.int .i64 0, .int .i64 0, .int .i64 0, .slice none 0 0] 43 (0, 0))) := heap_alloc_new A0 (.cells #[.int .i64 0, .int .i64 0, .int .i64 0, .slice none 0 0] 43)
    have hszA : w.heap.size < A0.heap.size := by omega
    clear hz1
    have hDA : Below w.heap.size w (World.drew A0) := Below.drew hA0
    refine wp_region_held_drew (S := (fun w' => Below w.heap.size w w')) (by kernel_rfl) ?_ (fun hHeld => ?_)
    · (try dsimp only); exact hDA
    refine yieldH (i := 0) (v := ?_) rfl (by kernel_rfl) (by kernel_rfl) (by kernel_rfl) (fun _ _ _ h => h) (by rfl) ?_ (by assumption) ?_; rotate_left
    · intro w hSw; (try dsimp only at hSw); go_simp; (try with_reducible rfl)
    try simp only [Act.put, List.setIfInBounds_toArray, List.set_cons_zero, List.set_cons_succ, List.getElem_toArray, List.getElem_cons_succ, List.getElem_cons_zero]
    refine yieldH (i := 1) (v := ?_) rfl (by kernel_rfl) (by kernel_rfl) (by kernel_rfl) (fun _ _ _ h => h) (by rfl) ?_ (by assumption) ?_; rotate_left
    · intro w hSw; (try dsimp only at hSw); go_simp; (try with_reducible rfl)
    try simp only [Act.put, List.setIfInBounds_toArray, List.set_cons_zero, List.set_cons_succ, List.getElem_toArray, List.getElem_cons_succ, List.getElem_cons_zero]
    refine yieldH (i := 2) (v := ?_) rfl (by kernel_rfl) (by kernel_rfl) (by kernel_rfl) (fun _ _ _ h => h) (by rfl) ?_ (by assumption) ?_; rotate_left
    · intro w hSw; (try dsimp only at hSw); go_simp; (try with_reducible rfl)
    try simp only [Act.put, List.setIfInBounds_toArray, List.set_cons_zero, List.set_cons_succ, List.getElem_toArray, List.getElem_cons_succ, List.getElem_cons_zero]
    refine yieldH (i := 3) (v := ?_) rfl (by kernel_rfl) (by kernel_rfl) (by kernel_rfl) (fun _ _ _ h => h) (by rfl) ?_ (by assumption) ?_; rotate_left
    · intro w hSw; (try dsimp only at hSw); go_simp; (try with_reducible rfl)
    try simp only [Act.put, List.setIfInBounds_toArray, List.set_cons_zero, List.set_cons_succ, List.getElem_toArray, List.getElem_cons_succ, List.getElem_cons_zero]
    refine yieldH (i := 5) (v := ?_) rfl (by kernel_rfl) (by kernel_rfl) (by kernel_rfl) (fun _ _ _ h => h) (by rfl) ?_ (by assumption) ?_; rotate_left
    · intro w hSw; (try dsimp only at hSw); go_simp; (try with_reducible rfl)
    try simp only [Act.put, List.setIfInBounds_toArray, List.set_cons_zero, List.set_cons_succ, List.getElem_toArray, List.getElem_cons_succ, List.getElem_cons_zero]
    refine wpAnyH_ready (rs := [4, 8]) (by kernel_rfl) (by simp) ?_
    refine AllReadyH.cons rfl (fun Kc hK => ?_) (AllReadyH.cons rfl (fun Kc hK => ?_) AllReadyH.nil)
    · go_simp
      go_at_call 60; refine (H1.out _).mono ?_; rintro e w1 ⟨rfl, hb1⟩; have hB1 : Below w.heap.size w w1 := keepB (Below.drew hA0) (Nat.le_refl _) hb1; have hZ1 : Hid _ := blk (Y := World.drew A0) hZ0.out hb1
      try dsimp only
      refine hK.out _ _ ?_ (fun hHeld => ?_)
      · (try dsimp only); exact hB1
      clear hK Kc
      try simp only [Act.put, List.setIfInBounds_toArray, List.set_cons_zero, List.set_cons_succ, List.getElem_toArray, List.getElem_cons_succ, List.getElem_cons_zero]
      refine wpAnyH_ready (rs := [6, 8]) (by kernel_rfl) (by simp) ?_
      refine AllReadyH.cons rfl (fun Kc hK => ?_) (AllReadyH.cons rfl (fun Kc hK => ?_) AllReadyH.nil)
      · go_simp
        go_at_call 60; refine (H3.out _).mono ?_; rintro e w2 ⟨rfl, hb2⟩; have hB2 := keepB hB1 (Nat.le_refl _) hb2; have hZ2 : Hid _ := blk hZ1.out hb2; have hsz : w.heap.size < w2.heap.size := (Array.getElem?_eq_some_iff.1 hZ2.out).1
        try dsimp only
        refine hK.out _ _ ?_ (fun hHeld => ?_)
        · (try dsimp only); exact hB2
        clear hK Kc
        try simp only [Act.put, List.setIfInBounds_toArray, List.set_cons_zero, List.set_cons_succ, List.getElem_toArray, List.getElem_cons_succ, List.getElem_cons_zero]
        refine yieldH (i := 7) (v := ?_) rfl (by kernel_rfl) (by kernel_rfl) (by kernel_rfl) (fun _ _ _ h => h) (by rfl) ?_ (by assumption) ?_; rotate_left
        · intro w hSw; (try dsimp only at hSw); go_simp; (try with_reducible rfl)
        try simp only [Act.put, List.setIfInBounds_toArray, List.set_cons_zero, List.set_cons_succ, List.getElem_toArray, List.getElem_cons_succ, List.getElem_cons_zero]
        refine wpAnyH_ready (rs := [8]) (by kernel_rfl) (by simp) ?_
        refine AllReadyH.cons rfl (fun Kc hK => ?_) AllReadyH.nil
        go_simp
        try dsimp only
        refine hK.out _ _ ?_ (fun hHeld => ?_)
        · (try dsimp only); exact keepB hB2 (Nat.le_refl _) (all_alloc w2 (.cells #[.int .i64 0, .int .i64 0, .int .i64 0, .slice none 0 0] 43))
        clear hK Kc
        try simp only [Act.put, List.setIfInBounds_toArray, List.set_cons_zero, List.set_cons_succ, List.getElem_toArray, List.getElem_cons_succ, List.getElem_cons_zero]
        refine wpAnyH_ready (rs := [9]) (by kernel_rfl) (by simp) ?_
        refine AllReadyH.cons rfl (fun Kc hK => ?_) AllReadyH.nil
        go_simp
        try dsimp only
        refine hK.out _ _ ?_ (fun hHeld => ?_)
        · (try dsimp only); exact keepB hB2 (Nat.le_refl _) (all_alloc w2 (.cells #[.int .i64 K, .int .i64 A, .int .i64 M, .slice none 0 0] 43))
        clear hK Kc
        try simp only [Act.put, List.setIfInBounds_toArray, List.set_cons_zero, List.set_cons_succ, List.getElem_toArray, List.getElem_cons_succ, List.getElem_cons_zero]
        refine wpAnyH_done (by kernel_rfl) ?_ _
        go_wp2
        go_meet
        exact ⟨_, rfl, hsz, heap_alloc_new w2 (.cells #[.int .i64 K, .int .i64 A, .int .i64 M, .slice none 0 0] 43), blk hZ2.out (all_alloc w2 (.cells #[.int .i64 K, .int .i64 A, .int .i64 M, .slice none 0 0] 43)), keepB hB2 (Nat.le_refl _) (all_alloc w2 (.cells #[.int .i64 K, .int .i64 A, .int .i64 M, .slice none 0 0] 43))⟩
      · go_simp
        try dsimp only
        refine hK.out _ _ ?_ (fun hHeld => ?_)
        · (try dsimp only); exact keepB hB1 (Nat.le_refl _) (all_alloc w1 (.cells #[.int .i64 0, .int .i64 0, .int .i64 0, .slice none 0 0] 43))
        clear hK Kc
        try simp only [Act.put, List.setIfInBounds_toArray, List.set_cons_zero, List.set_cons_succ, List.getElem_toArray, List.getElem_cons_succ, List.getElem_cons_zero]
        refine wpAnyH_ready (rs := [6]) (by kernel_rfl) (by simp) ?_
        refine AllReadyH.cons rfl (fun Kc hK => ?_) AllReadyH.nil
        go_simp
        go_at_call 60; refine (H3.out _).mono ?_; rintro e w2 ⟨rfl, hb2⟩; have hE2 : Hid _ := blk (heap_alloc_new w1 (.cells #[.int .i64 0, .int .i64 0, .int .i64 0, .slice none 0 0] 43)) hb2; have hB2 := keepB (keepB hB1 (Nat.le_refl _) (all_alloc w1 (.cells #[.int .i64 0, .int .i64 0, .int .i64 0, .slice none 0 0] 43))) (Nat.le_refl _) hb2; have hZ2 : Hid _ := blk (blk hZ1.out (all_alloc w1 (.cells #[.int .i64 0, .int .i64 0, .int .i64 0, .slice none 0 0] 43))) hb2; have hsz : w.heap.size < w1.heap.size := (Array.getElem?_eq_some_iff.1 hZ1.out).1; have u0 := cellW hE2.out 0 _ rfl w2 (Below.refl _ _); have u1 := cellW hE2.out 1 _ rfl w2 (Below.refl _ _); have u2 := cellW hE2.out 2 _ rfl w2 (Below.refl _ _); have u3 := cellW hE2.out 3 _ rfl w2 (Below.refl _ _); have uf0 := frozenW hE2.out 0 w2 (Below.refl _ _); have uf1 := frozenW hE2.out 1 w2 (Below.refl _ _); have uf2 := frozenW hE2.out 2 w2 (Below.refl _ _); have uf3 := frozenW hE2.out 3 w2 (Below.refl _ _)
        try dsimp only
        refine hK.out _ _ ?_ (fun hHeld => ?_)
        · (try dsimp only); exact hB2
        clear hK Kc
        try simp only [Act.put, List.setIfInBounds_toArray, List.set_cons_zero, List.set_cons_succ, List.getElem_toArray, List.getElem_cons_succ, List.getElem_cons_zero]
        refine yieldH (i := 7) (v := ?_) rfl (by kernel_rfl) (by kernel_rfl) (by kernel_rfl) (fun _ _ _ h => h) (by rfl) ?_ (by assumption) ?_; rotate_left
        · intro w hSw; (try dsimp only at hSw); go_simp; (try with_reducible rfl)
        try simp only [Act.put, List.setIfInBounds_toArray, List.set_cons_zero, List.set_cons_succ, List.getElem_toArray, List.getElem_cons_succ, List.getElem_cons_zero]
        refine wpAnyH_ready (rs := [9]) (by kernel_rfl) (by simp) ?_
        refine AllReadyH.cons rfl (fun Kc hK => ?_) AllReadyH.nil
        go_simp
        try dsimp only
        refine hK.out _ _ ?_ (fun hHeld => ?_)
        · (try dsimp only); exact (Below.setCell (Below.setCell (Below.setCell (Below.setCell hB2 (by simp only; omega) _) (by simp only; omega) _) (by simp only; omega) _) (by simp only; omega) _)
        clear hK Kc
        try simp only [Act.put, List.setIfInBounds_toArray, List.set_cons_zero, List.set_cons_succ, List.getElem_toArray, List.getElem_cons_succ, List.getElem_cons_zero]
        refine wpAnyH_done (by kernel_rfl) ?_ _
        go_wp2
        go_meet
        exact ⟨_, rfl, hsz, Joins.block_setCell (i := 3) (Joins.block_setCell (i := 2) (Joins.block_setCell (i := 1) (Joins.block_setCell (i := 0) hE2.out _) _) _) _, (Below.heap_setCell _ _ _ _ (by simp only; omega)).trans ((Below.heap_setCell _ _ _ _ (by simp only; omega)).trans ((Below.heap_setCell _ _ _ _ (by simp only; omega)).trans ((Below.heap_setCell _ _ _ _ (by simp only; omega)).trans hZ2.out))), hHeld⟩
    · go_simp
      try dsimp only
      refine hK.out _ _ ?_ (fun hHeld => ?_)
      · (try dsimp only); exact keepB (Below.drew hA0) (Nat.le_refl _) (all_alloc (World.drew A0) (.cells #[.int .i64 0, .int .i64 0, .int .i64 0, .slice none 0 0] 43))
      clear hK Kc
      try simp only [Act.put, List.setIfInBounds_toArray, List.set_cons_zero, List.set_cons_succ, List.getElem_toArray, List.getElem_cons_succ, List.getElem_cons_zero]
      refine wpAnyH_ready (rs := [4]) (by kernel_rfl) (by simp) ?_
      refine AllReadyH.cons rfl (fun Kc hK => ?_) AllReadyH.nil
      go_simp
      go_at_call 60; refine (H1.out _).mono ?_; rintro e w1 ⟨rfl, hb1⟩; have hE1 : Hid _ := blk hE0.out hb1; have hB1 : Below w.heap.size w w1 := keepB (Below.drew (keepB hA0 (Nat.le_refl _) (all_alloc A0 (.cells #[.int .i64 0, .int .i64 0, .int .i64 0, .slice none 0 0] 43)))) (Nat.le_refl _) hb1; have hZ1 : Hid _ := blk (blk hZ0.out (Below.drew (all_alloc A0 (.cells #[.int .i64 0, .int .i64 0, .int .i64 0, .slice none 0 0] 43)))) hb1
      try dsimp only
      refine hK.out _ _ ?_ (fun hHeld => ?_)
      · (try dsimp only); exact hB1
      clear hK Kc
      try simp only [Act.put, List.setIfInBounds_toArray, List.set_cons_zero, List.set_cons_succ, List.getElem_toArray, List.getElem_cons_succ, List.getElem_cons_zero]
      refine wpAnyH_ready (rs := [6]) (by kernel_rfl) (by simp) ?_
      refine AllReadyH.cons rfl (fun Kc hK => ?_) AllReadyH.nil
      go_simp
      go_at_call 60; refine (H3.out _).mono ?_; rintro e w2 ⟨rfl, hb2⟩; have hE2 : Hid _ := blk hE1.out hb2; have hB2 := keepB hB1 (Nat.le_refl _) hb2; have hZ2 : Hid _ := blk hZ1.out hb2; have hsz := hszA; have u0 := cellW hE2.out 0 _ rfl w2 (Below.refl _ _); have u1 := cellW hE2.out 1 _ rfl w2 (Below.refl _ _); have u2 := cellW hE2.out 2 _ rfl w2 (Below.refl _ _); have u3 := cellW hE2.out 3 _ rfl w2 (Below.refl _ _); have uf0 := frozenW hE2.out 0 w2 (Below.refl _ _); have uf1 := frozenW hE2.out 1 w2 (Below.refl _ _); have uf2 := frozenW hE2.out 2 w2 (Below.refl _ _); have uf3 := frozenW hE2.out 3 w2 (Below.refl _ _)
      try dsimp only
      refine hK.out _ _ ?_ (fun hHeld => ?_)
      · (try dsimp only); exact hB2
      clear hK Kc
      try simp only [Act.put, List.setIfInBounds_toArray, List.set_cons_zero, List.set_cons_succ, List.getElem_toArray, List.getElem_cons_succ, List.getElem_cons_zero]
      refine yieldH (i := 7) (v := ?_) rfl (by kernel_rfl) (by kernel_rfl) (by kernel_rfl) (fun _ _ _ h => h) (by rfl) ?_ (by assumption) ?_; rotate_left
      · intro w hSw; (try dsimp only at hSw); go_simp; (try with_reducible rfl)
      try simp only [Act.put, List.setIfInBounds_toArray, List.set_cons_zero, List.set_cons_succ, List.getElem_toArray, List.getElem_cons_succ, List.getElem_cons_zero]
      refine wpAnyH_ready (rs := [9]) (by kernel_rfl) (by simp) ?_
      refine AllReadyH.cons rfl (fun Kc hK => ?_) AllReadyH.nil
      go_simp
      try dsimp only
      refine hK.out _ _ ?_ (fun hHeld => ?_)
      · (try dsimp only); exact (Below.setCell (Below.setCell (Below.setCell (Below.setCell hB2 (by simp only; omega) _) (by simp only; omega) _) (by simp only; omega) _) (by simp only; omega) _)
      clear hK Kc
      try simp only [Act.put, List.setIfInBounds_toArray, List.set_cons_zero, List.set_cons_succ, List.getElem_toArray, List.getElem_cons_succ, List.getElem_cons_zero]
      refine wpAnyH_done (by kernel_rfl) ?_ _
      go_wp2
      go_meet
      exact ⟨_, rfl, hsz, Joins.block_setCell (i := 3) (Joins.block_setCell (i := 2) (Joins.block_setCell (i := 1) (Joins.block_setCell (i := 0) hE2.out _) _) _) _, (Below.heap_setCell _ _ _ _ (by simp only; omega)).trans ((Below.heap_setCell _ _ _ _ (by simp only; omega)).trans ((Below.heap_setCell _ _ _ _ (by simp only; omega)).trans ((Below.heap_setCell _ _ _ _ (by simp only; omega)).trans hZ2.out))), hHeld⟩
  case rest =>
    obtain ⟨X, rfl, hsz, hX3, hZ3, hB3⟩ := hcut
    rename World => B
    clear hZ0 hA0 H1 H3
    have hlX : X < B.heap.size := (Array.getElem?_eq_some_iff.1 hX3.out).1
    have hlG : w.heap.size < B.heap.size := (Array.getElem?_eq_some_iff.1 hZ3.out).1
    have ne1 : w.heap.size ≠ X := by omega
    have ne2 : X ≠ w.heap.size := by omega
    have x0 := cellW hX3.out 0 _ rfl B (Below.refl _ _)
    have x1 := cellW hX3.out 1 _ rfl B (Below.refl _ _)
    have x2 := cellW hX3.out 2 _ rfl B (Below.refl _ _)
    have x3 := cellW hX3.out 3 _ rfl B (Below.refl _ _)
    have xf0 := frozenW hX3.out 0 B (Below.refl _ _)
    have xf1 := frozenW hX3.out 1 B (Below.refl _ _)
    have xf2 := frozenW hX3.out 2 B (Below.refl _ _)
    have xf3 := frozenW hX3.out 3 B (Below.refl _ _)
    have z0 := cellW hZ3.out 0 _ rfl B (Below.refl _ _)
    have z1 := cellW hZ3.out 1 _ rfl B (Below.refl _ _)
    have z2 := cellW hZ3.out 2 _ rfl B (Below.refl _ _)
    have z3 := cellW hZ3.out 3 _ rfl B (Below.refl _ _)
    have zf0 := frozenW hZ3.out 0 B (Below.refl _ _)
    have zf1 := frozenW hZ3.out 1 B (Below.refl _ _)
    have zf2 := frozenW hZ3.out 2 B (Below.refl _ _)
    have zf3 := frozenW hZ3.out 3 B (Below.refl _ _)
    go_wp2
    go_loopw [4] (fun i wr => ∃ (j : Nat) (v : Value), j ≤ N ∧ i = .int .i64 (6 + 2 * (j : Int)) ∧ Hid (wr.heap[X]? = some (.cells #[.int .i64 K, .int .i64 A, .int .i64 M, v] 43 (0, 0))) ∧ Hid (wr.heap[w.heap.size]? = some (.cells #[.int .i64 0, .int .i64 0, .int .i64 0, .slice none 0 0] 43 (0, 0))) ∧ Hid (OwnI wr (X + 1) v (wordsAt s 6 j)) ∧ Below w.heap.size w wr) (fun i _ => 40 - (intOf i).toNat)
    case atStart => exact ⟨0, .slice none 0 0, Nat.zero_le _, by go_num, hX3.out, hZ3.out, OwnI.nil _ _, hB3⟩
    case round =>
      obtain ⟨j, v, hjN, rfl, HX, HZ, HO, hbel⟩ := hrel
      clear x0 x1 x2 x3 xf0 xf1 xf2 xf3 z0 z1 z2 z3 zf0 zf1 zf2 zf3 hX3 hZ3 hB3 hlX hlG
      obtain ⟨pv, cv, hv⟩ := HO.out.shape
      rw [wordsAt_length] at hv
      subst hv
      have hlX : X < wr.heap.size := (Array.getElem?_eq_some_iff.1 HX.out).1
      have hlG : w.heap.size < wr.heap.size := (Array.getElem?_eq_some_iff.1 HZ.out).1
      by_cases hlt : j < N
      · have hb1 : (6 : Int) + 2 * (j : Int) + 1 < (s.size : Int) := by have := hN.out; omega
        have hb2 : (6 : Int) + 2 * (j : Int) < 20 := by have := hN.out; omega
        have HC : Hid _ := HWj.out j (by omega)
        have x3 := cellW HX.out 3 _ rfl wr (Below.refl _ _)
        have xf3 := frozenW HX.out 3 wr (Below.refl _ _)
        have HLN : Hid _ := wordsAt_snoc s 6 j
        have hln := wordsAt_length s 6 j
        generalize wordAt s (6 + 2 * j) = n9 at HC HLN
        generalize wordsAt s 6 j = L at HO HLN hln
        subst hln
        go_upto_region 16 with fail
        go_region_law (first
          | (have _ := hOA; refine step_append_IQ rfl (.tmp 70) (.tmp 74) rfl (X + 1) (.slice pv L.length cv) L rfl hOA w9.heap.size n9 rfl (cellW (heap_alloc_new w9 (.cells #[.int .i64 n9] 2)) 0 _ rfl _ (Below.refl _ _)) (by omega) (Nat.succ_le_of_lt (Array.getElem?_eq_some_iff.1 hXA).1) ?_; intro v10 w10 hO10 hgr10; have hX10 : Hid _ := (grown_keep hOA (Nat.lt_succ_self X) (Array.getElem?_eq_some_iff.1 hXA).1 hgr10).trans hXA; have c10 := cellW hX10.out 3 _ rfl w10 (Below.refl _ _); have f10 := frozenW hX10.out 3 w10 (Below.refl _ _); obtain ⟨p10, cap10, rfl⟩ := hO10.shape)
          | (go_simp; go_at_call 60; refine (HC.out _).mono ?_; rintro e w9 ⟨rfl, hb9⟩; have hX9 : Hid _ := blk (Y := World.drew wr) HX.out hb9; have hO9 : OwnI w9 (X + 1) (.slice pv L.length cv) L := OwnI.below (w := World.drew wr) HO.out hb9; have z9 := cellW hX9.out 3 _ rfl w9 (Below.refl _ _); have hl9 : X < w9.heap.size := (Array.getElem?_eq_some_iff.1 hX9.out).1; have hXA := blk hX9.out (all_alloc w9 (.cells #[.int .i64 n9] 2)); have hOA := hO9.below (all_alloc w9 (.cells #[.int .i64 n9] 2)); have u9 := cellW hXA 3 _ rfl _ (Below.refl _ _)))
        all_goals
          go_wp2
          go_roundw
          case rel =>
            have hZ9 := blk (Y := World.drew wr) HZ.out hb9
            have hZA := blk hZ9 (all_alloc w9 (.cells #[.int .i64 n9] 2))
            have hB9 : Below w.heap.size w (w9.alloc (.cells #[.int .i64 n9] 2)) := keepB (keepB (Below.drew hbel) (Nat.le_refl _) hb9) (Nat.le_refl _) (all_alloc _ _)
            have hZ10 := (grown_keep hOA (show w.heap.size < X + 1 by omega) (Array.getElem?_eq_some_iff.1 hZA).1 hgr10).trans hZA
            have hB10 : Below w.heap.size w w10 := hB9.grown hgr10 hB9.size (fun k e => by have := (World.ownsRow.lt hOA k e).1; omega)
            refine ⟨L.length + 1, _, by omega, congrArg (Value.int .i64) (by omega), (show _ = _ from Joins.block_setCell (i := 3) hX10.out _), (show _ = _ from (Below.heap_setCell _ _ _ _ (by simp only; omega)).trans hZ10), (show OwnI _ _ _ _ from ?_), hB10.setCell (by simp only; omega) _⟩
            rw [HLN.out]
            have := OwnI.farQ hO10 (a := ⟨X, 3, none⟩) (Nat.lt_succ_self X) (.slice p10 (L.length + 1) cap10)
            rw [List.length_append] at this
            exact this
          case measure => first | (simp [intOf]; omega) | (show 40 - (6 + 2 * (L.length : Int) + 2).toNat < 40 - (6 + 2 * (L.length : Int)).toNat; omega) | (dsimp only [intOf]; omega)
      · obtain rfl : j = N := by omega
        have y0 := cellW HX.out 0 _ rfl wr (Below.refl _ _)
        have y1 := cellW HX.out 1 _ rfl wr (Below.refl _ _)
        have y2 := cellW HX.out 2 _ rfl wr (Below.refl _ _)
        have y3 := cellW HX.out 3 _ rfl wr (Below.refl _ _)
        have z0 := cellW HZ.out 0 _ rfl wr (Below.refl _ _)
        have z1 := cellW HZ.out 1 _ rfl wr (Below.refl _ _)
        have z2 := cellW HZ.out 2 _ rfl wr (Below.refl _ _)
        have z3 := cellW HZ.out 3 _ rfl wr (Below.refl _ _)
        have zf0 := frozenW HZ.out 0 wr (Below.refl _ _)
        have zf1 := frozenW HZ.out 1 wr (Below.refl _ _)
        have zf2 := frozenW HZ.out 2 wr (Below.refl _ _)
        have zf3 := frozenW HZ.out 3 wr (Below.refl _ _)
        have hOut := OwnI.leQ (OwnI.farQ (OwnI.farQ (OwnI.farQ (OwnI.farQ HO.out (a := ⟨w.heap.size, 0, none⟩) (by simp only; omega) (.int .i64 K)) (a := ⟨w.heap.size, 1, none⟩) (by simp only; omega) (.int .i64 A)) (a := ⟨w.heap.size, 2, none⟩) (by simp only; omega) (.int .i64 M)) (a := ⟨w.heap.size, 3, none⟩) (by simp only; omega) (.slice pv j cv)) (show w.heap.size ≤ X + 1 by omega)
        by_cases hb1 : (6 : Int) + 2 * (j : Int) + 1 < (s.size : Int)
        · have hj7 : j = 7 := by have := hN.out; omega
          have hb2 : (20 : Int) ≤ 6 + 2 * (j : Int) := by omega
          have hb3 : decide ((6 : Int) + 2 * (j : Int) < 20) = false := decide_eq_false (by omega)
          clear hj7
          go_wp2
          exact bodyPost_ret (v := .agg #[.int .i64 K, .int .i64 A, .int .i64 M, .slice pv j cv]) (by simp [results, Tryd.results51, go_sem, z0, z1, z2, z3]) rfl ⟨_, rfl, hOut, (Below.setCell (Below.setCell (Below.setCell (Below.setCell hbel (by simp only; omega) _) (by simp only; omega) _) (by simp only; omega) _) (by simp only; omega) _)⟩
        · have hj7 : j ≤ 7 := by have := hN.out; omega
          have hb3 : decide ((6 : Int) + 2 * (j : Int) + 1 < (s.size : Int)) = false := decide_eq_false hb1
          go_wp2
          exact bodyPost_ret (v := .agg #[.int .i64 K, .int .i64 A, .int .i64 M, .slice pv j cv]) (by simp [results, Tryd.results51, go_sem, z0, z1, z2, z3]) rfl ⟨_, rfl, hOut, (Below.setCell (Below.setCell (Below.setCell (Below.setCell hbel (by simp only; omega) _) (by simp only; omega) _) (by simp only; omega) _) (by simp only; omega) _)⟩
theorem l04Read_any (s : ByteArray) (w : World) (h5 : 5 ≤ s.size) (hs : s.size ≤ 8000) :
    Calls Tryd.prog 51 #[.string s] w fun e w' => ∃ v, e = .returned (.agg #[.int .i64 (readS s).c, .int .i64 (readS s).a, .int .i64 (readS s).m, v]) ∧ OwnI w' w.heap.size v (readS s).vs ∧ Below w.heap.size w w' := by
  by_cases h1 : (byteAt s 0 : Int) = 5
  · exact l04Read_5 s w h5 hs h1
  by_cases h2 : (byteAt s 0 : Int) = 6
  · exact l04Read_6 s w h5 hs h2
  by_cases h3 : (byteAt s 0 : Int) = 15
  · exact l04Read_15 s w h5 hs h3
  by_cases h4 : (byteAt s 0 : Int) = 16
  · exact l04Read_16 s w h5 hs h4
  · exact l04Read_none s w h5 hs ⟨h1, h2, h3, h4⟩
end Go.Proofs.YtfpibedloodjlabDoor
