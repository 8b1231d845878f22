/- WHAT THE MODEL READS of bytes: l04Read where several are set; and at every text. -/
import Derived.Test.YtfpibedloodjlabDoorAskRs
import Derived.Test.YtfpibedloodjlabDoorAppI
namespace Go.Proofs.YtfpibedloodjlabDoor
open Go.RowKit
set_option linter.unusedVariables false
set_option linter.unusedSimpArgs false

theorem ownNil {w : World} {base : Nat} {l : List Int} (h : l = []) : OwnI w base (.slice none 0 0) l := by subst h; exact OwnI.nil _ _
theorem slice_6 (s : ByteArray) (h : 6 ≤ s.size) (W : World) : (Instr.slice 9 (.string s) (some (.int .i64 6)) none none).run Tryd.prog W = .ok (.string (s.extract 6 s.size)) W := by
  rw [run_slice_string_from_if W 9 s .i64 _ Tryd.underlying9, if_pos (by omega)]
  rfl
set_option maxRecDepth 100000 in
set_option maxHeartbeats 1600000 in
theorem l04Read_15 (s : ByteArray) (w : World) (h5 : 5 ≤ s.size) (hs : s.size ≤ 8000) (h1 : (byteAt s 0 : Int) = 15) :
    Calls Tryd.prog 51 #[.string s] w fun e w' => ∃ v, e = .returned (.agg #[.int .i64 (readS s).c, .int .i64 (readS s).a, .int .i64 (readS s).m, v]) ∧ OwnI w' w.heap.size v (readS s).vs ∧ Below w.heap.size w w' := by
  have hixK := index_K s (by omega)
  have H1 : Hid (∀ W, Calls Tryd.prog 60 #[.string s, .int .i64 1] W fun e w' => e = .returned (.int .i64 (wordAt s 1)) ∧ Below W.heap.size W w') := fun W => l04Word_any s 1 W hs (by omega)
  have H3 : Hid (∀ W, Calls Tryd.prog 60 #[.string s, .int .i64 3] W fun e w' => e = .returned (.int .i64 (wordAt s 3)) ∧ Below W.heap.size W w') := fun W => l04Word_any s 3 W hs (by omega)
  have hrd : readS s = ⟨(byteAt s 0 : Int), wordAt s 1, wordAt s 3, if 6 < s.size ∧ (1 ≤ wordAt s 3 ∧ wordAt s 3 ≤ 16) ∧ ((s.size - 6 : Nat) : Int) = (wordAt s 3 + 7) / 8 then bitsAt s 6 (wordAt s 3).toNat else []⟩ := by
    unfold readS
    dsimp only
    rw [if_neg (by omega), if_neg (by omega), if_pos h1]
  rw [hrd]
  have hA := wordAt_range s 1
  have hM := wordAt_range s 3
  have hK := byteAt_range s 0
  obtain ⟨K, eK⟩ : ∃ K, (byteAt s 0 : Int) = K := ⟨_, rfl⟩
  have hK0 : 0 ≤ K := by omega
  have hK1 : K < 256 := by omega
  have ewK : IntKind.i64.wrap K = K := by
    obtain ⟨k, rfl⟩ : ∃ k : Nat, K = (k : Int) := ⟨K.toNat, by omega⟩
    exact wrap64_small k (by omega)
  rw [eK] at hixK h1 ⊢
  clear hrd hK eK
  generalize wordAt s 1 = A at H1 hA ⊢
  generalize wordAt s 3 = M at H3 hM ⊢
  obtain ⟨hA0, hA1⟩ := hA
  obtain ⟨hM0, hM1⟩ := hM
  have e5 : (K == 5) = false := by simp [h1]
  have e6 : (K == 6) = false := by simp [h1]
  have e15 : (K == 15) = true := by simp [h1]
  have e16 : (K == 16) = false := by simp [h1]
  have HI : Hid (∀ W, Calls Tryd.prog 45 #[.int .i64 M, .int .i64 1, .int .i64 16] W fun e w' => e = .returned (.bool (decide (1 ≤ M) && decide (M ≤ 16))) ∧ W = w') := fun W => l02Is_any M 1 16 W
  have ed : (M + 7).tdiv 8 = (M + 7) / 8 := Int.tdiv_eq_ediv_of_nonneg (by omega)
  generalize hVL : (if 6 < s.size ∧ (1 ≤ M ∧ M ≤ 16) ∧ ((s.size - 6 : Nat) : Int) = (M + 7) / 8 then bitsAt s 6 M.toNat else []) = VL
  have HVL : Hid (_ = _) := hVL
  clear hVL
  clear h1
  have hA0 : Below w.heap.size w (w.alloc (.cells #[.int .i64 0, .int .i64 0, .int .i64 0, .slice none 0 0] 43)) := all_alloc w (.cells #[.int .i64 0, .int .i64 0, .int .i64 0, .slice none 0 0] 43)
  have hZ0 : Hid _ := heap_alloc_new w (.cells #[.int .i64 0, .int .i64 0, .int .i64 0, .slice none 0 0] 43)
  have hz1 : (w.alloc (.cells #[.int .i64 0, .int .i64 0, .int .i64 0, .slice none 0 0] 43)).heap.size = w.heap.size + 1 := by simp
  go_enter Tryd.func51, Tryd.ntmps51
  go_upto_region 1 with fail
  generalize w.alloc (.cells #[.int .i64 0, .int .i64 0, .int .i64 0, .slice none 0 0] 43) = A0 at hA0 hZ0 hz1 ⊢
  go_cut [3] (fun s3 wx => ∃ X, s3 = .pointer (some ⟨X, 0, none⟩) ∧ w.heap.size < X ∧ Hid (wx.heap[X]? = some (.cells #[.int .i64 K, .int .i64 A, .int .i64 M, .slice none 0 0] 43 (0, 0))) ∧ Hid (wx.heap[w.heap.size]? = some (.cells #[.int .i64 0, .int .i64 0, .int .i64 0, .slice none 0 0] 43 (0, 0))) ∧ Below w.heap.size w wx)
  case first =>
    have hE0 : Hid ((World.drew (A0.alloc (.cells #[.int .i64 0, .int .i64 0, .int .i64 0, .slice none 0 0] 43))).heap[A0.heap.size]? = some (.cells #[.int .i64 0, .int .i64 0, .int .i64 0, .slice none 0 0] 43 (0, 0))) := heap_alloc_new A0 (.cells #[.int .i64 0, .int .i64 0, .int .i64 0, .slice none 0 0] 43)
    have hszA : w.heap.size < A0.heap.size := by omega
    clear hz1
    have hDA : Below w.heap.size w (World.drew A0) := Below.drew hA0
    refine wp_region_held_drew (S := (fun w' => Below w.heap.size w w')) (by kernel_rfl) ?_ (fun hHeld => ?_)
    · (try dsimp only); exact hDA
    refine yieldH (i := 0) (v := ?_) rfl (by kernel_rfl) (by kernel_rfl) (by kernel_rfl) (fun _ _ _ h => h) (by rfl) ?_ (by assumption) ?_; rotate_left
    · intro w hSw; (try dsimp only at hSw); go_simp; (try with_reducible rfl)
    try simp only [Act.put, List.setIfInBounds_toArray, List.set_cons_zero, List.set_cons_succ, List.getElem_toArray, List.getElem_cons_succ, List.getElem_cons_zero]
    refine yieldH (i := 1) (v := ?_) rfl (by kernel_rfl) (by kernel_rfl) (by kernel_rfl) (fun _ _ _ h => h) (by rfl) ?_ (by assumption) ?_; rotate_left
    · intro w hSw; (try dsimp only at hSw); go_simp; (try with_reducible rfl)
    try simp only [Act.put, List.setIfInBounds_toArray, List.set_cons_zero, List.set_cons_succ, List.getElem_toArray, List.getElem_cons_succ, List.getElem_cons_zero]
    refine yieldH (i := 2) (v := ?_) rfl (by kernel_rfl) (by kernel_rfl) (by kernel_rfl) (fun _ _ _ h => h) (by rfl) ?_ (by assumption) ?_; rotate_left
    · intro w hSw; (try dsimp only at hSw); go_simp; (try with_reducible rfl)
    try simp only [Act.put, List.setIfInBounds_toArray, List.set_cons_zero, List.set_cons_succ, List.getElem_toArray, List.getElem_cons_succ, List.getElem_cons_zero]
    refine yieldH (i := 3) (v := ?_) rfl (by kernel_rfl) (by kernel_rfl) (by kernel_rfl) (fun _ _ _ h => h) (by rfl) ?_ (by assumption) ?_; rotate_left
    · intro w hSw; (try dsimp only at hSw); go_simp; (try with_reducible rfl)
    try simp only [Act.put, List.setIfInBounds_toArray, List.set_cons_zero, List.set_cons_succ, List.getElem_toArray, List.getElem_cons_succ, List.getElem_cons_zero]
    refine yieldH (i := 5) (v := ?_) rfl (by kernel_rfl) (by kernel_rfl) (by kernel_rfl) (fun _ _ _ h => h) (by rfl) ?_ (by assumption) ?_; rotate_left
    · intro w hSw; (try dsimp only at hSw); go_simp; (try with_reducible rfl)
    try simp only [Act.put, List.setIfInBounds_toArray, List.set_cons_zero, List.set_cons_succ, List.getElem_toArray, List.getElem_cons_succ, List.getElem_cons_zero]
    refine wpAnyH_ready (rs := [4, 8]) (by kernel_rfl) (by simp) ?_
    refine AllReadyH.cons rfl (fun Kc hK => ?_) (AllReadyH.cons rfl (fun Kc hK => ?_) AllReadyH.nil)
    · go_simp
      go_at_call 60; refine (H1.out _).mono ?_; rintro e w1 ⟨rfl, hb1⟩; have hB1 : Below w.heap.size w w1 := keepB (Below.drew hA0) (Nat.le_refl _) hb1; have hZ1 : Hid _ := blk (Y := World.drew A0) hZ0.out hb1
      try dsimp only
      refine hK.out _ _ ?_ (fun hHeld => ?_)
      · (try dsimp only); exact hB1
      clear hK Kc
      try simp only [Act.put, List.setIfInBounds_toArray, List.set_cons_zero, List.set_cons_succ, List.getElem_toArray, List.getElem_cons_succ, List.getElem_cons_zero]
      refine wpAnyH_ready (rs := [6, 8]) (by kernel_rfl) (by simp) ?_
      refine AllReadyH.cons rfl (fun Kc hK => ?_) (AllReadyH.cons rfl (fun Kc hK => ?_) AllReadyH.nil)
      · go_simp
        go_at_call 60; refine (H3.out _).mono ?_; rintro e w2 ⟨rfl, hb2⟩; have hB2 := keepB hB1 (Nat.le_refl _) hb2; have hZ2 : Hid _ := blk hZ1.out hb2; have hsz : w.heap.size < w2.heap.size := (Array.getElem?_eq_some_iff.1 hZ2.out).1
        try dsimp only
        refine hK.out _ _ ?_ (fun hHeld => ?_)
        · (try dsimp only); exact hB2
        clear hK Kc
        try simp only [Act.put, List.setIfInBounds_toArray, List.set_cons_zero, List.set_cons_succ, List.getElem_toArray, List.getElem_cons_succ, List.getElem_cons_zero]
        refine yieldH (i := 7) (v := ?_) rfl (by kernel_rfl) (by kernel_rfl) (by kernel_rfl) (fun _ _ _ h => h) (by rfl) ?_ (by assumption) ?_; rotate_left
        · intro w hSw; (try dsimp only at hSw); go_simp; (try with_reducible rfl)
        try simp only [Act.put, List.setIfInBounds_toArray, List.set_cons_zero, List.set_cons_succ, List.getElem_toArray, List.getElem_cons_succ, List.getElem_cons_zero]
        refine wpAnyH_ready (rs := [8]) (by kernel_rfl) (by simp) ?_
        refine AllReadyH.cons rfl (fun Kc hK => ?_) AllReadyH.nil
        go_simp
        try dsimp only
        refine hK.out _ _ ?_ (fun hHeld => ?_)
        · (try dsimp only); exact keepB hB2 (Nat.le_refl _) (all_alloc w2 (.cells #[.int .i64 0, .int .i64 0, .int .i64 0, .slice none 0 0] 43))
        clear hK Kc
        try simp only [Act.put, List.setIfInBounds_toArray, List.set_cons_zero, List.set_cons_succ, List.getElem_toArray, List.getElem_cons_succ, List.getElem_cons_zero]
        refine wpAnyH_ready (rs := [9]) (by kernel_rfl) (by simp) ?_
        refine AllReadyH.cons rfl (fun Kc hK => ?_) AllReadyH.nil
        go_simp
        try dsimp only
        refine hK.out _ _ ?_ (fun hHeld => ?_)
        · (try dsimp only); exact keepB hB2 (Nat.le_refl _) (all_alloc w2 (.cells #[.int .i64 K, .int .i64 A, .int .i64 M, .slice none 0 0] 43))
        clear hK Kc
        try simp only [Act.put, List.setIfInBounds_toArray, List.set_cons_zero, List.set_cons_succ, List.getElem_toArray, List.getElem_cons_succ, List.getElem_cons_zero]
        refine wpAnyH_done (by kernel_rfl) ?_ _
        go_wp2
        go_meet
        exact ⟨_, rfl, hsz, heap_alloc_new w2 (.cells #[.int .i64 K, .int .i64 A, .int .i64 M, .slice none 0 0] 43), blk hZ2.out (all_alloc w2 (.cells #[.int .i64 K, .int .i64 A, .int .i64 M, .slice none 0 0] 43)), keepB hB2 (Nat.le_refl _) (all_alloc w2 (.cells #[.int .i64 K, .int .i64 A, .int .i64 M, .slice none 0 0] 43))⟩
      · go_simp
        try dsimp only
        refine hK.out _ _ ?_ (fun hHeld => ?_)
        · (try dsimp only); exact keepB hB1 (Nat.le_refl _) (all_alloc w1 (.cells #[.int .i64 0, .int .i64 0, .int .i64 0, .slice none 0 0] 43))
        clear hK Kc
        try simp only [Act.put, List.setIfInBounds_toArray, List.set_cons_zero, List.set_cons_succ, List.getElem_toArray, List.getElem_cons_succ, List.getElem_cons_zero]
        refine wpAnyH_ready (rs := [6]) (by kernel_rfl) (by simp) ?_
        refine AllReadyH.cons rfl (fun Kc hK => ?_) AllReadyH.nil
        go_simp
        go_at_call 60; refine (H3.out _).mono ?_; rintro e w2 ⟨rfl, hb2⟩; have hE2 : Hid _ := blk (heap_alloc_new w1 (.cells #[.int .i64 0, .int .i64 0, .int .i64 0, .slice none 0 0] 43)) hb2; have hB2 := keepB (keepB hB1 (Nat.le_refl _) (all_alloc w1 (.cells #[.int .i64 0, .int .i64 0, .int .i64 0, .slice none 0 0] 43))) (Nat.le_refl _) hb2; have hZ2 : Hid _ := blk (blk hZ1.out (all_alloc w1 (.cells #[.int .i64 0, .int .i64 0, .int .i64 0, .slice none 0 0] 43))) hb2; have hsz : w.heap.size < w1.heap.size := (Array.getElem?_eq_some_iff.1 hZ1.out).1; have u0 := cellW hE2.out 0 _ rfl w2 (Below.refl _ _); have u1 := cellW hE2.out 1 _ rfl w2 (Below.refl _ _); have u2 := cellW hE2.out 2 _ rfl w2 (Below.refl _ _); have u3 := cellW hE2.out 3 _ rfl w2 (Below.refl _ _); have uf0 := frozenW hE2.out 0 w2 (Below.refl _ _); have uf1 := frozenW hE2.out 1 w2 (Below.refl _ _); have uf2 := frozenW hE2.out 2 w2 (Below.refl _ _); have uf3 := frozenW hE2.out 3 w2 (Below.refl _ _)
        try dsimp only
        refine hK.out _ _ ?_ (fun hHeld => ?_)
        · (try dsimp only); exact hB2
        clear hK Kc
        try simp only [Act.put, List.setIfInBounds_toArray, List.set_cons_zero, List.set_cons_succ, List.getElem_toArray, List.getElem_cons_succ, List.getElem_cons_zero]
        refine yieldH (i := 7) (v := ?_) rfl (by kernel_rfl) (by kernel_rfl) (by kernel_rfl) (fun _ _ _ h => h) (by rfl) ?_ (by assumption) ?_; rotate_left
        · intro w hSw; (try dsimp only at hSw); go_simp; (try with_reducible rfl)
        try simp only [Act.put, List.setIfInBounds_toArray, List.set_cons_zero, List.set_cons_succ, List.getElem_toArray, List.getElem_cons_succ, List.getElem_cons_zero]
        refine wpAnyH_ready (rs := [9]) (by kernel_rfl) (by simp) ?_
        refine AllReadyH.cons rfl (fun Kc hK => ?_) AllReadyH.nil
        go_simp
        try dsimp only
        refine hK.out _ _ ?_ (fun hHeld => ?_)
        · (try dsimp only); exact (Below.setCell (Below.setCell (Below.setCell (Below.setCell hB2 (by simp only; omega) _) (by simp only; omega) _) (by simp only; omega) _) (by simp only; omega) _)
        clear hK Kc
        try simp only [Act.put, List.setIfInBounds_toArray, List.set_cons_zero, List.set_cons_succ, List.getElem_toArray, List.getElem_cons_succ, List.getElem_cons_zero]
        refine wpAnyH_done (by kernel_rfl) ?_ _
        go_wp2
        go_meet
        exact ⟨_, rfl, hsz, Joins.block_setCell (i := 3) (Joins.block_setCell (i := 2) (Joins.block_setCell (i := 1) (Joins.block_setCell (i := 0) hE2.out _) _) _) _, (Below.heap_setCell _ _ _ _ (by simp only; omega)).trans ((Below.heap_setCell _ _ _ _ (by simp only; omega)).trans ((Below.heap_setCell _ _ _ _ (by simp only; omega)).trans ((Below.heap_setCell _ _ _ _ (by simp only; omega)).trans hZ2.out))), hHeld⟩
    · go_simp
      try dsimp only
      refine hK.out _ _ ?_ (fun hHeld => ?_)
      · (try dsimp only); exact keepB (Below.drew hA0) (Nat.le_refl _) (all_alloc (World.drew A0) (.cells #[.int .i64 0, .int .i64 0, .int .i64 0, .slice none 0 0] 43))
      clear hK Kc
      try simp only [Act.put, List.setIfInBounds_toArray, List.set_cons_zero, List.set_cons_succ, List.getElem_toArray, List.getElem_cons_succ, List.getElem_cons_zero]
      refine wpAnyH_ready (rs := [4]) (by kernel_rfl) (by simp) ?_
      refine AllReadyH.cons rfl (fun Kc hK => ?_) AllReadyH.nil
      go_simp
      go_at_call 60; refine (H1.out _).mono ?_; rintro e w1 ⟨rfl, hb1⟩; have hE1 : Hid _ := blk hE0.out hb1; have hB1 : Below w.heap.size w w1 := keepB (Below.drew (keepB hA0 (Nat.le_refl _) (all_alloc A0 (.cells #[.int .i64 0, .int .i64 0, .int .i64 0, .slice none 0 0] 43)))) (Nat.le_refl _) hb1; have hZ1 : Hid _ := blk (blk hZ0.out (Below.drew (all_alloc A0 (.cells #[.int .i64 0, .int .i64 0, .int .i64 0, .slice none 0 0] 43)))) hb1
      try dsimp only
      refine hK.out _ _ ?_ (fun hHeld => ?_)
      · (try dsimp only); exact hB1
      clear hK Kc
      try simp only [Act.put, List.setIfInBounds_toArray, List.set_cons_zero, List.set_cons_succ, List.getElem_toArray, List.getElem_cons_succ, List.getElem_cons_zero]
      refine wpAnyH_ready (rs := [6]) (by kernel_rfl) (by simp) ?_
      refine AllReadyH.cons rfl (fun Kc hK => ?_) AllReadyH.nil
      go_simp
      go_at_call 60; refine (H3.out _).mono ?_; rintro e w2 ⟨rfl, hb2⟩; have hE2 : Hid _ := blk hE1.out hb2; have hB2 := keepB hB1 (Nat.le_refl _) hb2; have hZ2 : Hid _ := blk hZ1.out hb2; have hsz := hszA; have u0 := cellW hE2.out 0 _ rfl w2 (Below.refl _ _); have u1 := cellW hE2.out 1 _ rfl w2 (Below.refl _ _); have u2 := cellW hE2.out 2 _ rfl w2 (Below.refl _ _); have u3 := cellW hE2.out 3 _ rfl w2 (Below.refl _ _); have uf0 := frozenW hE2.out 0 w2 (Below.refl _ _); have uf1 := frozenW hE2.out 1 w2 (Below.refl _ _); have uf2 := frozenW hE2.out 2 w2 (Below.refl _ _); have uf3 := frozenW hE2.out 3 w2 (Below.refl _ _)
      try dsimp only
      refine hK.out _ _ ?_ (fun hHeld => ?_)
      · (try dsimp only); exact hB2
      clear hK Kc
      try simp only [Act.put, List.setIfInBounds_toArray, List.set_cons_zero, List.set_cons_succ, List.getElem_toArray, List.getElem_cons_succ, List.getElem_cons_zero]
      refine yieldH (i := 7) (v := ?_) rfl (by kernel_rfl) (by kernel_rfl) (by kernel_rfl) (fun _ _ _ h => h) (by rfl) ?_ (by assumption) ?_; rotate_left
      · intro w hSw; (try dsimp only at hSw); go_simp; (try with_reducible rfl)
      try simp only [Act.put, List.setIfInBounds_toArray, List.set_cons_zero, List.set_cons_succ, List.getElem_toArray, List.getElem_cons_succ, List.getElem_cons_zero]
      refine wpAnyH_ready (rs := [9]) (by kernel_rfl) (by simp) ?_
      refine AllReadyH.cons rfl (fun Kc hK => ?_) AllReadyH.nil
      go_simp
      try dsimp only
      refine hK.out _ _ ?_ (fun hHeld => ?_)
      · (try dsimp only); exact (Below.setCell (Below.setCell (Below.setCell (Below.setCell hB2 (by simp only; omega) _) (by simp only; omega) _) (by simp only; omega) _) (by simp only; omega) _)
      clear hK Kc
      try simp only [Act.put, List.setIfInBounds_toArray, List.set_cons_zero, List.set_cons_succ, List.getElem_toArray, List.getElem_cons_succ, List.getElem_cons_zero]
      refine wpAnyH_done (by kernel_rfl) ?_ _
      go_wp2
      go_meet
      exact ⟨_, rfl, hsz, Joins.block_setCell (i := 3) (Joins.block_setCell (i := 2) (Joins.block_setCell (i := 1) (Joins.block_setCell (i := 0) hE2.out _) _) _) _, (Below.heap_setCell _ _ _ _ (by simp only; omega)).trans ((Below.heap_setCell _ _ _ _ (by simp only; omega)).trans ((Below.heap_setCell _ _ _ _ (by simp only; omega)).trans ((Below.heap_setCell _ _ _ _ (by simp only; omega)).trans hZ2.out))), hHeld⟩
  case rest =>
    obtain ⟨X, rfl, hsz, hX3, hZ3, hB3⟩ := hcut
    rename World => B
    clear hZ0 hA0 H1 H3
    have hlX : X < B.heap.size := (Array.getElem?_eq_some_iff.1 hX3.out).1
    have hlG : w.heap.size < B.heap.size := (Array.getElem?_eq_some_iff.1 hZ3.out).1
    have ne1 : w.heap.size ≠ X := by omega
    have ne2 : X ≠ w.heap.size := by omega
    have x0 := cellW hX3.out 0 _ rfl B (Below.refl _ _)
    have x1 := cellW hX3.out 1 _ rfl B (Below.refl _ _)
    have x2 := cellW hX3.out 2 _ rfl B (Below.refl _ _)
    have x3 := cellW hX3.out 3 _ rfl B (Below.refl _ _)
    have xf0 := frozenW hX3.out 0 B (Below.refl _ _)
    have xf1 := frozenW hX3.out 1 B (Below.refl _ _)
    have xf2 := frozenW hX3.out 2 B (Below.refl _ _)
    have xf3 := frozenW hX3.out 3 B (Below.refl _ _)
    have z0 := cellW hZ3.out 0 _ rfl B (Below.refl _ _)
    have z1 := cellW hZ3.out 1 _ rfl B (Below.refl _ _)
    have z2 := cellW hZ3.out 2 _ rfl B (Below.refl _ _)
    have z3 := cellW hZ3.out 3 _ rfl B (Below.refl _ _)
    have zf0 := frozenW hZ3.out 0 B (Below.refl _ _)
    have zf1 := frozenW hZ3.out 1 B (Below.refl _ _)
    have zf2 := frozenW hZ3.out 2 B (Below.refl _ _)
    have zf3 := frozenW hZ3.out 3 B (Below.refl _ _)
    by_cases c6 : 6 < (s.size : Int)
    case neg =>
      have eV : Hid (VL = []) := by show _ = _; rw [← HVL.out, if_neg (by omega)]
      go_wp2
      exact bodyPost_ret (v := .agg #[.int .i64 K, .int .i64 A, .int .i64 M, .slice none 0 0]) (by simp [results, Tryd.results51, go_sem, z0, z1, z2, z3]) rfl ⟨_, rfl, ownNil eV.out, (Below.setCell (Below.setCell (Below.setCell (Below.setCell hB3 (by simp only; omega) _) (by simp only; omega) _) (by simp only; omega) _) (by simp only; omega) _)⟩
    by_cases cM : 1 ≤ M ∧ M ≤ 16
    case neg =>
      have eV : Hid (VL = []) := by show _ = _; rw [← HVL.out, if_neg (fun h => cM h.2.1)]
      have eM : (decide (1 ≤ M) && decide (M ≤ 16)) = false := by rw [Bool.eq_false_iff]; intro h; rw [Bool.and_eq_true, decide_eq_true_eq, decide_eq_true_eq] at h; exact cM h
      rw [eM] at HI
      clear cM eM
      go_wp2_with (go_at_call 45; refine (HI.out _).mono ?_; rintro e w1 ⟨rfl, rfl⟩)
      exact bodyPost_ret (v := .agg #[.int .i64 K, .int .i64 A, .int .i64 M, .slice none 0 0]) (by simp [results, Tryd.results51, go_sem, z0, z1, z2, z3]) rfl ⟨_, rfl, ownNil eV.out, (Below.setCell (Below.setCell (Below.setCell (Below.setCell hB3 (by simp only; omega) _) (by simp only; omega) _) (by simp only; omega) _) (by simp only; omega) _)⟩
    rw [decide_eq_true cM.1, decide_eq_true cM.2] at HI
    by_cases cL : ((s.size - 6 : Nat) : Int) = (M + 7) / 8
    case neg =>
      have eV : Hid (VL = []) := by show _ = _; rw [← HVL.out, if_neg (fun h => cL h.2.2)]
      have eL : ((s.size : Int) - 6 == (M + 7) / 8) = false := by simp; omega
      clear cL
      go_wp2_with (go_at_call 45; refine (HI.out _).mono ?_; rintro e w1 ⟨rfl, rfl⟩)
      exact bodyPost_ret (v := .agg #[.int .i64 K, .int .i64 A, .int .i64 M, .slice none 0 0]) (by simp [results, Tryd.results51, go_sem, z0, z1, z2, z3]) rfl ⟨_, rfl, ownNil eV.out, (Below.setCell (Below.setCell (Below.setCell (Below.setCell hB3 (by simp only; omega) _) (by simp only; omega) _) (by simp only; omega) _) (by simp only; omega) _)⟩
    have eV : VL = unpackL (s.extract 6 s.size) M.toNat := by rw [← HVL.out, if_pos ⟨by omega, cM, cL⟩, ← bits_tail s M.toNat (by omega)]
    have eL : ((s.size : Int) - 6 == (M + 7) / 8) = true := by simp; omega
    have hsd := slice_6 s (by omega)
    have HU : Hid (∀ W, Calls Tryd.prog 61 #[.string (s.extract 6 s.size), .int .i64 M] W fun e w' => ∃ v, e = .returned v ∧ OwnI w' W.heap.size v (unpackL (s.extract 6 s.size) M.toNat) ∧ Below W.heap.size W w') := fun W => by
      have := l04Unpack_any (s.extract 6 s.size) M.toNat W (by omega) (by rw [ByteArray.size_extract]; omega) (by rw [ByteArray.size_extract]; omega)
      rwa [show ((M.toNat : Nat) : Int) = M by omega] at this
    rw [← eV] at HU
    clear eV HVL
    generalize s.extract 6 s.size = d at HU hsd
    clear cL
    go_upto_region 11 with (go_at_call 45; refine (HI.out _).mono ?_; rintro e w1 ⟨rfl, rfl⟩)
    go_region_law (go_simp; go_at_call 61; refine (HU.out _).mono ?_; rintro e w4 ⟨v4, rfl, own4, hb4⟩; obtain ⟨p4, c4, rfl⟩ := own4.shape; have hX4 : Hid _ := blk (Y := World.drew B) hX3.out hb4; have u3 := cellW hX4.out 3 _ rfl w4 (Below.refl _ _); have uf3 := frozenW hX4.out 3 w4 (Below.refl _ _))
    all_goals
      have hX5 : Hid ((w4.setCell ⟨X, 3, none⟩ (.slice p4 VL.length c4)).heap[X]? = some (.cells #[.int .i64 K, .int .i64 A, .int .i64 M, .slice p4 VL.length c4] 43 (0, 0))) := Joins.block_setCell (i := 3) hX4.out (.slice p4 VL.length c4)
      have hZ5 : Hid ((w4.setCell ⟨X, 3, none⟩ (.slice p4 VL.length c4)).heap[w.heap.size]? = some (.cells #[.int .i64 0, .int .i64 0, .int .i64 0, .slice none 0 0] 43 (0, 0))) := (Below.heap_setCell _ _ _ _ (by simp only; omega)).trans (blk (Y := World.drew B) hZ3.out hb4)
      have hs4 : B.heap.size ≤ w4.heap.size := hb4.size
      have own5 : OwnI (w4.setCell ⟨X, 3, none⟩ (.slice p4 VL.length c4)) B.heap.size (.slice p4 VL.length c4) VL := OwnI.farQ own4 (by simp only; exact hlX) _
      have hB5 : Hid (Below w.heap.size w (w4.setCell ⟨X, 3, none⟩ (.slice p4 VL.length c4))) := (keepB (Below.drew hB3) (Nat.le_refl _) hb4).setCell (by simp only; omega) _
      clear x0 x1 x2 x3 xf0 xf1 xf2 xf3 z0 z1 z2 z3 zf0 zf1 zf2 zf3 u3 uf3
      generalize w4.setCell ⟨X, 3, none⟩ (.slice p4 VL.length c4) = D at hX5 hZ5 own5 hB5 ⊢
      have y0 := cellW hX5.out 0 _ rfl D (Below.refl _ _)
      have y1 := cellW hX5.out 1 _ rfl D (Below.refl _ _)
      have y2 := cellW hX5.out 2 _ rfl D (Below.refl _ _)
      have y3 := cellW hX5.out 3 _ rfl D (Below.refl _ _)
      have z0 := cellW hZ5.out 0 _ rfl D (Below.refl _ _)
      have z1 := cellW hZ5.out 1 _ rfl D (Below.refl _ _)
      have z2 := cellW hZ5.out 2 _ rfl D (Below.refl _ _)
      have z3 := cellW hZ5.out 3 _ rfl D (Below.refl _ _)
      have zf0 := frozenW hZ5.out 0 D (Below.refl _ _)
      have zf1 := frozenW hZ5.out 1 D (Below.refl _ _)
      have zf2 := frozenW hZ5.out 2 D (Below.refl _ _)
      have zf3 := frozenW hZ5.out 3 D (Below.refl _ _)
      go_wp2
      exact bodyPost_ret (v := .agg #[.int .i64 K, .int .i64 A, .int .i64 M, .slice p4 VL.length c4]) (by simp [results, Tryd.results51, go_sem, z0, z1, z2, z3]) rfl ⟨_, rfl, OwnI.leQ (OwnI.farQ (OwnI.farQ (OwnI.farQ (OwnI.farQ own5 (by simp only; omega) _) (by simp only; omega) _) (by simp only; omega) _) (by simp only; omega) _) (by omega), (Below.setCell (Below.setCell (Below.setCell (Below.setCell hB5.out (by simp only; omega) _) (by simp only; omega) _) (by simp only; omega) _) (by simp only; omega) _)⟩
end Go.Proofs.YtfpibedloodjlabDoor
