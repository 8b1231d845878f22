/- WHAT THE MODEL READS of bytes: l04Read. -/
import Derived.Test.YtfpibedloodjlabDoorAskRd
import Derived.Test.YtfpibedloodjlabDoorWire
namespace Go.Proofs.YtfpibedloodjlabDoor
open Go.RowKit
set_option linter.unusedVariables false
set_option linter.unusedSimpArgs false

theorem own_oneW {W : World} {B g : Nat} {n : Int} (hg : g = W.heap.size) (hB : B ≤ g) : OwnI (W.alloc (.cells #[.int .i64 n] 2)) B (.slice (some ⟨g, 0, none⟩) 1 1) [n] := by
  subst hg
  exact ⟨by simp, .inr ⟨W.heap.size, 1, _, rfl, hB, heap_alloc_new W _, Nat.le_refl _, by decide, rfl, rfl⟩⟩
set_option maxRecDepth 100000 in
set_option maxHeartbeats 1600000 in
theorem l04Read_none (s : ByteArray) (w : World) (h5 : 5 ≤ s.size) (hs : s.size ≤ 8000) (h1 : ¬ (byteAt s 0 : Int) = 5 ∧ ¬ (byteAt s 0 : Int) = 6 ∧ ¬ (byteAt s 0 : Int) = 15 ∧ ¬ (byteAt s 0 : Int) = 16) :
    Calls Tryd.prog 51 #[.string s] w fun e w' => ∃ v, e = .returned (.agg #[.int .i64 (readS s).c, .int .i64 (readS s).a, .int .i64 (readS s).m, v]) ∧ OwnI w' w.heap.size v (readS s).vs ∧ Below w.heap.size w w' := by
  have hixK := index_K s (by omega)
  have H1 : Hid (∀ W, Calls Tryd.prog 60 #[.string s, .int .i64 1] W fun e w' => e = .returned (.int .i64 (wordAt s 1)) ∧ Below W.heap.size W w') := fun W => l04Word_any s 1 W hs (by omega)
  have H3 : Hid (∀ W, Calls Tryd.prog 60 #[.string s, .int .i64 3] W fun e w' => e = .returned (.int .i64 (wordAt s 3)) ∧ Below W.heap.size W w') := fun W => l04Word_any s 3 W hs (by omega)
  have hrd : readS s = ⟨(byteAt s 0 : Int), wordAt s 1, wordAt s 3, []⟩ := by
    unfold readS
    dsimp only
    rw [if_neg h1.1, if_neg h1.2.1, if_neg h1.2.2.1, if_neg h1.2.2.2]
  rw [hrd]
  have hA := wordAt_range s 1
  have hM := wordAt_range s 3
  have hK := byteAt_range s 0
  obtain ⟨K, eK⟩ : ∃ K, (byteAt s 0 : Int) = K := ⟨_, rfl⟩
  have hK0 : 0 ≤ K := by omega
  have hK1 : K < 256 := by omega
  have ewK : IntKind.i64.wrap K = K := by
    obtain ⟨k, rfl⟩ : ∃ k : Nat, K = (k : Int) := ⟨K.toNat, by omega⟩
    exact wrap64_small k (by omega)
  rw [eK] at hixK h1 ⊢
  clear hrd hK eK
  generalize wordAt s 1 = A at H1 hA ⊢
  generalize wordAt s 3 = M at H3 hM ⊢
  obtain ⟨hA0, hA1⟩ := hA
  obtain ⟨hM0, hM1⟩ := hM
  have e5 : (K == 5) = false := by simp; omega
  have e6 : (K == 6) = false := by simp; omega
  have e15 : (K == 15) = false := by simp; omega
  have e16 : (K == 16) = false := by simp; omega
  clear h1
  have hA0 : Below w.heap.size w (w.alloc (.cells #[.int .i64 0, .int .i64 0, .int .i64 0, .slice none 0 0] 43)) := all_alloc w (.cells #[.int .i64 0, .int .i64 0, .int .i64 0, .slice none 0 0] 43)
  have hZ0 : Hid _ := heap_alloc_new w (.cells #[.int .i64 0, .int .i64 0, .int .i64 0, .slice none 0 0] 43)
  have hz1 : (w.alloc (.cells #[.int .i64 0, .int .i64 0, .int .i64 0, .slice none 0 0] 43)).heap.size = w.heap.size + 1 := by simp
  go_enter Tryd.func51, Tryd.ntmps51
  go_upto_region 1 with fail
  generalize w.alloc (.cells #[.int .i64 0, .int .i64 0, .int .i64 0, .slice none 0 0] 43) = A0 at hA0 hZ0 hz1 ⊢
  go_cut [3] (fun s3 wx => ∃ X, s3 = .pointer (some ⟨X, 0, none⟩) ∧ w.heap.size < X ∧ Hid (wx.heap[X]? = some (.cells #[.int .i64 K, .int .i64 A, .int .i64 M, .slice none 0 0] 43 (0, 0))) ∧ Hid (wx.heap[w.heap.size]? = some (.cells #[.int .i64 0, .int .i64 0, .int .i64 0, .slice none 0 0] 43 (0, 0))) ∧ Below w.heap.size w wx)
  case first =>
    have hE0 : Hid ((World.drew (A0.alloc (.cells #[.int .i64 0, .int .i64 0, .int .i64 0, .slice none 0 0] 43))).heap[A0.heap.size]? = some (.cells #[.int .i64 0, .int .i64 0, .int .i64 0, .slice none 0 0] 43 (0, 0))) := heap_alloc_new A0 (.cells #[.int .i64 0, .int .i64 0, .int .i64 0, .slice none 0 0] 43)
    have hszA : w.heap.size < A0.heap.size := by omega
    clear hz1
    have hDA : Below w.heap.size w (World.drew A0) := Below.drew hA0
    refine wp_region_held_drew (S := (fun w' => Below w.heap.size w w')) (by kernel_rfl) ?_ (fun hHeld => ?_)
    · (try dsimp only); exact hDA
    refine yieldH (i := 0) (v := ?_) rfl (by kernel_rfl) (by kernel_rfl) (by kernel_rfl) (fun _ _ _ h => h) (by rfl) ?_ (by assumption) ?_; rotate_left
    · intro w hSw; (try dsimp only at hSw); go_simp; (try with_reducible rfl)
    try simp only [Act.put, List.setIfInBounds_toArray, List.set_cons_zero, List.set_cons_succ, List.getElem_toArray, List.getElem_cons_succ, List.getElem_cons_zero]
    refine yieldH (i := 1) (v := ?_) rfl (by kernel_rfl) (by kernel_rfl) (by kernel_rfl) (fun _ _ _ h => h) (by rfl) ?_ (by assumption) ?_; rotate_left
    · intro w hSw; (try dsimp only at hSw); go_simp; (try with_reducible rfl)
    try simp only [Act.put, List.setIfInBounds_toArray, List.set_cons_zero, List.set_cons_succ, List.getElem_toArray, List.getElem_cons_succ, List.getElem_cons_zero]
    refine yieldH (i := 2) (v := ?_) rfl (by kernel_rfl) (by kernel_rfl) (by kernel_rfl) (fun _ _ _ h => h) (by rfl) ?_ (by assumption) ?_; rotate_left
    · intro w hSw; (try dsimp only at hSw); go_simp; (try with_reducible rfl)
    try simp only [Act.put, List.setIfInBounds_toArray, List.set_cons_zero, List.set_cons_succ, List.getElem_toArray, List.getElem_cons_succ, List.getElem_cons_zero]
    refine yieldH (i := 3) (v := ?_) rfl (by kernel_rfl) (by kernel_rfl) (by kernel_rfl) (fun _ _ _ h => h) (by rfl) ?_ (by assumption) ?_; rotate_left
    · intro w hSw; (try dsimp only at hSw); go_simp; (try with_reducible rfl)
    try simp only [Act.put, List.setIfInBounds_toArray, List.set_cons_zero, List.set_cons_succ, List.getElem_toArray, List.getElem_cons_succ, List.getElem_cons_zero]
    refine yieldH (i := 5) (v := ?_) rfl (by kernel_rfl) (by kernel_rfl) (by kernel_rfl) (fun _ _ _ h => h) (by rfl) ?_ (by assumption) ?_; rotate_left
    · intro w hSw; (try dsimp only at hSw); go_simp; (try with_reducible rfl)
    try simp only [Act.put, List.setIfInBounds_toArray, List.set_cons_zero, List.set_cons_succ, List.getElem_toArray, List.getElem_cons_succ, List.getElem_cons_zero]
    refine wpAnyH_ready (rs := [4, 8]) (by kernel_rfl) (by simp) ?_
    refine AllReadyH.cons rfl (fun Kc hK => ?_) (AllReadyH.cons rfl (fun Kc hK => ?_) AllReadyH.nil)
    · go_simp
      go_at_call 60; refine (H1.out _).mono ?_; rintro e w1 ⟨rfl, hb1⟩; have hB1 : Below w.heap.size w w1 := keepB (Below.drew hA0) (Nat.le_refl _) hb1; have hZ1 : Hid _ := blk (Y := World.drew A0) hZ0.out hb1
      try dsimp only
      refine hK.out _ _ ?_ (fun hHeld => ?_)
      · (try dsimp only); exact hB1
      clear hK Kc
      try simp only [Act.put, List.setIfInBounds_toArray, List.set_cons_zero, List.set_cons_succ, List.getElem_toArray, List.getElem_cons_succ, List.getElem_cons_zero]
      refine wpAnyH_ready (rs := [6, 8]) (by kernel_rfl) (by simp) ?_
      refine AllReadyH.cons rfl (fun Kc hK => ?_) (AllReadyH.cons rfl (fun Kc hK => ?_) AllReadyH.nil)
      · go_simp
        go_at_call 60; refine (H3.out _).mono ?_; rintro e w2 ⟨rfl, hb2⟩; have hB2 := keepB hB1 (Nat.le_refl _) hb2; have hZ2 : Hid _ := blk hZ1.out hb2; have hsz : w.heap.size < w2.heap.size := (Array.getElem?_eq_some_iff.1 hZ2.out).1
        try dsimp only
        refine hK.out _ _ ?_ (fun hHeld => ?_)
        · (try dsimp only); exact hB2
        clear hK Kc
        try simp only [Act.put, List.setIfInBounds_toArray, List.set_cons_zero, List.set_cons_succ, List.getElem_toArray, List.getElem_cons_succ, List.getElem_cons_zero]
        refine yieldH (i := 7) (v := ?_) rfl (by kernel_rfl) (by kernel_rfl) (by kernel_rfl) (fun _ _ _ h => h) (by rfl) ?_ (by assumption) ?_; rotate_left
        · intro w hSw; (try dsimp only at hSw); go_simp; (try with_reducible rfl)
        try simp only [Act.put, List.setIfInBounds_toArray, List.set_cons_zero, List.set_cons_succ, List.getElem_toArray, List.getElem_cons_succ, List.getElem_cons_zero]
        refine wpAnyH_ready (rs := [8]) (by kernel_rfl) (by simp) ?_
        refine AllReadyH.cons rfl (fun Kc hK => ?_) AllReadyH.nil
        go_simp
        try dsimp only
        refine hK.out _ _ ?_ (fun hHeld => ?_)
        · (try dsimp only); exact keepB hB2 (Nat.le_refl _) (all_alloc w2 (.cells #[.int .i64 0, .int .i64 0, .int .i64 0, .slice none 0 0] 43))
        clear hK Kc
        try simp only [Act.put, List.setIfInBounds_toArray, List.set_cons_zero, List.set_cons_succ, List.getElem_toArray, List.getElem_cons_succ, List.getElem_cons_zero]
        refine wpAnyH_ready (rs := [9]) (by kernel_rfl) (by simp) ?_
        refine AllReadyH.cons rfl (fun Kc hK => ?_) AllReadyH.nil
        go_simp
        try dsimp only
        refine hK.out _ _ ?_ (fun hHeld => ?_)
        · (try dsimp only); exact keepB hB2 (Nat.le_refl _) (all_alloc w2 (.cells #[.int .i64 K, .int .i64 A, .int .i64 M, .slice none 0 0] 43))
        clear hK Kc
        try simp only [Act.put, List.setIfInBounds_toArray, List.set_cons_zero, List.set_cons_succ, List.getElem_toArray, List.getElem_cons_succ, List.getElem_cons_zero]
        refine wpAnyH_done (by kernel_rfl) ?_ _
        go_wp2
        go_meet
        exact ⟨_, rfl, hsz, heap_alloc_new w2 (.cells #[.int .i64 K, .int .i64 A, .int .i64 M, .slice none 0 0] 43), blk hZ2.out (all_alloc w2 (.cells #[.int .i64 K, .int .i64 A, .int .i64 M, .slice none 0 0] 43)), keepB hB2 (Nat.le_refl _) (all_alloc w2 (.cells #[.int .i64 K, .int .i64 A, .int .i64 M, .slice none 0 0] 43))⟩
      · go_simp
        try dsimp only
        refine hK.out _ _ ?_ (fun hHeld => ?_)
        · (try dsimp only); exact keepB hB1 (Nat.le_refl _) (all_alloc w1 (.cells #[.int .i64 0, .int .i64 0, .int .i64 0, .slice none 0 0] 43))
        clear hK Kc
        try simp only [Act.put, List.setIfInBounds_toArray, List.set_cons_zero, List.set_cons_succ, List.getElem_toArray, List.getElem_cons_succ, List.getElem_cons_zero]
        refine wpAnyH_ready (rs := [6]) (by kernel_rfl) (by simp) ?_
        refine AllReadyH.cons rfl (fun Kc hK => ?_) AllReadyH.nil
        go_simp
        go_at_call 60; refine (H3.out _).mono ?_; rintro e w2 ⟨rfl, hb2⟩; have hE2 : Hid _ := blk (heap_alloc_new w1 (.cells #[.int .i64 0, .int .i64 0, .int .i64 0, .slice none 0 0] 43)) hb2; have hB2 := keepB (keepB hB1 (Nat.le_refl _) (all_alloc w1 (.cells #[.int .i64 0, .int .i64 0, .int .i64 0, .slice none 0 0] 43))) (Nat.le_refl _) hb2; have hZ2 : Hid _ := blk (blk hZ1.out (all_alloc w1 (.cells #[.int .i64 0, .int .i64 0, .int .i64 0, .slice none 0 0] 43))) hb2; have hsz : w.heap.size < w1.heap.size := (Array.getElem?_eq_some_iff.1 hZ1.out).1; have u0 := cellW hE2.out 0 _ rfl w2 (Below.refl _ _); have u1 := cellW hE2.out 1 _ rfl w2 (Below.refl _ _); have u2 := cellW hE2.out 2 _ rfl w2 (Below.refl _ _); have u3 := cellW hE2.out 3 _ rfl w2 (Below.refl _ _); have uf0 := frozenW hE2.out 0 w2 (Below.refl _ _); have uf1 := frozenW hE2.out 1 w2 (Below.refl _ _); have uf2 := frozenW hE2.out 2 w2 (Below.refl _ _); have uf3 := frozenW hE2.out 3 w2 (Below.refl _ _)
        try dsimp only
        refine hK.out _ _ ?_ (fun hHeld => ?_)
        · (try dsimp only); exact hB2
        clear hK Kc
        try simp only [Act.put, List.setIfInBounds_toArray, List.set_cons_zero, List.set_cons_succ, List.getElem_toArray, List.getElem_cons_succ, List.getElem_cons_zero]
        refine yieldH (i := 7) (v := ?_) rfl (by kernel_rfl) (by kernel_rfl) (by kernel_rfl) (fun _ _ _ h => h) (by rfl) ?_ (by assumption) ?_; rotate_left
        · intro w hSw; (try dsimp only at hSw); go_simp; (try with_reducible rfl)
        try simp only [Act.put, List.setIfInBounds_toArray, List.set_cons_zero, List.set_cons_succ, List.getElem_toArray, List.getElem_cons_succ, List.getElem_cons_zero]
        refine wpAnyH_ready (rs := [9]) (by kernel_rfl) (by simp) ?_
        refine AllReadyH.cons rfl (fun Kc hK => ?_) AllReadyH.nil
        go_simp
        try dsimp only
        refine hK.out _ _ ?_ (fun hHeld => ?_)
        · (try dsimp only); exact (Below.setCell (Below.setCell (Below.setCell (Below.setCell hB2 (by simp only; omega) _) (by simp only; omega) _) (by simp only; omega) _) (by simp only; omega) _)
        clear hK Kc
        try simp only [Act.put, List.setIfInBounds_toArray, List.set_cons_zero, List.set_cons_succ, List.getElem_toArray, List.getElem_cons_succ, List.getElem_cons_zero]
        refine wpAnyH_done (by kernel_rfl) ?_ _
        go_wp2
        go_meet
        exact ⟨_, rfl, hsz, Joins.block_setCell (i := 3) (Joins.block_setCell (i := 2) (Joins.block_setCell (i := 1) (Joins.block_setCell (i := 0) hE2.out _) _) _) _, (Below.heap_setCell _ _ _ _ (by simp only; omega)).trans ((Below.heap_setCell _ _ _ _ (by simp only; omega)).trans ((Below.heap_setCell _ _ _ _ (by simp only; omega)).trans ((Below.heap_setCell _ _ _ _ (by simp only; omega)).trans hZ2.out))), hHeld⟩
    · go_simp
      try dsimp only
      refine hK.out _ _ ?_ (fun hHeld => ?_)
      · (try dsimp only); exact keepB (Below.drew hA0) (Nat.le_refl _) (all_alloc (World.drew A0) (.cells #[.int .i64 0, .int .i64 0, .int .i64 0, .slice none 0 0] 43))
      clear hK Kc
      try simp only [Act.put, List.setIfInBounds_toArray, List.set_cons_zero, List.set_cons_succ, List.getElem_toArray, List.getElem_cons_succ, List.getElem_cons_zero]
      refine wpAnyH_ready (rs := [4]) (by kernel_rfl) (by simp) ?_
      refine AllReadyH.cons rfl (fun Kc hK => ?_) AllReadyH.nil
      go_simp
      go_at_call 60; refine (H1.out _).mono ?_; rintro e w1 ⟨rfl, hb1⟩; have hE1 : Hid _ := blk hE0.out hb1; have hB1 : Below w.heap.size w w1 := keepB (Below.drew (keepB hA0 (Nat.le_refl _) (all_alloc A0 (.cells #[.int .i64 0, .int .i64 0, .int .i64 0, .slice none 0 0] 43)))) (Nat.le_refl _) hb1; have hZ1 : Hid _ := blk (blk hZ0.out (Below.drew (all_alloc A0 (.cells #[.int .i64 0, .int .i64 0, .int .i64 0, .slice none 0 0] 43)))) hb1
      try dsimp only
      refine hK.out _ _ ?_ (fun hHeld => ?_)
      · (try dsimp only); exact hB1
      clear hK Kc
      try simp only [Act.put, List.setIfInBounds_toArray, List.set_cons_zero, List.set_cons_succ, List.getElem_toArray, List.getElem_cons_succ, List.getElem_cons_zero]
      refine wpAnyH_ready (rs := [6]) (by kernel_rfl) (by simp) ?_
      refine AllReadyH.cons rfl (fun Kc hK => ?_) AllReadyH.nil
      go_simp
      go_at_call 60; refine (H3.out _).mono ?_; rintro e w2 ⟨rfl, hb2⟩; have hE2 : Hid _ := blk hE1.out hb2; have hB2 := keepB hB1 (Nat.le_refl _) hb2; have hZ2 : Hid _ := blk hZ1.out hb2; have hsz := hszA; have u0 := cellW hE2.out 0 _ rfl w2 (Below.refl _ _); have u1 := cellW hE2.out 1 _ rfl w2 (Below.refl _ _); have u2 := cellW hE2.out 2 _ rfl w2 (Below.refl _ _); have u3 := cellW hE2.out 3 _ rfl w2 (Below.refl _ _); have uf0 := frozenW hE2.out 0 w2 (Below.refl _ _); have uf1 := frozenW hE2.out 1 w2 (Below.refl _ _); have uf2 := frozenW hE2.out 2 w2 (Below.refl _ _); have uf3 := frozenW hE2.out 3 w2 (Below.refl _ _)
      try dsimp only
      refine hK.out _ _ ?_ (fun hHeld => ?_)
      · (try dsimp only); exact hB2
      clear hK Kc
      try simp only [Act.put, List.setIfInBounds_toArray, List.set_cons_zero, List.set_cons_succ, List.getElem_toArray, List.getElem_cons_succ, List.getElem_cons_zero]
      refine yieldH (i := 7) (v := ?_) rfl (by kernel_rfl) (by kernel_rfl) (by kernel_rfl) (fun _ _ _ h => h) (by rfl) ?_ (by assumption) ?_; rotate_left
      · intro w hSw; (try dsimp only at hSw); go_simp; (try with_reducible rfl)
      try simp only [Act.put, List.setIfInBounds_toArray, List.set_cons_zero, List.set_cons_succ, List.getElem_toArray, List.getElem_cons_succ, List.getElem_cons_zero]
      refine wpAnyH_ready (rs := [9]) (by kernel_rfl) (by simp) ?_
      refine AllReadyH.cons rfl (fun Kc hK => ?_) AllReadyH.nil
      go_simp
      try dsimp only
      refine hK.out _ _ ?_ (fun hHeld => ?_)
      · (try dsimp only); exact (Below.setCell (Below.setCell (Below.setCell (Below.setCell hB2 (by simp only; omega) _) (by simp only; omega) _) (by simp only; omega) _) (by simp only; omega) _)
      clear hK Kc
      try simp only [Act.put, List.setIfInBounds_toArray, List.set_cons_zero, List.set_cons_succ, List.getElem_toArray, List.getElem_cons_succ, List.getElem_cons_zero]
      refine wpAnyH_done (by kernel_rfl) ?_ _
      go_wp2
      go_meet
      exact ⟨_, rfl, hsz, Joins.block_setCell (i := 3) (Joins.block_setCell (i := 2) (Joins.block_setCell (i := 1) (Joins.block_setCell (i := 0) hE2.out _) _) _) _, (Below.heap_setCell _ _ _ _ (by simp only; omega)).trans ((Below.heap_setCell _ _ _ _ (by simp only; omega)).trans ((Below.heap_setCell _ _ _ _ (by simp only; omega)).trans ((Below.heap_setCell _ _ _ _ (by simp only; omega)).trans hZ2.out))), hHeld⟩
  case rest =>
    obtain ⟨X, rfl, hsz, hX3, hZ3, hB3⟩ := hcut
    rename World => B
    clear hZ0 hA0 H1 H3
    have hlX : X < B.heap.size := (Array.getElem?_eq_some_iff.1 hX3.out).1
    have hlG : w.heap.size < B.heap.size := (Array.getElem?_eq_some_iff.1 hZ3.out).1
    have ne1 : w.heap.size ≠ X := by omega
    have ne2 : X ≠ w.heap.size := by omega
    have x0 := cellW hX3.out 0 _ rfl B (Below.refl _ _)
    have x1 := cellW hX3.out 1 _ rfl B (Below.refl _ _)
    have x2 := cellW hX3.out 2 _ rfl B (Below.refl _ _)
    have x3 := cellW hX3.out 3 _ rfl B (Below.refl _ _)
    have xf0 := frozenW hX3.out 0 B (Below.refl _ _)
    have xf1 := frozenW hX3.out 1 B (Below.refl _ _)
    have xf2 := frozenW hX3.out 2 B (Below.refl _ _)
    have xf3 := frozenW hX3.out 3 B (Below.refl _ _)
    have z0 := cellW hZ3.out 0 _ rfl B (Below.refl _ _)
    have z1 := cellW hZ3.out 1 _ rfl B (Below.refl _ _)
    have z2 := cellW hZ3.out 2 _ rfl B (Below.refl _ _)
    have z3 := cellW hZ3.out 3 _ rfl B (Below.refl _ _)
    have zf0 := frozenW hZ3.out 0 B (Below.refl _ _)
    have zf1 := frozenW hZ3.out 1 B (Below.refl _ _)
    have zf2 := frozenW hZ3.out 2 B (Below.refl _ _)
    have zf3 := frozenW hZ3.out 3 B (Below.refl _ _)
    go_wp2
    exact bodyPost_ret (v := .agg #[.int .i64 K, .int .i64 A, .int .i64 M, .slice none 0 0]) (by simp [results, Tryd.results51, go_sem, z0, z1, z2, z3]) rfl ⟨_, rfl, OwnI.nil _ _, (Below.setCell (Below.setCell (Below.setCell (Below.setCell hB3 (by simp only; omega) _) (by simp only; omega) _) (by simp only; omega) _) (by simp only; omega) _)⟩
set_option maxRecDepth 100000 in
set_option maxHeartbeats 1600000 in
theorem l04Read_5 (s : ByteArray) (w : World) (h5 : 5 ≤ s.size) (hs : s.size ≤ 8000) (h1 : (byteAt s 0 : Int) = 5) :
    Calls Tryd.prog 51 #[.string s] w fun e w' => ∃ v, e = .returned (.agg #[.int .i64 (readS s).c, .int .i64 (readS s).a, .int .i64 (readS s).m, v]) ∧ OwnI w' w.heap.size v (readS s).vs ∧ Below w.heap.size w w' := by
  have hixK := index_K s (by omega)
  have H1 : Hid (∀ W, Calls Tryd.prog 60 #[.string s, .int .i64 1] W fun e w' => e = .returned (.int .i64 (wordAt s 1)) ∧ Below W.heap.size W w') := fun W => l04Word_any s 1 W hs (by omega)
  have H3 : Hid (∀ W, Calls Tryd.prog 60 #[.string s, .int .i64 3] W fun e w' => e = .returned (.int .i64 (wordAt s 3)) ∧ Below W.heap.size W w') := fun W => l04Word_any s 3 W hs (by omega)
  have hrd : readS s = ⟨(byteAt s 0 : Int), wordAt s 1, 1, [wordAt s 3 / 65280]⟩ := by
    unfold readS
    dsimp only
    rw [if_pos h1]
  rw [hrd]
  have hA := wordAt_range s 1
  have hM := wordAt_range s 3
  have hK := byteAt_range s 0
  obtain ⟨K, eK⟩ : ∃ K, (byteAt s 0 : Int) = K := ⟨_, rfl⟩
  have hK0 : 0 ≤ K := by omega
  have hK1 : K < 256 := by omega
  have ewK : IntKind.i64.wrap K = K := by
    obtain ⟨k, rfl⟩ : ∃ k : Nat, K = (k : Int) := ⟨K.toNat, by omega⟩
    exact wrap64_small k (by omega)
  rw [eK] at hixK h1 ⊢
  clear hrd hK eK
  generalize wordAt s 1 = A at H1 hA ⊢
  generalize wordAt s 3 = M at H3 hM ⊢
  obtain ⟨hA0, hA1⟩ := hA
  obtain ⟨hM0, hM1⟩ := hM
  have e5 : (K == 5) = true := by simp [h1]
  have e6 : (K == 6) = false := by simp [h1]
  have e15 : (K == 15) = false := by simp [h1]
  have e16 : (K == 16) = false := by simp [h1]
  have ed : M.tdiv 65280 = M / 65280 := Int.tdiv_eq_ediv_of_nonneg hM0
  clear h1
  have hA0 : Below w.heap.size w (w.alloc (.cells #[.int .i64 0, .int .i64 0, .int .i64 0, .slice none 0 0] 43)) := all_alloc w (.cells #[.int .i64 0, .int .i64 0, .int .i64 0, .slice none 0 0] 43)
  have hZ0 : Hid _ := heap_alloc_new w (.cells #[.int .i64 0, .int .i64 0, .int .i64 0, .slice none 0 0] 43)
  have hz1 : (w.alloc (.cells #[.int .i64 0, .int .i64 0, .int .i64 0, .slice none 0 0] 43)).heap.size = w.heap.size + 1 := by simp
  go_enter Tryd.func51, Tryd.ntmps51
  go_upto_region 1 with fail
  generalize w.alloc (.cells #[.int .i64 0, .int .i64 0, .int .i64 0, .slice none 0 0] 43) = A0 at hA0 hZ0 hz1 ⊢
  go_cut [3] (fun s3 wx => ∃ X, s3 = .pointer (some ⟨X, 0, none⟩) ∧ w.heap.size < X ∧ Hid (wx.heap[X]? = some (.cells #[.int .i64 K, .int .i64 A, .int .i64 M, .slice none 0 0] 43 (0, 0))) ∧ Hid (wx.heap[w.heap.size]? = some (.cells #[.int .i64 0, .int .i64 0, .int .i64 0, .slice none 0 0] 43 (0, 0))) ∧ Below w.heap.size w wx)
  case first =>
    have hE0 : Hid ((World.drew (A0.alloc (.cells #[.int .i64 0, .int .i64 0, .int .i64 0, .slice none 0 0] 43))).heap[A0.heap.size]? = some (.cells #[.int .i64 0, .int .i64 0, .int .i64 0, .slice none 0 0] 43 (0, 0))) := heap_alloc_new A0 (.cells #[.int .i64 0, .int .i64 0, .int .i64 0, .slice none 0 0] 43)
    have hszA : w.heap.size < A0.heap.size := by omega
    clear hz1
    have hDA : Below w.heap.size w (World.drew A0) := Below.drew hA0
    refine wp_region_held_drew (S := (fun w' => Below w.heap.size w w')) (by kernel_rfl) ?_ (fun hHeld => ?_)
    · (try dsimp only); exact hDA
    refine yieldH (i := 0) (v := ?_) rfl (by kernel_rfl) (by kernel_rfl) (by kernel_rfl) (fun _ _ _ h => h) (by rfl) ?_ (by assumption) ?_; rotate_left
    · intro w hSw; (try dsimp only at hSw); go_simp; (try with_reducible rfl)
    try simp only [Act.put, List.setIfInBounds_toArray, List.set_cons_zero, List.set_cons_succ, List.getElem_toArray, List.getElem_cons_succ, List.getElem_cons_zero]
    refine yieldH (i := 1) (v := ?_) rfl (by kernel_rfl) (by kernel_rfl) (by kernel_rfl) (fun _ _ _ h => h) (by rfl) ?_ (by assumption) ?_; rotate_left
    · intro w hSw; (try dsimp only at hSw); go_simp; (try with_reducible rfl)
    try simp only [Act.put, List.setIfInBounds_toArray, List.set_cons_zero, List.set_cons_succ, List.getElem_toArray, List.getElem_cons_succ, List.getElem_cons_zero]
    refine yieldH (i := 2) (v := ?_) rfl (by kernel_rfl) (by kernel_rfl) (by kernel_rfl) (fun _ _ _ h => h) (by rfl) ?_ (by assumption) ?_; rotate_left
    · intro w hSw; (try dsimp only at hSw); go_simp; (try with_reducible rfl)
    try simp only [Act.put, List.setIfInBounds_toArray, List.set_cons_zero, List.set_cons_succ, List.getElem_toArray, List.getElem_cons_succ, List.getElem_cons_zero]
    refine yieldH (i := 3) (v := ?_) rfl (by kernel_rfl) (by kernel_rfl) (by kernel_rfl) (fun _ _ _ h => h) (by rfl) ?_ (by assumption) ?_; rotate_left
    · intro w hSw; (try dsimp only at hSw); go_simp; (try with_reducible rfl)
    try simp only [Act.put, List.setIfInBounds_toArray, List.set_cons_zero, List.set_cons_succ, List.getElem_toArray, List.getElem_cons_succ, List.getElem_cons_zero]
    refine yieldH (i := 5) (v := ?_) rfl (by kernel_rfl) (by kernel_rfl) (by kernel_rfl) (fun _ _ _ h => h) (by rfl) ?_ (by assumption) ?_; rotate_left
    · intro w hSw; (try dsimp only at hSw); go_simp; (try with_reducible rfl)
    try simp only [Act.put, List.setIfInBounds_toArray, List.set_cons_zero, List.set_cons_succ, List.getElem_toArray, List.getElem_cons_succ, List.getElem_cons_zero]
    refine wpAnyH_ready (rs := [4, 8]) (by kernel_rfl) (by simp) ?_
    refine AllReadyH.cons rfl (fun Kc hK => ?_) (AllReadyH.cons rfl (fun Kc hK => ?_) AllReadyH.nil)
    · go_simp
      go_at_call 60; refine (H1.out _).mono ?_; rintro e w1 ⟨rfl, hb1⟩; have hB1 : Below w.heap.size w w1 := keepB (Below.drew hA0) (Nat.le_refl _) hb1; have hZ1 : Hid _ := blk (Y := World.drew A0) hZ0.out hb1
      try dsimp only
      refine hK.out _ _ ?_ (fun hHeld => ?_)
      · (try dsimp only); exact hB1
      clear hK Kc
      try simp only [Act.put, List.setIfInBounds_toArray, List.set_cons_zero, List.set_cons_succ, List.getElem_toArray, List.getElem_cons_succ, List.getElem_cons_zero]
      refine wpAnyH_ready (rs := [6, 8]) (by kernel_rfl) (by simp) ?_
      refine AllReadyH.cons rfl (fun Kc hK => ?_) (AllReadyH.cons rfl (fun Kc hK => ?_) AllReadyH.nil)
      · go_simp
        go_at_call 60; refine (H3.out _).mono ?_; rintro e w2 ⟨rfl, hb2⟩; have hB2 := keepB hB1 (Nat.le_refl _) hb2; have hZ2 : Hid _ := blk hZ1.out hb2; have hsz : w.heap.size < w2.heap.size := (Array.getElem?_eq_some_iff.1 hZ2.out).1
        try dsimp only
        refine hK.out _ _ ?_ (fun hHeld => ?_)
        · (try dsimp only); exact hB2
        clear hK Kc
        try simp only [Act.put, List.setIfInBounds_toArray, List.set_cons_zero, List.set_cons_succ, List.getElem_toArray, List.getElem_cons_succ, List.getElem_cons_zero]
        refine yieldH (i := 7) (v := ?_) rfl (by kernel_rfl) (by kernel_rfl) (by kernel_rfl) (fun _ _ _ h => h) (by rfl) ?_ (by assumption) ?_; rotate_left
        · intro w hSw; (try dsimp only at hSw); go_simp; (try with_reducible rfl)
        try simp only [Act.put, List.setIfInBounds_toArray, List.set_cons_zero, List.set_cons_succ, List.getElem_toArray, List.getElem_cons_succ, List.getElem_cons_zero]
        refine wpAnyH_ready (rs := [8]) (by kernel_rfl) (by simp) ?_
        refine AllReadyH.cons rfl (fun Kc hK => ?_) AllReadyH.nil
        go_simp
        try dsimp only
        refine hK.out _ _ ?_ (fun hHeld => ?_)
        · (try dsimp only); exact keepB hB2 (Nat.le_refl _) (all_alloc w2 (.cells #[.int .i64 0, .int .i64 0, .int .i64 0, .slice none 0 0] 43))
        clear hK Kc
        try simp only [Act.put, List.setIfInBounds_toArray, List.set_cons_zero, List.set_cons_succ, List.getElem_toArray, List.getElem_cons_succ, List.getElem_cons_zero]
        refine wpAnyH_ready (rs := [9]) (by kernel_rfl) (by simp) ?_
        refine AllReadyH.cons rfl (fun Kc hK => ?_) AllReadyH.nil
        go_simp
        try dsimp only
        refine hK.out _ _ ?_ (fun hHeld => ?_)
        · (try dsimp only); exact keepB hB2 (Nat.le_refl _) (all_alloc w2 (.cells #[.int .i64 K, .int .i64 A, .int .i64 M, .slice none 0 0] 43))
        clear hK Kc
        try simp only [Act.put, List.setIfInBounds_toArray, List.set_cons_zero, List.set_cons_succ, List.getElem_toArray, List.getElem_cons_succ, List.getElem_cons_zero]
        refine wpAnyH_done (by kernel_rfl) ?_ _
        go_wp2
        go_meet
        exact ⟨_, rfl, hsz, heap_alloc_new w2 (.cells #[.int .i64 K, .int .i64 A, .int .i64 M, .slice none 0 0] 43), blk hZ2.out (all_alloc w2 (.cells #[.int .i64 K, .int .i64 A, .int .i64 M, .slice none 0 0] 43)), keepB hB2 (Nat.le_refl _) (all_alloc w2 (.cells #[.int .i64 K, .int .i64 A, .int .i64 M, .slice none 0 0] 43))⟩
      · go_simp
        try dsimp only
        refine hK.out _ _ ?_ (fun hHeld => ?_)
        · (try dsimp only); exact keepB hB1 (Nat.le_refl _) (all_alloc w1 (.cells #[.int .i64 0, .int .i64 0, .int .i64 0, .slice none 0 0] 43))
        clear hK Kc
        try simp only [Act.put, List.setIfInBounds_toArray, List.set_cons_zero, List.set_cons_succ, List.getElem_toArray, List.getElem_cons_succ, List.getElem_cons_zero]
        refine wpAnyH_ready (rs := [6]) (by kernel_rfl) (by simp) ?_
        refine AllReadyH.cons rfl (fun Kc hK => ?_) AllReadyH.nil
        go_simp
        go_at_call 60; refine (H3.out _).mono ?_; rintro e w2 ⟨rfl, hb2⟩; have hE2 : Hid _ := blk (heap_alloc_new w1 (.cells #[.int .i64 0, .int .i64 0, .int .i64 0, .slice none 0 0] 43)) hb2; have hB2 := keepB (keepB hB1 (Nat.le_refl _) (all_alloc w1 (.cells #[.int .i64 0, .int .i64 0, .int .i64 0, .slice none 0 0] 43))) (Nat.le_refl _) hb2; have hZ2 : Hid _ := blk (blk hZ1.out (all_alloc w1 (.cells #[.int .i64 0, .int .i64 0, .int .i64 0, .slice none 0 0] 43))) hb2; have hsz : w.heap.size < w1.heap.size := (Array.getElem?_eq_some_iff.1 hZ1.out).1; have u0 := cellW hE2.out 0 _ rfl w2 (Below.refl _ _); have u1 := cellW hE2.out 1 _ rfl w2 (Below.refl _ _); have u2 := cellW hE2.out 2 _ rfl w2 (Below.refl _ _); have u3 := cellW hE2.out 3 _ rfl w2 (Below.refl _ _); have uf0 := frozenW hE2.out 0 w2 (Below.refl _ _); have uf1 := frozenW hE2.out 1 w2 (Below.refl _ _); have uf2 := frozenW hE2.out 2 w2 (Below.refl _ _); have uf3 := frozenW hE2.out 3 w2 (Below.refl _ _)
        try dsimp only
        refine hK.out _ _ ?_ (fun hHeld => ?_)
        · (try dsimp only); exact hB2
        clear hK Kc
        try simp only [Act.put, List.setIfInBounds_toArray, List.set_cons_zero, List.set_cons_succ, List.getElem_toArray, List.getElem_cons_succ, List.getElem_cons_zero]
        refine yieldH (i := 7) (v := ?_) rfl (by kernel_rfl) (by kernel_rfl) (by kernel_rfl) (fun _ _ _ h => h) (by rfl) ?_ (by assumption) ?_; rotate_left
        · intro w hSw; (try dsimp only at hSw); go_simp; (try with_reducible rfl)
        try simp only [Act.put, List.setIfInBounds_toArray, List.set_cons_zero, List.set_cons_succ, List.getElem_toArray, List.getElem_cons_succ, List.getElem_cons_zero]
        refine wpAnyH_ready (rs := [9]) (by kernel_rfl) (by simp) ?_
        refine AllReadyH.cons rfl (fun Kc hK => ?_) AllReadyH.nil
        go_simp
        try dsimp only
        refine hK.out _ _ ?_ (fun hHeld => ?_)
        · (try dsimp only); exact (Below.setCell (Below.setCell (Below.setCell (Below.setCell hB2 (by simp only; omega) _) (by simp only; omega) _) (by simp only; omega) _) (by simp only; omega) _)
        clear hK Kc
        try simp only [Act.put, List.setIfInBounds_toArray, List.set_cons_zero, List.set_cons_succ, List.getElem_toArray, List.getElem_cons_succ, List.getElem_cons_zero]
        refine wpAnyH_done (by kernel_rfl) ?_ _
        go_wp2
        go_meet
        exact ⟨_, rfl, hsz, Joins.block_setCell (i := 3) (Joins.block_setCell (i := 2) (Joins.block_setCell (i := 1) (Joins.block_setCell (i := 0) hE2.out _) _) _) _, (Below.heap_setCell _ _ _ _ (by simp only; omega)).trans ((Below.heap_setCell _ _ _ _ (by simp only; omega)).trans ((Below.heap_setCell _ _ _ _ (by simp only; omega)).trans ((Below.heap_setCell _ _ _ _ (by simp only; omega)).trans hZ2.out))), hHeld⟩
    · go_simp
      try dsimp only
      refine hK.out _ _ ?_ (fun hHeld => ?_)
      · (try dsimp only); exact keepB (Below.drew hA0) (Nat.le_refl _) (all_alloc (World.drew A0) (.cells #[.int .i64 0, .int .i64 0, .int .i64 0, .slice none 0 0] 43))
      clear hK Kc
      try simp only [Act.put, List.setIfInBounds_toArray, List.set_cons_zero, List.set_cons_succ, List.getElem_toArray, List.getElem_cons_succ, List.getElem_cons_zero]
      refine wpAnyH_ready (rs := [4]) (by kernel_rfl) (by simp) ?_
      refine AllReadyH.cons rfl (fun Kc hK => ?_) AllReadyH.nil
      go_simp
      go_at_call 60; refine (H1.out _).mono ?_; rintro e w1 ⟨rfl, hb1⟩; have hE1 : Hid _ := blk hE0.out hb1; have hB1 : Below w.heap.size w w1 := keepB (Below.drew (keepB hA0 (Nat.le_refl _) (all_alloc A0 (.cells #[.int .i64 0, .int .i64 0, .int .i64 0, .slice none 0 0] 43)))) (Nat.le_refl _) hb1; have hZ1 : Hid _ := blk (blk hZ0.out (Below.drew (all_alloc A0 (.cells #[.int .i64 0, .int .i64 0, .int .i64 0, .slice none 0 0] 43)))) hb1
      try dsimp only
      refine hK.out _ _ ?_ (fun hHeld => ?_)
      · (try dsimp only); exact hB1
      clear hK Kc
      try simp only [Act.put, List.setIfInBounds_toArray, List.set_cons_zero, List.set_cons_succ, List.getElem_toArray, List.getElem_cons_succ, List.getElem_cons_zero]
      refine wpAnyH_ready (rs := [6]) (by kernel_rfl) (by simp) ?_
      refine AllReadyH.cons rfl (fun Kc hK => ?_) AllReadyH.nil
      go_simp
      go_at_call 60; refine (H3.out _).mono ?_; rintro e w2 ⟨rfl, hb2⟩; have hE2 : Hid _ := blk hE1.out hb2; have hB2 := keepB hB1 (Nat.le_refl _) hb2; have hZ2 : Hid _ := blk hZ1.out hb2; have hsz := hszA; have u0 := cellW hE2.out 0 _ rfl w2 (Below.refl _ _); have u1 := cellW hE2.out 1 _ rfl w2 (Below.refl _ _); have u2 := cellW hE2.out 2 _ rfl w2 (Below.refl _ _); have u3 := cellW hE2.out 3 _ rfl w2 (Below.refl _ _); have uf0 := frozenW hE2.out 0 w2 (Below.refl _ _); have uf1 := frozenW hE2.out 1 w2 (Below.refl _ _); have uf2 := frozenW hE2.out 2 w2 (Below.refl _ _); have uf3 := frozenW hE2.out 3 w2 (Below.refl _ _)
      try dsimp only
      refine hK.out _ _ ?_ (fun hHeld => ?_)
      · (try dsimp only); exact hB2
      clear hK Kc
      try simp only [Act.put, List.setIfInBounds_toArray, List.set_cons_zero, List.set_cons_succ, List.getElem_toArray, List.getElem_cons_succ, List.getElem_cons_zero]
      refine yieldH (i := 7) (v := ?_) rfl (by kernel_rfl) (by kernel_rfl) (by kernel_rfl) (fun _ _ _ h => h) (by rfl) ?_ (by assumption) ?_; rotate_left
      · intro w hSw; (try dsimp only at hSw); go_simp; (try with_reducible rfl)
      try simp only [Act.put, List.setIfInBounds_toArray, List.set_cons_zero, List.set_cons_succ, List.getElem_toArray, List.getElem_cons_succ, List.getElem_cons_zero]
      refine wpAnyH_ready (rs := [9]) (by kernel_rfl) (by simp) ?_
      refine AllReadyH.cons rfl (fun Kc hK => ?_) AllReadyH.nil
      go_simp
      try dsimp only
      refine hK.out _ _ ?_ (fun hHeld => ?_)
      · (try dsimp only); exact (Below.setCell (Below.setCell (Below.setCell (Below.setCell hB2 (by simp only; omega) _) (by simp only; omega) _) (by simp only; omega) _) (by simp only; omega) _)
      clear hK Kc
      try simp only [Act.put, List.setIfInBounds_toArray, List.set_cons_zero, List.set_cons_succ, List.getElem_toArray, List.getElem_cons_succ, List.getElem_cons_zero]
      refine wpAnyH_done (by kernel_rfl) ?_ _
      go_wp2
      go_meet
      exact ⟨_, rfl, hsz, Joins.block_setCell (i := 3) (Joins.block_setCell (i := 2) (Joins.block_setCell (i := 1) (Joins.block_setCell (i := 0) hE2.out _) _) _) _, (Below.heap_setCell _ _ _ _ (by simp only; omega)).trans ((Below.heap_setCell _ _ _ _ (by simp only; omega)).trans ((Below.heap_setCell _ _ _ _ (by simp only; omega)).trans ((Below.heap_setCell _ _ _ _ (by simp only; omega)).trans hZ2.out))), hHeld⟩
  case rest =>
    obtain ⟨X, rfl, hsz, hX3, hZ3, hB3⟩ := hcut
    rename World => B
    clear hZ0 hA0 H1 H3
    have hlX : X < B.heap.size := (Array.getElem?_eq_some_iff.1 hX3.out).1
    have hlG : w.heap.size < B.heap.size := (Array.getElem?_eq_some_iff.1 hZ3.out).1
    have ne1 : w.heap.size ≠ X := by omega
    have ne2 : X ≠ w.heap.size := by omega
    have x0 := cellW hX3.out 0 _ rfl B (Below.refl _ _)
    have x1 := cellW hX3.out 1 _ rfl B (Below.refl _ _)
    have x2 := cellW hX3.out 2 _ rfl B (Below.refl _ _)
    have x3 := cellW hX3.out 3 _ rfl B (Below.refl _ _)
    have xf0 := frozenW hX3.out 0 B (Below.refl _ _)
    have xf1 := frozenW hX3.out 1 B (Below.refl _ _)
    have xf2 := frozenW hX3.out 2 B (Below.refl _ _)
    have xf3 := frozenW hX3.out 3 B (Below.refl _ _)
    have z0 := cellW hZ3.out 0 _ rfl B (Below.refl _ _)
    have z1 := cellW hZ3.out 1 _ rfl B (Below.refl _ _)
    have z2 := cellW hZ3.out 2 _ rfl B (Below.refl _ _)
    have z3 := cellW hZ3.out 3 _ rfl B (Below.refl _ _)
    have zf0 := frozenW hZ3.out 0 B (Below.refl _ _)
    have zf1 := frozenW hZ3.out 1 B (Below.refl _ _)
    have zf2 := frozenW hZ3.out 2 B (Below.refl _ _)
    have zf3 := frozenW hZ3.out 3 B (Below.refl _ _)
    go_wp2
    have hW : Below w.heap.size w ((B.setCell ⟨X, 3, none⟩ (.slice (some ⟨B.heap.size, 0, none⟩) 1 1)).setCell ⟨X, 2, none⟩ (.int .i64 1)) := (hB3.setCell (by simp only; omega) _).setCell (by simp only; omega) _
    exact bodyPost_ret (v := .agg #[.int .i64 K, .int .i64 A, .int .i64 1, .slice (some ⟨B.heap.size, 0, none⟩) 1 1]) (by simp [results, Tryd.results51, go_sem, z0, z1, z2, z3, ne1, ne2, hlG]) rfl ⟨_, rfl, own_oneW (by simp only [size_set]) (by omega), Below.alloc (Below.setCell (Below.setCell (Below.setCell (Below.setCell hW (by simp only; omega) _) (by simp only; omega) _) (by simp only; omega) _) (by simp only; omega) _) (by simp only [size_set]; omega) _⟩
set_option maxRecDepth 100000 in
set_option maxHeartbeats 1600000 in
theorem l04Read_6 (s : ByteArray) (w : World) (h5 : 5 ≤ s.size) (hs : s.size ≤ 8000) (h1 : (byteAt s 0 : Int) = 6) :
    Calls Tryd.prog 51 #[.string s] w fun e w' => ∃ v, e = .returned (.agg #[.int .i64 (readS s).c, .int .i64 (readS s).a, .int .i64 (readS s).m, v]) ∧ OwnI w' w.heap.size v (readS s).vs ∧ Below w.heap.size w w' := by
  have hixK := index_K s (by omega)
  have H1 : Hid (∀ W, Calls Tryd.prog 60 #[.string s, .int .i64 1] W fun e w' => e = .returned (.int .i64 (wordAt s 1)) ∧ Below W.heap.size W w') := fun W => l04Word_any s 1 W hs (by omega)
  have H3 : Hid (∀ W, Calls Tryd.prog 60 #[.string s, .int .i64 3] W fun e w' => e = .returned (.int .i64 (wordAt s 3)) ∧ Below W.heap.size W w') := fun W => l04Word_any s 3 W hs (by omega)
  have hrd : readS s = ⟨(byteAt s 0 : Int), wordAt s 1, 1, [wordAt s 3]⟩ := by
    unfold readS
    dsimp only
    rw [if_neg (by omega), if_pos h1]
  rw [hrd]
  have hA := wordAt_range s 1
  have hM := wordAt_range s 3
  have hK := byteAt_range s 0
  obtain ⟨K, eK⟩ : ∃ K, (byteAt s 0 : Int) = K := ⟨_, rfl⟩
  have hK0 : 0 ≤ K := by omega
  have hK1 : K < 256 := by omega
  have ewK : IntKind.i64.wrap K = K := by
    obtain ⟨k, rfl⟩ : ∃ k : Nat, K = (k : Int) := ⟨K.toNat, by omega⟩
    exact wrap64_small k (by omega)
  rw [eK] at hixK h1 ⊢
  clear hrd hK eK
  generalize wordAt s 1 = A at H1 hA ⊢
  generalize wordAt s 3 = M at H3 hM ⊢
  obtain ⟨hA0, hA1⟩ := hA
  obtain ⟨hM0, hM1⟩ := hM
  have e5 : (K == 5) = false := by simp [h1]
  have e6 : (K == 6) = true := by simp [h1]
  have e15 : (K == 15) = false := by simp [h1]
  have e16 : (K == 16) = false := by simp [h1]
  clear h1
  have hA0 : Below w.heap.size w (w.alloc (.cells #[.int .i64 0, .int .i64 0, .int .i64 0, .slice none 0 0] 43)) := all_alloc w (.cells #[.int .i64 0, .int .i64 0, .int .i64 0, .slice none 0 0] 43)
  have hZ0 : Hid _ := heap_alloc_new w (.cells #[.int .i64 0, .int .i64 0, .int .i64 0, .slice none 0 0] 43)
  have hz1 : (w.alloc (.cells #[.int .i64 0, .int .i64 0, .int .i64 0, .slice none 0 0] 43)).heap.size = w.heap.size + 1 := by simp
  go_enter Tryd.func51, Tryd.ntmps51
  go_upto_region 1 with fail
  generalize w.alloc (.cells #[.int .i64 0, .int .i64 0, .int .i64 0, .slice none 0 0] 43) = A0 at hA0 hZ0 hz1 ⊢
  go_cut [3] (fun s3 wx => ∃ X, s3 = .pointer (some ⟨X, 0, none⟩) ∧ w.heap.size < X ∧ Hid (wx.heap[X]? = some (.cells #[.int .i64 K, .int .i64 A, .int .i64 M, .slice none 0 0] 43 (0, 0))) ∧ Hid (wx.heap[w.heap.size]? = some (.cells #[.int .i64 0, .int .i64 0, .int .i64 0, .slice none 0 0] 43 (0, 0))) ∧ Below w.heap.size w wx)
  case first =>
    have hE0 : Hid ((World.drew (A0.alloc (.cells #[.int .i64 0, .int .i64 0, .int .i64 0, .slice none 0 0] 43))).heap[A0.heap.size]? = some (.cells #[.int .i64 0, .int .i64 0, .int .i64 0, .slice none 0 0] 43 (0, 0))) := heap_alloc_new A0 (.cells #[.int .i64 0, .int .i64 0, .int .i64 0, .slice none 0 0] 43)
    have hszA : w.heap.size < A0.heap.size := by omega
    clear hz1
    have hDA : Below w.heap.size w (World.drew A0) := Below.drew hA0
    refine wp_region_held_drew (S := (fun w' => Below w.heap.size w w')) (by kernel_rfl) ?_ (fun hHeld => ?_)
    · (try dsimp only); exact hDA
    refine yieldH (i := 0) (v := ?_) rfl (by kernel_rfl) (by kernel_rfl) (by kernel_rfl) (fun _ _ _ h => h) (by rfl) ?_ (by assumption) ?_; rotate_left
    · intro w hSw; (try dsimp only at hSw); go_simp; (try with_reducible rfl)
    try simp only [Act.put, List.setIfInBounds_toArray, List.set_cons_zero, List.set_cons_succ, List.getElem_toArray, List.getElem_cons_succ, List.getElem_cons_zero]
    refine yieldH (i := 1) (v := ?_) rfl (by kernel_rfl) (by kernel_rfl) (by kernel_rfl) (fun _ _ _ h => h) (by rfl) ?_ (by assumption) ?_; rotate_left
    · intro w hSw; (try dsimp only at hSw); go_simp; (try with_reducible rfl)
    try simp only [Act.put, List.setIfInBounds_toArray, List.set_cons_zero, List.set_cons_succ, List.getElem_toArray, List.getElem_cons_succ, List.getElem_cons_zero]
    refine yieldH (i := 2) (v := ?_) rfl (by kernel_rfl) (by kernel_rfl) (by kernel_rfl) (fun _ _ _ h => h) (by rfl) ?_ (by assumption) ?_; rotate_left
    · intro w hSw; (try dsimp only at hSw); go_simp; (try with_reducible rfl)
    try simp only [Act.put, List.setIfInBounds_toArray, List.set_cons_zero, List.set_cons_succ, List.getElem_toArray, List.getElem_cons_succ, List.getElem_cons_zero]
    refine yieldH (i := 3) (v := ?_) rfl (by kernel_rfl) (by kernel_rfl) (by kernel_rfl) (fun _ _ _ h => h) (by rfl) ?_ (by assumption) ?_; rotate_left
    · intro w hSw; (try dsimp only at hSw); go_simp; (try with_reducible rfl)
    try simp only [Act.put, List.setIfInBounds_toArray, List.set_cons_zero, List.set_cons_succ, List.getElem_toArray, List.getElem_cons_succ, List.getElem_cons_zero]
    refine yieldH (i := 5) (v := ?_) rfl (by kernel_rfl) (by kernel_rfl) (by kernel_rfl) (fun _ _ _ h => h) (by rfl) ?_ (by assumption) ?_; rotate_left
    · intro w hSw; (try dsimp only at hSw); go_simp; (try with_reducible rfl)
    try simp only [Act.put, List.setIfInBounds_toArray, List.set_cons_zero, List.set_cons_succ, List.getElem_toArray, List.getElem_cons_succ, List.getElem_cons_zero]
    refine wpAnyH_ready (rs := [4, 8]) (by kernel_rfl) (by simp) ?_
    refine AllReadyH.cons rfl (fun Kc hK => ?_) (AllReadyH.cons rfl (fun Kc hK => ?_) AllReadyH.nil)
    · go_simp
      go_at_call 60; refine (H1.out _).mono ?_; rintro e w1 ⟨rfl, hb1⟩; have hB1 : Below w.heap.size w w1 := keepB (Below.drew hA0) (Nat.le_refl _) hb1; have hZ1 : Hid _ := blk (Y := World.drew A0) hZ0.out hb1
      try dsimp only
      refine hK.out _ _ ?_ (fun hHeld => ?_)
      · (try dsimp only); exact hB1
      clear hK Kc
      try simp only [Act.put, List.setIfInBounds_toArray, List.set_cons_zero, List.set_cons_succ, List.getElem_toArray, List.getElem_cons_succ, List.getElem_cons_zero]
      refine wpAnyH_ready (rs := [6, 8]) (by kernel_rfl) (by simp) ?_
      refine AllReadyH.cons rfl (fun Kc hK => ?_) (AllReadyH.cons rfl (fun Kc hK => ?_) AllReadyH.nil)
      · go_simp
        go_at_call 60; refine (H3.out _).mono ?_; rintro e w2 ⟨rfl, hb2⟩; have hB2 := keepB hB1 (Nat.le_refl _) hb2; have hZ2 : Hid _ := blk hZ1.out hb2; have hsz : w.heap.size < w2.heap.size := (Array.getElem?_eq_some_iff.1 hZ2.out).1
        try dsimp only
        refine hK.out _ _ ?_ (fun hHeld => ?_)
        · (try dsimp only); exact hB2
        clear hK Kc
        try simp only [Act.put, List.setIfInBounds_toArray, List.set_cons_zero, List.set_cons_succ, List.getElem_toArray, List.getElem_cons_succ, List.getElem_cons_zero]
        refine yieldH (i := 7) (v := ?_) rfl (by kernel_rfl) (by kernel_rfl) (by kernel_rfl) (fun _ _ _ h => h) (by rfl) ?_ (by assumption) ?_; rotate_left
        · intro w hSw; (try dsimp only at hSw); go_simp; (try with_reducible rfl)
        try simp only [Act.put, List.setIfInBounds_toArray, List.set_cons_zero, List.set_cons_succ, List.getElem_toArray, List.getElem_cons_succ, List.getElem_cons_zero]
        refine wpAnyH_ready (rs := [8]) (by kernel_rfl) (by simp) ?_
        refine AllReadyH.cons rfl (fun Kc hK => ?_) AllReadyH.nil
        go_simp
        try dsimp only
        refine hK.out _ _ ?_ (fun hHeld => ?_)
        · (try dsimp only); exact keepB hB2 (Nat.le_refl _) (all_alloc w2 (.cells #[.int .i64 0, .int .i64 0, .int .i64 0, .slice none 0 0] 43))
        clear hK Kc
        try simp only [Act.put, List.setIfInBounds_toArray, List.set_cons_zero, List.set_cons_succ, List.getElem_toArray, List.getElem_cons_succ, List.getElem_cons_zero]
        refine wpAnyH_ready (rs := [9]) (by kernel_rfl) (by simp) ?_
        refine AllReadyH.cons rfl (fun Kc hK => ?_) AllReadyH.nil
        go_simp
        try dsimp only
        refine hK.out _ _ ?_ (fun hHeld => ?_)
        · (try dsimp only); exact keepB hB2 (Nat.le_refl _) (all_alloc w2 (.cells #[.int .i64 K, .int .i64 A, .int .i64 M, .slice none 0 0] 43))
        clear hK Kc
        try simp only [Act.put, List.setIfInBounds_toArray, List.set_cons_zero, List.set_cons_succ, List.getElem_toArray, List.getElem_cons_succ, List.getElem_cons_zero]
        refine wpAnyH_done (by kernel_rfl) ?_ _
        go_wp2
        go_meet
        exact ⟨_, rfl, hsz, heap_alloc_new w2 (.cells #[.int .i64 K, .int .i64 A, .int .i64 M, .slice none 0 0] 43), blk hZ2.out (all_alloc w2 (.cells #[.int .i64 K, .int .i64 A, .int .i64 M, .slice none 0 0] 43)), keepB hB2 (Nat.le_refl _) (all_alloc w2 (.cells #[.int .i64 K, .int .i64 A, .int .i64 M, .slice none 0 0] 43))⟩
      · go_simp
        try dsimp only
        refine hK.out _ _ ?_ (fun hHeld => ?_)
        · (try dsimp only); exact keepB hB1 (Nat.le_refl _) (all_alloc w1 (.cells #[.int .i64 0, .int .i64 0, .int .i64 0, .slice none 0 0] 43))
        clear hK Kc
        try simp only [Act.put, List.setIfInBounds_toArray, List.set_cons_zero, List.set_cons_succ, List.getElem_toArray, List.getElem_cons_succ, List.getElem_cons_zero]
        refine wpAnyH_ready (rs := [6]) (by kernel_rfl) (by simp) ?_
        refine AllReadyH.cons rfl (fun Kc hK => ?_) AllReadyH.nil
        go_simp
        go_at_call 60; refine (H3.out _).mono ?_; rintro e w2 ⟨rfl, hb2⟩; have hE2 : Hid _ := blk (heap_alloc_new w1 (.cells #[.int .i64 0, .int .i64 0, .int .i64 0, .slice none 0 0] 43)) hb2; have hB2 := keepB (keepB hB1 (Nat.le_refl _) (all_alloc w1 (.cells #[.int .i64 0, .int .i64 0, .int .i64 0, .slice none 0 0] 43))) (Nat.le_refl _) hb2; have hZ2 : Hid _ := blk (blk hZ1.out (all_alloc w1 (.cells #[.int .i64 0, .int .i64 0, .int .i64 0, .slice none 0 0] 43))) hb2; have hsz : w.heap.size < w1.heap.size := (Array.getElem?_eq_some_iff.1 hZ1.out).1; have u0 := cellW hE2.out 0 _ rfl w2 (Below.refl _ _); have u1 := cellW hE2.out 1 _ rfl w2 (Below.refl _ _); have u2 := cellW hE2.out 2 _ rfl w2 (Below.refl _ _); have u3 := cellW hE2.out 3 _ rfl w2 (Below.refl _ _); have uf0 := frozenW hE2.out 0 w2 (Below.refl _ _); have uf1 := frozenW hE2.out 1 w2 (Below.refl _ _); have uf2 := frozenW hE2.out 2 w2 (Below.refl _ _); have uf3 := frozenW hE2.out 3 w2 (Below.refl _ _)
        try dsimp only
        refine hK.out _ _ ?_ (fun hHeld => ?_)
        · (try dsimp only); exact hB2
        clear hK Kc
        try simp only [Act.put, List.setIfInBounds_toArray, List.set_cons_zero, List.set_cons_succ, List.getElem_toArray, List.getElem_cons_succ, List.getElem_cons_zero]
        refine yieldH (i := 7) (v := ?_) rfl (by kernel_rfl) (by kernel_rfl) (by kernel_rfl) (fun _ _ _ h => h) (by rfl) ?_ (by assumption) ?_; rotate_left
        · intro w hSw; (try dsimp only at hSw); go_simp; (try with_reducible rfl)
        try simp only [Act.put, List.setIfInBounds_toArray, List.set_cons_zero, List.set_cons_succ, List.getElem_toArray, List.getElem_cons_succ, List.getElem_cons_zero]
        refine wpAnyH_ready (rs := [9]) (by kernel_rfl) (by simp) ?_
        refine AllReadyH.cons rfl (fun Kc hK => ?_) AllReadyH.nil
        go_simp
        try dsimp only
        refine hK.out _ _ ?_ (fun hHeld => ?_)
        · (try dsimp only); exact (Below.setCell (Below.setCell (Below.setCell (Below.setCell hB2 (by simp only; omega) _) (by simp only; omega) _) (by simp only; omega) _) (by simp only; omega) _)
        clear hK Kc
        try simp only [Act.put, List.setIfInBounds_toArray, List.set_cons_zero, List.set_cons_succ, List.getElem_toArray, List.getElem_cons_succ, List.getElem_cons_zero]
        refine wpAnyH_done (by kernel_rfl) ?_ _
        go_wp2
        go_meet
        exact ⟨_, rfl, hsz, Joins.block_setCell (i := 3) (Joins.block_setCell (i := 2) (Joins.block_setCell (i := 1) (Joins.block_setCell (i := 0) hE2.out _) _) _) _, (Below.heap_setCell _ _ _ _ (by simp only; omega)).trans ((Below.heap_setCell _ _ _ _ (by simp only; omega)).trans ((Below.heap_setCell _ _ _ _ (by simp only; omega)).trans ((Below.heap_setCell _ _ _ _ (by simp only; omega)).trans hZ2.out))), hHeld⟩
    · go_simp
      try dsimp only
      refine hK.out _ _ ?_ (fun hHeld => ?_)
      · (try dsimp only); exact keepB (Below.drew hA0) (Nat.le_refl _) (all_alloc (World.drew A0) (.cells #[.int .i64 0, .int .i64 0, .int .i64 0, .slice none 0 0] 43))
      clear hK Kc
      try simp only [Act.put, List.setIfInBounds_toArray, List.set_cons_zero, List.set_cons_succ, List.getElem_toArray, List.getElem_cons_succ, List.getElem_cons_zero]
      refine wpAnyH_ready (rs := [4]) (by kernel_rfl) (by simp) ?_
      refine AllReadyH.cons rfl (fun Kc hK => ?_) AllReadyH.nil
      go_simp
      go_at_call 60; refine (H1.out _).mono ?_; rintro e w1 ⟨rfl, hb1⟩; have hE1 : Hid _ := blk hE0.out hb1; have hB1 : Below w.heap.size w w1 := keepB (Below.drew (keepB hA0 (Nat.le_refl _) (all_alloc A0 (.cells #[.int .i64 0, .int .i64 0, .int .i64 0, .slice none 0 0] 43)))) (Nat.le_refl _) hb1; have hZ1 : Hid _ := blk (blk hZ0.out (Below.drew (all_alloc A0 (.cells #[.int .i64 0, .int .i64 0, .int .i64 0, .slice none 0 0] 43)))) hb1
      try dsimp only
      refine hK.out _ _ ?_ (fun hHeld => ?_)
      · (try dsimp only); exact hB1
      clear hK Kc
      try simp only [Act.put, List.setIfInBounds_toArray, List.set_cons_zero, List.set_cons_succ, List.getElem_toArray, List.getElem_cons_succ, List.getElem_cons_zero]
      refine wpAnyH_ready (rs := [6]) (by kernel_rfl) (by simp) ?_
      refine AllReadyH.cons rfl (fun Kc hK => ?_) AllReadyH.nil
      go_simp
      go_at_call 60; refine (H3.out _).mono ?_; rintro e w2 ⟨rfl, hb2⟩; have hE2 : Hid _ := blk hE1.out hb2; have hB2 := keepB hB1 (Nat.le_refl _) hb2; have hZ2 : Hid _ := blk hZ1.out hb2; have hsz := hszA; have u0 := cellW hE2.out 0 _ rfl w2 (Below.refl _ _); have u1 := cellW hE2.out 1 _ rfl w2 (Below.refl _ _); have u2 := cellW hE2.out 2 _ rfl w2 (Below.refl _ _); have u3 := cellW hE2.out 3 _ rfl w2 (Below.refl _ _); have uf0 := frozenW hE2.out 0 w2 (Below.refl _ _); have uf1 := frozenW hE2.out 1 w2 (Below.refl _ _); have uf2 := frozenW hE2.out 2 w2 (Below.refl _ _); have uf3 := frozenW hE2.out 3 w2 (Below.refl _ _)
      try dsimp only
      refine hK.out _ _ ?_ (fun hHeld => ?_)
      · (try dsimp only); exact hB2
      clear hK Kc
      try simp only [Act.put, List.setIfInBounds_toArray, List.set_cons_zero, List.set_cons_succ, List.getElem_toArray, List.getElem_cons_succ, List.getElem_cons_zero]
      refine yieldH (i := 7) (v := ?_) rfl (by kernel_rfl) (by kernel_rfl) (by kernel_rfl) (fun _ _ _ h => h) (by rfl) ?_ (by assumption) ?_; rotate_left
      · intro w hSw; (try dsimp only at hSw); go_simp; (try with_reducible rfl)
      try simp only [Act.put, List.setIfInBounds_toArray, List.set_cons_zero, List.set_cons_succ, List.getElem_toArray, List.getElem_cons_succ, List.getElem_cons_zero]
      refine wpAnyH_ready (rs := [9]) (by kernel_rfl) (by simp) ?_
      refine AllReadyH.cons rfl (fun Kc hK => ?_) AllReadyH.nil
      go_simp
      try dsimp only
      refine hK.out _ _ ?_ (fun hHeld => ?_)
      · (try dsimp only); exact (Below.setCell (Below.setCell (Below.setCell (Below.setCell hB2 (by simp only; omega) _) (by simp only; omega) _) (by simp only; omega) _) (by simp only; omega) _)
      clear hK Kc
      try simp only [Act.put, List.setIfInBounds_toArray, List.set_cons_zero, List.set_cons_succ, List.getElem_toArray, List.getElem_cons_succ, List.getElem_cons_zero]
      refine wpAnyH_done (by kernel_rfl) ?_ _
      go_wp2
      go_meet
      exact ⟨_, rfl, hsz, Joins.block_setCell (i := 3) (Joins.block_setCell (i := 2) (Joins.block_setCell (i := 1) (Joins.block_setCell (i := 0) hE2.out _) _) _) _, (Below.heap_setCell _ _ _ _ (by simp only; omega)).trans ((Below.heap_setCell _ _ _ _ (by simp only; omega)).trans ((Below.heap_setCell _ _ _ _ (by simp only; omega)).trans ((Below.heap_setCell _ _ _ _ (by simp only; omega)).trans hZ2.out))), hHeld⟩
  case rest =>
    obtain ⟨X, rfl, hsz, hX3, hZ3, hB3⟩ := hcut
    rename World => B
    clear hZ0 hA0 H1 H3
    have hlX : X < B.heap.size := (Array.getElem?_eq_some_iff.1 hX3.out).1
    have hlG : w.heap.size < B.heap.size := (Array.getElem?_eq_some_iff.1 hZ3.out).1
    have ne1 : w.heap.size ≠ X := by omega
    have ne2 : X ≠ w.heap.size := by omega
    have x0 := cellW hX3.out 0 _ rfl B (Below.refl _ _)
    have x1 := cellW hX3.out 1 _ rfl B (Below.refl _ _)
    have x2 := cellW hX3.out 2 _ rfl B (Below.refl _ _)
    have x3 := cellW hX3.out 3 _ rfl B (Below.refl _ _)
    have xf0 := frozenW hX3.out 0 B (Below.refl _ _)
    have xf1 := frozenW hX3.out 1 B (Below.refl _ _)
    have xf2 := frozenW hX3.out 2 B (Below.refl _ _)
    have xf3 := frozenW hX3.out 3 B (Below.refl _ _)
    have z0 := cellW hZ3.out 0 _ rfl B (Below.refl _ _)
    have z1 := cellW hZ3.out 1 _ rfl B (Below.refl _ _)
    have z2 := cellW hZ3.out 2 _ rfl B (Below.refl _ _)
    have z3 := cellW hZ3.out 3 _ rfl B (Below.refl _ _)
    have zf0 := frozenW hZ3.out 0 B (Below.refl _ _)
    have zf1 := frozenW hZ3.out 1 B (Below.refl _ _)
    have zf2 := frozenW hZ3.out 2 B (Below.refl _ _)
    have zf3 := frozenW hZ3.out 3 B (Below.refl _ _)
    go_wp2
    have hW : Below w.heap.size w ((B.setCell ⟨X, 3, none⟩ (.slice (some ⟨B.heap.size, 0, none⟩) 1 1)).setCell ⟨X, 2, none⟩ (.int .i64 1)) := (hB3.setCell (by simp only; omega) _).setCell (by simp only; omega) _
    exact bodyPost_ret (v := .agg #[.int .i64 K, .int .i64 A, .int .i64 1, .slice (some ⟨B.heap.size, 0, none⟩) 1 1]) (by simp [results, Tryd.results51, go_sem, z0, z1, z2, z3, ne1, ne2, hlG]) rfl ⟨_, rfl, own_oneW (by simp only [size_set]) (by omega), Below.alloc (Below.setCell (Below.setCell (Below.setCell (Below.setCell hW (by simp only; omega) _) (by simp only; omega) _) (by simp only; omega) _) (by simp only; omega) _) (by simp only [size_set]; omega) _⟩
end Go.Proofs.YtfpibedloodjlabDoor
