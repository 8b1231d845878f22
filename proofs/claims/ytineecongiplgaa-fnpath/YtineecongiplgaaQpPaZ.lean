/- A PATH READ: the model's PathRead. Written by mkpaz.py. -/
import Derived.Test.YtineecongiplgaaQpPaX
namespace Go.Proofs.Ytineecongiplgaa
open Go.RowKit
set_option linter.unusedVariables false
set_option linter.unusedSimpArgs false

theorem up0_le (l : List UInt8) : (up0 l).length ≤ l.length := by
  unfold up0
  rw [List.length_map]
  exact List.Sublist.length_le (List.takeWhile_sublist _)
theorem slice_f (s : ByteArray) (h : s.size = 10) (W : World) : (Instr.slice 9 (.string s) none (some (.int .i64 5)) none).run Try.prog W = .ok (.string (s.extract 0 5)) W := by
  have e : s.size = 5 + 5 := h
  simp [Instr.slice, run_underlying Try.underlying9, Instr.sliceBounds, Instr.sliceBound, asIntOf, h, Sem.run_bind, Sem.run]
theorem slice_s (s : ByteArray) (h : s.size = 10) (W : World) : (Instr.slice 9 (.string s) (some (.int .i64 5)) none none).run Try.prog W = .ok (.string (s.extract 5 s.size)) W := by
  simp [Instr.slice, run_underlying Try.underlying9, Instr.sliceBounds, Instr.sliceBound, asIntOf, h, Sem.run_bind, Sem.run]
set_option maxRecDepth 100000 in
set_option maxHeartbeats 1600000 in
theorem specPathRead_any (s : ByteArray) (w : World) (hz : s.size ≤ 9223372036854775807) :
    Calls Try.prog 22 #[.string s] w fun e w' => ∃ u1 u2, e = .returned (.agg #[u1, u2, .int .i64 (readQa s).a, .int .i64 (readQa s).c]) ∧ OwnT w' w.heap.size u1 u2 (readQa s).t ∧ Below w.heap.size w w' := by
  have hY : Hid _ := heap_alloc_new w (.cells #[.slice none 0 0, .slice none 0 0, .int .i64 0, .int .i64 0] 28)
  have hA0 : Below w.heap.size w (w.alloc (.cells #[.slice none 0 0, .slice none 0 0, .int .i64 0, .int .i64 0] 28)) := all_alloc w _
  have e3 : w.heap.size + 1 ≤ (w.alloc (.cells #[.slice none 0 0, .slice none 0 0, .int .i64 0, .int .i64 0] 28)).heap.size := by simp
  by_cases h8 : 8000 < s.size
  · have eP : readQa s = ⟨zeroT, 0, 2⟩ := by unfold readQa; rw [if_pos h8]
    rw [eP]
    have h8' : (8000 : Int) < s.size := by omega
    clear eP
    go_enter Try.func22, Try.ntmps22
    go_upto_region 1 with fail
    generalize w.alloc (.cells #[.slice none 0 0, .slice none 0 0, .int .i64 0, .int .i64 0] 28) = A at hY hA0 e3 ⊢
    have z0 := cellW hY.out 0 _ rfl A (Below.refl _ _); have z1 := cellW hY.out 1 _ rfl A (Below.refl _ _); have z2 := cellW hY.out 2 _ rfl A (Below.refl _ _); have z3 := cellW hY.out 3 _ rfl A (Below.refl _ _); have fz0 := frozenW hY.out 0 A (Below.refl _ _); have fz1 := frozenW hY.out 1 A (Below.refl _ _); have fz2 := frozenW hY.out 2 A (Below.refl _ _); have fz3 := frozenW hY.out 3 A (Below.refl _ _)
    go_wp2
    exact bodyPost_ret (v := .agg #[.slice none 0 0, .slice none 0 0, .int .i64 0, .int .i64 2]) (by simp [results, Try.results22, go_sem, z0, z1, z2, z3]; try rfl) rfl ⟨_, _, rfl, ⟨OwnI.nil _ _, OwnI.nil _ _, fun a b h => by cases h⟩, (by first | exact hA0 | exact hA0.setCell (by simp only; omega) _ | exact (hA0.setCell (by simp only; omega) _).setCell (by simp only; omega) _ | exact ((((hA0.setCell (by simp only; omega) _).setCell (by simp only; omega) _).setCell (by simp only; omega) _).setCell (by simp only; omega) _))⟩
  have h8' : ¬ (8000 : Int) < s.size := by omega
  by_cases h10 : s.size = 10
  case neg =>
    have eP : readQa s = ⟨zeroT, 0, 3⟩ := by unfold readQa; rw [if_neg h8, if_pos h10]
    rw [eP]
    have h10' : ((s.size : Int) != 10) = true := by simp; omega
    clear eP
    go_enter Try.func22, Try.ntmps22
    go_upto_region 1 with fail
    generalize w.alloc (.cells #[.slice none 0 0, .slice none 0 0, .int .i64 0, .int .i64 0] 28) = A at hY hA0 e3 ⊢
    have z0 := cellW hY.out 0 _ rfl A (Below.refl _ _); have z1 := cellW hY.out 1 _ rfl A (Below.refl _ _); have z2 := cellW hY.out 2 _ rfl A (Below.refl _ _); have z3 := cellW hY.out 3 _ rfl A (Below.refl _ _); have fz0 := frozenW hY.out 0 A (Below.refl _ _); have fz1 := frozenW hY.out 1 A (Below.refl _ _); have fz2 := frozenW hY.out 2 A (Below.refl _ _); have fz3 := frozenW hY.out 3 A (Below.refl _ _)
    go_wp2
    exact bodyPost_ret (v := .agg #[.slice none 0 0, .slice none 0 0, .int .i64 0, .int .i64 3]) (by simp [results, Try.results22, go_sem, z0, z1, z2, z3]; try rfl) rfl ⟨_, _, rfl, ⟨OwnI.nil _ _, OwnI.nil _ _, fun a b h => by cases h⟩, (by first | exact hA0 | exact hA0.setCell (by simp only; omega) _ | exact (hA0.setCell (by simp only; omega) _).setCell (by simp only; omega) _ | exact ((((hA0.setCell (by simp only; omega) _).setCell (by simp only; omega) _).setCell (by simp only; omega) _).setCell (by simp only; omega) _))⟩
  have h10' : ((s.size : Int) != 10) = false := by rw [h10]; rfl
  have HS1 : Hid (∀ W : World, (Instr.slice 9 (.string s) none (some (.int .i64 5)) none).run Try.prog W = .ok (.string (s.extract 0 5)) W) := slice_f s h10
  have HS2 : Hid (∀ W : World, (Instr.slice 9 (.string s) (some (.int .i64 5)) none none).run Try.prog W = .ok (.string (s.extract 5 s.size)) W) := slice_s s h10
  have z1 : (s.extract 0 5).size ≤ 8000 := by rw [ByteArray.size_extract]; omega
  have z2 : (s.extract 5 s.size).size ≤ 8000 := by rw [ByteArray.size_extract]; omega
  have H1 : Hid (∀ W : World, Calls Try.prog 55 #[.string (s.extract 0 5)] W fun e w' => ∃ v, e = .returned v ∧ OwnI w' W.heap.size v (upT s).cs ∧ Below W.heap.size W w') := fun W => l08Read_any _ W z1
  have H2 : Hid (∀ W : World, Calls Try.prog 55 #[.string (s.extract 5 s.size)] W fun e w' => ∃ v, e = .returned v ∧ OwnI w' W.heap.size v (upT s).rs ∧ Below W.heap.size W w') := fun W => l08Read_any _ W z2
  have hul : (upT s).cs.length ≤ 1500000 ∧ (upT s).rs.length ≤ 1500000 := by
    unfold upT
    refine ⟨Nat.le_trans (up0_le _) ?_, Nat.le_trans (up0_le _) ?_⟩
    · rw [show (s.extract 0 5).data.toList.length = (s.extract 0 5).size by simp]; omega
    · rw [show (s.extract 5 s.size).data.toList.length = (s.extract 5 s.size).size by simp]; omega
  have HPB : Hid (∀ (W : World) (B : Nat) (v1 v2 : Value), OwnT W B v1 v2 (upT s) → Calls Try.prog 21 #[.agg #[v1, v2]] W fun e w' => e = .returned (.string (pathB (upT s))) ∧ Below W.heap.size W w') := fun W B v1 v2 h => specPathBytes_any (upT s) B v1 v2 W hul.1 hul.2 h
  have HP : Hid (readQa s = if pathB (upT s) = s then ⟨upT s, 0, 0⟩ else ⟨zeroT, 0, 3⟩) := by show _ = _; unfold readQa; rw [if_neg h8, if_neg (by omega)]
  generalize readQa s = PP at HP ⊢
  generalize hbe : pathB (upT s) = BB at HPB HP
  clear hbe hul
  generalize upT s = T at H1 H2 HPB HP
  obtain ⟨s1, hs1⟩ : ∃ x, Hid (s.extract 0 5 = x) := ⟨_, show _ = _ from rfl⟩
  obtain ⟨s2, hs2⟩ : ∃ x, Hid (s.extract 5 s.size = x) := ⟨_, show _ = _ from rfl⟩
  rw [hs1.out] at HS1 H1 z1
  rw [hs2.out] at HS2 H2 z2
  have h5 : Hid ((5 : Int) ≤ s.size) := (by omega : (5 : Int) ≤ s.size)
  obtain ⟨t1, t2⟩ := T
  dsimp only at H1 H2
  clear h10 h8 z1 z2
  go_enter Try.func22, Try.ntmps22
  go_upto_region 1 with fail
  generalize w.alloc (.cells #[.slice none 0 0, .slice none 0 0, .int .i64 0, .int .i64 0] 28) = A at hY hA0 e3 ⊢
  go_upto_region 5 with fail
  go_cut [3] (fun s3 wx => ∃ (gb : Nat) (p1 p2 : Option Addr) (c1 c2 : Nat), s3 = .pointer (some ⟨gb, 0, none⟩) ∧ wx.heap[gb]? = some (.cells #[.slice p1 t1.length c1, .slice p2 t2.length c2] 26 (0, 0)) ∧ OwnT wx A.heap.size (.slice p1 t1.length c1) (.slice p2 t2.length c2) ⟨t1, t2⟩ ∧ A.heap.size ≤ gb ∧ Below A.heap.size A wx)
  case first =>
    refine wp_region_held_drew (S := (fun w' => Below A.heap.size A w')) (by kernel_rfl) ?_ (fun hHeld => ?_)
    · (try dsimp only); exact Below.drew (Below.refl _ _)
    have hB : Below A.heap.size A (World.drew A) := Below.drew (Below.refl _ _)
    have hz0 := hB.size
    generalize World.drew A = W0 at hB hz0 hHeld ⊢
    refine yieldH (i := 0) (v := ?_) rfl (by kernel_rfl) (by kernel_rfl) (by kernel_rfl) (fun _ _ _ h => h) (by rfl) ?_ (by assumption) ?_; rotate_left
    · intro w' hSw; (try dsimp only at hSw); go_simp; (try with_reducible rfl)
    try simp only [Act.put, List.setIfInBounds_toArray, List.set_cons_zero, List.set_cons_succ, List.getElem_toArray, List.getElem_cons_succ, List.getElem_cons_zero]
    refine yieldH (i := 1) (v := .string s1) rfl (by kernel_rfl) (by kernel_rfl) (by kernel_rfl) (fun _ _ _ h => h) (by rfl) ?_ (by assumption) ?_
    · intro w' hSw; (try dsimp only at hSw); go_simp; rw [if_pos h5.out, hs1.out]
    try simp only [Act.put, List.setIfInBounds_toArray, List.set_cons_zero, List.set_cons_succ, List.getElem_toArray, List.getElem_cons_succ, List.getElem_cons_zero]
    refine yieldH (i := 3) (v := ?_) rfl (by kernel_rfl) (by kernel_rfl) (by kernel_rfl) (fun _ _ _ h => h) (by rfl) ?_ (by assumption) ?_; rotate_left
    · intro w' hSw; (try dsimp only at hSw); go_simp; (try with_reducible rfl)
    try simp only [Act.put, List.setIfInBounds_toArray, List.set_cons_zero, List.set_cons_succ, List.getElem_toArray, List.getElem_cons_succ, List.getElem_cons_zero]
    refine yieldH (i := 4) (v := .string s2) rfl (by kernel_rfl) (by kernel_rfl) (by kernel_rfl) (fun _ _ _ h => h) (by rfl) ?_ (by assumption) ?_
    · intro w' hSw; (try dsimp only at hSw); go_simp; rw [if_pos h5.out, hs2.out]
    try simp only [Act.put, List.setIfInBounds_toArray, List.set_cons_zero, List.set_cons_succ, List.getElem_toArray, List.getElem_cons_succ, List.getElem_cons_zero]
    refine wpAnyH_ready (rs := [2, 7]) (by kernel_rfl) (by simp) ?_
    refine (AllReadyH.cons rfl (fun Kc hK => ?_) (AllReadyH.cons rfl (fun Kc hK => ?_) AllReadyH.nil))
    · go_simp
      go_at_call 55; refine (H1.out _).mono ?_; rintro e2 W1 ⟨u2, rfl, own, hb⟩; obtain ⟨p1, c1, rfl⟩ := own.shape
      (try dsimp only)
      refine hK.out _ _ ?_ (fun hHeld => ?_)
      · (try dsimp only); exact keepB hB (Nat.le_refl _) hb
      clear hK Kc
      try simp only [Act.put, List.setIfInBounds_toArray, List.set_cons_zero, List.set_cons_succ, List.getElem_toArray, List.getElem_cons_succ, List.getElem_cons_zero]
      have o1 : Hid (OwnI W1 W0.heap.size (.slice p1 t1.length c1) t1) := own
      have I1 : Hid (∀ k, (Value.slice p1 t1.length c1).ownBlock = some k → W0.heap.size ≤ k ∧ k < W1.heap.size) := OwnI.lt own
      replace hB := keepB hB (Nat.le_refl _) hb
      have hz1 : W0.heap.size ≤ W1.heap.size := hb.size
      clear own hb
      refine wpAnyH_ready (rs := [5, 7]) (by kernel_rfl) (by simp) ?_
      refine (AllReadyH.cons rfl (fun Kc hK => ?_) (AllReadyH.cons rfl (fun Kc hK => ?_) AllReadyH.nil))
      · go_simp
        go_at_call 55; refine (H2.out _).mono ?_; rintro e5 W2 ⟨u5, rfl, own, hb⟩; obtain ⟨p2, c2, rfl⟩ := own.shape
        (try dsimp only)
        refine hK.out _ _ ?_ (fun hHeld => ?_)
        · (try dsimp only); exact keepB hB (Nat.le_refl _) hb
        clear hK Kc
        try simp only [Act.put, List.setIfInBounds_toArray, List.set_cons_zero, List.set_cons_succ, List.getElem_toArray, List.getElem_cons_succ, List.getElem_cons_zero]
        replace o1 : Hid (OwnI W2 _ _ _) := OwnI.below o1.out hb
        have o2 : Hid (OwnI W2 W1.heap.size (.slice p2 t2.length c2) t2) := own
        have I2 : Hid (∀ k, (Value.slice p2 t2.length c2).ownBlock = some k → W1.heap.size ≤ k ∧ k < W2.heap.size) := OwnI.lt own
        replace hB := keepB hB (Nat.le_refl _) hb
        have hz2 : W1.heap.size ≤ W2.heap.size := hb.size
        clear own hb
        refine yieldH (i := 6) (v := ?_) rfl (by kernel_rfl) (by kernel_rfl) (by kernel_rfl) (fun _ _ _ h => h) (by rfl) ?_ (by assumption) ?_; rotate_left
        · intro w' hSw; (try dsimp only at hSw); go_simp; (try with_reducible rfl)
        try simp only [Act.put, List.setIfInBounds_toArray, List.set_cons_zero, List.set_cons_succ, List.getElem_toArray, List.getElem_cons_succ, List.getElem_cons_zero]
        refine wpAnyH_ready (rs := [7]) (by kernel_rfl) (by simp) ?_
        refine (AllReadyH.cons rfl (fun Kc hK => ?_) AllReadyH.nil)
        go_simp
        (try dsimp only)
        refine hK.out _ _ ?_ (fun hHeld => ?_)
        · (try dsimp only); exact keepB hB (Nat.le_refl _) (all_alloc W2 (.cells #[.slice none 0 0, .slice none 0 0] 26))
        clear hK Kc
        try simp only [Act.put, List.setIfInBounds_toArray, List.set_cons_zero, List.set_cons_succ, List.getElem_toArray, List.getElem_cons_succ, List.getElem_cons_zero]
        have hb := all_alloc W2 (.cells #[.slice none 0 0, .slice none 0 0] 26)
        have hz3 : W2.heap.size < (W2.alloc (.cells #[.slice none 0 0, .slice none 0 0] 26)).heap.size := by simp
        replace o1 : Hid (OwnI _ _ _ _) := OwnI.below o1.out hb
        replace o2 : Hid (OwnI _ _ _ _) := OwnI.below o2.out hb
        have bB : Hid _ := heap_alloc_new W2 (.cells #[.slice none 0 0, .slice none 0 0] 26)
        replace hB := keepB hB (Nat.le_refl _) hb
        clear hb
        generalize W2.alloc (.cells #[.slice none 0 0, .slice none 0 0] 26) = W3 at o1 o2 bB hB hz3 hHeld ⊢
        refine wpAnyH_ready (rs := [8]) (by kernel_rfl) (by simp) ?_
        refine (AllReadyH.cons rfl (fun Kc hK => ?_) AllReadyH.nil)
        have b0 := cellW bB.out 0 _ rfl _ (Below.refl _ _); have b1 := cellW bB.out 1 _ rfl _ (Below.refl _ _); have f0 := frozenW bB.out 0 _ (Below.refl _ _); have f1 := frozenW bB.out 1 _ (Below.refl _ _)
        have hS12 : Below A.heap.size A ((W3.setCell ⟨W2.heap.size, 0, none⟩ (.slice p1 t1.length c1)).setCell ⟨W2.heap.size, 1, none⟩ (.slice p2 t2.length c2)) := (hB.setCell (by simp only; omega) _).setCell (by simp only; omega) _
        go_simp
        (try dsimp only)
        refine hK.out _ _ ?_ (fun hHeld => ?_)
        · (try dsimp only); exact hS12
        clear hK Kc
        try simp only [Act.put, List.setIfInBounds_toArray, List.set_cons_zero, List.set_cons_succ, List.getElem_toArray, List.getElem_cons_succ, List.getElem_cons_zero]
        refine wpAnyH_done (by kernel_rfl) ?_ _
        go_wp2
        go_meet
        exact ⟨_, _, _, _, _, rfl, blk_set (blk_set bB.out 0 _) 1 _, own_pair o1.out o2.out (fun k hk => by have := I1.out k hk; (try simp only); omega) (fun k hk => by have := I2.out k hk; (try simp only); omega) (fun a b ha hb => by have := I1.out a ha; have := I2.out b hb; omega) (by omega) (by omega), (by omega), hS12⟩
      · go_simp
        (try dsimp only)
        refine hK.out _ _ ?_ (fun hHeld => ?_)
        · (try dsimp only); exact keepB hB (Nat.le_refl _) (all_alloc W1 (.cells #[.slice none 0 0, .slice none 0 0] 26))
        clear hK Kc
        try simp only [Act.put, List.setIfInBounds_toArray, List.set_cons_zero, List.set_cons_succ, List.getElem_toArray, List.getElem_cons_succ, List.getElem_cons_zero]
        have hb := all_alloc W1 (.cells #[.slice none 0 0, .slice none 0 0] 26)
        have hz2 : W1.heap.size < (W1.alloc (.cells #[.slice none 0 0, .slice none 0 0] 26)).heap.size := by simp
        replace o1 : Hid (OwnI _ _ _ _) := OwnI.below o1.out hb
        have bB : Hid _ := heap_alloc_new W1 (.cells #[.slice none 0 0, .slice none 0 0] 26)
        replace hB := keepB hB (Nat.le_refl _) hb
        clear hb
        generalize W1.alloc (.cells #[.slice none 0 0, .slice none 0 0] 26) = W2 at o1 bB hB hz2 hHeld ⊢
        refine wpAnyH_ready (rs := [5]) (by kernel_rfl) (by simp) ?_
        refine (AllReadyH.cons rfl (fun Kc hK => ?_) AllReadyH.nil)
        go_simp
        go_at_call 55; refine (H2.out _).mono ?_; rintro e5 W3 ⟨u5, rfl, own, hb⟩; obtain ⟨p2, c2, rfl⟩ := own.shape
        (try dsimp only)
        refine hK.out _ _ ?_ (fun hHeld => ?_)
        · (try dsimp only); exact keepB hB (Nat.le_refl _) hb
        clear hK Kc
        try simp only [Act.put, List.setIfInBounds_toArray, List.set_cons_zero, List.set_cons_succ, List.getElem_toArray, List.getElem_cons_succ, List.getElem_cons_zero]
        replace o1 : Hid (OwnI W3 _ _ _) := OwnI.below o1.out hb
        replace bB : Hid _ := blk bB.out hb
        have o2 : Hid (OwnI W3 W2.heap.size (.slice p2 t2.length c2) t2) := own
        have I2 : Hid (∀ k, (Value.slice p2 t2.length c2).ownBlock = some k → W2.heap.size ≤ k ∧ k < W3.heap.size) := OwnI.lt own
        replace hB := keepB hB (Nat.le_refl _) hb
        have hz3 : W2.heap.size ≤ W3.heap.size := hb.size
        clear own hb
        refine yieldH (i := 6) (v := ?_) rfl (by kernel_rfl) (by kernel_rfl) (by kernel_rfl) (fun _ _ _ h => h) (by rfl) ?_ (by assumption) ?_; rotate_left
        · intro w' hSw; (try dsimp only at hSw); go_simp; (try with_reducible rfl)
        try simp only [Act.put, List.setIfInBounds_toArray, List.set_cons_zero, List.set_cons_succ, List.getElem_toArray, List.getElem_cons_succ, List.getElem_cons_zero]
        refine wpAnyH_ready (rs := [8]) (by kernel_rfl) (by simp) ?_
        refine (AllReadyH.cons rfl (fun Kc hK => ?_) AllReadyH.nil)
        have b0 := cellW bB.out 0 _ rfl _ (Below.refl _ _); have b1 := cellW bB.out 1 _ rfl _ (Below.refl _ _); have f0 := frozenW bB.out 0 _ (Below.refl _ _); have f1 := frozenW bB.out 1 _ (Below.refl _ _)
        have hS12 : Below A.heap.size A ((W3.setCell ⟨W1.heap.size, 0, none⟩ (.slice p1 t1.length c1)).setCell ⟨W1.heap.size, 1, none⟩ (.slice p2 t2.length c2)) := (hB.setCell (by simp only; omega) _).setCell (by simp only; omega) _
        go_simp
        (try dsimp only)
        refine hK.out _ _ ?_ (fun hHeld => ?_)
        · (try dsimp only); exact hS12
        clear hK Kc
        try simp only [Act.put, List.setIfInBounds_toArray, List.set_cons_zero, List.set_cons_succ, List.getElem_toArray, List.getElem_cons_succ, List.getElem_cons_zero]
        refine wpAnyH_done (by kernel_rfl) ?_ _
        go_wp2
        go_meet
        exact ⟨_, _, _, _, _, rfl, blk_set (blk_set bB.out 0 _) 1 _, own_pair o1.out o2.out (fun k hk => by have := I1.out k hk; (try simp only); omega) (fun k hk => by have := I2.out k hk; (try simp only); omega) (fun a b ha hb => by have := I1.out a ha; have := I2.out b hb; omega) (by omega) (by omega), (by omega), hS12⟩
    · go_simp
      (try dsimp only)
      refine hK.out _ _ ?_ (fun hHeld => ?_)
      · (try dsimp only); exact keepB hB (Nat.le_refl _) (all_alloc W0 (.cells #[.slice none 0 0, .slice none 0 0] 26))
      clear hK Kc
      try simp only [Act.put, List.setIfInBounds_toArray, List.set_cons_zero, List.set_cons_succ, List.getElem_toArray, List.getElem_cons_succ, List.getElem_cons_zero]
      have hb := all_alloc W0 (.cells #[.slice none 0 0, .slice none 0 0] 26)
      have hz1 : W0.heap.size < (W0.alloc (.cells #[.slice none 0 0, .slice none 0 0] 26)).heap.size := by simp
      have bB : Hid _ := heap_alloc_new W0 (.cells #[.slice none 0 0, .slice none 0 0] 26)
      replace hB := keepB hB (Nat.le_refl _) hb
      clear hb
      generalize W0.alloc (.cells #[.slice none 0 0, .slice none 0 0] 26) = W1 at bB hB hz1 hHeld ⊢
      refine wpAnyH_ready (rs := [2]) (by kernel_rfl) (by simp) ?_
      refine (AllReadyH.cons rfl (fun Kc hK => ?_) AllReadyH.nil)
      go_simp
      go_at_call 55; refine (H1.out _).mono ?_; rintro e2 W2 ⟨u2, rfl, own, hb⟩; obtain ⟨p1, c1, rfl⟩ := own.shape
      (try dsimp only)
      refine hK.out _ _ ?_ (fun hHeld => ?_)
      · (try dsimp only); exact keepB hB (Nat.le_refl _) hb
      clear hK Kc
      try simp only [Act.put, List.setIfInBounds_toArray, List.set_cons_zero, List.set_cons_succ, List.getElem_toArray, List.getElem_cons_succ, List.getElem_cons_zero]
      replace bB : Hid _ := blk bB.out hb
      have o1 : Hid (OwnI W2 W1.heap.size (.slice p1 t1.length c1) t1) := own
      have I1 : Hid (∀ k, (Value.slice p1 t1.length c1).ownBlock = some k → W1.heap.size ≤ k ∧ k < W2.heap.size) := OwnI.lt own
      replace hB := keepB hB (Nat.le_refl _) hb
      have hz2 : W1.heap.size ≤ W2.heap.size := hb.size
      clear own hb
      refine wpAnyH_ready (rs := [5]) (by kernel_rfl) (by simp) ?_
      refine (AllReadyH.cons rfl (fun Kc hK => ?_) AllReadyH.nil)
      go_simp
      go_at_call 55; refine (H2.out _).mono ?_; rintro e5 W3 ⟨u5, rfl, own, hb⟩; obtain ⟨p2, c2, rfl⟩ := own.shape
      (try dsimp only)
      refine hK.out _ _ ?_ (fun hHeld => ?_)
      · (try dsimp only); exact keepB hB (Nat.le_refl _) hb
      clear hK Kc
      try simp only [Act.put, List.setIfInBounds_toArray, List.set_cons_zero, List.set_cons_succ, List.getElem_toArray, List.getElem_cons_succ, List.getElem_cons_zero]
      replace bB : Hid _ := blk bB.out hb
      replace o1 : Hid (OwnI W3 _ _ _) := OwnI.below o1.out hb
      have o2 : Hid (OwnI W3 W2.heap.size (.slice p2 t2.length c2) t2) := own
      have I2 : Hid (∀ k, (Value.slice p2 t2.length c2).ownBlock = some k → W2.heap.size ≤ k ∧ k < W3.heap.size) := OwnI.lt own
      replace hB := keepB hB (Nat.le_refl _) hb
      have hz3 : W2.heap.size ≤ W3.heap.size := hb.size
      clear own hb
      refine yieldH (i := 6) (v := ?_) rfl (by kernel_rfl) (by kernel_rfl) (by kernel_rfl) (fun _ _ _ h => h) (by rfl) ?_ (by assumption) ?_; rotate_left
      · intro w' hSw; (try dsimp only at hSw); go_simp; (try with_reducible rfl)
      try simp only [Act.put, List.setIfInBounds_toArray, List.set_cons_zero, List.set_cons_succ, List.getElem_toArray, List.getElem_cons_succ, List.getElem_cons_zero]
      refine wpAnyH_ready (rs := [8]) (by kernel_rfl) (by simp) ?_
      refine (AllReadyH.cons rfl (fun Kc hK => ?_) AllReadyH.nil)
      have b0 := cellW bB.out 0 _ rfl _ (Below.refl _ _); have b1 := cellW bB.out 1 _ rfl _ (Below.refl _ _); have f0 := frozenW bB.out 0 _ (Below.refl _ _); have f1 := frozenW bB.out 1 _ (Below.refl _ _)
      have hS12 : Below A.heap.size A ((W3.setCell ⟨W0.heap.size, 0, none⟩ (.slice p1 t1.length c1)).setCell ⟨W0.heap.size, 1, none⟩ (.slice p2 t2.length c2)) := (hB.setCell (by simp only; omega) _).setCell (by simp only; omega) _
      go_simp
      (try dsimp only)
      refine hK.out _ _ ?_ (fun hHeld => ?_)
      · (try dsimp only); exact hS12
      clear hK Kc
      try simp only [Act.put, List.setIfInBounds_toArray, List.set_cons_zero, List.set_cons_succ, List.getElem_toArray, List.getElem_cons_succ, List.getElem_cons_zero]
      refine wpAnyH_done (by kernel_rfl) ?_ _
      go_wp2
      go_meet
      exact ⟨_, _, _, _, _, rfl, blk_set (blk_set bB.out 0 _) 1 _, own_pair o1.out o2.out (fun k hk => by have := I1.out k hk; (try simp only); omega) (fun k hk => by have := I2.out k hk; (try simp only); omega) (fun a b ha hb => by have := I1.out a ha; have := I2.out b hb; omega) (by omega) (by omega), (by omega), hS12⟩
  case rest =>
  obtain ⟨gb, p1, p2, c1, c2, rfl, hP, hOT, hgb, hbx⟩ := hcut
  rename World => W1
  have hP1 : Hid _ := hP
  have hO1 : Hid (OwnT _ _ _ _ _) := hOT
  have hY1 : Hid _ := blk hY.out hbx
  have hB1 := keepB hA0 (Nat.le_refl _) hbx
  clear hP hOT hY H1 H2 HS1 HS2
  have q0 := cellW hP1.out 0 _ rfl W1 (Below.refl _ _)
  have q1 := cellW hP1.out 1 _ rfl W1 (Below.refl _ _)
  by_cases hb : BB = s
  · have eP : PP = ⟨⟨t1, t2⟩, 0, 0⟩ := by rw [HP.out, if_pos hb]
    subst eP
    subst hb
    have e0 : (BB.toList == BB.toList) = true := by simp
    clear HP
    go_wp2_with (go_at_call 21; refine (HPB.out _ _ _ _ hO1.out).mono ?_; rintro e w3 ⟨rfl, hb3⟩; have hP3 : Hid _ := blk hP1.out hb3; have r0 := cellW hP3.out 0 _ rfl w3 (Below.refl _ _); have r1 := cellW hP3.out 1 _ rfl w3 (Below.refl _ _); have hY3 : Hid _ := blk hY1.out hb3; have z0 := cellW hY3.out 0 _ rfl w3 (Below.refl _ _); have z1 := cellW hY3.out 1 _ rfl w3 (Below.refl _ _); have z2 := cellW hY3.out 2 _ rfl w3 (Below.refl _ _); have z3 := cellW hY3.out 3 _ rfl w3 (Below.refl _ _); have fz0 := frozenW hY3.out 0 w3 (Below.refl _ _); have fz1 := frozenW hY3.out 1 w3 (Below.refl _ _); have fz2 := frozenW hY3.out 2 w3 (Below.refl _ _); have fz3 := frozenW hY3.out 3 w3 (Below.refl _ _))
    have hB3 := keepB hB1 (Nat.le_refl _) hb3
    have hO3 := OwnT.leT (B := w.heap.size + 1) (hO1.out.below hb3) (by omega)
    exact bodyPost_ret (v := .agg #[.slice p1 t1.length c1, .slice p2 t2.length c2, .int .i64 0, .int .i64 0]) (by simp [results, Try.results22, go_sem, z0, z1, z2, z3]; try rfl) rfl ⟨_, _, rfl, OwnT.leT (OwnT.farT (OwnT.farT (OwnT.farT (OwnT.farT hO3 (by simp only; omega) _) (by simp only; omega) _) (by simp only; omega) _) (by simp only; omega) _) (by omega), (by first | exact hB3 | exact hB3.setCell (by simp only; omega) _ | exact (hB3.setCell (by simp only; omega) _).setCell (by simp only; omega) _ | exact ((((hB3.setCell (by simp only; omega) _).setCell (by simp only; omega) _).setCell (by simp only; omega) _).setCell (by simp only; omega) _))⟩
  · have eP : PP = ⟨zeroT, 0, 3⟩ := by rw [HP.out, if_neg hb]
    subst eP
    have e0 : (BB.toList == s.toList) = false := by
      rw [Bool.eq_false_iff]
      intro h
      exact hb (bytes_of_list (by simpa using h))
    clear HP hb
    go_wp2_with (go_at_call 21; refine (HPB.out _ _ _ _ hO1.out).mono ?_; rintro e w3 ⟨rfl, hb3⟩; have hY3 : Hid _ := blk hY1.out hb3; have z0 := cellW hY3.out 0 _ rfl w3 (Below.refl _ _); have z1 := cellW hY3.out 1 _ rfl w3 (Below.refl _ _); have z2 := cellW hY3.out 2 _ rfl w3 (Below.refl _ _); have z3 := cellW hY3.out 3 _ rfl w3 (Below.refl _ _); have fz0 := frozenW hY3.out 0 w3 (Below.refl _ _); have fz1 := frozenW hY3.out 1 w3 (Below.refl _ _); have fz2 := frozenW hY3.out 2 w3 (Below.refl _ _); have fz3 := frozenW hY3.out 3 w3 (Below.refl _ _))
    have hB3 := keepB hB1 (Nat.le_refl _) hb3
    exact bodyPost_ret (v := .agg #[.slice none 0 0, .slice none 0 0, .int .i64 0, .int .i64 3]) (by simp [results, Try.results22, go_sem, z0, z1, z2, z3]; try rfl) rfl ⟨_, _, rfl, ⟨OwnI.nil _ _, OwnI.nil _ _, fun a b h => by cases h⟩, (by first | exact hB3 | exact hB3.setCell (by simp only; omega) _ | exact (hB3.setCell (by simp only; omega) _).setCell (by simp only; omega) _ | exact ((((hB3.setCell (by simp only; omega) _).setCell (by simp only; omega) _).setCell (by simp only; omega) _).setCell (by simp only; omega) _))⟩
end Go.Proofs.Ytineecongiplgaa
