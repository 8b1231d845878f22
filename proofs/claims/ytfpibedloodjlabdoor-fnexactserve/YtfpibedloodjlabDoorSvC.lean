/- A TABLE COPIED by the model. -/
import Derived.Test.YtfpibedloodjlabDoorSvB
import Derived.Test.YtfpibedloodjlabDoorWire
namespace Go.Proofs.YtfpibedloodjlabDoor
open Go.RowKit
set_option linter.unusedVariables false
set_option linter.unusedSimpArgs false

theorem step_app {ops : Array Oper} {o : Oper} {a : Act} {w : World} {K : Act → World → Prop} {Q : Exit → Act → World → Prop} {E : Prop}
    (hgd : o.guard = none) (s x : Operand) (hop : o.op = Op.call { callee := Callee.builtin Builtin.append, args := #[s, x], argTypes := #[22, 22] })
    (v u v' : Value) (w' : World) (hs : a.eval s = v) (hx : a.eval x = u) (hrun : (Builtin.append_ #[22, 22] o.type #[v, u]).run Tryd.prog w = .ok v' w') (hK : K (a.put o.dst v') w') :
    if Region.wanted o (yielded ops a.tmps) = true then Oper.wp Tryd.prog o a w K Q else E := by
  have hw : Region.wanted o (yielded ops a.tmps) = true := by simp [Region.wanted, hgd]
  rw [if_pos hw]
  unfold Oper.wp
  simp [execOp, hop, resolve, invoke, builtin, hs, hx, hrun, Result.andThen]
  exact hK
/-- what is kept while a table is copied -/
def Sc (w : World) (o : Obj) (W : World) : Prop := Below w.heap.size w W ∧ W.heap[w.heap.size]? = some o
theorem Sc.cell {w W : World} {cs : Array Value} {T : TypeId} (h : Sc w (.cells cs T (0, 0)) W) (o : Nat) (v : Value) (hv : cs[o]? = some v) : W.cell? ⟨w.heap.size, o, none⟩ = some v := cellW h.2 o v hv W (Below.refl _ _)
set_option maxRecDepth 100000 in
set_option maxHeartbeats 6400000 in
theorem l05Copy_any (t : Tb) (B : Nat) (v1 v2 : Value) (w : World) (hl1 : t.cs.length ≤ 100000) (hl2 : t.rs.length ≤ 100000) (h : OwnT w B v1 v2 t) :
    Calls Tryd.prog 34 #[.agg #[v1, v2]] w fun e w' => ∃ u1 u2, e = .returned (.agg #[u1, u2]) ∧ OwnT w' w.heap.size u1 u2 t ∧ Below w.heap.size w w' := by
  obtain ⟨p1, k1, rfl⟩ := h.c.shape
  obtain ⟨p2, k2, rfl⟩ := h.r.shape
  go_enter Tryd.func34, Tryd.ntmps34
  go_upto_region 1 with fail
  have hX : Hid _ := blk (heap_alloc_new w (.cells #[.slice p1 t.cs.length k1, .slice p2 t.rs.length k2] 26)) (all_alloc _ (.cells #[.slice none 0 0, .slice none 0 0] 26))
  have hY : Hid _ := heap_alloc_new (w.alloc (.cells #[.slice p1 t.cs.length k1, .slice p2 t.rs.length k2] 26)) (.cells #[.slice none 0 0, .slice none 0 0] 26)
  have hA0 : Below w.heap.size w ((w.alloc (.cells #[.slice p1 t.cs.length k1, .slice p2 t.rs.length k2] 26)).alloc (.cells #[.slice none 0 0, .slice none 0 0] 26)) := keepB (all_alloc w _) (Nat.le_refl _) (all_alloc _ _)
  have e1 : (w.alloc (.cells #[.slice p1 t.cs.length k1, .slice p2 t.rs.length k2] 26)).heap.size = w.heap.size + 1 := by simp
  have e3 : ((w.alloc (.cells #[.slice p1 t.cs.length k1, .slice p2 t.rs.length k2] 26)).alloc (.cells #[.slice none 0 0, .slice none 0 0] 26)).heap.size = w.heap.size + 1 + 1 := by simp
  rw [e1] at hY
  generalize (w.alloc (.cells #[.slice p1 t.cs.length k1, .slice p2 t.rs.length k2] 26)).alloc (.cells #[.slice none 0 0, .slice none 0 0] 26) = A at hX hY hA0 e3 ⊢
  clear e1
  have S1 : Hid (∀ W, Below A.heap.size A W → OwnI W B (.slice p1 t.cs.length k1) t.cs) := fun W hW => h.c.below (keepB hA0 (Nat.le_refl _) hW)
  have S2 : Hid (∀ W, Below A.heap.size A W → OwnI W B (.slice p2 t.rs.length k2) t.rs) := fun W hW => h.r.below (keepB hA0 (Nat.le_refl _) hW)
  clear h
  have K0 : Below A.heap.size A A.drew := Below.drew (Below.refl _ _)
  have q0 : ∀ W, Sc w (.cells #[.slice p1 t.cs.length k1, .slice p2 t.rs.length k2] 26 (0, 0)) W → W.cell? ⟨w.heap.size, 0, none⟩ = some (.slice p1 t.cs.length k1) := fun W hW => hW.cell 0 _ rfl
  have q1 : ∀ W, Sc w (.cells #[.slice p1 t.cs.length k1, .slice p2 t.rs.length k2] 26 (0, 0)) W → W.cell? ⟨w.heap.size, 1, none⟩ = some (.slice p2 t.rs.length k2) := fun W hW => hW.cell 1 _ rfl
  refine wp_region_held_drew (S := fun W => Sc w (.cells #[.slice p1 t.cs.length k1, .slice p2 t.rs.length k2] 26 (0, 0)) W) (by kernel_rfl) ?_ (fun hHeld => ?_)
  · exact ⟨keepB hA0 (Nat.le_refl _) K0, blk hX.out K0⟩
  generalize A.drew = x0 at K0 hHeld ⊢
  refine yieldH (i := 1) (v := ?_) rfl (by kernel_rfl) (by kernel_rfl) (by kernel_rfl) (fun _ _ _ h => h) (by rfl) ?_ (by assumption) ?_; rotate_left
  · intro w' hSw; (try dsimp only at hSw); go_simp; (try with_reducible rfl)
  try simp only [Act.put, List.setIfInBounds_toArray, List.set_cons_zero, List.set_cons_succ, List.getElem_toArray, List.getElem_cons_succ, List.getElem_cons_zero]
  refine yieldH (i := 2) (v := ?_) rfl (by kernel_rfl) (by kernel_rfl) (by kernel_rfl) (fun _ _ _ h => h) (by rfl) ?_ (by assumption) ?_; rotate_left
  · intro w' hSw; (try dsimp only at hSw); go_simp; (try with_reducible rfl)
  try simp only [Act.put, List.setIfInBounds_toArray, List.set_cons_zero, List.set_cons_succ, List.getElem_toArray, List.getElem_cons_succ, List.getElem_cons_zero]
  refine yieldH (i := 5) (v := ?_) rfl (by kernel_rfl) (by kernel_rfl) (by kernel_rfl) (fun _ _ _ h => h) (by rfl) ?_ (by assumption) ?_; rotate_left
  · intro w' hSw; (try dsimp only at hSw); go_simp; (try with_reducible rfl)
  try simp only [Act.put, List.setIfInBounds_toArray, List.set_cons_zero, List.set_cons_succ, List.getElem_toArray, List.getElem_cons_succ, List.getElem_cons_zero]
  refine yieldH (i := 6) (v := ?_) rfl (by kernel_rfl) (by kernel_rfl) (by kernel_rfl) (fun _ _ _ h => h) (by rfl) ?_ (by assumption) ?_; rotate_left
  · intro w' hSw; (try dsimp only at hSw); go_simp; (try with_reducible rfl)
  try simp only [Act.put, List.setIfInBounds_toArray, List.set_cons_zero, List.set_cons_succ, List.getElem_toArray, List.getElem_cons_succ, List.getElem_cons_zero]
  refine wpAnyH_ready (rs := [0, 4]) (by kernel_rfl) (by simp) ?_
  refine (AllReadyH.cons rfl (fun Kc hK => ?_) (AllReadyH.cons rfl (fun Kc hK => ?_) AllReadyH.nil))
  · go_simp
    try dsimp only
    refine hK.out _ _ ?_ (fun hHeld => ?_)
    · (try dsimp only); exact ⟨keepB hA0 (Nat.le_refl _) (K0.alloc K0.size _), blk (blk hX.out K0) (all_alloc _ _)⟩
    clear hK Kc
    try simp only [Act.put, List.setIfInBounds_toArray, List.set_cons_zero, List.set_cons_succ, List.getElem_toArray, List.getElem_cons_succ, List.getElem_cons_zero]
    have K1 : Below A.heap.size A (x0.alloc (.cells #[] 2)) := K0.alloc K0.size _
    have Ea1 : Hid ((x0.alloc (.cells #[] 2)).heap[x0.heap.size]? = some (.cells #[] 2 (0, 0))) := heap_alloc_new x0 (.cells #[] 2)
    have La : A.heap.size ≤ x0.heap.size := K0.size
    clear hHeld
    have hHeld : Sc w (.cells #[.slice p1 t.cs.length k1, .slice p2 t.rs.length k2] 26 (0, 0)) (x0.alloc (.cells #[] 2)) := ⟨keepB hA0 (Nat.le_refl _) K1, blk hX.out K1⟩
    generalize x0.alloc (.cells #[] 2) = x1 at K1 Ea1 hHeld ⊢
    generalize x0.heap.size = ga at Ea1 La ⊢
    refine wpAnyH_ready (rs := [3, 4]) (by kernel_rfl) (by simp) ?_
    refine (AllReadyH.cons rfl (fun Kc hK => ?_) (AllReadyH.cons rfl (fun Kc hK => ?_) AllReadyH.nil))
    · obtain ⟨G, ca, x2, hrun, hG, hO, hB2⟩ := app_empty x1 22 ga Ea1.out B _ t.cs (S1.out _ K1) hl1
      have K2 : Below A.heap.size A x2 := keepB K1 (Nat.le_refl _) hB2
      have Oa2 : Hid (OwnI x2 A.heap.size (.slice (some ⟨G, 0, none⟩) t.cs.length ca) t.cs) := hO _ La
      clear hO hG
      refine step_app rfl (.tmp 3) (.tmp 5) rfl _ _ _ _ rfl rfl hrun ?_
      try dsimp only
      refine hK.out _ _ ?_ (fun hHeld => ?_)
      · (try dsimp only); exact ⟨keepB hA0 (Nat.le_refl _) K2, blk hX.out K2⟩
      clear hK Kc
      try simp only [Act.put, List.setIfInBounds_toArray, List.set_cons_zero, List.set_cons_succ, List.getElem_toArray, List.getElem_cons_succ, List.getElem_cons_zero]
      clear hHeld hrun
      have hHeld : Sc w (.cells #[.slice p1 t.cs.length k1, .slice p2 t.rs.length k2] 26 (0, 0)) x2 := ⟨keepB hA0 (Nat.le_refl _) K2, blk hX.out K2⟩
      clear Ea1 La
      obtain ⟨ga, hga⟩ : ∃ g, g = G := ⟨_, rfl⟩
      subst hga
      refine wpAnyH_ready (rs := [4]) (by kernel_rfl) (by simp) ?_
      refine (AllReadyH.cons rfl (fun Kc hK => ?_) AllReadyH.nil)
      go_simp
      try dsimp only
      refine hK.out _ _ ?_ (fun hHeld => ?_)
      · (try dsimp only); exact ⟨keepB hA0 (Nat.le_refl _) (K2.alloc K2.size _), blk (blk hX.out K2) (all_alloc _ _)⟩
      clear hK Kc
      try simp only [Act.put, List.setIfInBounds_toArray, List.set_cons_zero, List.set_cons_succ, List.getElem_toArray, List.getElem_cons_succ, List.getElem_cons_zero]
      have K3 : Below A.heap.size A (x2.alloc (.cells #[] 2)) := K2.alloc K2.size _
      have Eb3 : Hid ((x2.alloc (.cells #[] 2)).heap[x2.heap.size]? = some (.cells #[] 2 (0, 0))) := heap_alloc_new x2 (.cells #[] 2)
      have Lb : A.heap.size ≤ x2.heap.size := K2.size
      have N : ga ≠ x2.heap.size := by have := (OwnI.lt Oa2.out ga rfl).2; omega
      have Oa3 : Hid (OwnI (x2.alloc (.cells #[] 2)) A.heap.size (.slice (some ⟨ga, 0, none⟩) t.cs.length ca) t.cs) := OwnI.below Oa2.out (all_alloc _ _)
      clear hHeld
      have hHeld : Sc w (.cells #[.slice p1 t.cs.length k1, .slice p2 t.rs.length k2] 26 (0, 0)) (x2.alloc (.cells #[] 2)) := ⟨keepB hA0 (Nat.le_refl _) K3, blk hX.out K3⟩
      generalize x2.alloc (.cells #[] 2) = x3 at K3 Eb3 Oa3 hHeld ⊢
      generalize x2.heap.size = gb at Eb3 Lb N ⊢
      refine wpAnyH_ready (rs := [7]) (by kernel_rfl) (by simp) ?_
      refine (AllReadyH.cons rfl (fun Kc hK => ?_) AllReadyH.nil)
      obtain ⟨G, cb, x4, hrun, hG, hO, hB4⟩ := app_empty x3 22 gb Eb3.out B _ t.rs (S2.out _ K3) hl2
      have K4 : Below A.heap.size A x4 := keepB K3 (Nat.le_refl _) hB4
      have Ob4 : Hid (OwnI x4 A.heap.size (.slice (some ⟨G, 0, none⟩) t.rs.length cb) t.rs) := hO _ Lb
      have N' : G ≠ ga := by have := (OwnI.lt Oa3.out ga rfl).2; rcases hG with h | h <;> omega
      have Oa4 : Hid (OwnI x4 A.heap.size (.slice (some ⟨ga, 0, none⟩) t.cs.length ca) t.cs) := OwnI.below Oa3.out hB4
      clear hO hG
      refine step_app rfl (.tmp 7) (.tmp 9) rfl _ _ _ _ rfl rfl hrun ?_
      try dsimp only
      refine hK.out _ _ ?_ (fun hHeld => ?_)
      · (try dsimp only); exact ⟨keepB hA0 (Nat.le_refl _) K4, blk hX.out K4⟩
      clear hK Kc
      try simp only [Act.put, List.setIfInBounds_toArray, List.set_cons_zero, List.set_cons_succ, List.getElem_toArray, List.getElem_cons_succ, List.getElem_cons_zero]
      clear hHeld hrun N
      have hHeld : Sc w (.cells #[.slice p1 t.cs.length k1, .slice p2 t.rs.length k2] 26 (0, 0)) x4 := ⟨keepB hA0 (Nat.le_refl _) K4, blk hX.out K4⟩
      clear Eb3 Lb
      have N := N'
      clear N'
      obtain ⟨gb, hgb⟩ : ∃ g, g = G := ⟨_, rfl⟩
      subst hgb
      refine yieldH (i := 8) (v := ?_) rfl (by kernel_rfl) (by kernel_rfl) (by kernel_rfl) (fun _ _ _ h => h) (by rfl) ?_ (by assumption) ?_; rotate_left
      · intro w' hSw; (try dsimp only at hSw); go_simp; (try with_reducible rfl)
      try simp only [Act.put, List.setIfInBounds_toArray, List.set_cons_zero, List.set_cons_succ, List.getElem_toArray, List.getElem_cons_succ, List.getElem_cons_zero]
      have hY4 : Hid _ := blk hY.out K4
      have y0 := cellW hY4.out 0 _ rfl x4 (Below.refl _ _)
      have f0 := frozenW hY4.out 0 x4 (Below.refl _ _)
      have y1 := cellW hY4.out 1 _ rfl x4 (Below.refl _ _)
      have f1 := frozenW hY4.out 1 x4 (Below.refl _ _)
      refine wpAnyH_ready (rs := [9]) (by kernel_rfl) (by simp) ?_
      refine (AllReadyH.cons rfl (fun Kc hK => ?_) AllReadyH.nil)
      go_simp
      try dsimp only
      refine hK.out _ _ ?_ (fun hHeld => ?_)
      · (try dsimp only); exact ⟨((keepB hA0 (Nat.le_refl _) K4).setCell (by simp only; omega) _).setCell (by simp only; omega) _, blk_far (blk_far (blk hX.out K4) (by simp only; omega) _) (by simp only; omega) _⟩
      clear hK Kc
      try simp only [Act.put, List.setIfInBounds_toArray, List.set_cons_zero, List.set_cons_succ, List.getElem_toArray, List.getElem_cons_succ, List.getElem_cons_zero]
      refine wpAnyH_done (by kernel_rfl) ?_ _
      go_wp2
      have hT : OwnT x4 A.heap.size (.slice (some ⟨ga, 0, none⟩) t.cs.length ca) (.slice (some ⟨gb, 0, none⟩) t.rs.length cb) t := ⟨Oa4.out, Ob4.out, fun a b ha hb => by cases ha; cases hb; simp only; omega⟩
      exact bodyPost_ret (v := .agg #[.slice (some ⟨ga, 0, none⟩) t.cs.length ca, .slice (some ⟨gb, 0, none⟩) t.rs.length cb]) (by simp [results, Tryd.results34, go_sem, y0, y1]) rfl ⟨_, _, rfl, OwnT.leT (OwnT.farT (OwnT.farT hT (by simp only; omega) _) (by simp only; omega) _) (by omega), (Below.setCell (Below.setCell (keepB hA0 (Nat.le_refl _) K4) (by simp only; omega) _) (by simp only; omega) _)⟩
    · go_simp
      try dsimp only
      refine hK.out _ _ ?_ (fun hHeld => ?_)
      · (try dsimp only); exact ⟨keepB hA0 (Nat.le_refl _) (K1.alloc K1.size _), blk (blk hX.out K1) (all_alloc _ _)⟩
      clear hK Kc
      try simp only [Act.put, List.setIfInBounds_toArray, List.set_cons_zero, List.set_cons_succ, List.getElem_toArray, List.getElem_cons_succ, List.getElem_cons_zero]
      have K2 : Below A.heap.size A (x1.alloc (.cells #[] 2)) := K1.alloc K1.size _
      have Eb2 : Hid ((x1.alloc (.cells #[] 2)).heap[x1.heap.size]? = some (.cells #[] 2 (0, 0))) := heap_alloc_new x1 (.cells #[] 2)
      have Lb : A.heap.size ≤ x1.heap.size := K1.size
      have N : ga ≠ x1.heap.size := by have := (Array.getElem?_eq_some_iff.1 Ea1.out).1; omega
      have Ea2 : Hid ((x1.alloc (.cells #[] 2)).heap[ga]? = some (.cells #[] 2 (0, 0))) := blk Ea1.out (all_alloc _ _)
      clear hHeld
      have hHeld : Sc w (.cells #[.slice p1 t.cs.length k1, .slice p2 t.rs.length k2] 26 (0, 0)) (x1.alloc (.cells #[] 2)) := ⟨keepB hA0 (Nat.le_refl _) K2, blk hX.out K2⟩
      generalize x1.alloc (.cells #[] 2) = x2 at K2 Eb2 Ea2 hHeld ⊢
      generalize x1.heap.size = gb at Eb2 Lb N ⊢
      refine wpAnyH_ready (rs := [3]) (by kernel_rfl) (by simp) ?_
      refine (AllReadyH.cons rfl (fun Kc hK => ?_) AllReadyH.nil)
      obtain ⟨G, ca, x3, hrun, hG, hO, hB3⟩ := app_empty x2 22 ga Ea2.out B _ t.cs (S1.out _ K2) hl1
      have K3 : Below A.heap.size A x3 := keepB K2 (Nat.le_refl _) hB3
      have Oa3 : Hid (OwnI x3 A.heap.size (.slice (some ⟨G, 0, none⟩) t.cs.length ca) t.cs) := hO _ La
      have N' : G ≠ gb := by have := (Array.getElem?_eq_some_iff.1 Eb2.out).1; rcases hG with h | h <;> omega
      have Eb3 : Hid (x3.heap[gb]? = some (.cells #[] 2 (0, 0))) := blk Eb2.out hB3
      clear hO hG
      refine step_app rfl (.tmp 3) (.tmp 5) rfl _ _ _ _ rfl rfl hrun ?_
      try dsimp only
      refine hK.out _ _ ?_ (fun hHeld => ?_)
      · (try dsimp only); exact ⟨keepB hA0 (Nat.le_refl _) K3, blk hX.out K3⟩
      clear hK Kc
      try simp only [Act.put, List.setIfInBounds_toArray, List.set_cons_zero, List.set_cons_succ, List.getElem_toArray, List.getElem_cons_succ, List.getElem_cons_zero]
      clear hHeld hrun N
      have hHeld : Sc w (.cells #[.slice p1 t.cs.length k1, .slice p2 t.rs.length k2] 26 (0, 0)) x3 := ⟨keepB hA0 (Nat.le_refl _) K3, blk hX.out K3⟩
      clear Ea2 La
      have N := N'
      clear N'
      obtain ⟨ga, hga⟩ : ∃ g, g = G := ⟨_, rfl⟩
      subst hga
      refine wpAnyH_ready (rs := [7]) (by kernel_rfl) (by simp) ?_
      refine (AllReadyH.cons rfl (fun Kc hK => ?_) AllReadyH.nil)
      obtain ⟨G, cb, x4, hrun, hG, hO, hB4⟩ := app_empty x3 22 gb Eb3.out B _ t.rs (S2.out _ K3) hl2
      have K4 : Below A.heap.size A x4 := keepB K3 (Nat.le_refl _) hB4
      have Ob4 : Hid (OwnI x4 A.heap.size (.slice (some ⟨G, 0, none⟩) t.rs.length cb) t.rs) := hO _ Lb
      have N' : G ≠ ga := by have := (OwnI.lt Oa3.out ga rfl).2; rcases hG with h | h <;> omega
      have Oa4 : Hid (OwnI x4 A.heap.size (.slice (some ⟨ga, 0, none⟩) t.cs.length ca) t.cs) := OwnI.below Oa3.out hB4
      clear hO hG
      refine step_app rfl (.tmp 7) (.tmp 9) rfl _ _ _ _ rfl rfl hrun ?_
      try dsimp only
      refine hK.out _ _ ?_ (fun hHeld => ?_)
      · (try dsimp only); exact ⟨keepB hA0 (Nat.le_refl _) K4, blk hX.out K4⟩
      clear hK Kc
      try simp only [Act.put, List.setIfInBounds_toArray, List.set_cons_zero, List.set_cons_succ, List.getElem_toArray, List.getElem_cons_succ, List.getElem_cons_zero]
      clear hHeld hrun N
      have hHeld : Sc w (.cells #[.slice p1 t.cs.length k1, .slice p2 t.rs.length k2] 26 (0, 0)) x4 := ⟨keepB hA0 (Nat.le_refl _) K4, blk hX.out K4⟩
      clear Eb3 Lb
      have N := N'
      clear N'
      obtain ⟨gb, hgb⟩ : ∃ g, g = G := ⟨_, rfl⟩
      subst hgb
      refine yieldH (i := 8) (v := ?_) rfl (by kernel_rfl) (by kernel_rfl) (by kernel_rfl) (fun _ _ _ h => h) (by rfl) ?_ (by assumption) ?_; rotate_left
      · intro w' hSw; (try dsimp only at hSw); go_simp; (try with_reducible rfl)
      try simp only [Act.put, List.setIfInBounds_toArray, List.set_cons_zero, List.set_cons_succ, List.getElem_toArray, List.getElem_cons_succ, List.getElem_cons_zero]
      have hY4 : Hid _ := blk hY.out K4
      have y0 := cellW hY4.out 0 _ rfl x4 (Below.refl _ _)
      have f0 := frozenW hY4.out 0 x4 (Below.refl _ _)
      have y1 := cellW hY4.out 1 _ rfl x4 (Below.refl _ _)
      have f1 := frozenW hY4.out 1 x4 (Below.refl _ _)
      refine wpAnyH_ready (rs := [9]) (by kernel_rfl) (by simp) ?_
      refine (AllReadyH.cons rfl (fun Kc hK => ?_) AllReadyH.nil)
      go_simp
      try dsimp only
      refine hK.out _ _ ?_ (fun hHeld => ?_)
      · (try dsimp only); exact ⟨((keepB hA0 (Nat.le_refl _) K4).setCell (by simp only; omega) _).setCell (by simp only; omega) _, blk_far (blk_far (blk hX.out K4) (by simp only; omega) _) (by simp only; omega) _⟩
      clear hK Kc
      try simp only [Act.put, List.setIfInBounds_toArray, List.set_cons_zero, List.set_cons_succ, List.getElem_toArray, List.getElem_cons_succ, List.getElem_cons_zero]
      refine wpAnyH_done (by kernel_rfl) ?_ _
      go_wp2
      have hT : OwnT x4 A.heap.size (.slice (some ⟨ga, 0, none⟩) t.cs.length ca) (.slice (some ⟨gb, 0, none⟩) t.rs.length cb) t := ⟨Oa4.out, Ob4.out, fun a b ha hb => by cases ha; cases hb; simp only; omega⟩
      exact bodyPost_ret (v := .agg #[.slice (some ⟨ga, 0, none⟩) t.cs.length ca, .slice (some ⟨gb, 0, none⟩) t.rs.length cb]) (by simp [results, Tryd.results34, go_sem, y0, y1]) rfl ⟨_, _, rfl, OwnT.leT (OwnT.farT (OwnT.farT hT (by simp only; omega) _) (by simp only; omega) _) (by omega), (Below.setCell (Below.setCell (keepB hA0 (Nat.le_refl _) K4) (by simp only; omega) _) (by simp only; omega) _)⟩
  · go_simp
    try dsimp only
    refine hK.out _ _ ?_ (fun hHeld => ?_)
    · (try dsimp only); exact ⟨keepB hA0 (Nat.le_refl _) (K0.alloc K0.size _), blk (blk hX.out K0) (all_alloc _ _)⟩
    clear hK Kc
    try simp only [Act.put, List.setIfInBounds_toArray, List.set_cons_zero, List.set_cons_succ, List.getElem_toArray, List.getElem_cons_succ, List.getElem_cons_zero]
    have K1 : Below A.heap.size A (x0.alloc (.cells #[] 2)) := K0.alloc K0.size _
    have Eb1 : Hid ((x0.alloc (.cells #[] 2)).heap[x0.heap.size]? = some (.cells #[] 2 (0, 0))) := heap_alloc_new x0 (.cells #[] 2)
    have Lb : A.heap.size ≤ x0.heap.size := K0.size
    clear hHeld
    have hHeld : Sc w (.cells #[.slice p1 t.cs.length k1, .slice p2 t.rs.length k2] 26 (0, 0)) (x0.alloc (.cells #[] 2)) := ⟨keepB hA0 (Nat.le_refl _) K1, blk hX.out K1⟩
    generalize x0.alloc (.cells #[] 2) = x1 at K1 Eb1 hHeld ⊢
    generalize x0.heap.size = gb at Eb1 Lb ⊢
    refine wpAnyH_ready (rs := [0]) (by kernel_rfl) (by simp) ?_
    refine (AllReadyH.cons rfl (fun Kc hK => ?_) AllReadyH.nil)
    go_simp
    try dsimp only
    refine hK.out _ _ ?_ (fun hHeld => ?_)
    · (try dsimp only); exact ⟨keepB hA0 (Nat.le_refl _) (K1.alloc K1.size _), blk (blk hX.out K1) (all_alloc _ _)⟩
    clear hK Kc
    try simp only [Act.put, List.setIfInBounds_toArray, List.set_cons_zero, List.set_cons_succ, List.getElem_toArray, List.getElem_cons_succ, List.getElem_cons_zero]
    have K2 : Below A.heap.size A (x1.alloc (.cells #[] 2)) := K1.alloc K1.size _
    have Ea2 : Hid ((x1.alloc (.cells #[] 2)).heap[x1.heap.size]? = some (.cells #[] 2 (0, 0))) := heap_alloc_new x1 (.cells #[] 2)
    have La : A.heap.size ≤ x1.heap.size := K1.size
    have N : gb ≠ x1.heap.size := by have := (Array.getElem?_eq_some_iff.1 Eb1.out).1; omega
    have Eb2 : Hid ((x1.alloc (.cells #[] 2)).heap[gb]? = some (.cells #[] 2 (0, 0))) := blk Eb1.out (all_alloc _ _)
    clear hHeld
    have hHeld : Sc w (.cells #[.slice p1 t.cs.length k1, .slice p2 t.rs.length k2] 26 (0, 0)) (x1.alloc (.cells #[] 2)) := ⟨keepB hA0 (Nat.le_refl _) K2, blk hX.out K2⟩
    generalize x1.alloc (.cells #[] 2) = x2 at K2 Ea2 Eb2 hHeld ⊢
    generalize x1.heap.size = ga at Ea2 La N ⊢
    refine wpAnyH_ready (rs := [3]) (by kernel_rfl) (by simp) ?_
    refine (AllReadyH.cons rfl (fun Kc hK => ?_) AllReadyH.nil)
    obtain ⟨G, ca, x3, hrun, hG, hO, hB3⟩ := app_empty x2 22 ga Ea2.out B _ t.cs (S1.out _ K2) hl1
    have K3 : Below A.heap.size A x3 := keepB K2 (Nat.le_refl _) hB3
    have Oa3 : Hid (OwnI x3 A.heap.size (.slice (some ⟨G, 0, none⟩) t.cs.length ca) t.cs) := hO _ La
    have N' : G ≠ gb := by have := (Array.getElem?_eq_some_iff.1 Eb2.out).1; rcases hG with h | h <;> omega
    have Eb3 : Hid (x3.heap[gb]? = some (.cells #[] 2 (0, 0))) := blk Eb2.out hB3
    clear hO hG
    refine step_app rfl (.tmp 3) (.tmp 5) rfl _ _ _ _ rfl rfl hrun ?_
    try dsimp only
    refine hK.out _ _ ?_ (fun hHeld => ?_)
    · (try dsimp only); exact ⟨keepB hA0 (Nat.le_refl _) K3, blk hX.out K3⟩
    clear hK Kc
    try simp only [Act.put, List.setIfInBounds_toArray, List.set_cons_zero, List.set_cons_succ, List.getElem_toArray, List.getElem_cons_succ, List.getElem_cons_zero]
    clear hHeld hrun N
    have hHeld : Sc w (.cells #[.slice p1 t.cs.length k1, .slice p2 t.rs.length k2] 26 (0, 0)) x3 := ⟨keepB hA0 (Nat.le_refl _) K3, blk hX.out K3⟩
    clear Ea2 La
    have N := N'
    clear N'
    obtain ⟨ga, hga⟩ : ∃ g, g = G := ⟨_, rfl⟩
    subst hga
    refine wpAnyH_ready (rs := [7]) (by kernel_rfl) (by simp) ?_
    refine (AllReadyH.cons rfl (fun Kc hK => ?_) AllReadyH.nil)
    obtain ⟨G, cb, x4, hrun, hG, hO, hB4⟩ := app_empty x3 22 gb Eb3.out B _ t.rs (S2.out _ K3) hl2
    have K4 : Below A.heap.size A x4 := keepB K3 (Nat.le_refl _) hB4
    have Ob4 : Hid (OwnI x4 A.heap.size (.slice (some ⟨G, 0, none⟩) t.rs.length cb) t.rs) := hO _ Lb
    have N' : G ≠ ga := by have := (OwnI.lt Oa3.out ga rfl).2; rcases hG with h | h <;> omega
    have Oa4 : Hid (OwnI x4 A.heap.size (.slice (some ⟨ga, 0, none⟩) t.cs.length ca) t.cs) := OwnI.below Oa3.out hB4
    clear hO hG
    refine step_app rfl (.tmp 7) (.tmp 9) rfl _ _ _ _ rfl rfl hrun ?_
    try dsimp only
    refine hK.out _ _ ?_ (fun hHeld => ?_)
    · (try dsimp only); exact ⟨keepB hA0 (Nat.le_refl _) K4, blk hX.out K4⟩
    clear hK Kc
    try simp only [Act.put, List.setIfInBounds_toArray, List.set_cons_zero, List.set_cons_succ, List.getElem_toArray, List.getElem_cons_succ, List.getElem_cons_zero]
    clear hHeld hrun N
    have hHeld : Sc w (.cells #[.slice p1 t.cs.length k1, .slice p2 t.rs.length k2] 26 (0, 0)) x4 := ⟨keepB hA0 (Nat.le_refl _) K4, blk hX.out K4⟩
    clear Eb3 Lb
    have N := N'
    clear N'
    obtain ⟨gb, hgb⟩ : ∃ g, g = G := ⟨_, rfl⟩
    subst hgb
    refine yieldH (i := 8) (v := ?_) rfl (by kernel_rfl) (by kernel_rfl) (by kernel_rfl) (fun _ _ _ h => h) (by rfl) ?_ (by assumption) ?_; rotate_left
    · intro w' hSw; (try dsimp only at hSw); go_simp; (try with_reducible rfl)
    try simp only [Act.put, List.setIfInBounds_toArray, List.set_cons_zero, List.set_cons_succ, List.getElem_toArray, List.getElem_cons_succ, List.getElem_cons_zero]
    have hY4 : Hid _ := blk hY.out K4
    have y0 := cellW hY4.out 0 _ rfl x4 (Below.refl _ _)
    have f0 := frozenW hY4.out 0 x4 (Below.refl _ _)
    have y1 := cellW hY4.out 1 _ rfl x4 (Below.refl _ _)
    have f1 := frozenW hY4.out 1 x4 (Below.refl _ _)
    refine wpAnyH_ready (rs := [9]) (by kernel_rfl) (by simp) ?_
    refine (AllReadyH.cons rfl (fun Kc hK => ?_) AllReadyH.nil)
    go_simp
    try dsimp only
    refine hK.out _ _ ?_ (fun hHeld => ?_)
    · (try dsimp only); exact ⟨((keepB hA0 (Nat.le_refl _) K4).setCell (by simp only; omega) _).setCell (by simp only; omega) _, blk_far (blk_far (blk hX.out K4) (by simp only; omega) _) (by simp only; omega) _⟩
    clear hK Kc
    try simp only [Act.put, List.setIfInBounds_toArray, List.set_cons_zero, List.set_cons_succ, List.getElem_toArray, List.getElem_cons_succ, List.getElem_cons_zero]
    refine wpAnyH_done (by kernel_rfl) ?_ _
    go_wp2
    have hT : OwnT x4 A.heap.size (.slice (some ⟨ga, 0, none⟩) t.cs.length ca) (.slice (some ⟨gb, 0, none⟩) t.rs.length cb) t := ⟨Oa4.out, Ob4.out, fun a b ha hb => by cases ha; cases hb; simp only; omega⟩
    exact bodyPost_ret (v := .agg #[.slice (some ⟨ga, 0, none⟩) t.cs.length ca, .slice (some ⟨gb, 0, none⟩) t.rs.length cb]) (by simp [results, Tryd.results34, go_sem, y0, y1]) rfl ⟨_, _, rfl, OwnT.leT (OwnT.farT (OwnT.farT hT (by simp only; omega) _) (by simp only; omega) _) (by omega), (Below.setCell (Below.setCell (keepB hA0 (Nat.le_refl _) K4) (by simp only; omega) _) (by simp only; omega) _)⟩
end Go.Proofs.YtfpibedloodjlabDoor
