/- A STEP ALONG A PATH: the program's and the model's. Written by mkpas.py. -/
import Derived.Test.YtineecongiplgaaQpPaSh

namespace Go.Proofs.Ytineecongiplgaa
open Go.RowKit
set_option linter.unusedVariables false
set_option linter.unusedSimpArgs false

set_option maxRecDepth 100000 in
set_option maxHeartbeats 6400000 in
theorem pathStep_any (t : Tb) (via : Int) (B : Nat) (v1 v2 : Value) (w : World) (hl1 : t.cs.length ≤ 1500000) (hl2 : t.rs.length ≤ 1500000) (h : OwnT w B v1 v2 t) :
    Calls Try.prog 17 #[.agg #[v1, v2], .int .i64 via] w fun e w' => ∃ u1 u2, e = .returned (.agg #[u1, u2, .int .i64 (stepP t via).a, .int .i64 (stepP t via).c]) ∧ OwnT w' w.heap.size u1 u2 (stepP t via).t ∧ Below w.heap.size w w' := by
  obtain ⟨p1, c1, rfl⟩ := h.c.shape
  obtain ⟨p2, c2, rfl⟩ := h.r.shape
  have HR : Hid (∀ W, Below w.heap.size w W → Calls Try.prog 23 #[.agg #[.slice p1 t.cs.length c1, .slice p2 t.rs.length c2]] W fun e w' => e = .returned (.bool t.path) ∧ Below W.heap.size W w') := fun W hW => pathRight_any t p1 p2 c1 c2 W hl1 hl2 (h.c.below hW).row (h.r.below hW).row
  have HC : Hid (∀ W, Calls Try.prog 51 #[.int .i64 via] W fun e w' => e = .returned (.bool (addrB via)) ∧ W = w') := fun W => isAddress_any via W
  have HO : Hid (OwnT _ _ _ _ _) := h
  clear h
  have hX : Hid _ := blk (heap_alloc_new w (.cells #[.slice p1 t.cs.length c1, .slice p2 t.rs.length c2] 26)) (all_alloc _ (.cells #[.slice none 0 0, .slice none 0 0, .int .i64 0, .int .i64 0] 28))
  have hY : Hid _ := heap_alloc_new (w.alloc (.cells #[.slice p1 t.cs.length c1, .slice p2 t.rs.length c2] 26)) (.cells #[.slice none 0 0, .slice none 0 0, .int .i64 0, .int .i64 0] 28)
  have hA0 : Below w.heap.size w ((w.alloc (.cells #[.slice p1 t.cs.length c1, .slice p2 t.rs.length c2] 26)).alloc (.cells #[.slice none 0 0, .slice none 0 0, .int .i64 0, .int .i64 0] 28)) := keepB (all_alloc w _) (Nat.le_refl _) (all_alloc _ _)
  have e1 : (w.alloc (.cells #[.slice p1 t.cs.length c1, .slice p2 t.rs.length c2] 26)).heap.size = w.heap.size + 1 := by simp
  have e3 : w.heap.size + 1 + 1 ≤ ((w.alloc (.cells #[.slice p1 t.cs.length c1, .slice p2 t.rs.length c2] 26)).alloc (.cells #[.slice none 0 0, .slice none 0 0, .int .i64 0, .int .i64 0] 28)).heap.size := by simp
  rw [e1] at hY
  cases hp : t.path with
  | false =>
    rw [hp] at HR
    have eP : stepP t via = ⟨zeroT, 0, 1⟩ := by unfold stepP; rw [if_pos (.inl hp)]
    rw [eP]
    clear eP hp HO
    go_enter Try.func17, Try.ntmps17
    go_upto_region 1 with fail
    generalize (w.alloc (.cells #[.slice p1 t.cs.length c1, .slice p2 t.rs.length c2] 26)).alloc (.cells #[.slice none 0 0, .slice none 0 0, .int .i64 0, .int .i64 0] 28) = A at hX hY hA0 e3 ⊢
    clear e1
    have x0 := cellW hX.out 0 _ rfl A (Below.refl _ _); have x1 := cellW hX.out 1 _ rfl A (Below.refl _ _); have fy0 := frozenW hY.out 0 A (Below.refl _ _); have fy1 := frozenW hY.out 1 A (Below.refl _ _); have fy2 := frozenW hY.out 2 A (Below.refl _ _); have fy3 := frozenW hY.out 3 A (Below.refl _ _); have y0 := cellW hY.out 0 _ rfl A (Below.refl _ _); have y1 := cellW hY.out 1 _ rfl A (Below.refl _ _); have y2 := cellW hY.out 2 _ rfl A (Below.refl _ _); have y3 := cellW hY.out 3 _ rfl A (Below.refl _ _)
    go_wp2_with (go_at_call 23; refine (HR.out _ hA0).mono ?_; rintro e w1 ⟨rfl, hb1⟩; have hY1 : Hid _ := blk hY.out hb1; have hB1 := keepB hA0 (Nat.le_refl _) hb1; have z0 := cellW hY1.out 0 _ rfl w1 (Below.refl _ _); have z1 := cellW hY1.out 1 _ rfl w1 (Below.refl _ _); have z2 := cellW hY1.out 2 _ rfl w1 (Below.refl _ _); have z3 := cellW hY1.out 3 _ rfl w1 (Below.refl _ _); have fz0 := frozenW hY1.out 0 w1 (Below.refl _ _); have fz1 := frozenW hY1.out 1 w1 (Below.refl _ _); have fz2 := frozenW hY1.out 2 w1 (Below.refl _ _); have fz3 := frozenW hY1.out 3 w1 (Below.refl _ _))
    exact bodyPost_ret (v := .agg #[.slice none 0 0, .slice none 0 0, .int .i64 0, .int .i64 1]) (by simp [results, Try.results17, go_sem, z0, z1, z2, z3]; try rfl) rfl ⟨_, _, rfl, ⟨OwnI.nil _ _, OwnI.nil _ _, fun a b h => by cases h⟩, (by first | exact hB1 | exact hB1.setCell (by simp only; omega) _ | exact (hB1.setCell (by simp only; omega) _).setCell (by simp only; omega) _ | exact ((((hB1.setCell (by simp only; omega) _).setCell (by simp only; omega) _).setCell (by simp only; omega) _).setCell (by simp only; omega) _))⟩
  | true =>
  cases ha : addrB via with
  | false =>
    rw [hp] at HR
    rw [ha] at HC
    have eP : stepP t via = ⟨zeroT, 0, 1⟩ := by unfold stepP; rw [if_pos (.inr ha)]
    rw [eP]
    clear eP hp HO ha
    go_enter Try.func17, Try.ntmps17
    go_upto_region 1 with fail
    generalize (w.alloc (.cells #[.slice p1 t.cs.length c1, .slice p2 t.rs.length c2] 26)).alloc (.cells #[.slice none 0 0, .slice none 0 0, .int .i64 0, .int .i64 0] 28) = A at hX hY hA0 e3 ⊢
    clear e1
    have x0 := cellW hX.out 0 _ rfl A (Below.refl _ _); have x1 := cellW hX.out 1 _ rfl A (Below.refl _ _); have fy0 := frozenW hY.out 0 A (Below.refl _ _); have fy1 := frozenW hY.out 1 A (Below.refl _ _); have fy2 := frozenW hY.out 2 A (Below.refl _ _); have fy3 := frozenW hY.out 3 A (Below.refl _ _); have y0 := cellW hY.out 0 _ rfl A (Below.refl _ _); have y1 := cellW hY.out 1 _ rfl A (Below.refl _ _); have y2 := cellW hY.out 2 _ rfl A (Below.refl _ _); have y3 := cellW hY.out 3 _ rfl A (Below.refl _ _)
    go_wp2_with (first
      | (go_at_call 51; refine (HC.out _).mono ?_; rintro e w2 ⟨rfl, rfl⟩)
      | (go_at_call 23; refine (HR.out _ hA0).mono ?_; rintro e w1 ⟨rfl, hb1⟩; have hY1 : Hid _ := blk hY.out hb1; have hB1 := keepB hA0 (Nat.le_refl _) hb1; have z0 := cellW hY1.out 0 _ rfl w1 (Below.refl _ _); have z1 := cellW hY1.out 1 _ rfl w1 (Below.refl _ _); have z2 := cellW hY1.out 2 _ rfl w1 (Below.refl _ _); have z3 := cellW hY1.out 3 _ rfl w1 (Below.refl _ _); have fz0 := frozenW hY1.out 0 w1 (Below.refl _ _); have fz1 := frozenW hY1.out 1 w1 (Below.refl _ _); have fz2 := frozenW hY1.out 2 w1 (Below.refl _ _); have fz3 := frozenW hY1.out 3 w1 (Below.refl _ _)))
    exact bodyPost_ret (v := .agg #[.slice none 0 0, .slice none 0 0, .int .i64 0, .int .i64 1]) (by simp [results, Try.results17, go_sem, z0, z1, z2, z3]; try rfl) rfl ⟨_, _, rfl, ⟨OwnI.nil _ _, OwnI.nil _ _, fun a b h => by cases h⟩, (by first | exact hB1 | exact hB1.setCell (by simp only; omega) _ | exact (hB1.setCell (by simp only; omega) _).setCell (by simp only; omega) _ | exact ((((hB1.setCell (by simp only; omega) _).setCell (by simp only; omega) _).setCell (by simp only; omega) _).setCell (by simp only; omega) _))⟩
  | true =>
  rw [hp] at HR
  rw [ha] at HC
  have hn := ((Tb.path_iff t).1 hp).2
  have eP0 : stepP t via = (match t.cs with | [] => ⟨zeroT, 0, 6⟩ | a :: l => ⟨⟨l, via :: t.rs⟩, a, 0⟩) := by unfold stepP; rw [if_neg (by rintro (h | h); rw [hp] at h; cases h; rw [ha] at h; cases h)]; cases t.cs <;> rfl
  rw [eP0]
  clear eP0 hp ha
  obtain ⟨cs, rs⟩ := t
  dsimp only at *
  cases cs with
  | nil =>
    dsimp only
    rw [List.length_nil] at *
    clear HO
    go_enter Try.func17, Try.ntmps17
    go_upto_region 1 with fail
    generalize (w.alloc (.cells #[.slice p1 0 c1, .slice p2 rs.length c2] 26)).alloc (.cells #[.slice none 0 0, .slice none 0 0, .int .i64 0, .int .i64 0] 28) = A at hX hY hA0 e3 ⊢
    clear e1
    have x0 := cellW hX.out 0 _ rfl A (Below.refl _ _); have x1 := cellW hX.out 1 _ rfl A (Below.refl _ _); have fy0 := frozenW hY.out 0 A (Below.refl _ _); have fy1 := frozenW hY.out 1 A (Below.refl _ _); have fy2 := frozenW hY.out 2 A (Below.refl _ _); have fy3 := frozenW hY.out 3 A (Below.refl _ _); have y0 := cellW hY.out 0 _ rfl A (Below.refl _ _); have y1 := cellW hY.out 1 _ rfl A (Below.refl _ _); have y2 := cellW hY.out 2 _ rfl A (Below.refl _ _); have y3 := cellW hY.out 3 _ rfl A (Below.refl _ _)
    go_wp2_with (first
      | (go_at_call 51; refine (HC.out _).mono ?_; rintro e w2 ⟨rfl, rfl⟩)
      | (go_at_call 23; refine (HR.out _ hA0).mono ?_; rintro e w1 ⟨rfl, hb1⟩; have hY1 : Hid _ := blk hY.out hb1; have hX1 : Hid _ := blk hX.out hb1; have a0 := cellW hX1.out 0 _ rfl w1 (Below.refl _ _); have hB1 := keepB hA0 (Nat.le_refl _) hb1; have z0 := cellW hY1.out 0 _ rfl w1 (Below.refl _ _); have z1 := cellW hY1.out 1 _ rfl w1 (Below.refl _ _); have z2 := cellW hY1.out 2 _ rfl w1 (Below.refl _ _); have z3 := cellW hY1.out 3 _ rfl w1 (Below.refl _ _); have fz0 := frozenW hY1.out 0 w1 (Below.refl _ _); have fz1 := frozenW hY1.out 1 w1 (Below.refl _ _); have fz2 := frozenW hY1.out 2 w1 (Below.refl _ _); have fz3 := frozenW hY1.out 3 w1 (Below.refl _ _)))
    exact bodyPost_ret (v := .agg #[.slice none 0 0, .slice none 0 0, .int .i64 0, .int .i64 6]) (by simp [results, Try.results17, go_sem, z0, z1, z2, z3]; try rfl) rfl ⟨_, _, rfl, ⟨OwnI.nil _ _, OwnI.nil _ _, fun a b h => by cases h⟩, (by first | exact hB1 | exact hB1.setCell (by simp only; omega) _ | exact (hB1.setCell (by simp only; omega) _).setCell (by simp only; omega) _ | exact ((((hB1.setCell (by simp only; omega) _).setCell (by simp only; omega) _).setCell (by simp only; omega) _).setCell (by simp only; omega) _))⟩
  | cons a l =>
    dsimp only
    rw [List.length_cons] at *
    obtain ⟨gp, hgp, hcc, hca⟩ : ∃ gp, p1 = some ⟨gp, 0, none⟩ ∧ l.length + 1 ≤ c1 ∧ gp < w.heap.size := by
      obtain ⟨_, ⟨h1, h0⟩ | ⟨g, cap, cur, h1, hb, hg, h2, _⟩⟩ := HO.out.c
      · simp at h0
      · cases h1
        exact ⟨g, rfl, by simpa using h2, (Array.getElem?_eq_some_iff.1 hg).1⟩
    subst hgp
    have HSR := tail_src gp c1 a l hcc
    have hle1 : (1 : Int) ≤ (l.length : Int) + 1 := by omega
    obtain ⟨pq, hpq⟩ : ∃ pq : Option Addr, Hid ((if c1 = 1 then some ⟨gp, 0, none⟩ else some ⟨gp, 1, none⟩) = pq) := ⟨_, show _ = _ from rfl⟩
    obtain ⟨cq, hcq⟩ : ∃ cq : Nat, Hid (c1 - 1 = cq) := ⟨_, show _ = _ from rfl⟩
    rw [hpq.out, hcq.out] at HSR
    have hq0 : Hid (∀ W, Below w.heap.size w W → W.cell? ⟨gp, 0, none⟩ = some (.int .i64 a)) := fun W hW => by
      obtain ⟨g', e, _, _, hq, _⟩ := (HO.out.c.below hW).cell 0 (by simp)
      cases e
      simpa using hq
    have HCP : Hid (∀ W, Below w.heap.size w W → Calls Try.prog 42 #[.slice pq l.length cq] W fun e w' => ∃ v', e = .returned v' ∧ OwnI w' W.heap.size v' l ∧ Below W.heap.size W w') := fun W hW => copyNums_src _ l W (by omega) (HSR W B (HO.out.c.below hW))
    have HRR : Hid (∀ W, Below w.heap.size w W → SrcI W (.slice p2 rs.length c2) rs) := fun W hW => (HO.out.r.below hW).row.src
    have HTG0 : Hid (∀ (A W : World) (gv gr : Nat), Below w.heap.size w A → Below A.heap.size A W → W.heap[gv]? = some (.cells #[.int .i64 via] 2 (0, 0)) → W.heap[gr]? = some (.cells #[.slice (some ⟨gv, 0, none⟩) 1 1, .slice p2 rs.length c2] 23 (0, 0)) → Calls Try.prog 52 #[.slice (some ⟨gr, 0, none⟩) 2 2] W fun e w' => ∃ v, e = .returned v ∧ OwnI w' W.heap.size v (via :: rs) ∧ Below W.heap.size W w') := fun A W gv gr hA hW hv hr =>
      together_I gr (0, 0) _ _ [via] rs W hr ⟨_, _, rfl, fun k hk => by
        have hk0 : k = 0 := by simp at hk; exact hk
        subst hk0
        exact ⟨gv, 0, rfl, (Array.getElem?_eq_some_iff.1 hv).1, by simp [World.cell?, hv]⟩⟩ (HRR.out W (keepB hA (Nat.le_refl _) hW)) (by simp) hl2
    have hne : ((l.length : Int) + 1 == 0) = false := by simp; omega
    clear HSR HO
    go_enter Try.func17, Try.ntmps17
    go_upto_region 1 with fail
    generalize (w.alloc (.cells #[.slice (some ⟨gp, 0, none⟩) (l.length + 1) c1, .slice p2 rs.length c2] 26)).alloc (.cells #[.slice none 0 0, .slice none 0 0, .int .i64 0, .int .i64 0] 28) = A0 at hX hY hA0 e3 ⊢
    clear e1
    have x0 := cellW hX.out 0 _ rfl A0 (Below.refl _ _)
    have x1 := cellW hX.out 1 _ rfl A0 (Below.refl _ _)
    go_upto_region 5 with (first
      | (go_at_call 51; refine (HC.out _).mono ?_; rintro e w2 ⟨rfl, rfl⟩)
      | (go_at_call 23; refine (HR.out _ hA0).mono ?_; rintro e A ⟨rfl, hb1⟩; have a0 := cellW hX.out 0 _ rfl A hb1))
    have hA := keepB hA0 (Nat.le_refl _) hb1
    replace hX : Hid _ := blk hX.out hb1
    replace hY : Hid _ := blk hY.out hb1
    have e4 := hb1.size
    have e5 : w.heap.size + 1 + 1 ≤ A.heap.size := by omega
    clear e3 e4 hA0 x0 x1 a0 hb1 HR HC
    have x0 := cellW hX.out 0 _ rfl
    have x1 := cellW hX.out 1 _ rfl
    go_cut [5] (fun s5 wx => ∃ (ga : Nat) (pc pr : Option Addr) (cc cr : Nat), s5 = .pointer (some ⟨ga, 0, none⟩) ∧ wx.heap[ga]? = some (.cells #[.slice pc l.length cc, .slice pr (via :: rs).length cr] 26 (0, 0)) ∧ OwnT wx A.heap.size (.slice pc l.length cc) (.slice pr (via :: rs).length cr) ⟨l, via :: rs⟩ ∧ A.heap.size ≤ ga ∧ Below A.heap.size A wx)
    case first =>
      refine wp_region_held_drew (S := (fun w' => Below A.heap.size A w')) (by kernel_rfl) ?_ (fun hHeld => ?_)
      · (try dsimp only); exact Below.drew (Below.refl _ _)
      have hB : Below A.heap.size A (World.drew A) := Below.drew (Below.refl _ _)
      have hz0 := hB.size
      generalize World.drew A = W0 at hB hz0 hHeld ⊢
      refine yieldH (i := 0) (v := ?_) rfl (by kernel_rfl) (by kernel_rfl) (by kernel_rfl) (fun _ _ _ h => h) (by rfl) ?_ (by assumption) ?_; rotate_left
      · intro w' hSw; (try dsimp only at hSw); go_simp; (try with_reducible rfl)
      try simp only [Act.put, List.setIfInBounds_toArray, List.set_cons_zero, List.set_cons_succ, List.getElem_toArray, List.getElem_cons_succ, List.getElem_cons_zero]
      refine yieldH (i := 1) (v := ?_) rfl (by kernel_rfl) (by kernel_rfl) (by kernel_rfl) (fun _ _ _ h => h) (by rfl) ?_ (by assumption) ?_; rotate_left
      · intro w' hSw; (try dsimp only at hSw); go_simp; (try with_reducible rfl)
      try simp only [Act.put, List.setIfInBounds_toArray, List.set_cons_zero, List.set_cons_succ, List.getElem_toArray, List.getElem_cons_succ, List.getElem_cons_zero]
      refine yieldH (i := 2) (v := .slice pq l.length cq) rfl (by kernel_rfl) (by kernel_rfl) (by kernel_rfl) (fun _ _ _ h => h) (by rfl) ?_ (by assumption) ?_
      · intro w' hSw; (try dsimp only at hSw); go_simp; rw [hpq.out, hcq.out]; first | done | exact ⟨rfl, rfl⟩
      try simp only [Act.put, List.setIfInBounds_toArray, List.set_cons_zero, List.set_cons_succ, List.getElem_toArray, List.getElem_cons_succ, List.getElem_cons_zero]
      refine yieldH (i := 4) (v := ?_) rfl (by kernel_rfl) (by kernel_rfl) (by kernel_rfl) (fun _ _ _ h => h) (by rfl) ?_ (by assumption) ?_; rotate_left
      · intro w' hSw; (try dsimp only at hSw); go_simp; (try with_reducible rfl)
      try simp only [Act.put, List.setIfInBounds_toArray, List.set_cons_zero, List.set_cons_succ, List.getElem_toArray, List.getElem_cons_succ, List.getElem_cons_zero]
      refine yieldH (i := 6) (v := ?_) rfl (by kernel_rfl) (by kernel_rfl) (by kernel_rfl) (fun _ _ _ h => h) (by rfl) ?_ (by assumption) ?_; rotate_left
      · intro w' hSw; (try dsimp only at hSw); go_simp; (try with_reducible rfl)
      try simp only [Act.put, List.setIfInBounds_toArray, List.set_cons_zero, List.set_cons_succ, List.getElem_toArray, List.getElem_cons_succ, List.getElem_cons_zero]
      refine yieldH (i := 7) (v := ?_) rfl (by kernel_rfl) (by kernel_rfl) (by kernel_rfl) (fun _ _ _ h => h) (by rfl) ?_ (by assumption) ?_; rotate_left
      · intro w' hSw; (try dsimp only at hSw); go_simp; (try with_reducible rfl)
      try simp only [Act.put, List.setIfInBounds_toArray, List.set_cons_zero, List.set_cons_succ, List.getElem_toArray, List.getElem_cons_succ, List.getElem_cons_zero]
      refine wpAnyH_ready (rs := [3, 5, 11]) (by kernel_rfl) (by simp) ?_
      refine (AllReadyH.cons rfl (fun Kc hK => ?_) (AllReadyH.cons rfl (fun Kc hK => ?_) (AllReadyH.cons rfl (fun Kc hK => ?_) AllReadyH.nil)))
      · go_simp
        go_at_call 42; refine (HCP.out _ (keepB hA (Nat.le_refl _) hB)).mono ?_; rintro e3 W1 ⟨u3, rfl, own3, hb⟩; obtain ⟨pc, cc, rfl⟩ := own3.shape
        (try dsimp only)
        refine hK.out _ _ ?_ (fun hHeld => ?_)
        · (try dsimp only); exact keepB hB (Nat.le_refl _) hb
        clear hK Kc
        try simp only [Act.put, List.setIfInBounds_toArray, List.set_cons_zero, List.set_cons_succ, List.getElem_toArray, List.getElem_cons_succ, List.getElem_cons_zero]
        have o3 : Hid (OwnI W1 W0.heap.size (.slice pc l.length cc) l) := own3
        have I3 : Hid (∀ k, (Value.slice pc l.length cc).ownBlock = some k → W0.heap.size ≤ k ∧ k < W1.heap.size) := OwnI.lt own3
        clear own3
        replace hB := keepB hB (Nat.le_refl _) hb
        have hz1 : W0.heap.size ≤ W1.heap.size := hb.size
        clear hb
        refine wpAnyH_ready (rs := [5, 11]) (by kernel_rfl) (by simp) ?_
        refine (AllReadyH.cons rfl (fun Kc hK => ?_) (AllReadyH.cons rfl (fun Kc hK => ?_) AllReadyH.nil))
        · go_simp
          (try dsimp only)
          refine hK.out _ _ ?_ (fun hHeld => ?_)
          · (try dsimp only); exact keepB hB (Nat.le_refl _) (all_alloc W1 (.cells #[.int .i64 via] 2))
          clear hK Kc
          try simp only [Act.put, List.setIfInBounds_toArray, List.set_cons_zero, List.set_cons_succ, List.getElem_toArray, List.getElem_cons_succ, List.getElem_cons_zero]
          have hb := all_alloc W1 (.cells #[.int .i64 via] 2)
          have hz2 : W1.heap.size < (W1.alloc (.cells #[.int .i64 via] 2)).heap.size := by simp
          replace o3 : Hid (OwnI _ _ _ _) := OwnI.below o3.out hb
          have gB : Hid _ := heap_alloc_new W1 (.cells #[.int .i64 via] 2)
          replace hB := keepB hB (Nat.le_refl _) hb
          clear hb
          generalize W1.alloc (.cells #[.int .i64 via] 2) = W2 at o3 gB hB hz2 hHeld ⊢
          refine wpAnyH_ready (rs := [8, 11]) (by kernel_rfl) (by simp) ?_
          refine (AllReadyH.cons rfl (fun Kc hK => ?_) (AllReadyH.cons rfl (fun Kc hK => ?_) AllReadyH.nil))
          · go_simp
            (try dsimp only)
            refine hK.out _ _ ?_ (fun hHeld => ?_)
            · (try dsimp only); exact keepB hB (Nat.le_refl _) (all_alloc W2 (.cells #[.slice (some ⟨W1.heap.size, 0, none⟩) 1 1, .slice p2 rs.length c2] 23))
            clear hK Kc
            try simp only [Act.put, List.setIfInBounds_toArray, List.set_cons_zero, List.set_cons_succ, List.getElem_toArray, List.getElem_cons_succ, List.getElem_cons_zero]
            have hb := all_alloc W2 (.cells #[.slice (some ⟨W1.heap.size, 0, none⟩) 1 1, .slice p2 rs.length c2] 23)
            have hz3 : W2.heap.size < (W2.alloc (.cells #[.slice (some ⟨W1.heap.size, 0, none⟩) 1 1, .slice p2 rs.length c2] 23)).heap.size := by simp
            replace o3 : Hid (OwnI _ _ _ _) := OwnI.below o3.out hb
            replace gB : Hid _ := blk gB.out hb
            have rB : Hid _ := heap_alloc_new W2 (.cells #[.slice (some ⟨W1.heap.size, 0, none⟩) 1 1, .slice p2 rs.length c2] 23)
            replace hB := keepB hB (Nat.le_refl _) hb
            clear hb
            generalize W2.alloc (.cells #[.slice (some ⟨W1.heap.size, 0, none⟩) 1 1, .slice p2 rs.length c2] 23) = W3 at o3 gB rB hB hz3 hHeld ⊢
            refine wpAnyH_ready (rs := [9, 11]) (by kernel_rfl) (by simp) ?_
            refine (AllReadyH.cons rfl (fun Kc hK => ?_) (AllReadyH.cons rfl (fun Kc hK => ?_) AllReadyH.nil))
            · go_simp
              go_at_call 52; refine (HTG0.out A _ _ W2.heap.size hA hB gB.out rB.out).mono ?_; rintro e9 W4 ⟨u9, rfl, own9, hb⟩; obtain ⟨pr, cr, rfl⟩ := own9.shape
              (try dsimp only)
              refine hK.out _ _ ?_ (fun hHeld => ?_)
              · (try dsimp only); exact keepB hB (Nat.le_refl _) hb
              clear hK Kc
              try simp only [Act.put, List.setIfInBounds_toArray, List.set_cons_zero, List.set_cons_succ, List.getElem_toArray, List.getElem_cons_succ, List.getElem_cons_zero]
              replace o3 : Hid (OwnI W4 _ _ _) := OwnI.below o3.out hb
              replace gB : Hid _ := blk gB.out hb
              replace rB : Hid _ := blk rB.out hb
              have o9 : Hid (OwnI W4 W3.heap.size (.slice pr (via :: rs).length cr) (via :: rs)) := own9
              have I9 : Hid (∀ k, (Value.slice pr (via :: rs).length cr).ownBlock = some k → W3.heap.size ≤ k ∧ k < W4.heap.size) := OwnI.lt own9
              clear own9
              replace hB := keepB hB (Nat.le_refl _) hb
              have hz4 : W3.heap.size ≤ W4.heap.size := hb.size
              clear hb
              refine yieldH (i := 10) (v := ?_) rfl (by kernel_rfl) (by kernel_rfl) (by kernel_rfl) (fun _ _ _ h => h) (by rfl) ?_ (by assumption) ?_; rotate_left
              · intro w' hSw; (try dsimp only at hSw); go_simp; (try with_reducible rfl)
              try simp only [Act.put, List.setIfInBounds_toArray, List.set_cons_zero, List.set_cons_succ, List.getElem_toArray, List.getElem_cons_succ, List.getElem_cons_zero]
              refine wpAnyH_ready (rs := [11]) (by kernel_rfl) (by simp) ?_
              refine (AllReadyH.cons rfl (fun Kc hK => ?_) AllReadyH.nil)
              go_simp
              (try dsimp only)
              refine hK.out _ _ ?_ (fun hHeld => ?_)
              · (try dsimp only); exact keepB hB (Nat.le_refl _) (all_alloc W4 (.cells #[.slice none 0 0, .slice none 0 0] 26))
              clear hK Kc
              try simp only [Act.put, List.setIfInBounds_toArray, List.set_cons_zero, List.set_cons_succ, List.getElem_toArray, List.getElem_cons_succ, List.getElem_cons_zero]
              have hb := all_alloc W4 (.cells #[.slice none 0 0, .slice none 0 0] 26)
              have hz5 : W4.heap.size < (W4.alloc (.cells #[.slice none 0 0, .slice none 0 0] 26)).heap.size := by simp
              replace o3 : Hid (OwnI _ _ _ _) := OwnI.below o3.out hb
              replace o9 : Hid (OwnI _ _ _ _) := OwnI.below o9.out hb
              have bB : Hid _ := heap_alloc_new W4 (.cells #[.slice none 0 0, .slice none 0 0] 26)
              replace hB := keepB hB (Nat.le_refl _) hb
              clear hb
              generalize W4.alloc (.cells #[.slice none 0 0, .slice none 0 0] 26) = W5 at o3 o9 bB hB hz5 hHeld ⊢
              refine wpAnyH_ready (rs := [12]) (by kernel_rfl) (by simp) ?_
              refine (AllReadyH.cons rfl (fun Kc hK => ?_) AllReadyH.nil)
              have b0 := cellW bB.out 0 _ rfl _ (Below.refl _ _); have b1 := cellW bB.out 1 _ rfl _ (Below.refl _ _); have f0 := frozenW bB.out 0 _ (Below.refl _ _); have f1 := frozenW bB.out 1 _ (Below.refl _ _)
              have hS12 : Below A.heap.size A ((W5.setCell ⟨W4.heap.size, 0, none⟩ (.slice pc l.length cc)).setCell ⟨W4.heap.size, 1, none⟩ (.slice pr (via :: rs).length cr)) := (hB.setCell (by simp only; omega) _).setCell (by simp only; omega) _
              go_simp
              (try dsimp only)
              refine hK.out _ _ ?_ (fun hHeld => ?_)
              · (try dsimp only); exact hS12
              clear hK Kc
              try simp only [Act.put, List.setIfInBounds_toArray, List.set_cons_zero, List.set_cons_succ, List.getElem_toArray, List.getElem_cons_succ, List.getElem_cons_zero]
              refine wpAnyH_done (by kernel_rfl) ?_ _
              go_wp2
              go_meet
              exact ⟨_, _, _, _, _, rfl, blk_set (blk_set bB.out 0 _) 1 _, own_pair o3.out o9.out (fun k hk => by have := I3.out k hk; (try simp only); omega) (fun k hk => by have := I9.out k hk; (try simp only); omega) (fun a b ha hb => by have := I3.out a ha; have := I9.out b hb; omega) (by omega) (by omega), (by omega), hS12⟩
            · go_simp
              (try dsimp only)
              refine hK.out _ _ ?_ (fun hHeld => ?_)
              · (try dsimp only); exact keepB hB (Nat.le_refl _) (all_alloc W3 (.cells #[.slice none 0 0, .slice none 0 0] 26))
              clear hK Kc
              try simp only [Act.put, List.setIfInBounds_toArray, List.set_cons_zero, List.set_cons_succ, List.getElem_toArray, List.getElem_cons_succ, List.getElem_cons_zero]
              have hb := all_alloc W3 (.cells #[.slice none 0 0, .slice none 0 0] 26)
              have hz4 : W3.heap.size < (W3.alloc (.cells #[.slice none 0 0, .slice none 0 0] 26)).heap.size := by simp
              replace o3 : Hid (OwnI _ _ _ _) := OwnI.below o3.out hb
              replace gB : Hid _ := blk gB.out hb
              replace rB : Hid _ := blk rB.out hb
              have bB : Hid _ := heap_alloc_new W3 (.cells #[.slice none 0 0, .slice none 0 0] 26)
              replace hB := keepB hB (Nat.le_refl _) hb
              clear hb
              generalize W3.alloc (.cells #[.slice none 0 0, .slice none 0 0] 26) = W4 at o3 gB rB bB hB hz4 hHeld ⊢
              refine wpAnyH_ready (rs := [9]) (by kernel_rfl) (by simp) ?_
              refine (AllReadyH.cons rfl (fun Kc hK => ?_) AllReadyH.nil)
              go_simp
              go_at_call 52; refine (HTG0.out A _ _ W2.heap.size hA hB gB.out rB.out).mono ?_; rintro e9 W5 ⟨u9, rfl, own9, hb⟩; obtain ⟨pr, cr, rfl⟩ := own9.shape
              (try dsimp only)
              refine hK.out _ _ ?_ (fun hHeld => ?_)
              · (try dsimp only); exact keepB hB (Nat.le_refl _) hb
              clear hK Kc
              try simp only [Act.put, List.setIfInBounds_toArray, List.set_cons_zero, List.set_cons_succ, List.getElem_toArray, List.getElem_cons_succ, List.getElem_cons_zero]
              replace o3 : Hid (OwnI W5 _ _ _) := OwnI.below o3.out hb
              replace gB : Hid _ := blk gB.out hb
              replace rB : Hid _ := blk rB.out hb
              replace bB : Hid _ := blk bB.out hb
              have o9 : Hid (OwnI W5 W4.heap.size (.slice pr (via :: rs).length cr) (via :: rs)) := own9
              have I9 : Hid (∀ k, (Value.slice pr (via :: rs).length cr).ownBlock = some k → W4.heap.size ≤ k ∧ k < W5.heap.size) := OwnI.lt own9
              clear own9
              replace hB := keepB hB (Nat.le_refl _) hb
              have hz5 : W4.heap.size ≤ W5.heap.size := hb.size
              clear hb
              refine yieldH (i := 10) (v := ?_) rfl (by kernel_rfl) (by kernel_rfl) (by kernel_rfl) (fun _ _ _ h => h) (by rfl) ?_ (by assumption) ?_; rotate_left
              · intro w' hSw; (try dsimp only at hSw); go_simp; (try with_reducible rfl)
              try simp only [Act.put, List.setIfInBounds_toArray, List.set_cons_zero, List.set_cons_succ, List.getElem_toArray, List.getElem_cons_succ, List.getElem_cons_zero]
              refine wpAnyH_ready (rs := [12]) (by kernel_rfl) (by simp) ?_
              refine (AllReadyH.cons rfl (fun Kc hK => ?_) AllReadyH.nil)
              have b0 := cellW bB.out 0 _ rfl _ (Below.refl _ _); have b1 := cellW bB.out 1 _ rfl _ (Below.refl _ _); have f0 := frozenW bB.out 0 _ (Below.refl _ _); have f1 := frozenW bB.out 1 _ (Below.refl _ _)
              have hS12 : Below A.heap.size A ((W5.setCell ⟨W3.heap.size, 0, none⟩ (.slice pc l.length cc)).setCell ⟨W3.heap.size, 1, none⟩ (.slice pr (via :: rs).length cr)) := (hB.setCell (by simp only; omega) _).setCell (by simp only; omega) _
              go_simp
              (try dsimp only)
              refine hK.out _ _ ?_ (fun hHeld => ?_)
              · (try dsimp only); exact hS12
              clear hK Kc
              try simp only [Act.put, List.setIfInBounds_toArray, List.set_cons_zero, List.set_cons_succ, List.getElem_toArray, List.getElem_cons_succ, List.getElem_cons_zero]
              refine wpAnyH_done (by kernel_rfl) ?_ _
              go_wp2
              go_meet
              exact ⟨_, _, _, _, _, rfl, blk_set (blk_set bB.out 0 _) 1 _, own_pair o3.out o9.out (fun k hk => by have := I3.out k hk; (try simp only); omega) (fun k hk => by have := I9.out k hk; (try simp only); omega) (fun a b ha hb => by have := I3.out a ha; have := I9.out b hb; omega) (by omega) (by omega), (by omega), hS12⟩
          · go_simp
            (try dsimp only)
            refine hK.out _ _ ?_ (fun hHeld => ?_)
            · (try dsimp only); exact keepB hB (Nat.le_refl _) (all_alloc W2 (.cells #[.slice none 0 0, .slice none 0 0] 26))
            clear hK Kc
            try simp only [Act.put, List.setIfInBounds_toArray, List.set_cons_zero, List.set_cons_succ, List.getElem_toArray, List.getElem_cons_succ, List.getElem_cons_zero]
            have hb := all_alloc W2 (.cells #[.slice none 0 0, .slice none 0 0] 26)
            have hz3 : W2.heap.size < (W2.alloc (.cells #[.slice none 0 0, .slice none 0 0] 26)).heap.size := by simp
            replace o3 : Hid (OwnI _ _ _ _) := OwnI.below o3.out hb
            replace gB : Hid _ := blk gB.out hb
            have bB : Hid _ := heap_alloc_new W2 (.cells #[.slice none 0 0, .slice none 0 0] 26)
            replace hB := keepB hB (Nat.le_refl _) hb
            clear hb
            generalize W2.alloc (.cells #[.slice none 0 0, .slice none 0 0] 26) = W3 at o3 gB bB hB hz3 hHeld ⊢
            refine wpAnyH_ready (rs := [8]) (by kernel_rfl) (by simp) ?_
            refine (AllReadyH.cons rfl (fun Kc hK => ?_) AllReadyH.nil)
            go_simp
            (try dsimp only)
            refine hK.out _ _ ?_ (fun hHeld => ?_)
            · (try dsimp only); exact keepB hB (Nat.le_refl _) (all_alloc W3 (.cells #[.slice (some ⟨W1.heap.size, 0, none⟩) 1 1, .slice p2 rs.length c2] 23))
            clear hK Kc
            try simp only [Act.put, List.setIfInBounds_toArray, List.set_cons_zero, List.set_cons_succ, List.getElem_toArray, List.getElem_cons_succ, List.getElem_cons_zero]
            have hb := all_alloc W3 (.cells #[.slice (some ⟨W1.heap.size, 0, none⟩) 1 1, .slice p2 rs.length c2] 23)
            have hz4 : W3.heap.size < (W3.alloc (.cells #[.slice (some ⟨W1.heap.size, 0, none⟩) 1 1, .slice p2 rs.length c2] 23)).heap.size := by simp
            replace o3 : Hid (OwnI _ _ _ _) := OwnI.below o3.out hb
            replace gB : Hid _ := blk gB.out hb
            replace bB : Hid _ := blk bB.out hb
            have rB : Hid _ := heap_alloc_new W3 (.cells #[.slice (some ⟨W1.heap.size, 0, none⟩) 1 1, .slice p2 rs.length c2] 23)
            replace hB := keepB hB (Nat.le_refl _) hb
            clear hb
            generalize W3.alloc (.cells #[.slice (some ⟨W1.heap.size, 0, none⟩) 1 1, .slice p2 rs.length c2] 23) = W4 at o3 gB bB rB hB hz4 hHeld ⊢
            refine wpAnyH_ready (rs := [9]) (by kernel_rfl) (by simp) ?_
            refine (AllReadyH.cons rfl (fun Kc hK => ?_) AllReadyH.nil)
            go_simp
            go_at_call 52; refine (HTG0.out A _ _ W3.heap.size hA hB gB.out rB.out).mono ?_; rintro e9 W5 ⟨u9, rfl, own9, hb⟩; obtain ⟨pr, cr, rfl⟩ := own9.shape
            (try dsimp only)
            refine hK.out _ _ ?_ (fun hHeld => ?_)
            · (try dsimp only); exact keepB hB (Nat.le_refl _) hb
            clear hK Kc
            try simp only [Act.put, List.setIfInBounds_toArray, List.set_cons_zero, List.set_cons_succ, List.getElem_toArray, List.getElem_cons_succ, List.getElem_cons_zero]
            replace o3 : Hid (OwnI W5 _ _ _) := OwnI.below o3.out hb
            replace gB : Hid _ := blk gB.out hb
            replace bB : Hid _ := blk bB.out hb
            replace rB : Hid _ := blk rB.out hb
            have o9 : Hid (OwnI W5 W4.heap.size (.slice pr (via :: rs).length cr) (via :: rs)) := own9
            have I9 : Hid (∀ k, (Value.slice pr (via :: rs).length cr).ownBlock = some k → W4.heap.size ≤ k ∧ k < W5.heap.size) := OwnI.lt own9
            clear own9
            replace hB := keepB hB (Nat.le_refl _) hb
            have hz5 : W4.heap.size ≤ W5.heap.size := hb.size
            clear hb
            refine yieldH (i := 10) (v := ?_) rfl (by kernel_rfl) (by kernel_rfl) (by kernel_rfl) (fun _ _ _ h => h) (by rfl) ?_ (by assumption) ?_; rotate_left
            · intro w' hSw; (try dsimp only at hSw); go_simp; (try with_reducible rfl)
            try simp only [Act.put, List.setIfInBounds_toArray, List.set_cons_zero, List.set_cons_succ, List.getElem_toArray, List.getElem_cons_succ, List.getElem_cons_zero]
            refine wpAnyH_ready (rs := [12]) (by kernel_rfl) (by simp) ?_
            refine (AllReadyH.cons rfl (fun Kc hK => ?_) AllReadyH.nil)
            have b0 := cellW bB.out 0 _ rfl _ (Below.refl _ _); have b1 := cellW bB.out 1 _ rfl _ (Below.refl _ _); have f0 := frozenW bB.out 0 _ (Below.refl _ _); have f1 := frozenW bB.out 1 _ (Below.refl _ _)
            have hS12 : Below A.heap.size A ((W5.setCell ⟨W2.heap.size, 0, none⟩ (.slice pc l.length cc)).setCell ⟨W2.heap.size, 1, none⟩ (.slice pr (via :: rs).length cr)) := (hB.setCell (by simp only; omega) _).setCell (by simp only; omega) _
            go_simp
            (try dsimp only)
            refine hK.out _ _ ?_ (fun hHeld => ?_)
            · (try dsimp only); exact hS12
            clear hK Kc
            try simp only [Act.put, List.setIfInBounds_toArray, List.set_cons_zero, List.set_cons_succ, List.getElem_toArray, List.getElem_cons_succ, List.getElem_cons_zero]
            refine wpAnyH_done (by kernel_rfl) ?_ _
            go_wp2
            go_meet
            exact ⟨_, _, _, _, _, rfl, blk_set (blk_set bB.out 0 _) 1 _, own_pair o3.out o9.out (fun k hk => by have := I3.out k hk; (try simp only); omega) (fun k hk => by have := I9.out k hk; (try simp only); omega) (fun a b ha hb => by have := I3.out a ha; have := I9.out b hb; omega) (by omega) (by omega), (by omega), hS12⟩
        · go_simp
          (try dsimp only)
          refine hK.out _ _ ?_ (fun hHeld => ?_)
          · (try dsimp only); exact keepB hB (Nat.le_refl _) (all_alloc W1 (.cells #[.slice none 0 0, .slice none 0 0] 26))
          clear hK Kc
          try simp only [Act.put, List.setIfInBounds_toArray, List.set_cons_zero, List.set_cons_succ, List.getElem_toArray, List.getElem_cons_succ, List.getElem_cons_zero]
          have hb := all_alloc W1 (.cells #[.slice none 0 0, .slice none 0 0] 26)
          have hz2 : W1.heap.size < (W1.alloc (.cells #[.slice none 0 0, .slice none 0 0] 26)).heap.size := by simp
          replace o3 : Hid (OwnI _ _ _ _) := OwnI.below o3.out hb
          have bB : Hid _ := heap_alloc_new W1 (.cells #[.slice none 0 0, .slice none 0 0] 26)
          replace hB := keepB hB (Nat.le_refl _) hb
          clear hb
          generalize W1.alloc (.cells #[.slice none 0 0, .slice none 0 0] 26) = W2 at o3 bB hB hz2 hHeld ⊢
          refine wpAnyH_ready (rs := [5]) (by kernel_rfl) (by simp) ?_
          refine (AllReadyH.cons rfl (fun Kc hK => ?_) AllReadyH.nil)
          go_simp
          (try dsimp only)
          refine hK.out _ _ ?_ (fun hHeld => ?_)
          · (try dsimp only); exact keepB hB (Nat.le_refl _) (all_alloc W2 (.cells #[.int .i64 via] 2))
          clear hK Kc
          try simp only [Act.put, List.setIfInBounds_toArray, List.set_cons_zero, List.set_cons_succ, List.getElem_toArray, List.getElem_cons_succ, List.getElem_cons_zero]
          have hb := all_alloc W2 (.cells #[.int .i64 via] 2)
          have hz3 : W2.heap.size < (W2.alloc (.cells #[.int .i64 via] 2)).heap.size := by simp
          replace o3 : Hid (OwnI _ _ _ _) := OwnI.below o3.out hb
          replace bB : Hid _ := blk bB.out hb
          have gB : Hid _ := heap_alloc_new W2 (.cells #[.int .i64 via] 2)
          replace hB := keepB hB (Nat.le_refl _) hb
          clear hb
          generalize W2.alloc (.cells #[.int .i64 via] 2) = W3 at o3 bB gB hB hz3 hHeld ⊢
          refine wpAnyH_ready (rs := [8]) (by kernel_rfl) (by simp) ?_
          refine (AllReadyH.cons rfl (fun Kc hK => ?_) AllReadyH.nil)
          go_simp
          (try dsimp only)
          refine hK.out _ _ ?_ (fun hHeld => ?_)
          · (try dsimp only); exact keepB hB (Nat.le_refl _) (all_alloc W3 (.cells #[.slice (some ⟨W2.heap.size, 0, none⟩) 1 1, .slice p2 rs.length c2] 23))
          clear hK Kc
          try simp only [Act.put, List.setIfInBounds_toArray, List.set_cons_zero, List.set_cons_succ, List.getElem_toArray, List.getElem_cons_succ, List.getElem_cons_zero]
          have hb := all_alloc W3 (.cells #[.slice (some ⟨W2.heap.size, 0, none⟩) 1 1, .slice p2 rs.length c2] 23)
          have hz4 : W3.heap.size < (W3.alloc (.cells #[.slice (some ⟨W2.heap.size, 0, none⟩) 1 1, .slice p2 rs.length c2] 23)).heap.size := by simp
          replace o3 : Hid (OwnI _ _ _ _) := OwnI.below o3.out hb
          replace bB : Hid _ := blk bB.out hb
          replace gB : Hid _ := blk gB.out hb
          have rB : Hid _ := heap_alloc_new W3 (.cells #[.slice (some ⟨W2.heap.size, 0, none⟩) 1 1, .slice p2 rs.length c2] 23)
          replace hB := keepB hB (Nat.le_refl _) hb
          clear hb
          generalize W3.alloc (.cells #[.slice (some ⟨W2.heap.size, 0, none⟩) 1 1, .slice p2 rs.length c2] 23) = W4 at o3 bB gB rB hB hz4 hHeld ⊢
          refine wpAnyH_ready (rs := [9]) (by kernel_rfl) (by simp) ?_
          refine (AllReadyH.cons rfl (fun Kc hK => ?_) AllReadyH.nil)
          go_simp
          go_at_call 52; refine (HTG0.out A _ _ W3.heap.size hA hB gB.out rB.out).mono ?_; rintro e9 W5 ⟨u9, rfl, own9, hb⟩; obtain ⟨pr, cr, rfl⟩ := own9.shape
          (try dsimp only)
          refine hK.out _ _ ?_ (fun hHeld => ?_)
          · (try dsimp only); exact keepB hB (Nat.le_refl _) hb
          clear hK Kc
          try simp only [Act.put, List.setIfInBounds_toArray, List.set_cons_zero, List.set_cons_succ, List.getElem_toArray, List.getElem_cons_succ, List.getElem_cons_zero]
          replace o3 : Hid (OwnI W5 _ _ _) := OwnI.below o3.out hb
          replace bB : Hid _ := blk bB.out hb
          replace gB : Hid _ := blk gB.out hb
          replace rB : Hid _ := blk rB.out hb
          have o9 : Hid (OwnI W5 W4.heap.size (.slice pr (via :: rs).length cr) (via :: rs)) := own9
          have I9 : Hid (∀ k, (Value.slice pr (via :: rs).length cr).ownBlock = some k → W4.heap.size ≤ k ∧ k < W5.heap.size) := OwnI.lt own9
          clear own9
          replace hB := keepB hB (Nat.le_refl _) hb
          have hz5 : W4.heap.size ≤ W5.heap.size := hb.size
          clear hb
          refine yieldH (i := 10) (v := ?_) rfl (by kernel_rfl) (by kernel_rfl) (by kernel_rfl) (fun _ _ _ h => h) (by rfl) ?_ (by assumption) ?_; rotate_left
          · intro w' hSw; (try dsimp only at hSw); go_simp; (try with_reducible rfl)
          try simp only [Act.put, List.setIfInBounds_toArray, List.set_cons_zero, List.set_cons_succ, List.getElem_toArray, List.getElem_cons_succ, List.getElem_cons_zero]
          refine wpAnyH_ready (rs := [12]) (by kernel_rfl) (by simp) ?_
          refine (AllReadyH.cons rfl (fun Kc hK => ?_) AllReadyH.nil)
          have b0 := cellW bB.out 0 _ rfl _ (Below.refl _ _); have b1 := cellW bB.out 1 _ rfl _ (Below.refl _ _); have f0 := frozenW bB.out 0 _ (Below.refl _ _); have f1 := frozenW bB.out 1 _ (Below.refl _ _)
          have hS12 : Below A.heap.size A ((W5.setCell ⟨W1.heap.size, 0, none⟩ (.slice pc l.length cc)).setCell ⟨W1.heap.size, 1, none⟩ (.slice pr (via :: rs).length cr)) := (hB.setCell (by simp only; omega) _).setCell (by simp only; omega) _
          go_simp
          (try dsimp only)
          refine hK.out _ _ ?_ (fun hHeld => ?_)
          · (try dsimp only); exact hS12
          clear hK Kc
          try simp only [Act.put, List.setIfInBounds_toArray, List.set_cons_zero, List.set_cons_succ, List.getElem_toArray, List.getElem_cons_succ, List.getElem_cons_zero]
          refine wpAnyH_done (by kernel_rfl) ?_ _
          go_wp2
          go_meet
          exact ⟨_, _, _, _, _, rfl, blk_set (blk_set bB.out 0 _) 1 _, own_pair o3.out o9.out (fun k hk => by have := I3.out k hk; (try simp only); omega) (fun k hk => by have := I9.out k hk; (try simp only); omega) (fun a b ha hb => by have := I3.out a ha; have := I9.out b hb; omega) (by omega) (by omega), (by omega), hS12⟩
      · go_simp
        (try dsimp only)
        refine hK.out _ _ ?_ (fun hHeld => ?_)
        · (try dsimp only); exact keepB hB (Nat.le_refl _) (all_alloc W0 (.cells #[.int .i64 via] 2))
        clear hK Kc
        try simp only [Act.put, List.setIfInBounds_toArray, List.set_cons_zero, List.set_cons_succ, List.getElem_toArray, List.getElem_cons_succ, List.getElem_cons_zero]
        have hb := all_alloc W0 (.cells #[.int .i64 via] 2)
        have hz1 : W0.heap.size < (W0.alloc (.cells #[.int .i64 via] 2)).heap.size := by simp
        have gB : Hid _ := heap_alloc_new W0 (.cells #[.int .i64 via] 2)
        replace hB := keepB hB (Nat.le_refl _) hb
        clear hb
        generalize W0.alloc (.cells #[.int .i64 via] 2) = W1 at gB hB hz1 hHeld ⊢
        refine wpAnyH_ready (rs := [3, 8, 11]) (by kernel_rfl) (by simp) ?_
        refine (AllReadyH.cons rfl (fun Kc hK => ?_) (AllReadyH.cons rfl (fun Kc hK => ?_) (AllReadyH.cons rfl (fun Kc hK => ?_) AllReadyH.nil)))
        · go_simp
          go_at_call 42; refine (HCP.out _ (keepB hA (Nat.le_refl _) hB)).mono ?_; rintro e3 W2 ⟨u3, rfl, own3, hb⟩; obtain ⟨pc, cc, rfl⟩ := own3.shape
          (try dsimp only)
          refine hK.out _ _ ?_ (fun hHeld => ?_)
          · (try dsimp only); exact keepB hB (Nat.le_refl _) hb
          clear hK Kc
          try simp only [Act.put, List.setIfInBounds_toArray, List.set_cons_zero, List.set_cons_succ, List.getElem_toArray, List.getElem_cons_succ, List.getElem_cons_zero]
          replace gB : Hid _ := blk gB.out hb
          have o3 : Hid (OwnI W2 W1.heap.size (.slice pc l.length cc) l) := own3
          have I3 : Hid (∀ k, (Value.slice pc l.length cc).ownBlock = some k → W1.heap.size ≤ k ∧ k < W2.heap.size) := OwnI.lt own3
          clear own3
          replace hB := keepB hB (Nat.le_refl _) hb
          have hz2 : W1.heap.size ≤ W2.heap.size := hb.size
          clear hb
          refine wpAnyH_ready (rs := [8, 11]) (by kernel_rfl) (by simp) ?_
          refine (AllReadyH.cons rfl (fun Kc hK => ?_) (AllReadyH.cons rfl (fun Kc hK => ?_) AllReadyH.nil))
          · go_simp
            (try dsimp only)
            refine hK.out _ _ ?_ (fun hHeld => ?_)
            · (try dsimp only); exact keepB hB (Nat.le_refl _) (all_alloc W2 (.cells #[.slice (some ⟨W0.heap.size, 0, none⟩) 1 1, .slice p2 rs.length c2] 23))
            clear hK Kc
            try simp only [Act.put, List.setIfInBounds_toArray, List.set_cons_zero, List.set_cons_succ, List.getElem_toArray, List.getElem_cons_succ, List.getElem_cons_zero]
            have hb := all_alloc W2 (.cells #[.slice (some ⟨W0.heap.size, 0, none⟩) 1 1, .slice p2 rs.length c2] 23)
            have hz3 : W2.heap.size < (W2.alloc (.cells #[.slice (some ⟨W0.heap.size, 0, none⟩) 1 1, .slice p2 rs.length c2] 23)).heap.size := by simp
            replace gB : Hid _ := blk gB.out hb
            replace o3 : Hid (OwnI _ _ _ _) := OwnI.below o3.out hb
            have rB : Hid _ := heap_alloc_new W2 (.cells #[.slice (some ⟨W0.heap.size, 0, none⟩) 1 1, .slice p2 rs.length c2] 23)
            replace hB := keepB hB (Nat.le_refl _) hb
            clear hb
            generalize W2.alloc (.cells #[.slice (some ⟨W0.heap.size, 0, none⟩) 1 1, .slice p2 rs.length c2] 23) = W3 at gB o3 rB hB hz3 hHeld ⊢
            refine wpAnyH_ready (rs := [9, 11]) (by kernel_rfl) (by simp) ?_
            refine (AllReadyH.cons rfl (fun Kc hK => ?_) (AllReadyH.cons rfl (fun Kc hK => ?_) AllReadyH.nil))
            · go_simp
              go_at_call 52; refine (HTG0.out A _ _ W2.heap.size hA hB gB.out rB.out).mono ?_; rintro e9 W4 ⟨u9, rfl, own9, hb⟩; obtain ⟨pr, cr, rfl⟩ := own9.shape
              (try dsimp only)
              refine hK.out _ _ ?_ (fun hHeld => ?_)
              · (try dsimp only); exact keepB hB (Nat.le_refl _) hb
              clear hK Kc
              try simp only [Act.put, List.setIfInBounds_toArray, List.set_cons_zero, List.set_cons_succ, List.getElem_toArray, List.getElem_cons_succ, List.getElem_cons_zero]
              replace gB : Hid _ := blk gB.out hb
              replace o3 : Hid (OwnI W4 _ _ _) := OwnI.below o3.out hb
              replace rB : Hid _ := blk rB.out hb
              have o9 : Hid (OwnI W4 W3.heap.size (.slice pr (via :: rs).length cr) (via :: rs)) := own9
              have I9 : Hid (∀ k, (Value.slice pr (via :: rs).length cr).ownBlock = some k → W3.heap.size ≤ k ∧ k < W4.heap.size) := OwnI.lt own9
              clear own9
              replace hB := keepB hB (Nat.le_refl _) hb
              have hz4 : W3.heap.size ≤ W4.heap.size := hb.size
              clear hb
              refine yieldH (i := 10) (v := ?_) rfl (by kernel_rfl) (by kernel_rfl) (by kernel_rfl) (fun _ _ _ h => h) (by rfl) ?_ (by assumption) ?_; rotate_left
              · intro w' hSw; (try dsimp only at hSw); go_simp; (try with_reducible rfl)
              try simp only [Act.put, List.setIfInBounds_toArray, List.set_cons_zero, List.set_cons_succ, List.getElem_toArray, List.getElem_cons_succ, List.getElem_cons_zero]
              refine wpAnyH_ready (rs := [11]) (by kernel_rfl) (by simp) ?_
              refine (AllReadyH.cons rfl (fun Kc hK => ?_) AllReadyH.nil)
              go_simp
              (try dsimp only)
              refine hK.out _ _ ?_ (fun hHeld => ?_)
              · (try dsimp only); exact keepB hB (Nat.le_refl _) (all_alloc W4 (.cells #[.slice none 0 0, .slice none 0 0] 26))
              clear hK Kc
              try simp only [Act.put, List.setIfInBounds_toArray, List.set_cons_zero, List.set_cons_succ, List.getElem_toArray, List.getElem_cons_succ, List.getElem_cons_zero]
              have hb := all_alloc W4 (.cells #[.slice none 0 0, .slice none 0 0] 26)
              have hz5 : W4.heap.size < (W4.alloc (.cells #[.slice none 0 0, .slice none 0 0] 26)).heap.size := by simp
              replace o3 : Hid (OwnI _ _ _ _) := OwnI.below o3.out hb
              replace o9 : Hid (OwnI _ _ _ _) := OwnI.below o9.out hb
              have bB : Hid _ := heap_alloc_new W4 (.cells #[.slice none 0 0, .slice none 0 0] 26)
              replace hB := keepB hB (Nat.le_refl _) hb
              clear hb
              generalize W4.alloc (.cells #[.slice none 0 0, .slice none 0 0] 26) = W5 at o3 o9 bB hB hz5 hHeld ⊢
              refine wpAnyH_ready (rs := [12]) (by kernel_rfl) (by simp) ?_
              refine (AllReadyH.cons rfl (fun Kc hK => ?_) AllReadyH.nil)
              have b0 := cellW bB.out 0 _ rfl _ (Below.refl _ _); have b1 := cellW bB.out 1 _ rfl _ (Below.refl _ _); have f0 := frozenW bB.out 0 _ (Below.refl _ _); have f1 := frozenW bB.out 1 _ (Below.refl _ _)
              have hS12 : Below A.heap.size A ((W5.setCell ⟨W4.heap.size, 0, none⟩ (.slice pc l.length cc)).setCell ⟨W4.heap.size, 1, none⟩ (.slice pr (via :: rs).length cr)) := (hB.setCell (by simp only; omega) _).setCell (by simp only; omega) _
              go_simp
              (try dsimp only)
              refine hK.out _ _ ?_ (fun hHeld => ?_)
              · (try dsimp only); exact hS12
              clear hK Kc
              try simp only [Act.put, List.setIfInBounds_toArray, List.set_cons_zero, List.set_cons_succ, List.getElem_toArray, List.getElem_cons_succ, List.getElem_cons_zero]
              refine wpAnyH_done (by kernel_rfl) ?_ _
              go_wp2
              go_meet
              exact ⟨_, _, _, _, _, rfl, blk_set (blk_set bB.out 0 _) 1 _, own_pair o3.out o9.out (fun k hk => by have := I3.out k hk; (try simp only); omega) (fun k hk => by have := I9.out k hk; (try simp only); omega) (fun a b ha hb => by have := I3.out a ha; have := I9.out b hb; omega) (by omega) (by omega), (by omega), hS12⟩
            · go_simp
              (try dsimp only)
              refine hK.out _ _ ?_ (fun hHeld => ?_)
              · (try dsimp only); exact keepB hB (Nat.le_refl _) (all_alloc W3 (.cells #[.slice none 0 0, .slice none 0 0] 26))
              clear hK Kc
              try simp only [Act.put, List.setIfInBounds_toArray, List.set_cons_zero, List.set_cons_succ, List.getElem_toArray, List.getElem_cons_succ, List.getElem_cons_zero]
              have hb := all_alloc W3 (.cells #[.slice none 0 0, .slice none 0 0] 26)
              have hz4 : W3.heap.size < (W3.alloc (.cells #[.slice none 0 0, .slice none 0 0] 26)).heap.size := by simp
              replace gB : Hid _ := blk gB.out hb
              replace o3 : Hid (OwnI _ _ _ _) := OwnI.below o3.out hb
              replace rB : Hid _ := blk rB.out hb
              have bB : Hid _ := heap_alloc_new W3 (.cells #[.slice none 0 0, .slice none 0 0] 26)
              replace hB := keepB hB (Nat.le_refl _) hb
              clear hb
              generalize W3.alloc (.cells #[.slice none 0 0, .slice none 0 0] 26) = W4 at gB o3 rB bB hB hz4 hHeld ⊢
              refine wpAnyH_ready (rs := [9]) (by kernel_rfl) (by simp) ?_
              refine (AllReadyH.cons rfl (fun Kc hK => ?_) AllReadyH.nil)
              go_simp
              go_at_call 52; refine (HTG0.out A _ _ W2.heap.size hA hB gB.out rB.out).mono ?_; rintro e9 W5 ⟨u9, rfl, own9, hb⟩; obtain ⟨pr, cr, rfl⟩ := own9.shape
              (try dsimp only)
              refine hK.out _ _ ?_ (fun hHeld => ?_)
              · (try dsimp only); exact keepB hB (Nat.le_refl _) hb
              clear hK Kc
              try simp only [Act.put, List.setIfInBounds_toArray, List.set_cons_zero, List.set_cons_succ, List.getElem_toArray, List.getElem_cons_succ, List.getElem_cons_zero]
              replace gB : Hid _ := blk gB.out hb
              replace o3 : Hid (OwnI W5 _ _ _) := OwnI.below o3.out hb
              replace rB : Hid _ := blk rB.out hb
              replace bB : Hid _ := blk bB.out hb
              have o9 : Hid (OwnI W5 W4.heap.size (.slice pr (via :: rs).length cr) (via :: rs)) := own9
              have I9 : Hid (∀ k, (Value.slice pr (via :: rs).length cr).ownBlock = some k → W4.heap.size ≤ k ∧ k < W5.heap.size) := OwnI.lt own9
              clear own9
              replace hB := keepB hB (Nat.le_refl _) hb
              have hz5 : W4.heap.size ≤ W5.heap.size := hb.size
              clear hb
              refine yieldH (i := 10) (v := ?_) rfl (by kernel_rfl) (by kernel_rfl) (by kernel_rfl) (fun _ _ _ h => h) (by rfl) ?_ (by assumption) ?_; rotate_left
              · intro w' hSw; (try dsimp only at hSw); go_simp; (try with_reducible rfl)
              try simp only [Act.put, List.setIfInBounds_toArray, List.set_cons_zero, List.set_cons_succ, List.getElem_toArray, List.getElem_cons_succ, List.getElem_cons_zero]
              refine wpAnyH_ready (rs := [12]) (by kernel_rfl) (by simp) ?_
              refine (AllReadyH.cons rfl (fun Kc hK => ?_) AllReadyH.nil)
              have b0 := cellW bB.out 0 _ rfl _ (Below.refl _ _); have b1 := cellW bB.out 1 _ rfl _ (Below.refl _ _); have f0 := frozenW bB.out 0 _ (Below.refl _ _); have f1 := frozenW bB.out 1 _ (Below.refl _ _)
              have hS12 : Below A.heap.size A ((W5.setCell ⟨W3.heap.size, 0, none⟩ (.slice pc l.length cc)).setCell ⟨W3.heap.size, 1, none⟩ (.slice pr (via :: rs).length cr)) := (hB.setCell (by simp only; omega) _).setCell (by simp only; omega) _
              go_simp
              (try dsimp only)
              refine hK.out _ _ ?_ (fun hHeld => ?_)
              · (try dsimp only); exact hS12
              clear hK Kc
              try simp only [Act.put, List.setIfInBounds_toArray, List.set_cons_zero, List.set_cons_succ, List.getElem_toArray, List.getElem_cons_succ, List.getElem_cons_zero]
              refine wpAnyH_done (by kernel_rfl) ?_ _
              go_wp2
              go_meet
              exact ⟨_, _, _, _, _, rfl, blk_set (blk_set bB.out 0 _) 1 _, own_pair o3.out o9.out (fun k hk => by have := I3.out k hk; (try simp only); omega) (fun k hk => by have := I9.out k hk; (try simp only); omega) (fun a b ha hb => by have := I3.out a ha; have := I9.out b hb; omega) (by omega) (by omega), (by omega), hS12⟩
          · go_simp
            (try dsimp only)
            refine hK.out _ _ ?_ (fun hHeld => ?_)
            · (try dsimp only); exact keepB hB (Nat.le_refl _) (all_alloc W2 (.cells #[.slice none 0 0, .slice none 0 0] 26))
            clear hK Kc
            try simp only [Act.put, List.setIfInBounds_toArray, List.set_cons_zero, List.set_cons_succ, List.getElem_toArray, List.getElem_cons_succ, List.getElem_cons_zero]
            have hb := all_alloc W2 (.cells #[.slice none 0 0, .slice none 0 0] 26)
            have hz3 : W2.heap.size < (W2.alloc (.cells #[.slice none 0 0, .slice none 0 0] 26)).heap.size := by simp
            replace gB : Hid _ := blk gB.out hb
            replace o3 : Hid (OwnI _ _ _ _) := OwnI.below o3.out hb
            have bB : Hid _ := heap_alloc_new W2 (.cells #[.slice none 0 0, .slice none 0 0] 26)
            replace hB := keepB hB (Nat.le_refl _) hb
            clear hb
            generalize W2.alloc (.cells #[.slice none 0 0, .slice none 0 0] 26) = W3 at gB o3 bB hB hz3 hHeld ⊢
            refine wpAnyH_ready (rs := [8]) (by kernel_rfl) (by simp) ?_
            refine (AllReadyH.cons rfl (fun Kc hK => ?_) AllReadyH.nil)
            go_simp
            (try dsimp only)
            refine hK.out _ _ ?_ (fun hHeld => ?_)
            · (try dsimp only); exact keepB hB (Nat.le_refl _) (all_alloc W3 (.cells #[.slice (some ⟨W0.heap.size, 0, none⟩) 1 1, .slice p2 rs.length c2] 23))
            clear hK Kc
            try simp only [Act.put, List.setIfInBounds_toArray, List.set_cons_zero, List.set_cons_succ, List.getElem_toArray, List.getElem_cons_succ, List.getElem_cons_zero]
            have hb := all_alloc W3 (.cells #[.slice (some ⟨W0.heap.size, 0, none⟩) 1 1, .slice p2 rs.length c2] 23)
            have hz4 : W3.heap.size < (W3.alloc (.cells #[.slice (some ⟨W0.heap.size, 0, none⟩) 1 1, .slice p2 rs.length c2] 23)).heap.size := by simp
            replace gB : Hid _ := blk gB.out hb
            replace o3 : Hid (OwnI _ _ _ _) := OwnI.below o3.out hb
            replace bB : Hid _ := blk bB.out hb
            have rB : Hid _ := heap_alloc_new W3 (.cells #[.slice (some ⟨W0.heap.size, 0, none⟩) 1 1, .slice p2 rs.length c2] 23)
            replace hB := keepB hB (Nat.le_refl _) hb
            clear hb
            generalize W3.alloc (.cells #[.slice (some ⟨W0.heap.size, 0, none⟩) 1 1, .slice p2 rs.length c2] 23) = W4 at gB o3 bB rB hB hz4 hHeld ⊢
            refine wpAnyH_ready (rs := [9]) (by kernel_rfl) (by simp) ?_
            refine (AllReadyH.cons rfl (fun Kc hK => ?_) AllReadyH.nil)
            go_simp
            go_at_call 52; refine (HTG0.out A _ _ W3.heap.size hA hB gB.out rB.out).mono ?_; rintro e9 W5 ⟨u9, rfl, own9, hb⟩; obtain ⟨pr, cr, rfl⟩ := own9.shape
            (try dsimp only)
            refine hK.out _ _ ?_ (fun hHeld => ?_)
            · (try dsimp only); exact keepB hB (Nat.le_refl _) hb
            clear hK Kc
            try simp only [Act.put, List.setIfInBounds_toArray, List.set_cons_zero, List.set_cons_succ, List.getElem_toArray, List.getElem_cons_succ, List.getElem_cons_zero]
            replace gB : Hid _ := blk gB.out hb
            replace o3 : Hid (OwnI W5 _ _ _) := OwnI.below o3.out hb
            replace bB : Hid _ := blk bB.out hb
            replace rB : Hid _ := blk rB.out hb
            have o9 : Hid (OwnI W5 W4.heap.size (.slice pr (via :: rs).length cr) (via :: rs)) := own9
            have I9 : Hid (∀ k, (Value.slice pr (via :: rs).length cr).ownBlock = some k → W4.heap.size ≤ k ∧ k < W5.heap.size) := OwnI.lt own9
            clear own9
            replace hB := keepB hB (Nat.le_refl _) hb
            have hz5 : W4.heap.size ≤ W5.heap.size := hb.size
            clear hb
            refine yieldH (i := 10) (v := ?_) rfl (by kernel_rfl) (by kernel_rfl) (by kernel_rfl) (fun _ _ _ h => h) (by rfl) ?_ (by assumption) ?_; rotate_left
            · intro w' hSw; (try dsimp only at hSw); go_simp; (try with_reducible rfl)
            try simp only [Act.put, List.setIfInBounds_toArray, List.set_cons_zero, List.set_cons_succ, List.getElem_toArray, List.getElem_cons_succ, List.getElem_cons_zero]
            refine wpAnyH_ready (rs := [12]) (by kernel_rfl) (by simp) ?_
            refine (AllReadyH.cons rfl (fun Kc hK => ?_) AllReadyH.nil)
            have b0 := cellW bB.out 0 _ rfl _ (Below.refl _ _); have b1 := cellW bB.out 1 _ rfl _ (Below.refl _ _); have f0 := frozenW bB.out 0 _ (Below.refl _ _); have f1 := frozenW bB.out 1 _ (Below.refl _ _)
            have hS12 : Below A.heap.size A ((W5.setCell ⟨W2.heap.size, 0, none⟩ (.slice pc l.length cc)).setCell ⟨W2.heap.size, 1, none⟩ (.slice pr (via :: rs).length cr)) := (hB.setCell (by simp only; omega) _).setCell (by simp only; omega) _
            go_simp
            (try dsimp only)
            refine hK.out _ _ ?_ (fun hHeld => ?_)
            · (try dsimp only); exact hS12
            clear hK Kc
            try simp only [Act.put, List.setIfInBounds_toArray, List.set_cons_zero, List.set_cons_succ, List.getElem_toArray, List.getElem_cons_succ, List.getElem_cons_zero]
            refine wpAnyH_done (by kernel_rfl) ?_ _
            go_wp2
            go_meet
            exact ⟨_, _, _, _, _, rfl, blk_set (blk_set bB.out 0 _) 1 _, own_pair o3.out o9.out (fun k hk => by have := I3.out k hk; (try simp only); omega) (fun k hk => by have := I9.out k hk; (try simp only); omega) (fun a b ha hb => by have := I3.out a ha; have := I9.out b hb; omega) (by omega) (by omega), (by omega), hS12⟩
        · go_simp
          (try dsimp only)
          refine hK.out _ _ ?_ (fun hHeld => ?_)
          · (try dsimp only); exact keepB hB (Nat.le_refl _) (all_alloc W1 (.cells #[.slice (some ⟨W0.heap.size, 0, none⟩) 1 1, .slice p2 rs.length c2] 23))
          clear hK Kc
          try simp only [Act.put, List.setIfInBounds_toArray, List.set_cons_zero, List.set_cons_succ, List.getElem_toArray, List.getElem_cons_succ, List.getElem_cons_zero]
          have hb := all_alloc W1 (.cells #[.slice (some ⟨W0.heap.size, 0, none⟩) 1 1, .slice p2 rs.length c2] 23)
          have hz2 : W1.heap.size < (W1.alloc (.cells #[.slice (some ⟨W0.heap.size, 0, none⟩) 1 1, .slice p2 rs.length c2] 23)).heap.size := by simp
          replace gB : Hid _ := blk gB.out hb
          have rB : Hid _ := heap_alloc_new W1 (.cells #[.slice (some ⟨W0.heap.size, 0, none⟩) 1 1, .slice p2 rs.length c2] 23)
          replace hB := keepB hB (Nat.le_refl _) hb
          clear hb
          generalize W1.alloc (.cells #[.slice (some ⟨W0.heap.size, 0, none⟩) 1 1, .slice p2 rs.length c2] 23) = W2 at gB rB hB hz2 hHeld ⊢
          refine wpAnyH_ready (rs := [3, 11]) (by kernel_rfl) (by simp) ?_
          refine (AllReadyH.cons rfl (fun Kc hK => ?_) (AllReadyH.cons rfl (fun Kc hK => ?_) AllReadyH.nil))
          · go_simp
            go_at_call 42; refine (HCP.out _ (keepB hA (Nat.le_refl _) hB)).mono ?_; rintro e3 W3 ⟨u3, rfl, own3, hb⟩; obtain ⟨pc, cc, rfl⟩ := own3.shape
            (try dsimp only)
            refine hK.out _ _ ?_ (fun hHeld => ?_)
            · (try dsimp only); exact keepB hB (Nat.le_refl _) hb
            clear hK Kc
            try simp only [Act.put, List.setIfInBounds_toArray, List.set_cons_zero, List.set_cons_succ, List.getElem_toArray, List.getElem_cons_succ, List.getElem_cons_zero]
            replace gB : Hid _ := blk gB.out hb
            replace rB : Hid _ := blk rB.out hb
            have o3 : Hid (OwnI W3 W2.heap.size (.slice pc l.length cc) l) := own3
            have I3 : Hid (∀ k, (Value.slice pc l.length cc).ownBlock = some k → W2.heap.size ≤ k ∧ k < W3.heap.size) := OwnI.lt own3
            clear own3
            replace hB := keepB hB (Nat.le_refl _) hb
            have hz3 : W2.heap.size ≤ W3.heap.size := hb.size
            clear hb
            refine wpAnyH_ready (rs := [9, 11]) (by kernel_rfl) (by simp) ?_
            refine (AllReadyH.cons rfl (fun Kc hK => ?_) (AllReadyH.cons rfl (fun Kc hK => ?_) AllReadyH.nil))
            · go_simp
              go_at_call 52; refine (HTG0.out A _ _ W1.heap.size hA hB gB.out rB.out).mono ?_; rintro e9 W4 ⟨u9, rfl, own9, hb⟩; obtain ⟨pr, cr, rfl⟩ := own9.shape
              (try dsimp only)
              refine hK.out _ _ ?_ (fun hHeld => ?_)
              · (try dsimp only); exact keepB hB (Nat.le_refl _) hb
              clear hK Kc
              try simp only [Act.put, List.setIfInBounds_toArray, List.set_cons_zero, List.set_cons_succ, List.getElem_toArray, List.getElem_cons_succ, List.getElem_cons_zero]
              replace gB : Hid _ := blk gB.out hb
              replace rB : Hid _ := blk rB.out hb
              replace o3 : Hid (OwnI W4 _ _ _) := OwnI.below o3.out hb
              have o9 : Hid (OwnI W4 W3.heap.size (.slice pr (via :: rs).length cr) (via :: rs)) := own9
              have I9 : Hid (∀ k, (Value.slice pr (via :: rs).length cr).ownBlock = some k → W3.heap.size ≤ k ∧ k < W4.heap.size) := OwnI.lt own9
              clear own9
              replace hB := keepB hB (Nat.le_refl _) hb
              have hz4 : W3.heap.size ≤ W4.heap.size := hb.size
              clear hb
              refine yieldH (i := 10) (v := ?_) rfl (by kernel_rfl) (by kernel_rfl) (by kernel_rfl) (fun _ _ _ h => h) (by rfl) ?_ (by assumption) ?_; rotate_left
              · intro w' hSw; (try dsimp only at hSw); go_simp; (try with_reducible rfl)
              try simp only [Act.put, List.setIfInBounds_toArray, List.set_cons_zero, List.set_cons_succ, List.getElem_toArray, List.getElem_cons_succ, List.getElem_cons_zero]
              refine wpAnyH_ready (rs := [11]) (by kernel_rfl) (by simp) ?_
              refine (AllReadyH.cons rfl (fun Kc hK => ?_) AllReadyH.nil)
              go_simp
              (try dsimp only)
              refine hK.out _ _ ?_ (fun hHeld => ?_)
              · (try dsimp only); exact keepB hB (Nat.le_refl _) (all_alloc W4 (.cells #[.slice none 0 0, .slice none 0 0] 26))
              clear hK Kc
              try simp only [Act.put, List.setIfInBounds_toArray, List.set_cons_zero, List.set_cons_succ, List.getElem_toArray, List.getElem_cons_succ, List.getElem_cons_zero]
              have hb := all_alloc W4 (.cells #[.slice none 0 0, .slice none 0 0] 26)
              have hz5 : W4.heap.size < (W4.alloc (.cells #[.slice none 0 0, .slice none 0 0] 26)).heap.size := by simp
              replace o3 : Hid (OwnI _ _ _ _) := OwnI.below o3.out hb
              replace o9 : Hid (OwnI _ _ _ _) := OwnI.below o9.out hb
              have bB : Hid _ := heap_alloc_new W4 (.cells #[.slice none 0 0, .slice none 0 0] 26)
              replace hB := keepB hB (Nat.le_refl _) hb
              clear hb
              generalize W4.alloc (.cells #[.slice none 0 0, .slice none 0 0] 26) = W5 at o3 o9 bB hB hz5 hHeld ⊢
              refine wpAnyH_ready (rs := [12]) (by kernel_rfl) (by simp) ?_
              refine (AllReadyH.cons rfl (fun Kc hK => ?_) AllReadyH.nil)
              have b0 := cellW bB.out 0 _ rfl _ (Below.refl _ _); have b1 := cellW bB.out 1 _ rfl _ (Below.refl _ _); have f0 := frozenW bB.out 0 _ (Below.refl _ _); have f1 := frozenW bB.out 1 _ (Below.refl _ _)
              have hS12 : Below A.heap.size A ((W5.setCell ⟨W4.heap.size, 0, none⟩ (.slice pc l.length cc)).setCell ⟨W4.heap.size, 1, none⟩ (.slice pr (via :: rs).length cr)) := (hB.setCell (by simp only; omega) _).setCell (by simp only; omega) _
              go_simp
              (try dsimp only)
              refine hK.out _ _ ?_ (fun hHeld => ?_)
              · (try dsimp only); exact hS12
              clear hK Kc
              try simp only [Act.put, List.setIfInBounds_toArray, List.set_cons_zero, List.set_cons_succ, List.getElem_toArray, List.getElem_cons_succ, List.getElem_cons_zero]
              refine wpAnyH_done (by kernel_rfl) ?_ _
              go_wp2
              go_meet
              exact ⟨_, _, _, _, _, rfl, blk_set (blk_set bB.out 0 _) 1 _, own_pair o3.out o9.out (fun k hk => by have := I3.out k hk; (try simp only); omega) (fun k hk => by have := I9.out k hk; (try simp only); omega) (fun a b ha hb => by have := I3.out a ha; have := I9.out b hb; omega) (by omega) (by omega), (by omega), hS12⟩
            · go_simp
              (try dsimp only)
              refine hK.out _ _ ?_ (fun hHeld => ?_)
              · (try dsimp only); exact keepB hB (Nat.le_refl _) (all_alloc W3 (.cells #[.slice none 0 0, .slice none 0 0] 26))
              clear hK Kc
              try simp only [Act.put, List.setIfInBounds_toArray, List.set_cons_zero, List.set_cons_succ, List.getElem_toArray, List.getElem_cons_succ, List.getElem_cons_zero]
              have hb := all_alloc W3 (.cells #[.slice none 0 0, .slice none 0 0] 26)
              have hz4 : W3.heap.size < (W3.alloc (.cells #[.slice none 0 0, .slice none 0 0] 26)).heap.size := by simp
              replace gB : Hid _ := blk gB.out hb
              replace rB : Hid _ := blk rB.out hb
              replace o3 : Hid (OwnI _ _ _ _) := OwnI.below o3.out hb
              have bB : Hid _ := heap_alloc_new W3 (.cells #[.slice none 0 0, .slice none 0 0] 26)
              replace hB := keepB hB (Nat.le_refl _) hb
              clear hb
              generalize W3.alloc (.cells #[.slice none 0 0, .slice none 0 0] 26) = W4 at gB rB o3 bB hB hz4 hHeld ⊢
              refine wpAnyH_ready (rs := [9]) (by kernel_rfl) (by simp) ?_
              refine (AllReadyH.cons rfl (fun Kc hK => ?_) AllReadyH.nil)
              go_simp
              go_at_call 52; refine (HTG0.out A _ _ W1.heap.size hA hB gB.out rB.out).mono ?_; rintro e9 W5 ⟨u9, rfl, own9, hb⟩; obtain ⟨pr, cr, rfl⟩ := own9.shape
              (try dsimp only)
              refine hK.out _ _ ?_ (fun hHeld => ?_)
              · (try dsimp only); exact keepB hB (Nat.le_refl _) hb
              clear hK Kc
              try simp only [Act.put, List.setIfInBounds_toArray, List.set_cons_zero, List.set_cons_succ, List.getElem_toArray, List.getElem_cons_succ, List.getElem_cons_zero]
              replace gB : Hid _ := blk gB.out hb
              replace rB : Hid _ := blk rB.out hb
              replace o3 : Hid (OwnI W5 _ _ _) := OwnI.below o3.out hb
              replace bB : Hid _ := blk bB.out hb
              have o9 : Hid (OwnI W5 W4.heap.size (.slice pr (via :: rs).length cr) (via :: rs)) := own9
              have I9 : Hid (∀ k, (Value.slice pr (via :: rs).length cr).ownBlock = some k → W4.heap.size ≤ k ∧ k < W5.heap.size) := OwnI.lt own9
              clear own9
              replace hB := keepB hB (Nat.le_refl _) hb
              have hz5 : W4.heap.size ≤ W5.heap.size := hb.size
              clear hb
              refine yieldH (i := 10) (v := ?_) rfl (by kernel_rfl) (by kernel_rfl) (by kernel_rfl) (fun _ _ _ h => h) (by rfl) ?_ (by assumption) ?_; rotate_left
              · intro w' hSw; (try dsimp only at hSw); go_simp; (try with_reducible rfl)
              try simp only [Act.put, List.setIfInBounds_toArray, List.set_cons_zero, List.set_cons_succ, List.getElem_toArray, List.getElem_cons_succ, List.getElem_cons_zero]
              refine wpAnyH_ready (rs := [12]) (by kernel_rfl) (by simp) ?_
              refine (AllReadyH.cons rfl (fun Kc hK => ?_) AllReadyH.nil)
              have b0 := cellW bB.out 0 _ rfl _ (Below.refl _ _); have b1 := cellW bB.out 1 _ rfl _ (Below.refl _ _); have f0 := frozenW bB.out 0 _ (Below.refl _ _); have f1 := frozenW bB.out 1 _ (Below.refl _ _)
              have hS12 : Below A.heap.size A ((W5.setCell ⟨W3.heap.size, 0, none⟩ (.slice pc l.length cc)).setCell ⟨W3.heap.size, 1, none⟩ (.slice pr (via :: rs).length cr)) := (hB.setCell (by simp only; omega) _).setCell (by simp only; omega) _
              go_simp
              (try dsimp only)
              refine hK.out _ _ ?_ (fun hHeld => ?_)
              · (try dsimp only); exact hS12
              clear hK Kc
              try simp only [Act.put, List.setIfInBounds_toArray, List.set_cons_zero, List.set_cons_succ, List.getElem_toArray, List.getElem_cons_succ, List.getElem_cons_zero]
              refine wpAnyH_done (by kernel_rfl) ?_ _
              go_wp2
              go_meet
              exact ⟨_, _, _, _, _, rfl, blk_set (blk_set bB.out 0 _) 1 _, own_pair o3.out o9.out (fun k hk => by have := I3.out k hk; (try simp only); omega) (fun k hk => by have := I9.out k hk; (try simp only); omega) (fun a b ha hb => by have := I3.out a ha; have := I9.out b hb; omega) (by omega) (by omega), (by omega), hS12⟩
          · go_simp
            (try dsimp only)
            refine hK.out _ _ ?_ (fun hHeld => ?_)
            · (try dsimp only); exact keepB hB (Nat.le_refl _) (all_alloc W2 (.cells #[.slice none 0 0, .slice none 0 0] 26))
            clear hK Kc
            try simp only [Act.put, List.setIfInBounds_toArray, List.set_cons_zero, List.set_cons_succ, List.getElem_toArray, List.getElem_cons_succ, List.getElem_cons_zero]
            have hb := all_alloc W2 (.cells #[.slice none 0 0, .slice none 0 0] 26)
            have hz3 : W2.heap.size < (W2.alloc (.cells #[.slice none 0 0, .slice none 0 0] 26)).heap.size := by simp
            replace gB : Hid _ := blk gB.out hb
            replace rB : Hid _ := blk rB.out hb
            have bB : Hid _ := heap_alloc_new W2 (.cells #[.slice none 0 0, .slice none 0 0] 26)
            replace hB := keepB hB (Nat.le_refl _) hb
            clear hb
            generalize W2.alloc (.cells #[.slice none 0 0, .slice none 0 0] 26) = W3 at gB rB bB hB hz3 hHeld ⊢
            refine wpAnyH_ready (rs := [3]) (by kernel_rfl) (by simp) ?_
            refine (AllReadyH.cons rfl (fun Kc hK => ?_) AllReadyH.nil)
            go_simp
            go_at_call 42; refine (HCP.out _ (keepB hA (Nat.le_refl _) hB)).mono ?_; rintro e3 W4 ⟨u3, rfl, own3, hb⟩; obtain ⟨pc, cc, rfl⟩ := own3.shape
            (try dsimp only)
            refine hK.out _ _ ?_ (fun hHeld => ?_)
            · (try dsimp only); exact keepB hB (Nat.le_refl _) hb
            clear hK Kc
            try simp only [Act.put, List.setIfInBounds_toArray, List.set_cons_zero, List.set_cons_succ, List.getElem_toArray, List.getElem_cons_succ, List.getElem_cons_zero]
            replace gB : Hid _ := blk gB.out hb
            replace rB : Hid _ := blk rB.out hb
            replace bB : Hid _ := blk bB.out hb
            have o3 : Hid (OwnI W4 W3.heap.size (.slice pc l.length cc) l) := own3
            have I3 : Hid (∀ k, (Value.slice pc l.length cc).ownBlock = some k → W3.heap.size ≤ k ∧ k < W4.heap.size) := OwnI.lt own3
            clear own3
            replace hB := keepB hB (Nat.le_refl _) hb
            have hz4 : W3.heap.size ≤ W4.heap.size := hb.size
            clear hb
            refine wpAnyH_ready (rs := [9]) (by kernel_rfl) (by simp) ?_
            refine (AllReadyH.cons rfl (fun Kc hK => ?_) AllReadyH.nil)
            go_simp
            go_at_call 52; refine (HTG0.out A _ _ W1.heap.size hA hB gB.out rB.out).mono ?_; rintro e9 W5 ⟨u9, rfl, own9, hb⟩; obtain ⟨pr, cr, rfl⟩ := own9.shape
            (try dsimp only)
            refine hK.out _ _ ?_ (fun hHeld => ?_)
            · (try dsimp only); exact keepB hB (Nat.le_refl _) hb
            clear hK Kc
            try simp only [Act.put, List.setIfInBounds_toArray, List.set_cons_zero, List.set_cons_succ, List.getElem_toArray, List.getElem_cons_succ, List.getElem_cons_zero]
            replace gB : Hid _ := blk gB.out hb
            replace rB : Hid _ := blk rB.out hb
            replace bB : Hid _ := blk bB.out hb
            replace o3 : Hid (OwnI W5 _ _ _) := OwnI.below o3.out hb
            have o9 : Hid (OwnI W5 W4.heap.size (.slice pr (via :: rs).length cr) (via :: rs)) := own9
            have I9 : Hid (∀ k, (Value.slice pr (via :: rs).length cr).ownBlock = some k → W4.heap.size ≤ k ∧ k < W5.heap.size) := OwnI.lt own9
            clear own9
            replace hB := keepB hB (Nat.le_refl _) hb
            have hz5 : W4.heap.size ≤ W5.heap.size := hb.size
            clear hb
            refine yieldH (i := 10) (v := ?_) rfl (by kernel_rfl) (by kernel_rfl) (by kernel_rfl) (fun _ _ _ h => h) (by rfl) ?_ (by assumption) ?_; rotate_left
            · intro w' hSw; (try dsimp only at hSw); go_simp; (try with_reducible rfl)
            try simp only [Act.put, List.setIfInBounds_toArray, List.set_cons_zero, List.set_cons_succ, List.getElem_toArray, List.getElem_cons_succ, List.getElem_cons_zero]
            refine wpAnyH_ready (rs := [12]) (by kernel_rfl) (by simp) ?_
            refine (AllReadyH.cons rfl (fun Kc hK => ?_) AllReadyH.nil)
            have b0 := cellW bB.out 0 _ rfl _ (Below.refl _ _); have b1 := cellW bB.out 1 _ rfl _ (Below.refl _ _); have f0 := frozenW bB.out 0 _ (Below.refl _ _); have f1 := frozenW bB.out 1 _ (Below.refl _ _)
            have hS12 : Below A.heap.size A ((W5.setCell ⟨W2.heap.size, 0, none⟩ (.slice pc l.length cc)).setCell ⟨W2.heap.size, 1, none⟩ (.slice pr (via :: rs).length cr)) := (hB.setCell (by simp only; omega) _).setCell (by simp only; omega) _
            go_simp
            (try dsimp only)
            refine hK.out _ _ ?_ (fun hHeld => ?_)
            · (try dsimp only); exact hS12
            clear hK Kc
            try simp only [Act.put, List.setIfInBounds_toArray, List.set_cons_zero, List.set_cons_succ, List.getElem_toArray, List.getElem_cons_succ, List.getElem_cons_zero]
            refine wpAnyH_done (by kernel_rfl) ?_ _
            go_wp2
            go_meet
            exact ⟨_, _, _, _, _, rfl, blk_set (blk_set bB.out 0 _) 1 _, own_pair o3.out o9.out (fun k hk => by have := I3.out k hk; (try simp only); omega) (fun k hk => by have := I9.out k hk; (try simp only); omega) (fun a b ha hb => by have := I3.out a ha; have := I9.out b hb; omega) (by omega) (by omega), (by omega), hS12⟩
        · go_simp
          (try dsimp only)
          refine hK.out _ _ ?_ (fun hHeld => ?_)
          · (try dsimp only); exact keepB hB (Nat.le_refl _) (all_alloc W1 (.cells #[.slice none 0 0, .slice none 0 0] 26))
          clear hK Kc
          try simp only [Act.put, List.setIfInBounds_toArray, List.set_cons_zero, List.set_cons_succ, List.getElem_toArray, List.getElem_cons_succ, List.getElem_cons_zero]
          have hb := all_alloc W1 (.cells #[.slice none 0 0, .slice none 0 0] 26)
          have hz2 : W1.heap.size < (W1.alloc (.cells #[.slice none 0 0, .slice none 0 0] 26)).heap.size := by simp
          replace gB : Hid _ := blk gB.out hb
          have bB : Hid _ := heap_alloc_new W1 (.cells #[.slice none 0 0, .slice none 0 0] 26)
          replace hB := keepB hB (Nat.le_refl _) hb
          clear hb
          generalize W1.alloc (.cells #[.slice none 0 0, .slice none 0 0] 26) = W2 at gB bB hB hz2 hHeld ⊢
          refine wpAnyH_ready (rs := [3, 8]) (by kernel_rfl) (by simp) ?_
          refine (AllReadyH.cons rfl (fun Kc hK => ?_) (AllReadyH.cons rfl (fun Kc hK => ?_) AllReadyH.nil))
          · go_simp
            go_at_call 42; refine (HCP.out _ (keepB hA (Nat.le_refl _) hB)).mono ?_; rintro e3 W3 ⟨u3, rfl, own3, hb⟩; obtain ⟨pc, cc, rfl⟩ := own3.shape
            (try dsimp only)
            refine hK.out _ _ ?_ (fun hHeld => ?_)
            · (try dsimp only); exact keepB hB (Nat.le_refl _) hb
            clear hK Kc
            try simp only [Act.put, List.setIfInBounds_toArray, List.set_cons_zero, List.set_cons_succ, List.getElem_toArray, List.getElem_cons_succ, List.getElem_cons_zero]
            replace gB : Hid _ := blk gB.out hb
            replace bB : Hid _ := blk bB.out hb
            have o3 : Hid (OwnI W3 W2.heap.size (.slice pc l.length cc) l) := own3
            have I3 : Hid (∀ k, (Value.slice pc l.length cc).ownBlock = some k → W2.heap.size ≤ k ∧ k < W3.heap.size) := OwnI.lt own3
            clear own3
            replace hB := keepB hB (Nat.le_refl _) hb
            have hz3 : W2.heap.size ≤ W3.heap.size := hb.size
            clear hb
            refine wpAnyH_ready (rs := [8]) (by kernel_rfl) (by simp) ?_
            refine (AllReadyH.cons rfl (fun Kc hK => ?_) AllReadyH.nil)
            go_simp
            (try dsimp only)
            refine hK.out _ _ ?_ (fun hHeld => ?_)
            · (try dsimp only); exact keepB hB (Nat.le_refl _) (all_alloc W3 (.cells #[.slice (some ⟨W0.heap.size, 0, none⟩) 1 1, .slice p2 rs.length c2] 23))
            clear hK Kc
            try simp only [Act.put, List.setIfInBounds_toArray, List.set_cons_zero, List.set_cons_succ, List.getElem_toArray, List.getElem_cons_succ, List.getElem_cons_zero]
            have hb := all_alloc W3 (.cells #[.slice (some ⟨W0.heap.size, 0, none⟩) 1 1, .slice p2 rs.length c2] 23)
            have hz4 : W3.heap.size < (W3.alloc (.cells #[.slice (some ⟨W0.heap.size, 0, none⟩) 1 1, .slice p2 rs.length c2] 23)).heap.size := by simp
            replace gB : Hid _ := blk gB.out hb
            replace bB : Hid _ := blk bB.out hb
            replace o3 : Hid (OwnI _ _ _ _) := OwnI.below o3.out hb
            have rB : Hid _ := heap_alloc_new W3 (.cells #[.slice (some ⟨W0.heap.size, 0, none⟩) 1 1, .slice p2 rs.length c2] 23)
            replace hB := keepB hB (Nat.le_refl _) hb
            clear hb
            generalize W3.alloc (.cells #[.slice (some ⟨W0.heap.size, 0, none⟩) 1 1, .slice p2 rs.length c2] 23) = W4 at gB bB o3 rB hB hz4 hHeld ⊢
            refine wpAnyH_ready (rs := [9]) (by kernel_rfl) (by simp) ?_
            refine (AllReadyH.cons rfl (fun Kc hK => ?_) AllReadyH.nil)
            go_simp
            go_at_call 52; refine (HTG0.out A _ _ W3.heap.size hA hB gB.out rB.out).mono ?_; rintro e9 W5 ⟨u9, rfl, own9, hb⟩; obtain ⟨pr, cr, rfl⟩ := own9.shape
            (try dsimp only)
            refine hK.out _ _ ?_ (fun hHeld => ?_)
            · (try dsimp only); exact keepB hB (Nat.le_refl _) hb
            clear hK Kc
            try simp only [Act.put, List.setIfInBounds_toArray, List.set_cons_zero, List.set_cons_succ, List.getElem_toArray, List.getElem_cons_succ, List.getElem_cons_zero]
            replace gB : Hid _ := blk gB.out hb
            replace bB : Hid _ := blk bB.out hb
            replace o3 : Hid (OwnI W5 _ _ _) := OwnI.below o3.out hb
            replace rB : Hid _ := blk rB.out hb
            have o9 : Hid (OwnI W5 W4.heap.size (.slice pr (via :: rs).length cr) (via :: rs)) := own9
            have I9 : Hid (∀ k, (Value.slice pr (via :: rs).length cr).ownBlock = some k → W4.heap.size ≤ k ∧ k < W5.heap.size) := OwnI.lt own9
            clear own9
            replace hB := keepB hB (Nat.le_refl _) hb
            have hz5 : W4.heap.size ≤ W5.heap.size := hb.size
            clear hb
            refine yieldH (i := 10) (v := ?_) rfl (by kernel_rfl) (by kernel_rfl) (by kernel_rfl) (fun _ _ _ h => h) (by rfl) ?_ (by assumption) ?_; rotate_left
            · intro w' hSw; (try dsimp only at hSw); go_simp; (try with_reducible rfl)
            try simp only [Act.put, List.setIfInBounds_toArray, List.set_cons_zero, List.set_cons_succ, List.getElem_toArray, List.getElem_cons_succ, List.getElem_cons_zero]
            refine wpAnyH_ready (rs := [12]) (by kernel_rfl) (by simp) ?_
            refine (AllReadyH.cons rfl (fun Kc hK => ?_) AllReadyH.nil)
            have b0 := cellW bB.out 0 _ rfl _ (Below.refl _ _); have b1 := cellW bB.out 1 _ rfl _ (Below.refl _ _); have f0 := frozenW bB.out 0 _ (Below.refl _ _); have f1 := frozenW bB.out 1 _ (Below.refl _ _)
            have hS12 : Below A.heap.size A ((W5.setCell ⟨W1.heap.size, 0, none⟩ (.slice pc l.length cc)).setCell ⟨W1.heap.size, 1, none⟩ (.slice pr (via :: rs).length cr)) := (hB.setCell (by simp only; omega) _).setCell (by simp only; omega) _
            go_simp
            (try dsimp only)
            refine hK.out _ _ ?_ (fun hHeld => ?_)
            · (try dsimp only); exact hS12
            clear hK Kc
            try simp only [Act.put, List.setIfInBounds_toArray, List.set_cons_zero, List.set_cons_succ, List.getElem_toArray, List.getElem_cons_succ, List.getElem_cons_zero]
            refine wpAnyH_done (by kernel_rfl) ?_ _
            go_wp2
            go_meet
            exact ⟨_, _, _, _, _, rfl, blk_set (blk_set bB.out 0 _) 1 _, own_pair o3.out o9.out (fun k hk => by have := I3.out k hk; (try simp only); omega) (fun k hk => by have := I9.out k hk; (try simp only); omega) (fun a b ha hb => by have := I3.out a ha; have := I9.out b hb; omega) (by omega) (by omega), (by omega), hS12⟩
          · go_simp
            (try dsimp only)
            refine hK.out _ _ ?_ (fun hHeld => ?_)
            · (try dsimp only); exact keepB hB (Nat.le_refl _) (all_alloc W2 (.cells #[.slice (some ⟨W0.heap.size, 0, none⟩) 1 1, .slice p2 rs.length c2] 23))
            clear hK Kc
            try simp only [Act.put, List.setIfInBounds_toArray, List.set_cons_zero, List.set_cons_succ, List.getElem_toArray, List.getElem_cons_succ, List.getElem_cons_zero]
            have hb := all_alloc W2 (.cells #[.slice (some ⟨W0.heap.size, 0, none⟩) 1 1, .slice p2 rs.length c2] 23)
            have hz3 : W2.heap.size < (W2.alloc (.cells #[.slice (some ⟨W0.heap.size, 0, none⟩) 1 1, .slice p2 rs.length c2] 23)).heap.size := by simp
            replace gB : Hid _ := blk gB.out hb
            replace bB : Hid _ := blk bB.out hb
            have rB : Hid _ := heap_alloc_new W2 (.cells #[.slice (some ⟨W0.heap.size, 0, none⟩) 1 1, .slice p2 rs.length c2] 23)
            replace hB := keepB hB (Nat.le_refl _) hb
            clear hb
            generalize W2.alloc (.cells #[.slice (some ⟨W0.heap.size, 0, none⟩) 1 1, .slice p2 rs.length c2] 23) = W3 at gB bB rB hB hz3 hHeld ⊢
            refine wpAnyH_ready (rs := [3]) (by kernel_rfl) (by simp) ?_
            refine (AllReadyH.cons rfl (fun Kc hK => ?_) AllReadyH.nil)
            go_simp
            go_at_call 42; refine (HCP.out _ (keepB hA (Nat.le_refl _) hB)).mono ?_; rintro e3 W4 ⟨u3, rfl, own3, hb⟩; obtain ⟨pc, cc, rfl⟩ := own3.shape
            (try dsimp only)
            refine hK.out _ _ ?_ (fun hHeld => ?_)
            · (try dsimp only); exact keepB hB (Nat.le_refl _) hb
            clear hK Kc
            try simp only [Act.put, List.setIfInBounds_toArray, List.set_cons_zero, List.set_cons_succ, List.getElem_toArray, List.getElem_cons_succ, List.getElem_cons_zero]
            replace gB : Hid _ := blk gB.out hb
            replace bB : Hid _ := blk bB.out hb
            replace rB : Hid _ := blk rB.out hb
            have o3 : Hid (OwnI W4 W3.heap.size (.slice pc l.length cc) l) := own3
            have I3 : Hid (∀ k, (Value.slice pc l.length cc).ownBlock = some k → W3.heap.size ≤ k ∧ k < W4.heap.size) := OwnI.lt own3
            clear own3
            replace hB := keepB hB (Nat.le_refl _) hb
            have hz4 : W3.heap.size ≤ W4.heap.size := hb.size
            clear hb
            refine wpAnyH_ready (rs := [9]) (by kernel_rfl) (by simp) ?_
            refine (AllReadyH.cons rfl (fun Kc hK => ?_) AllReadyH.nil)
            go_simp
            go_at_call 52; refine (HTG0.out A _ _ W2.heap.size hA hB gB.out rB.out).mono ?_; rintro e9 W5 ⟨u9, rfl, own9, hb⟩; obtain ⟨pr, cr, rfl⟩ := own9.shape
            (try dsimp only)
            refine hK.out _ _ ?_ (fun hHeld => ?_)
            · (try dsimp only); exact keepB hB (Nat.le_refl _) hb
            clear hK Kc
            try simp only [Act.put, List.setIfInBounds_toArray, List.set_cons_zero, List.set_cons_succ, List.getElem_toArray, List.getElem_cons_succ, List.getElem_cons_zero]
            replace gB : Hid _ := blk gB.out hb
            replace bB : Hid _ := blk bB.out hb
            replace rB : Hid _ := blk rB.out hb
            replace o3 : Hid (OwnI W5 _ _ _) := OwnI.below o3.out hb
            have o9 : Hid (OwnI W5 W4.heap.size (.slice pr (via :: rs).length cr) (via :: rs)) := own9
            have I9 : Hid (∀ k, (Value.slice pr (via :: rs).length cr).ownBlock = some k → W4.heap.size ≤ k ∧ k < W5.heap.size) := OwnI.lt own9
            clear own9
            replace hB := keepB hB (Nat.le_refl _) hb
            have hz5 : W4.heap.size ≤ W5.heap.size := hb.size
            clear hb
            refine yieldH (i := 10) (v := ?_) rfl (by kernel_rfl) (by kernel_rfl) (by kernel_rfl) (fun _ _ _ h => h) (by rfl) ?_ (by assumption) ?_; rotate_left
            · intro w' hSw; (try dsimp only at hSw); go_simp; (try with_reducible rfl)
            try simp only [Act.put, List.setIfInBounds_toArray, List.set_cons_zero, List.set_cons_succ, List.getElem_toArray, List.getElem_cons_succ, List.getElem_cons_zero]
            refine wpAnyH_ready (rs := [12]) (by kernel_rfl) (by simp) ?_
            refine (AllReadyH.cons rfl (fun Kc hK => ?_) AllReadyH.nil)
            have b0 := cellW bB.out 0 _ rfl _ (Below.refl _ _); have b1 := cellW bB.out 1 _ rfl _ (Below.refl _ _); have f0 := frozenW bB.out 0 _ (Below.refl _ _); have f1 := frozenW bB.out 1 _ (Below.refl _ _)
            have hS12 : Below A.heap.size A ((W5.setCell ⟨W1.heap.size, 0, none⟩ (.slice pc l.length cc)).setCell ⟨W1.heap.size, 1, none⟩ (.slice pr (via :: rs).length cr)) := (hB.setCell (by simp only; omega) _).setCell (by simp only; omega) _
            go_simp
            (try dsimp only)
            refine hK.out _ _ ?_ (fun hHeld => ?_)
            · (try dsimp only); exact hS12
            clear hK Kc
            try simp only [Act.put, List.setIfInBounds_toArray, List.set_cons_zero, List.set_cons_succ, List.getElem_toArray, List.getElem_cons_succ, List.getElem_cons_zero]
            refine wpAnyH_done (by kernel_rfl) ?_ _
            go_wp2
            go_meet
            exact ⟨_, _, _, _, _, rfl, blk_set (blk_set bB.out 0 _) 1 _, own_pair o3.out o9.out (fun k hk => by have := I3.out k hk; (try simp only); omega) (fun k hk => by have := I9.out k hk; (try simp only); omega) (fun a b ha hb => by have := I3.out a ha; have := I9.out b hb; omega) (by omega) (by omega), (by omega), hS12⟩
      · go_simp
        (try dsimp only)
        refine hK.out _ _ ?_ (fun hHeld => ?_)
        · (try dsimp only); exact keepB hB (Nat.le_refl _) (all_alloc W0 (.cells #[.slice none 0 0, .slice none 0 0] 26))
        clear hK Kc
        try simp only [Act.put, List.setIfInBounds_toArray, List.set_cons_zero, List.set_cons_succ, List.getElem_toArray, List.getElem_cons_succ, List.getElem_cons_zero]
        have hb := all_alloc W0 (.cells #[.slice none 0 0, .slice none 0 0] 26)
        have hz1 : W0.heap.size < (W0.alloc (.cells #[.slice none 0 0, .slice none 0 0] 26)).heap.size := by simp
        have bB : Hid _ := heap_alloc_new W0 (.cells #[.slice none 0 0, .slice none 0 0] 26)
        replace hB := keepB hB (Nat.le_refl _) hb
        clear hb
        generalize W0.alloc (.cells #[.slice none 0 0, .slice none 0 0] 26) = W1 at bB hB hz1 hHeld ⊢
        refine wpAnyH_ready (rs := [3, 5]) (by kernel_rfl) (by simp) ?_
        refine (AllReadyH.cons rfl (fun Kc hK => ?_) (AllReadyH.cons rfl (fun Kc hK => ?_) AllReadyH.nil))
        · go_simp
          go_at_call 42; refine (HCP.out _ (keepB hA (Nat.le_refl _) hB)).mono ?_; rintro e3 W2 ⟨u3, rfl, own3, hb⟩; obtain ⟨pc, cc, rfl⟩ := own3.shape
          (try dsimp only)
          refine hK.out _ _ ?_ (fun hHeld => ?_)
          · (try dsimp only); exact keepB hB (Nat.le_refl _) hb
          clear hK Kc
          try simp only [Act.put, List.setIfInBounds_toArray, List.set_cons_zero, List.set_cons_succ, List.getElem_toArray, List.getElem_cons_succ, List.getElem_cons_zero]
          replace bB : Hid _ := blk bB.out hb
          have o3 : Hid (OwnI W2 W1.heap.size (.slice pc l.length cc) l) := own3
          have I3 : Hid (∀ k, (Value.slice pc l.length cc).ownBlock = some k → W1.heap.size ≤ k ∧ k < W2.heap.size) := OwnI.lt own3
          clear own3
          replace hB := keepB hB (Nat.le_refl _) hb
          have hz2 : W1.heap.size ≤ W2.heap.size := hb.size
          clear hb
          refine wpAnyH_ready (rs := [5]) (by kernel_rfl) (by simp) ?_
          refine (AllReadyH.cons rfl (fun Kc hK => ?_) AllReadyH.nil)
          go_simp
          (try dsimp only)
          refine hK.out _ _ ?_ (fun hHeld => ?_)
          · (try dsimp only); exact keepB hB (Nat.le_refl _) (all_alloc W2 (.cells #[.int .i64 via] 2))
          clear hK Kc
          try simp only [Act.put, List.setIfInBounds_toArray, List.set_cons_zero, List.set_cons_succ, List.getElem_toArray, List.getElem_cons_succ, List.getElem_cons_zero]
          have hb := all_alloc W2 (.cells #[.int .i64 via] 2)
          have hz3 : W2.heap.size < (W2.alloc (.cells #[.int .i64 via] 2)).heap.size := by simp
          replace bB : Hid _ := blk bB.out hb
          replace o3 : Hid (OwnI _ _ _ _) := OwnI.below o3.out hb
          have gB : Hid _ := heap_alloc_new W2 (.cells #[.int .i64 via] 2)
          replace hB := keepB hB (Nat.le_refl _) hb
          clear hb
          generalize W2.alloc (.cells #[.int .i64 via] 2) = W3 at bB o3 gB hB hz3 hHeld ⊢
          refine wpAnyH_ready (rs := [8]) (by kernel_rfl) (by simp) ?_
          refine (AllReadyH.cons rfl (fun Kc hK => ?_) AllReadyH.nil)
          go_simp
          (try dsimp only)
          refine hK.out _ _ ?_ (fun hHeld => ?_)
          · (try dsimp only); exact keepB hB (Nat.le_refl _) (all_alloc W3 (.cells #[.slice (some ⟨W2.heap.size, 0, none⟩) 1 1, .slice p2 rs.length c2] 23))
          clear hK Kc
          try simp only [Act.put, List.setIfInBounds_toArray, List.set_cons_zero, List.set_cons_succ, List.getElem_toArray, List.getElem_cons_succ, List.getElem_cons_zero]
          have hb := all_alloc W3 (.cells #[.slice (some ⟨W2.heap.size, 0, none⟩) 1 1, .slice p2 rs.length c2] 23)
          have hz4 : W3.heap.size < (W3.alloc (.cells #[.slice (some ⟨W2.heap.size, 0, none⟩) 1 1, .slice p2 rs.length c2] 23)).heap.size := by simp
          replace bB : Hid _ := blk bB.out hb
          replace o3 : Hid (OwnI _ _ _ _) := OwnI.below o3.out hb
          replace gB : Hid _ := blk gB.out hb
          have rB : Hid _ := heap_alloc_new W3 (.cells #[.slice (some ⟨W2.heap.size, 0, none⟩) 1 1, .slice p2 rs.length c2] 23)
          replace hB := keepB hB (Nat.le_refl _) hb
          clear hb
          generalize W3.alloc (.cells #[.slice (some ⟨W2.heap.size, 0, none⟩) 1 1, .slice p2 rs.length c2] 23) = W4 at bB o3 gB rB hB hz4 hHeld ⊢
          refine wpAnyH_ready (rs := [9]) (by kernel_rfl) (by simp) ?_
          refine (AllReadyH.cons rfl (fun Kc hK => ?_) AllReadyH.nil)
          go_simp
          go_at_call 52; refine (HTG0.out A _ _ W3.heap.size hA hB gB.out rB.out).mono ?_; rintro e9 W5 ⟨u9, rfl, own9, hb⟩; obtain ⟨pr, cr, rfl⟩ := own9.shape
          (try dsimp only)
          refine hK.out _ _ ?_ (fun hHeld => ?_)
          · (try dsimp only); exact keepB hB (Nat.le_refl _) hb
          clear hK Kc
          try simp only [Act.put, List.setIfInBounds_toArray, List.set_cons_zero, List.set_cons_succ, List.getElem_toArray, List.getElem_cons_succ, List.getElem_cons_zero]
          replace bB : Hid _ := blk bB.out hb
          replace o3 : Hid (OwnI W5 _ _ _) := OwnI.below o3.out hb
          replace gB : Hid _ := blk gB.out hb
          replace rB : Hid _ := blk rB.out hb
          have o9 : Hid (OwnI W5 W4.heap.size (.slice pr (via :: rs).length cr) (via :: rs)) := own9
          have I9 : Hid (∀ k, (Value.slice pr (via :: rs).length cr).ownBlock = some k → W4.heap.size ≤ k ∧ k < W5.heap.size) := OwnI.lt own9
          clear own9
          replace hB := keepB hB (Nat.le_refl _) hb
          have hz5 : W4.heap.size ≤ W5.heap.size := hb.size
          clear hb
          refine yieldH (i := 10) (v := ?_) rfl (by kernel_rfl) (by kernel_rfl) (by kernel_rfl) (fun _ _ _ h => h) (by rfl) ?_ (by assumption) ?_; rotate_left
          · intro w' hSw; (try dsimp only at hSw); go_simp; (try with_reducible rfl)
          try simp only [Act.put, List.setIfInBounds_toArray, List.set_cons_zero, List.set_cons_succ, List.getElem_toArray, List.getElem_cons_succ, List.getElem_cons_zero]
          refine wpAnyH_ready (rs := [12]) (by kernel_rfl) (by simp) ?_
          refine (AllReadyH.cons rfl (fun Kc hK => ?_) AllReadyH.nil)
          have b0 := cellW bB.out 0 _ rfl _ (Below.refl _ _); have b1 := cellW bB.out 1 _ rfl _ (Below.refl _ _); have f0 := frozenW bB.out 0 _ (Below.refl _ _); have f1 := frozenW bB.out 1 _ (Below.refl _ _)
          have hS12 : Below A.heap.size A ((W5.setCell ⟨W0.heap.size, 0, none⟩ (.slice pc l.length cc)).setCell ⟨W0.heap.size, 1, none⟩ (.slice pr (via :: rs).length cr)) := (hB.setCell (by simp only; omega) _).setCell (by simp only; omega) _
          go_simp
          (try dsimp only)
          refine hK.out _ _ ?_ (fun hHeld => ?_)
          · (try dsimp only); exact hS12
          clear hK Kc
          try simp only [Act.put, List.setIfInBounds_toArray, List.set_cons_zero, List.set_cons_succ, List.getElem_toArray, List.getElem_cons_succ, List.getElem_cons_zero]
          refine wpAnyH_done (by kernel_rfl) ?_ _
          go_wp2
          go_meet
          exact ⟨_, _, _, _, _, rfl, blk_set (blk_set bB.out 0 _) 1 _, own_pair o3.out o9.out (fun k hk => by have := I3.out k hk; (try simp only); omega) (fun k hk => by have := I9.out k hk; (try simp only); omega) (fun a b ha hb => by have := I3.out a ha; have := I9.out b hb; omega) (by omega) (by omega), (by omega), hS12⟩
        · go_simp
          (try dsimp only)
          refine hK.out _ _ ?_ (fun hHeld => ?_)
          · (try dsimp only); exact keepB hB (Nat.le_refl _) (all_alloc W1 (.cells #[.int .i64 via] 2))
          clear hK Kc
          try simp only [Act.put, List.setIfInBounds_toArray, List.set_cons_zero, List.set_cons_succ, List.getElem_toArray, List.getElem_cons_succ, List.getElem_cons_zero]
          have hb := all_alloc W1 (.cells #[.int .i64 via] 2)
          have hz2 : W1.heap.size < (W1.alloc (.cells #[.int .i64 via] 2)).heap.size := by simp
          replace bB : Hid _ := blk bB.out hb
          have gB : Hid _ := heap_alloc_new W1 (.cells #[.int .i64 via] 2)
          replace hB := keepB hB (Nat.le_refl _) hb
          clear hb
          generalize W1.alloc (.cells #[.int .i64 via] 2) = W2 at bB gB hB hz2 hHeld ⊢
          refine wpAnyH_ready (rs := [3, 8]) (by kernel_rfl) (by simp) ?_
          refine (AllReadyH.cons rfl (fun Kc hK => ?_) (AllReadyH.cons rfl (fun Kc hK => ?_) AllReadyH.nil))
          · go_simp
            go_at_call 42; refine (HCP.out _ (keepB hA (Nat.le_refl _) hB)).mono ?_; rintro e3 W3 ⟨u3, rfl, own3, hb⟩; obtain ⟨pc, cc, rfl⟩ := own3.shape
            (try dsimp only)
            refine hK.out _ _ ?_ (fun hHeld => ?_)
            · (try dsimp only); exact keepB hB (Nat.le_refl _) hb
            clear hK Kc
            try simp only [Act.put, List.setIfInBounds_toArray, List.set_cons_zero, List.set_cons_succ, List.getElem_toArray, List.getElem_cons_succ, List.getElem_cons_zero]
            replace bB : Hid _ := blk bB.out hb
            replace gB : Hid _ := blk gB.out hb
            have o3 : Hid (OwnI W3 W2.heap.size (.slice pc l.length cc) l) := own3
            have I3 : Hid (∀ k, (Value.slice pc l.length cc).ownBlock = some k → W2.heap.size ≤ k ∧ k < W3.heap.size) := OwnI.lt own3
            clear own3
            replace hB := keepB hB (Nat.le_refl _) hb
            have hz3 : W2.heap.size ≤ W3.heap.size := hb.size
            clear hb
            refine wpAnyH_ready (rs := [8]) (by kernel_rfl) (by simp) ?_
            refine (AllReadyH.cons rfl (fun Kc hK => ?_) AllReadyH.nil)
            go_simp
            (try dsimp only)
            refine hK.out _ _ ?_ (fun hHeld => ?_)
            · (try dsimp only); exact keepB hB (Nat.le_refl _) (all_alloc W3 (.cells #[.slice (some ⟨W1.heap.size, 0, none⟩) 1 1, .slice p2 rs.length c2] 23))
            clear hK Kc
            try simp only [Act.put, List.setIfInBounds_toArray, List.set_cons_zero, List.set_cons_succ, List.getElem_toArray, List.getElem_cons_succ, List.getElem_cons_zero]
            have hb := all_alloc W3 (.cells #[.slice (some ⟨W1.heap.size, 0, none⟩) 1 1, .slice p2 rs.length c2] 23)
            have hz4 : W3.heap.size < (W3.alloc (.cells #[.slice (some ⟨W1.heap.size, 0, none⟩) 1 1, .slice p2 rs.length c2] 23)).heap.size := by simp
            replace bB : Hid _ := blk bB.out hb
            replace gB : Hid _ := blk gB.out hb
            replace o3 : Hid (OwnI _ _ _ _) := OwnI.below o3.out hb
            have rB : Hid _ := heap_alloc_new W3 (.cells #[.slice (some ⟨W1.heap.size, 0, none⟩) 1 1, .slice p2 rs.length c2] 23)
            replace hB := keepB hB (Nat.le_refl _) hb
            clear hb
            generalize W3.alloc (.cells #[.slice (some ⟨W1.heap.size, 0, none⟩) 1 1, .slice p2 rs.length c2] 23) = W4 at bB gB o3 rB hB hz4 hHeld ⊢
            refine wpAnyH_ready (rs := [9]) (by kernel_rfl) (by simp) ?_
            refine (AllReadyH.cons rfl (fun Kc hK => ?_) AllReadyH.nil)
            go_simp
            go_at_call 52; refine (HTG0.out A _ _ W3.heap.size hA hB gB.out rB.out).mono ?_; rintro e9 W5 ⟨u9, rfl, own9, hb⟩; obtain ⟨pr, cr, rfl⟩ := own9.shape
            (try dsimp only)
            refine hK.out _ _ ?_ (fun hHeld => ?_)
            · (try dsimp only); exact keepB hB (Nat.le_refl _) hb
            clear hK Kc
            try simp only [Act.put, List.setIfInBounds_toArray, List.set_cons_zero, List.set_cons_succ, List.getElem_toArray, List.getElem_cons_succ, List.getElem_cons_zero]
            replace bB : Hid _ := blk bB.out hb
            replace gB : Hid _ := blk gB.out hb
            replace o3 : Hid (OwnI W5 _ _ _) := OwnI.below o3.out hb
            replace rB : Hid _ := blk rB.out hb
            have o9 : Hid (OwnI W5 W4.heap.size (.slice pr (via :: rs).length cr) (via :: rs)) := own9
            have I9 : Hid (∀ k, (Value.slice pr (via :: rs).length cr).ownBlock = some k → W4.heap.size ≤ k ∧ k < W5.heap.size) := OwnI.lt own9
            clear own9
            replace hB := keepB hB (Nat.le_refl _) hb
            have hz5 : W4.heap.size ≤ W5.heap.size := hb.size
            clear hb
            refine yieldH (i := 10) (v := ?_) rfl (by kernel_rfl) (by kernel_rfl) (by kernel_rfl) (fun _ _ _ h => h) (by rfl) ?_ (by assumption) ?_; rotate_left
            · intro w' hSw; (try dsimp only at hSw); go_simp; (try with_reducible rfl)
            try simp only [Act.put, List.setIfInBounds_toArray, List.set_cons_zero, List.set_cons_succ, List.getElem_toArray, List.getElem_cons_succ, List.getElem_cons_zero]
            refine wpAnyH_ready (rs := [12]) (by kernel_rfl) (by simp) ?_
            refine (AllReadyH.cons rfl (fun Kc hK => ?_) AllReadyH.nil)
            have b0 := cellW bB.out 0 _ rfl _ (Below.refl _ _); have b1 := cellW bB.out 1 _ rfl _ (Below.refl _ _); have f0 := frozenW bB.out 0 _ (Below.refl _ _); have f1 := frozenW bB.out 1 _ (Below.refl _ _)
            have hS12 : Below A.heap.size A ((W5.setCell ⟨W0.heap.size, 0, none⟩ (.slice pc l.length cc)).setCell ⟨W0.heap.size, 1, none⟩ (.slice pr (via :: rs).length cr)) := (hB.setCell (by simp only; omega) _).setCell (by simp only; omega) _
            go_simp
            (try dsimp only)
            refine hK.out _ _ ?_ (fun hHeld => ?_)
            · (try dsimp only); exact hS12
            clear hK Kc
            try simp only [Act.put, List.setIfInBounds_toArray, List.set_cons_zero, List.set_cons_succ, List.getElem_toArray, List.getElem_cons_succ, List.getElem_cons_zero]
            refine wpAnyH_done (by kernel_rfl) ?_ _
            go_wp2
            go_meet
            exact ⟨_, _, _, _, _, rfl, blk_set (blk_set bB.out 0 _) 1 _, own_pair o3.out o9.out (fun k hk => by have := I3.out k hk; (try simp only); omega) (fun k hk => by have := I9.out k hk; (try simp only); omega) (fun a b ha hb => by have := I3.out a ha; have := I9.out b hb; omega) (by omega) (by omega), (by omega), hS12⟩
          · go_simp
            (try dsimp only)
            refine hK.out _ _ ?_ (fun hHeld => ?_)
            · (try dsimp only); exact keepB hB (Nat.le_refl _) (all_alloc W2 (.cells #[.slice (some ⟨W1.heap.size, 0, none⟩) 1 1, .slice p2 rs.length c2] 23))
            clear hK Kc
            try simp only [Act.put, List.setIfInBounds_toArray, List.set_cons_zero, List.set_cons_succ, List.getElem_toArray, List.getElem_cons_succ, List.getElem_cons_zero]
            have hb := all_alloc W2 (.cells #[.slice (some ⟨W1.heap.size, 0, none⟩) 1 1, .slice p2 rs.length c2] 23)
            have hz3 : W2.heap.size < (W2.alloc (.cells #[.slice (some ⟨W1.heap.size, 0, none⟩) 1 1, .slice p2 rs.length c2] 23)).heap.size := by simp
            replace bB : Hid _ := blk bB.out hb
            replace gB : Hid _ := blk gB.out hb
            have rB : Hid _ := heap_alloc_new W2 (.cells #[.slice (some ⟨W1.heap.size, 0, none⟩) 1 1, .slice p2 rs.length c2] 23)
            replace hB := keepB hB (Nat.le_refl _) hb
            clear hb
            generalize W2.alloc (.cells #[.slice (some ⟨W1.heap.size, 0, none⟩) 1 1, .slice p2 rs.length c2] 23) = W3 at bB gB rB hB hz3 hHeld ⊢
            refine wpAnyH_ready (rs := [3]) (by kernel_rfl) (by simp) ?_
            refine (AllReadyH.cons rfl (fun Kc hK => ?_) AllReadyH.nil)
            go_simp
            go_at_call 42; refine (HCP.out _ (keepB hA (Nat.le_refl _) hB)).mono ?_; rintro e3 W4 ⟨u3, rfl, own3, hb⟩; obtain ⟨pc, cc, rfl⟩ := own3.shape
            (try dsimp only)
            refine hK.out _ _ ?_ (fun hHeld => ?_)
            · (try dsimp only); exact keepB hB (Nat.le_refl _) hb
            clear hK Kc
            try simp only [Act.put, List.setIfInBounds_toArray, List.set_cons_zero, List.set_cons_succ, List.getElem_toArray, List.getElem_cons_succ, List.getElem_cons_zero]
            replace bB : Hid _ := blk bB.out hb
            replace gB : Hid _ := blk gB.out hb
            replace rB : Hid _ := blk rB.out hb
            have o3 : Hid (OwnI W4 W3.heap.size (.slice pc l.length cc) l) := own3
            have I3 : Hid (∀ k, (Value.slice pc l.length cc).ownBlock = some k → W3.heap.size ≤ k ∧ k < W4.heap.size) := OwnI.lt own3
            clear own3
            replace hB := keepB hB (Nat.le_refl _) hb
            have hz4 : W3.heap.size ≤ W4.heap.size := hb.size
            clear hb
            refine wpAnyH_ready (rs := [9]) (by kernel_rfl) (by simp) ?_
            refine (AllReadyH.cons rfl (fun Kc hK => ?_) AllReadyH.nil)
            go_simp
            go_at_call 52; refine (HTG0.out A _ _ W2.heap.size hA hB gB.out rB.out).mono ?_; rintro e9 W5 ⟨u9, rfl, own9, hb⟩; obtain ⟨pr, cr, rfl⟩ := own9.shape
            (try dsimp only)
            refine hK.out _ _ ?_ (fun hHeld => ?_)
            · (try dsimp only); exact keepB hB (Nat.le_refl _) hb
            clear hK Kc
            try simp only [Act.put, List.setIfInBounds_toArray, List.set_cons_zero, List.set_cons_succ, List.getElem_toArray, List.getElem_cons_succ, List.getElem_cons_zero]
            replace bB : Hid _ := blk bB.out hb
            replace gB : Hid _ := blk gB.out hb
            replace rB : Hid _ := blk rB.out hb
            replace o3 : Hid (OwnI W5 _ _ _) := OwnI.below o3.out hb
            have o9 : Hid (OwnI W5 W4.heap.size (.slice pr (via :: rs).length cr) (via :: rs)) := own9
            have I9 : Hid (∀ k, (Value.slice pr (via :: rs).length cr).ownBlock = some k → W4.heap.size ≤ k ∧ k < W5.heap.size) := OwnI.lt own9
            clear own9
            replace hB := keepB hB (Nat.le_refl _) hb
            have hz5 : W4.heap.size ≤ W5.heap.size := hb.size
            clear hb
            refine yieldH (i := 10) (v := ?_) rfl (by kernel_rfl) (by kernel_rfl) (by kernel_rfl) (fun _ _ _ h => h) (by rfl) ?_ (by assumption) ?_; rotate_left
            · intro w' hSw; (try dsimp only at hSw); go_simp; (try with_reducible rfl)
            try simp only [Act.put, List.setIfInBounds_toArray, List.set_cons_zero, List.set_cons_succ, List.getElem_toArray, List.getElem_cons_succ, List.getElem_cons_zero]
            refine wpAnyH_ready (rs := [12]) (by kernel_rfl) (by simp) ?_
            refine (AllReadyH.cons rfl (fun Kc hK => ?_) AllReadyH.nil)
            have b0 := cellW bB.out 0 _ rfl _ (Below.refl _ _); have b1 := cellW bB.out 1 _ rfl _ (Below.refl _ _); have f0 := frozenW bB.out 0 _ (Below.refl _ _); have f1 := frozenW bB.out 1 _ (Below.refl _ _)
            have hS12 : Below A.heap.size A ((W5.setCell ⟨W0.heap.size, 0, none⟩ (.slice pc l.length cc)).setCell ⟨W0.heap.size, 1, none⟩ (.slice pr (via :: rs).length cr)) := (hB.setCell (by simp only; omega) _).setCell (by simp only; omega) _
            go_simp
            (try dsimp only)
            refine hK.out _ _ ?_ (fun hHeld => ?_)
            · (try dsimp only); exact hS12
            clear hK Kc
            try simp only [Act.put, List.setIfInBounds_toArray, List.set_cons_zero, List.set_cons_succ, List.getElem_toArray, List.getElem_cons_succ, List.getElem_cons_zero]
            refine wpAnyH_done (by kernel_rfl) ?_ _
            go_wp2
            go_meet
            exact ⟨_, _, _, _, _, rfl, blk_set (blk_set bB.out 0 _) 1 _, own_pair o3.out o9.out (fun k hk => by have := I3.out k hk; (try simp only); omega) (fun k hk => by have := I9.out k hk; (try simp only); omega) (fun a b ha hb => by have := I3.out a ha; have := I9.out b hb; omega) (by omega) (by omega), (by omega), hS12⟩
    case rest =>
    obtain ⟨ga, pc, pr, cc, cr, rfl, HP, HOT, hga, hbx⟩ := hcut
    rename World => Z
    have HP' : Hid _ := HP
    have hXz : Hid _ := blk hX.out hbx
    have hYz : Hid _ := blk hY.out hbx
    have hBz := keepB hA (Nat.le_refl _) hbx
    have hsz := hbx.size
    have hOd : Hid (OwnT (World.drew Z) A.heap.size _ _ _) := OwnT.below (w' := World.drew _) HOT (Below.drew (Below.refl _ _))
    have hBd : Hid (Below w.heap.size w (World.drew Z)) := Below.drew hBz
    have q0 := cellG2 (G := w.heap.size + 1) (hq0.out Z hBz) (by simp only; omega) (by simp only; omega)
    clear HP HOT hX hY x0 x1
    have k0 := fun W => cellG (W := W) (G := w.heap.size + 1) HP'.out (by omega) 0 _ rfl
    have k1 := fun W => cellG (W := W) (G := w.heap.size + 1) HP'.out (by omega) 1 _ rfl
    have x0 := fun W => cellG (W := W) (G := w.heap.size + 1) hXz.out (by omega) 0 _ rfl
    go_upto_region 6 with fail
    refine wp_region_held_drew (S := (fun w' => Z.grownBy w' (some (w.heap.size + 1)))) (by kernel_rfl) ?_ (fun hHeld => ?_)
    · (try dsimp only); exact grown_belowI (grown_reflI Z _) (Below.drew (Below.refl _ _))
    refine yieldH (i := 0) (v := ?_) rfl (by kernel_rfl) (by kernel_rfl) (by kernel_rfl) (fun _ _ _ h => h) (by rfl) ?_ (by assumption) ?_; rotate_left
    · intro w' hSw; (try dsimp only at hSw); go_simp; (try with_reducible rfl)
    try simp only [Act.put, List.setIfInBounds_toArray, List.set_cons_zero, List.set_cons_succ, List.getElem_toArray, List.getElem_cons_succ, List.getElem_cons_zero]
    refine yieldH (i := 1) (v := ?_) rfl (by kernel_rfl) (by kernel_rfl) (by kernel_rfl) (fun _ _ _ h => h) (by rfl) ?_ (by assumption) ?_; rotate_left
    · intro w' hSw; (try dsimp only at hSw); go_simp; (try with_reducible rfl)
    try simp only [Act.put, List.setIfInBounds_toArray, List.set_cons_zero, List.set_cons_succ, List.getElem_toArray, List.getElem_cons_succ, List.getElem_cons_zero]
    refine yieldH (i := 2) (v := ?_) rfl (by kernel_rfl) (by kernel_rfl) (by kernel_rfl) (fun _ _ _ h => h) (by rfl) ?_ (by assumption) ?_; rotate_left
    · intro w' hSw; (try dsimp only at hSw); go_simp; (try with_reducible rfl)
    try simp only [Act.put, List.setIfInBounds_toArray, List.set_cons_zero, List.set_cons_succ, List.getElem_toArray, List.getElem_cons_succ, List.getElem_cons_zero]
    refine yieldH (i := 3) (v := ?_) rfl (by kernel_rfl) (by kernel_rfl) (by kernel_rfl) (fun _ _ _ h => h) (by rfl) ?_ (by assumption) ?_; rotate_left
    · intro w' hSw; (try dsimp only at hSw); go_simp; (try with_reducible rfl)
    try simp only [Act.put, List.setIfInBounds_toArray, List.set_cons_zero, List.set_cons_succ, List.getElem_toArray, List.getElem_cons_succ, List.getElem_cons_zero]
    refine yieldH (i := 4) (v := ?_) rfl (by kernel_rfl) (by kernel_rfl) (by kernel_rfl) (fun _ _ _ h => h) (by rfl) ?_ (by assumption) ?_; rotate_left
    · intro w' hSw; (try dsimp only at hSw); go_simp; (try with_reducible rfl)
    try simp only [Act.put, List.setIfInBounds_toArray, List.set_cons_zero, List.set_cons_succ, List.getElem_toArray, List.getElem_cons_succ, List.getElem_cons_zero]
    refine yieldH (i := 5) (v := ?_) rfl (by kernel_rfl) (by kernel_rfl) (by kernel_rfl) (fun _ _ _ h => h) (by rfl) ?_ (by assumption) ?_; rotate_left
    · intro w' hSw; (try dsimp only at hSw); go_simp; (try with_reducible rfl)
    try simp only [Act.put, List.setIfInBounds_toArray, List.set_cons_zero, List.set_cons_succ, List.getElem_toArray, List.getElem_cons_succ, List.getElem_cons_zero]
    have y0 := cellW hYz.out 0 _ rfl (World.drew Z) (Below.drew (Below.refl _ _)); have y1 := cellW hYz.out 1 _ rfl (World.drew Z) (Below.drew (Below.refl _ _)); have y2 := cellW hYz.out 2 _ rfl (World.drew Z) (Below.drew (Below.refl _ _)); have y3 := cellW hYz.out 3 _ rfl (World.drew Z) (Below.drew (Below.refl _ _))
    have g0 := frozenW hYz.out 0 (World.drew Z) (Below.drew (Below.refl _ _)); have g1 := frozenW hYz.out 1 (World.drew Z) (Below.drew (Below.refl _ _)); have g2 := frozenW hYz.out 2 (World.drew Z) (Below.drew (Below.refl _ _)); have g3 := frozenW hYz.out 3 (World.drew Z) (Below.drew (Below.refl _ _))
    have hGr : Z.grownBy (World.drew Z) (some (w.heap.size + 1)) := grown_belowI (grown_reflI Z _) (Below.drew (Below.refl _ _))
    generalize World.drew Z = D at hOd hBd y0 y1 y2 y3 g0 g1 g2 g3 hGr hHeld ⊢
    refine wpAnyH_ready (rs := [6]) (by kernel_rfl) (by simp) ?_
    refine AllReadyH.cons rfl (fun Kc hK => ?_) AllReadyH.nil
    go_simp
    (try dsimp only)
    refine hK.out _ _ ?_ (fun hHeld => ?_)
    · (try dsimp only); exact grown_setI (grown_setI (grown_setI (grown_setI hGr _ _) _ _) _ _) _ _
    clear hK Kc
    try simp only [Act.put, List.setIfInBounds_toArray, List.set_cons_zero, List.set_cons_succ, List.getElem_toArray, List.getElem_cons_succ, List.getElem_cons_zero]
    refine wpAnyH_done (by kernel_rfl) ?_ _
    go_wp2
    exact bodyPost_ret (v := .agg #[.slice pc l.length cc, .slice pr (rs.length + 1) cr, .int .i64 a, .int .i64 0]) (by simp [results, Try.results17, go_sem, y0, y1, y2, y3]; try rfl) rfl ⟨_, _, rfl, OwnT.leT (OwnT.farT (OwnT.farT (OwnT.farT (OwnT.farT hOd.out (by simp only; omega) _) (by simp only; omega) _) (by simp only; omega) _) (by simp only; omega) _) (by omega), (by first | exact hBd.out | exact hBd.out.setCell (by simp only; omega) _ | exact (hBd.out.setCell (by simp only; omega) _).setCell (by simp only; omega) _ | exact ((((hBd.out.setCell (by simp only; omega) _).setCell (by simp only; omega) _).setCell (by simp only; omega) _).setCell (by simp only; omega) _))⟩
end Go.Proofs.Ytineecongiplgaa
