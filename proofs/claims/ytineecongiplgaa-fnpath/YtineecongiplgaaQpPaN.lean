/- NEW PATHS and the way home: the program's and the model's. Written by mkpan.py. -/
import Derived.Test.YtineecongiplgaaQpPaR
namespace Go.Proofs.Ytineecongiplgaa
open Go.RowKit
set_option linter.unusedVariables false
set_option linter.unusedSimpArgs false

theorem OwnT.one {w : World} {b : Nat} {v : Value} {l : List Int} (h : OwnI w b v l) : OwnT w b v (.slice none 0 0) ⟨l, []⟩ := ⟨h, OwnI.nil _ _, fun a c _ h => by cases h⟩
theorem cells4 {A : World} {g : Nat} {q0 q1 q2 q3 : Value} {ty : TypeId} (h : A.heap[g]? = some (.cells #[q0, q1, q2, q3] ty (0, 0))) (x0 x1 x2 x3 : Value) : ((((A.setCell ⟨g, 0, none⟩ x0).setCell ⟨g, 1, none⟩ x1).setCell ⟨g, 2, none⟩ x2).setCell ⟨g, 3, none⟩ x3).heap[g]? = some (.cells #[x0, x1, x2, x3] ty (0, 0)) := blk_set (blk_set (blk_set (blk_set h 0 x0) 1 x1) 2 x2) 3 x3
set_option maxRecDepth 100000 in
set_option maxHeartbeats 1600000 in
theorem pathHome_any (t : Tb) (B : Nat) (v1 v2 : Value) (w : World) (hl1 : t.cs.length ≤ 1500000) (hl2 : t.rs.length ≤ 1500000) (h : OwnT w B v1 v2 t) :
    Calls Try.prog 19 #[.agg #[v1, v2]] w fun e w' => ∃ u1 u2, e = .returned (.agg #[u1, u2, .int .i64 (homeP t).a, .int .i64 (homeP t).c]) ∧ OwnT w' w.heap.size u1 u2 (homeP t).t ∧ Below w.heap.size w w' := by
  obtain ⟨p1, c1, rfl⟩ := h.c.shape
  obtain ⟨p2, c2, rfl⟩ := h.r.shape
  have HR : Hid (∀ W, Below w.heap.size w W → Calls Try.prog 23 #[.agg #[.slice p1 t.cs.length c1, .slice p2 t.rs.length c2]] W fun e w' => e = .returned (.bool t.path) ∧ Below W.heap.size W w') := fun W hW => pathRight_any t p1 p2 c1 c2 W hl1 hl2 (h.c.below hW).row (h.r.below hW).row
  have HO : Hid (OwnI _ _ _ _) := h.r
  clear h
  have hX : Hid _ := blk (heap_alloc_new w (.cells #[.slice p1 t.cs.length c1, .slice p2 t.rs.length c2] 26)) (all_alloc _ (.cells #[.slice none 0 0, .slice none 0 0, .int .i64 0, .int .i64 0] 28))
  have hY : Hid _ := heap_alloc_new (w.alloc (.cells #[.slice p1 t.cs.length c1, .slice p2 t.rs.length c2] 26)) (.cells #[.slice none 0 0, .slice none 0 0, .int .i64 0, .int .i64 0] 28)
  have hA0 : Below w.heap.size w ((w.alloc (.cells #[.slice p1 t.cs.length c1, .slice p2 t.rs.length c2] 26)).alloc (.cells #[.slice none 0 0, .slice none 0 0, .int .i64 0, .int .i64 0] 28)) := keepB (all_alloc w _) (Nat.le_refl _) (all_alloc _ _)
  have e1 : (w.alloc (.cells #[.slice p1 t.cs.length c1, .slice p2 t.rs.length c2] 26)).heap.size = w.heap.size + 1 := by simp
  have e3 : w.heap.size + 1 + 1 ≤ ((w.alloc (.cells #[.slice p1 t.cs.length c1, .slice p2 t.rs.length c2] 26)).alloc (.cells #[.slice none 0 0, .slice none 0 0, .int .i64 0, .int .i64 0] 28)).heap.size := by simp
  rw [e1] at hY
  cases hp : t.path with
  | false =>
    rw [hp] at HR
    have eP : homeP t = ⟨zeroT, 0, 1⟩ := by unfold homeP; rw [if_pos hp]
    rw [eP]
    clear eP hp HO
    go_enter Try.func19, Try.ntmps19
    go_upto_region 1 with fail
    generalize (w.alloc (.cells #[.slice p1 t.cs.length c1, .slice p2 t.rs.length c2] 26)).alloc (.cells #[.slice none 0 0, .slice none 0 0, .int .i64 0, .int .i64 0] 28) = A at hX hY hA0 e3 ⊢
    clear e1
    have x0 := cellW hX.out 0 _ rfl A (Below.refl _ _); have x1 := cellW hX.out 1 _ rfl A (Below.refl _ _); have fy0 := frozenW hY.out 0 A (Below.refl _ _); have fy1 := frozenW hY.out 1 A (Below.refl _ _); have fy2 := frozenW hY.out 2 A (Below.refl _ _); have fy3 := frozenW hY.out 3 A (Below.refl _ _); have y0 := cellW hY.out 0 _ rfl A (Below.refl _ _); have y1 := cellW hY.out 1 _ rfl A (Below.refl _ _); have y2 := cellW hY.out 2 _ rfl A (Below.refl _ _); have y3 := cellW hY.out 3 _ rfl A (Below.refl _ _)
    go_wp2_with (go_at_call 23; refine (HR.out _ hA0).mono ?_; rintro e w1 ⟨rfl, hb1⟩; have hY1 : Hid _ := blk hY.out hb1; have hB1 := keepB hA0 (Nat.le_refl _) hb1; have z0 := cellW hY1.out 0 _ rfl w1 (Below.refl _ _); have z1 := cellW hY1.out 1 _ rfl w1 (Below.refl _ _); have z2 := cellW hY1.out 2 _ rfl w1 (Below.refl _ _); have z3 := cellW hY1.out 3 _ rfl w1 (Below.refl _ _); have fz0 := frozenW hY1.out 0 w1 (Below.refl _ _); have fz1 := frozenW hY1.out 1 w1 (Below.refl _ _); have fz2 := frozenW hY1.out 2 w1 (Below.refl _ _); have fz3 := frozenW hY1.out 3 w1 (Below.refl _ _))
    exact bodyPost_ret (v := .agg #[.slice none 0 0, .slice none 0 0, .int .i64 0, .int .i64 1]) (by simp [results, Try.results19, go_sem, z0, z1, z2, z3]; try rfl) rfl ⟨_, _, rfl, ⟨OwnI.nil _ _, OwnI.nil _ _, fun a b h => by cases h⟩, (by first | exact hB1 | exact hB1.setCell (by simp only; omega) _ | exact (hB1.setCell (by simp only; omega) _).setCell (by simp only; omega) _ | exact ((((hB1.setCell (by simp only; omega) _).setCell (by simp only; omega) _).setCell (by simp only; omega) _).setCell (by simp only; omega) _))⟩
  | true =>
    rw [hp] at HR
    have eP : homeP t = ⟨⟨t.rs, []⟩, 0, 0⟩ := by unfold homeP; rw [if_neg (by rw [hp]; decide)]
    rw [eP]
    have hn := ((Tb.path_iff t).1 hp).2
    clear eP hp
    have HCP : Hid (∀ W, Below w.heap.size w W → Calls Try.prog 42 #[.slice p2 t.rs.length c2] W fun e w' => ∃ v', e = .returned v' ∧ OwnI w' W.heap.size v' t.rs ∧ Below W.heap.size W w') := fun W hW => copyNums_any B _ t.rs W (by omega) (HO.out.below hW)
    clear HO
    go_enter Try.func19, Try.ntmps19
    go_upto_region 1 with fail
    generalize (w.alloc (.cells #[.slice p1 t.cs.length c1, .slice p2 t.rs.length c2] 26)).alloc (.cells #[.slice none 0 0, .slice none 0 0, .int .i64 0, .int .i64 0] 28) = A at hX hY hA0 e3 ⊢
    clear e1
    have x0 := cellW hX.out 0 _ rfl A (Below.refl _ _); have x1 := cellW hX.out 1 _ rfl A (Below.refl _ _); have fy0 := frozenW hY.out 0 A (Below.refl _ _); have fy1 := frozenW hY.out 1 A (Below.refl _ _); have fy2 := frozenW hY.out 2 A (Below.refl _ _); have fy3 := frozenW hY.out 3 A (Below.refl _ _); have y0 := cellW hY.out 0 _ rfl A (Below.refl _ _); have y1 := cellW hY.out 1 _ rfl A (Below.refl _ _); have y2 := cellW hY.out 2 _ rfl A (Below.refl _ _); have y3 := cellW hY.out 3 _ rfl A (Below.refl _ _)
    go_wp2_with (first
      | (go_at_call 23; refine (HR.out _ hA0).mono ?_; rintro e w1 ⟨rfl, hb1⟩; have hB1 := keepB hA0 (Nat.le_refl _) hb1; have hX1 : Hid _ := blk hX.out hb1; have b1 := cellW hX1.out 1 _ rfl w1 (Below.refl _ _))
      | (go_at_call 42; refine (HCP.out _ hB1).mono ?_; rintro e w2 ⟨u, rfl, own2, hb2⟩; obtain ⟨pu, cu, rfl⟩ := own2.shape; have hY1 : Hid _ := blk (blk hY.out hb1) hb2; have hB2 := keepB hB1 (Nat.le_refl _) hb2; have z0 := cellW hY1.out 0 _ rfl w2 (Below.refl _ _); have z1 := cellW hY1.out 1 _ rfl w2 (Below.refl _ _); have z2 := cellW hY1.out 2 _ rfl w2 (Below.refl _ _); have z3 := cellW hY1.out 3 _ rfl w2 (Below.refl _ _); have fz0 := frozenW hY1.out 0 w2 (Below.refl _ _); have fz1 := frozenW hY1.out 1 w2 (Below.refl _ _); have fz2 := frozenW hY1.out 2 w2 (Below.refl _ _); have fz3 := frozenW hY1.out 3 w2 (Below.refl _ _)))
    have hs1 := hb1.size
    have hO2 := OwnT.leT (B := w.heap.size + 1 + 1) (OwnT.one own2) (by omega)
    have hF := cells4 hY1.out (.slice pu t.rs.length cu) (.slice none 0 0) (.int .i64 0) (.int .i64 0)
    exact bodyPost_ret (v := .agg #[.slice pu t.rs.length cu, .slice none 0 0, .int .i64 0, .int .i64 0]) (by simp [results, Try.results19, go_sem, z0, z1, z2, z3]; try rfl) rfl ⟨_, _, rfl, OwnT.leT (OwnT.farT (OwnT.farT (OwnT.farT (OwnT.farT hO2 (by simp only; omega) _) (by simp only; omega) _) (by simp only; omega) _) (by simp only; omega) _) (by omega), (by first | exact hB2 | exact hB2.setCell (by simp only; omega) _ | exact (hB2.setCell (by simp only; omega) _).setCell (by simp only; omega) _ | exact ((((hB2.setCell (by simp only; omega) _).setCell (by simp only; omega) _).setCell (by simp only; omega) _).setCell (by simp only; omega) _))⟩
set_option maxRecDepth 100000 in
set_option maxHeartbeats 1600000 in
theorem specPathHome_any (t : Tb) (B : Nat) (v1 v2 : Value) (w : World) (hl1 : t.cs.length ≤ 1500000) (hl2 : t.rs.length ≤ 1500000) (h : OwnT w B v1 v2 t) :
    Calls Try.prog 20 #[.agg #[v1, v2]] w fun e w' => ∃ u1 u2, e = .returned (.agg #[u1, u2, .int .i64 (homeP t).a, .int .i64 (homeP t).c]) ∧ OwnT w' w.heap.size u1 u2 (homeP t).t ∧ Below w.heap.size w w' := by
  obtain ⟨p1, c1, rfl⟩ := h.c.shape
  obtain ⟨p2, c2, rfl⟩ := h.r.shape
  have HR : Hid (∀ W, Below w.heap.size w W → Calls Try.prog 24 #[.agg #[.slice p1 t.cs.length c1, .slice p2 t.rs.length c2]] W fun e w' => e = .returned (.bool t.path) ∧ Below W.heap.size W w') := fun W hW => specPathRight_any t p1 p2 c1 c2 W hl1 hl2 (h.c.below hW).row (h.r.below hW).row
  have HO : Hid (OwnI _ _ _ _) := h.r
  clear h
  have hX : Hid _ := blk (heap_alloc_new w (.cells #[.slice p1 t.cs.length c1, .slice p2 t.rs.length c2] 26)) (all_alloc _ (.cells #[.slice none 0 0, .slice none 0 0, .int .i64 0, .int .i64 0] 28))
  have hY : Hid _ := heap_alloc_new (w.alloc (.cells #[.slice p1 t.cs.length c1, .slice p2 t.rs.length c2] 26)) (.cells #[.slice none 0 0, .slice none 0 0, .int .i64 0, .int .i64 0] 28)
  have hA0 : Below w.heap.size w ((w.alloc (.cells #[.slice p1 t.cs.length c1, .slice p2 t.rs.length c2] 26)).alloc (.cells #[.slice none 0 0, .slice none 0 0, .int .i64 0, .int .i64 0] 28)) := keepB (all_alloc w _) (Nat.le_refl _) (all_alloc _ _)
  have e1 : (w.alloc (.cells #[.slice p1 t.cs.length c1, .slice p2 t.rs.length c2] 26)).heap.size = w.heap.size + 1 := by simp
  have e3 : w.heap.size + 1 + 1 ≤ ((w.alloc (.cells #[.slice p1 t.cs.length c1, .slice p2 t.rs.length c2] 26)).alloc (.cells #[.slice none 0 0, .slice none 0 0, .int .i64 0, .int .i64 0] 28)).heap.size := by simp
  rw [e1] at hY
  cases hp : t.path with
  | false =>
    rw [hp] at HR
    have eP : homeP t = ⟨zeroT, 0, 1⟩ := by unfold homeP; rw [if_pos hp]
    rw [eP]
    clear eP hp HO
    go_enter Try.func20, Try.ntmps20
    go_upto_region 1 with fail
    generalize (w.alloc (.cells #[.slice p1 t.cs.length c1, .slice p2 t.rs.length c2] 26)).alloc (.cells #[.slice none 0 0, .slice none 0 0, .int .i64 0, .int .i64 0] 28) = A at hX hY hA0 e3 ⊢
    clear e1
    have x0 := cellW hX.out 0 _ rfl A (Below.refl _ _); have x1 := cellW hX.out 1 _ rfl A (Below.refl _ _); have fy0 := frozenW hY.out 0 A (Below.refl _ _); have fy1 := frozenW hY.out 1 A (Below.refl _ _); have fy2 := frozenW hY.out 2 A (Below.refl _ _); have fy3 := frozenW hY.out 3 A (Below.refl _ _); have y0 := cellW hY.out 0 _ rfl A (Below.refl _ _); have y1 := cellW hY.out 1 _ rfl A (Below.refl _ _); have y2 := cellW hY.out 2 _ rfl A (Below.refl _ _); have y3 := cellW hY.out 3 _ rfl A (Below.refl _ _)
    go_wp2_with (go_at_call 24; refine (HR.out _ hA0).mono ?_; rintro e w1 ⟨rfl, hb1⟩; have hY1 : Hid _ := blk hY.out hb1; have hB1 := keepB hA0 (Nat.le_refl _) hb1; have z0 := cellW hY1.out 0 _ rfl w1 (Below.refl _ _); have z1 := cellW hY1.out 1 _ rfl w1 (Below.refl _ _); have z2 := cellW hY1.out 2 _ rfl w1 (Below.refl _ _); have z3 := cellW hY1.out 3 _ rfl w1 (Below.refl _ _); have fz0 := frozenW hY1.out 0 w1 (Below.refl _ _); have fz1 := frozenW hY1.out 1 w1 (Below.refl _ _); have fz2 := frozenW hY1.out 2 w1 (Below.refl _ _); have fz3 := frozenW hY1.out 3 w1 (Below.refl _ _))
    exact bodyPost_ret (v := .agg #[.slice none 0 0, .slice none 0 0, .int .i64 0, .int .i64 1]) (by simp [results, Try.results20, go_sem, z0, z1, z2, z3]; try rfl) rfl ⟨_, _, rfl, ⟨OwnI.nil _ _, OwnI.nil _ _, fun a b h => by cases h⟩, (by first | exact hB1 | exact hB1.setCell (by simp only; omega) _ | exact (hB1.setCell (by simp only; omega) _).setCell (by simp only; omega) _ | exact ((((hB1.setCell (by simp only; omega) _).setCell (by simp only; omega) _).setCell (by simp only; omega) _).setCell (by simp only; omega) _))⟩
  | true =>
    rw [hp] at HR
    have eP : homeP t = ⟨⟨t.rs, []⟩, 0, 0⟩ := by unfold homeP; rw [if_neg (by rw [hp]; decide)]
    rw [eP]
    have hn := ((Tb.path_iff t).1 hp).2
    clear eP hp
    have HAP : Hid (∀ (W : World) (G : Nat) (ty : TypeId), Below w.heap.size w W → W.heap[G]? = some (.cells #[] 2 (0, 0)) → ∃ G' c w', (Builtin.append_ #[23, 23] ty #[.slice (some ⟨G, 0, none⟩) 0 0, .slice p2 t.rs.length c2]).run Try.prog W = .ok (.slice (some ⟨G', 0, none⟩) t.rs.length c) w' ∧ (G' = G ∨ G' = W.heap.size) ∧ (∀ base, base ≤ G → OwnI w' base (.slice (some ⟨G', 0, none⟩) t.rs.length c) t.rs) ∧ Below W.heap.size W w') := fun W G ty hW hG => app_empty W ty G hG B _ t.rs (HO.out.below hW) (by omega)
    clear HO
    go_enter Try.func20, Try.ntmps20
    go_upto_region 1 with fail
    generalize (w.alloc (.cells #[.slice p1 t.cs.length c1, .slice p2 t.rs.length c2] 26)).alloc (.cells #[.slice none 0 0, .slice none 0 0, .int .i64 0, .int .i64 0] 28) = A at hX hY hA0 e3 ⊢
    clear e1
    have x0 := cellW hX.out 0 _ rfl A (Below.refl _ _); have x1 := cellW hX.out 1 _ rfl A (Below.refl _ _); have fy0 := frozenW hY.out 0 A (Below.refl _ _); have fy1 := frozenW hY.out 1 A (Below.refl _ _); have fy2 := frozenW hY.out 2 A (Below.refl _ _); have fy3 := frozenW hY.out 3 A (Below.refl _ _); have y0 := cellW hY.out 0 _ rfl A (Below.refl _ _); have y1 := cellW hY.out 1 _ rfl A (Below.refl _ _); have y2 := cellW hY.out 2 _ rfl A (Below.refl _ _); have y3 := cellW hY.out 3 _ rfl A (Below.refl _ _)
    go_upto_region 3 with (go_at_call 24; refine (HR.out _ hA0).mono ?_; rintro e w1 ⟨rfl, hb1⟩)
    have hB1 := keepB hA0 (Nat.le_refl _) hb1
    have hX1 : Hid _ := blk (blk hX.out hb1) (all_alloc w1 (.cells #[] 2))
    have hY0 : Hid _ := blk (blk hY.out hb1) (all_alloc w1 (.cells #[] 2))
    have b1 := cellW hX1.out 1 _ rfl _ (Below.refl _ _)
    have hB2 := keepB hB1 (Nat.le_refl _) (all_alloc w1 (.cells #[] 2))
    obtain ⟨G', cu, w2, hrun, hG', hown, hb2⟩ := HAP.out _ w1.heap.size 23 hB2 (heap_alloc_new w1 _)
    have hs1 := hb1.size
    have hO2 : Hid (OwnT w2 (w.heap.size + 1 + 1) _ _ _) := OwnT.one (hown (w.heap.size + 1 + 1) (by omega))
    have hY1 : Hid _ := blk hY0.out hb2
    have hB3 : Hid (Below w.heap.size w w2) := keepB hB2 (Nat.le_refl _) hb2
    have z0 := cellW hY1.out 0 _ rfl w2 (Below.refl _ _); have z1 := cellW hY1.out 1 _ rfl w2 (Below.refl _ _); have z2 := cellW hY1.out 2 _ rfl w2 (Below.refl _ _); have z3 := cellW hY1.out 3 _ rfl w2 (Below.refl _ _); have fz0 := frozenW hY1.out 0 w2 (Below.refl _ _); have fz1 := frozenW hY1.out 1 w2 (Below.refl _ _); have fz2 := frozenW hY1.out 2 w2 (Below.refl _ _); have fz3 := frozenW hY1.out 3 w2 (Below.refl _ _)
    clear hG' hown hb2 HAP
    go_wp2_with (at_builtin; refine wpList_plain rfl fun K hK => ?_; unfold Oper.wp; simp [execOp, resolve, invoke, builtin, Act.eval, hrun, Result.andThen]; refine hK _ _ ?_)
    exact bodyPost_ret (v := .agg #[.slice (some ⟨G', 0, none⟩) t.rs.length cu, .slice none 0 0, .int .i64 0, .int .i64 0]) (by simp [results, Try.results20, go_sem, z0, z1, z2, z3]; try rfl) rfl ⟨_, _, rfl, OwnT.leT (OwnT.farT (OwnT.farT (OwnT.farT (OwnT.farT hO2.out (by simp only; omega) _) (by simp only; omega) _) (by simp only; omega) _) (by simp only; omega) _) (by omega), (by first | exact hB3.out | exact hB3.out.setCell (by simp only; omega) _ | exact (hB3.out.setCell (by simp only; omega) _).setCell (by simp only; omega) _ | exact ((((hB3.out.setCell (by simp only; omega) _).setCell (by simp only; omega) _).setCell (by simp only; omega) _).setCell (by simp only; omega) _))⟩
set_option maxRecDepth 100000 in
set_option maxHeartbeats 1600000 in
theorem pathNew_any (l : List Int) (B : Nat) (v : Value) (w : World) (hl : l.length ≤ 1500000) (h : OwnI w B v l) :
    Calls Try.prog 8 #[v] w fun e w' => ∃ u1 u2, e = .returned (.agg #[u1, u2, .int .i64 (newP l).a, .int .i64 (newP l).c]) ∧ OwnT w' w.heap.size u1 u2 (newP l).t ∧ Below w.heap.size w w' := by
  obtain ⟨p1, c1, rfl⟩ := h.shape
  have HR : Hid (∀ W, Below w.heap.size w W → Calls Try.prog 41 #[.slice p1 l.length c1] W fun e w' => e = .returned (.bool (hopsB l)) ∧ W = w') := fun W hW => hopsRight_any _ l W (by omega) (h.below hW).row
  have HO : Hid (OwnI _ _ _ _) := h
  clear h
  have hY : Hid _ := heap_alloc_new w (.cells #[.slice none 0 0, .slice none 0 0, .int .i64 0, .int .i64 0] 28)
  have hA0 : Below w.heap.size w (w.alloc (.cells #[.slice none 0 0, .slice none 0 0, .int .i64 0, .int .i64 0] 28)) := all_alloc w _
  have e3 : w.heap.size + 1 ≤ (w.alloc (.cells #[.slice none 0 0, .slice none 0 0, .int .i64 0, .int .i64 0] 28)).heap.size := by simp
  by_cases h4 : 400 < l.length
  · have eP : newP l = ⟨zeroT, 0, 2⟩ := by unfold newP; rw [if_pos h4]
    rw [eP]
    have h4' : (400 : Int) < l.length := by omega
    clear eP HO HR
    go_enter Try.func8, Try.ntmps8
    go_upto_region 1 with fail
    generalize w.alloc (.cells #[.slice none 0 0, .slice none 0 0, .int .i64 0, .int .i64 0] 28) = A at hY hA0 e3 ⊢
    have z0 := cellW hY.out 0 _ rfl A (Below.refl _ _); have z1 := cellW hY.out 1 _ rfl A (Below.refl _ _); have z2 := cellW hY.out 2 _ rfl A (Below.refl _ _); have z3 := cellW hY.out 3 _ rfl A (Below.refl _ _); have fz0 := frozenW hY.out 0 A (Below.refl _ _); have fz1 := frozenW hY.out 1 A (Below.refl _ _); have fz2 := frozenW hY.out 2 A (Below.refl _ _); have fz3 := frozenW hY.out 3 A (Below.refl _ _)
    go_wp2
    exact bodyPost_ret (v := .agg #[.slice none 0 0, .slice none 0 0, .int .i64 0, .int .i64 2]) (by simp [results, Try.results8, go_sem, z0, z1, z2, z3]; try rfl) rfl ⟨_, _, rfl, ⟨OwnI.nil _ _, OwnI.nil _ _, fun a b h => by cases h⟩, (by first | exact hA0 | exact hA0.setCell (by simp only; omega) _ | exact (hA0.setCell (by simp only; omega) _).setCell (by simp only; omega) _ | exact ((((hA0.setCell (by simp only; omega) _).setCell (by simp only; omega) _).setCell (by simp only; omega) _).setCell (by simp only; omega) _))⟩
  have h4' : ¬ (400 : Int) < l.length := by omega
  by_cases h1 : l.length < 1
  · have eP : newP l = ⟨zeroT, 0, 1⟩ := by unfold newP; rw [if_neg h4, if_pos (.inl h1)]
    rw [eP]
    have h1' : (l.length : Int) < 1 := by omega
    clear eP HO HR
    go_enter Try.func8, Try.ntmps8
    go_upto_region 1 with fail
    generalize w.alloc (.cells #[.slice none 0 0, .slice none 0 0, .int .i64 0, .int .i64 0] 28) = A at hY hA0 e3 ⊢
    have z0 := cellW hY.out 0 _ rfl A (Below.refl _ _); have z1 := cellW hY.out 1 _ rfl A (Below.refl _ _); have z2 := cellW hY.out 2 _ rfl A (Below.refl _ _); have z3 := cellW hY.out 3 _ rfl A (Below.refl _ _); have fz0 := frozenW hY.out 0 A (Below.refl _ _); have fz1 := frozenW hY.out 1 A (Below.refl _ _); have fz2 := frozenW hY.out 2 A (Below.refl _ _); have fz3 := frozenW hY.out 3 A (Below.refl _ _)
    go_wp2
    exact bodyPost_ret (v := .agg #[.slice none 0 0, .slice none 0 0, .int .i64 0, .int .i64 1]) (by simp [results, Try.results8, go_sem, z0, z1, z2, z3]; try rfl) rfl ⟨_, _, rfl, ⟨OwnI.nil _ _, OwnI.nil _ _, fun a b h => by cases h⟩, (by first | exact hA0 | exact hA0.setCell (by simp only; omega) _ | exact (hA0.setCell (by simp only; omega) _).setCell (by simp only; omega) _ | exact ((((hA0.setCell (by simp only; omega) _).setCell (by simp only; omega) _).setCell (by simp only; omega) _).setCell (by simp only; omega) _))⟩
  have h1' : ¬ (l.length : Int) < 1 := by omega
  cases hp : hopsB l with
  | false =>
    rw [hp] at HR
    have eP : newP l = ⟨zeroT, 0, 1⟩ := by unfold newP; rw [if_neg h4, if_pos (.inr hp)]
    rw [eP]
    clear eP hp HO
    go_enter Try.func8, Try.ntmps8
    go_upto_region 1 with fail
    generalize w.alloc (.cells #[.slice none 0 0, .slice none 0 0, .int .i64 0, .int .i64 0] 28) = A at hY hA0 e3 ⊢
    have z0 := cellW hY.out 0 _ rfl A (Below.refl _ _); have z1 := cellW hY.out 1 _ rfl A (Below.refl _ _); have z2 := cellW hY.out 2 _ rfl A (Below.refl _ _); have z3 := cellW hY.out 3 _ rfl A (Below.refl _ _); have fz0 := frozenW hY.out 0 A (Below.refl _ _); have fz1 := frozenW hY.out 1 A (Below.refl _ _); have fz2 := frozenW hY.out 2 A (Below.refl _ _); have fz3 := frozenW hY.out 3 A (Below.refl _ _)
    go_wp2_with (go_at_call 41; refine (HR.out _ hA0).mono ?_; rintro e w1 ⟨rfl, rfl⟩)
    exact bodyPost_ret (v := .agg #[.slice none 0 0, .slice none 0 0, .int .i64 0, .int .i64 1]) (by simp [results, Try.results8, go_sem, z0, z1, z2, z3]; try rfl) rfl ⟨_, _, rfl, ⟨OwnI.nil _ _, OwnI.nil _ _, fun a b h => by cases h⟩, (by first | exact hA0 | exact hA0.setCell (by simp only; omega) _ | exact (hA0.setCell (by simp only; omega) _).setCell (by simp only; omega) _ | exact ((((hA0.setCell (by simp only; omega) _).setCell (by simp only; omega) _).setCell (by simp only; omega) _).setCell (by simp only; omega) _))⟩
  | true =>
    rw [hp] at HR
    have eP : newP l = ⟨⟨l, []⟩, 0, 0⟩ := by unfold newP; rw [if_neg h4, if_neg (by rintro (h | h); exact h1 h; rw [hp] at h; cases h)]
    rw [eP]
    clear eP hp
    have HCP : Hid (∀ W, Below w.heap.size w W → Calls Try.prog 42 #[.slice p1 l.length c1] W fun e w' => ∃ v', e = .returned v' ∧ OwnI w' W.heap.size v' l ∧ Below W.heap.size W w') := fun W hW => copyNums_any B _ l W (by omega) (HO.out.below hW)
    clear HO
    go_enter Try.func8, Try.ntmps8
    go_upto_region 1 with fail
    generalize w.alloc (.cells #[.slice none 0 0, .slice none 0 0, .int .i64 0, .int .i64 0] 28) = A at hY hA0 e3 ⊢
    go_wp2_with (first
      | (go_at_call 41; refine (HR.out _ hA0).mono ?_; rintro e w1 ⟨rfl, rfl⟩)
      | (go_at_call 42; refine (HCP.out _ hA0).mono ?_; rintro e w2 ⟨u, rfl, own2, hb2⟩; obtain ⟨pu, cu, rfl⟩ := own2.shape; have hY1 : Hid _ := blk hY.out hb2; have hB2 := keepB hA0 (Nat.le_refl _) hb2; have z0 := cellW hY1.out 0 _ rfl w2 (Below.refl _ _); have z1 := cellW hY1.out 1 _ rfl w2 (Below.refl _ _); have z2 := cellW hY1.out 2 _ rfl w2 (Below.refl _ _); have z3 := cellW hY1.out 3 _ rfl w2 (Below.refl _ _); have fz0 := frozenW hY1.out 0 w2 (Below.refl _ _); have fz1 := frozenW hY1.out 1 w2 (Below.refl _ _); have fz2 := frozenW hY1.out 2 w2 (Below.refl _ _); have fz3 := frozenW hY1.out 3 w2 (Below.refl _ _)))
    have hO2 := OwnT.leT (B := w.heap.size + 1) (OwnT.one own2) (by omega)
    exact bodyPost_ret (v := .agg #[.slice pu l.length cu, .slice none 0 0, .int .i64 0, .int .i64 0]) (by simp [results, Try.results8, go_sem, z0, z1, z2, z3]; try rfl) rfl ⟨_, _, rfl, OwnT.leT (OwnT.farT (OwnT.farT (OwnT.farT (OwnT.farT hO2 (by simp only; omega) _) (by simp only; omega) _) (by simp only; omega) _) (by simp only; omega) _) (by omega), (by first | exact hB2 | exact hB2.setCell (by simp only; omega) _ | exact (hB2.setCell (by simp only; omega) _).setCell (by simp only; omega) _ | exact ((((hB2.setCell (by simp only; omega) _).setCell (by simp only; omega) _).setCell (by simp only; omega) _).setCell (by simp only; omega) _))⟩
set_option maxRecDepth 100000 in
set_option maxHeartbeats 1600000 in
theorem specPathNew_any (l : List Int) (B : Nat) (v : Value) (w : World) (hl : l.length ≤ 1500000) (h : OwnI w B v l) :
    Calls Try.prog 16 #[v] w fun e w' => ∃ u1 u2, e = .returned (.agg #[u1, u2, .int .i64 (newP l).a, .int .i64 (newP l).c]) ∧ OwnT w' w.heap.size u1 u2 (newP l).t ∧ Below w.heap.size w w' := by
  obtain ⟨p1, c1, rfl⟩ := h.shape
  have HR : Hid (∀ W, Below w.heap.size w W → Calls Try.prog 50 #[.slice p1 l.length c1] W fun e w' => e = .returned (.bool (hopsB l)) ∧ W = w') := fun W hW => l08Addrs_any _ l W (by omega) (h.below hW).row
  have HO : Hid (OwnI _ _ _ _) := h
  clear h
  have hY : Hid _ := heap_alloc_new w (.cells #[.slice none 0 0, .slice none 0 0, .int .i64 0, .int .i64 0] 28)
  have hA0 : Below w.heap.size w (w.alloc (.cells #[.slice none 0 0, .slice none 0 0, .int .i64 0, .int .i64 0] 28)) := all_alloc w _
  have e3 : w.heap.size + 1 ≤ (w.alloc (.cells #[.slice none 0 0, .slice none 0 0, .int .i64 0, .int .i64 0] 28)).heap.size := by simp
  by_cases h4 : 400 < l.length
  · have eP : newP l = ⟨zeroT, 0, 2⟩ := by unfold newP; rw [if_pos h4]
    rw [eP]
    have h4' : (400 : Int) < l.length := by omega
    clear eP HO HR
    go_enter Try.func16, Try.ntmps16
    go_upto_region 1 with fail
    generalize w.alloc (.cells #[.slice none 0 0, .slice none 0 0, .int .i64 0, .int .i64 0] 28) = A at hY hA0 e3 ⊢
    have z0 := cellW hY.out 0 _ rfl A (Below.refl _ _); have z1 := cellW hY.out 1 _ rfl A (Below.refl _ _); have z2 := cellW hY.out 2 _ rfl A (Below.refl _ _); have z3 := cellW hY.out 3 _ rfl A (Below.refl _ _); have fz0 := frozenW hY.out 0 A (Below.refl _ _); have fz1 := frozenW hY.out 1 A (Below.refl _ _); have fz2 := frozenW hY.out 2 A (Below.refl _ _); have fz3 := frozenW hY.out 3 A (Below.refl _ _)
    go_wp2
    exact bodyPost_ret (v := .agg #[.slice none 0 0, .slice none 0 0, .int .i64 0, .int .i64 2]) (by simp [results, Try.results16, go_sem, z0, z1, z2, z3]; try rfl) rfl ⟨_, _, rfl, ⟨OwnI.nil _ _, OwnI.nil _ _, fun a b h => by cases h⟩, (by first | exact hA0 | exact hA0.setCell (by simp only; omega) _ | exact (hA0.setCell (by simp only; omega) _).setCell (by simp only; omega) _ | exact ((((hA0.setCell (by simp only; omega) _).setCell (by simp only; omega) _).setCell (by simp only; omega) _).setCell (by simp only; omega) _))⟩
  have h4' : ¬ (400 : Int) < l.length := by omega
  by_cases h1 : l.length < 1
  · have eP : newP l = ⟨zeroT, 0, 1⟩ := by unfold newP; rw [if_neg h4, if_pos (.inl h1)]
    rw [eP]
    have h1' : (l.length : Int) < 1 := by omega
    clear eP HO HR
    go_enter Try.func16, Try.ntmps16
    go_upto_region 1 with fail
    generalize w.alloc (.cells #[.slice none 0 0, .slice none 0 0, .int .i64 0, .int .i64 0] 28) = A at hY hA0 e3 ⊢
    have z0 := cellW hY.out 0 _ rfl A (Below.refl _ _); have z1 := cellW hY.out 1 _ rfl A (Below.refl _ _); have z2 := cellW hY.out 2 _ rfl A (Below.refl _ _); have z3 := cellW hY.out 3 _ rfl A (Below.refl _ _); have fz0 := frozenW hY.out 0 A (Below.refl _ _); have fz1 := frozenW hY.out 1 A (Below.refl _ _); have fz2 := frozenW hY.out 2 A (Below.refl _ _); have fz3 := frozenW hY.out 3 A (Below.refl _ _)
    go_wp2
    exact bodyPost_ret (v := .agg #[.slice none 0 0, .slice none 0 0, .int .i64 0, .int .i64 1]) (by simp [results, Try.results16, go_sem, z0, z1, z2, z3]; try rfl) rfl ⟨_, _, rfl, ⟨OwnI.nil _ _, OwnI.nil _ _, fun a b h => by cases h⟩, (by first | exact hA0 | exact hA0.setCell (by simp only; omega) _ | exact (hA0.setCell (by simp only; omega) _).setCell (by simp only; omega) _ | exact ((((hA0.setCell (by simp only; omega) _).setCell (by simp only; omega) _).setCell (by simp only; omega) _).setCell (by simp only; omega) _))⟩
  have h1' : ¬ (l.length : Int) < 1 := by omega
  cases hp : hopsB l with
  | false =>
    rw [hp] at HR
    have eP : newP l = ⟨zeroT, 0, 1⟩ := by unfold newP; rw [if_neg h4, if_pos (.inr hp)]
    rw [eP]
    clear eP hp HO
    go_enter Try.func16, Try.ntmps16
    go_upto_region 1 with fail
    generalize w.alloc (.cells #[.slice none 0 0, .slice none 0 0, .int .i64 0, .int .i64 0] 28) = A at hY hA0 e3 ⊢
    have z0 := cellW hY.out 0 _ rfl A (Below.refl _ _); have z1 := cellW hY.out 1 _ rfl A (Below.refl _ _); have z2 := cellW hY.out 2 _ rfl A (Below.refl _ _); have z3 := cellW hY.out 3 _ rfl A (Below.refl _ _); have fz0 := frozenW hY.out 0 A (Below.refl _ _); have fz1 := frozenW hY.out 1 A (Below.refl _ _); have fz2 := frozenW hY.out 2 A (Below.refl _ _); have fz3 := frozenW hY.out 3 A (Below.refl _ _)
    go_wp2_with (go_at_call 50; refine (HR.out _ hA0).mono ?_; rintro e w1 ⟨rfl, rfl⟩)
    exact bodyPost_ret (v := .agg #[.slice none 0 0, .slice none 0 0, .int .i64 0, .int .i64 1]) (by simp [results, Try.results16, go_sem, z0, z1, z2, z3]; try rfl) rfl ⟨_, _, rfl, ⟨OwnI.nil _ _, OwnI.nil _ _, fun a b h => by cases h⟩, (by first | exact hA0 | exact hA0.setCell (by simp only; omega) _ | exact (hA0.setCell (by simp only; omega) _).setCell (by simp only; omega) _ | exact ((((hA0.setCell (by simp only; omega) _).setCell (by simp only; omega) _).setCell (by simp only; omega) _).setCell (by simp only; omega) _))⟩
  | true =>
    rw [hp] at HR
    have eP : newP l = ⟨⟨l, []⟩, 0, 0⟩ := by unfold newP; rw [if_neg h4, if_neg (by rintro (h | h); exact h1 h; rw [hp] at h; cases h)]
    rw [eP]
    clear eP hp
    have HAP : Hid (∀ (W : World) (G : Nat) (ty : TypeId), Below w.heap.size w W → W.heap[G]? = some (.cells #[] 2 (0, 0)) → ∃ G' c w', (Builtin.append_ #[23, 23] ty #[.slice (some ⟨G, 0, none⟩) 0 0, .slice p1 l.length c1]).run Try.prog W = .ok (.slice (some ⟨G', 0, none⟩) l.length c) w' ∧ (G' = G ∨ G' = W.heap.size) ∧ (∀ base, base ≤ G → OwnI w' base (.slice (some ⟨G', 0, none⟩) l.length c) l) ∧ Below W.heap.size W w') := fun W G ty hW hG => app_empty W ty G hG B _ l (HO.out.below hW) (by omega)
    clear HO
    go_enter Try.func16, Try.ntmps16
    go_upto_region 1 with fail
    generalize w.alloc (.cells #[.slice none 0 0, .slice none 0 0, .int .i64 0, .int .i64 0] 28) = w1 at hY hA0 e3 ⊢
    go_upto_region 5 with (go_at_call 50; refine (HR.out _ hA0).mono ?_; rintro e w1 ⟨rfl, rfl⟩)
    have hY0 : Hid _ := blk hY.out (all_alloc w1 (.cells #[] 2))
    have hB2 := keepB hA0 (Nat.le_refl _) (all_alloc w1 (.cells #[] 2))
    obtain ⟨G', cu, w2, hrun, hG', hown, hb2⟩ := HAP.out _ w1.heap.size 23 hB2 (heap_alloc_new w1 _)
    have hO2 : Hid (OwnT w2 (w.heap.size + 1) _ _ _) := OwnT.one (hown (w.heap.size + 1) (by omega))
    have hY1 : Hid _ := blk hY0.out hb2
    have hB3 : Hid (Below w.heap.size w w2) := keepB hB2 (Nat.le_refl _) hb2
    have z0 := cellW hY1.out 0 _ rfl w2 (Below.refl _ _); have z1 := cellW hY1.out 1 _ rfl w2 (Below.refl _ _); have z2 := cellW hY1.out 2 _ rfl w2 (Below.refl _ _); have z3 := cellW hY1.out 3 _ rfl w2 (Below.refl _ _); have fz0 := frozenW hY1.out 0 w2 (Below.refl _ _); have fz1 := frozenW hY1.out 1 w2 (Below.refl _ _); have fz2 := frozenW hY1.out 2 w2 (Below.refl _ _); have fz3 := frozenW hY1.out 3 w2 (Below.refl _ _)
    clear hG' hown hb2 HAP
    go_wp2_with (at_builtin; refine wpList_plain rfl fun K hK => ?_; unfold Oper.wp; simp [execOp, resolve, invoke, builtin, Act.eval, hrun, Result.andThen]; refine hK _ _ ?_)
    exact bodyPost_ret (v := .agg #[.slice (some ⟨G', 0, none⟩) l.length cu, .slice none 0 0, .int .i64 0, .int .i64 0]) (by simp [results, Try.results16, go_sem, z0, z1, z2, z3]; try rfl) rfl ⟨_, _, rfl, OwnT.leT (OwnT.farT (OwnT.farT (OwnT.farT (OwnT.farT hO2.out (by simp only; omega) _) (by simp only; omega) _) (by simp only; omega) _) (by simp only; omega) _) (by omega), (by first | exact hB3.out | exact hB3.out.setCell (by simp only; omega) _ | exact (hB3.out.setCell (by simp only; omega) _).setCell (by simp only; omega) _ | exact ((((hB3.out.setCell (by simp only; omega) _).setCell (by simp only; omega) _).setCell (by simp only; omega) _).setCell (by simp only; omega) _))⟩
end Go.Proofs.Ytineecongiplgaa
