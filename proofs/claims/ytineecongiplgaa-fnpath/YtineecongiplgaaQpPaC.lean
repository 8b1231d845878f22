/- THE BYTES OF A PATH: the program's and the model's. Written by mkpac.py. -/
import Derived.Test.YtineecongiplgaaQpPaB
import Derived.Test.YtineecongiplgaaQpPaSh
namespace Go.Proofs.Ytineecongiplgaa
open Go.RowKit
set_option linter.unusedVariables false
set_option linter.unusedSimpArgs false

theorem OwnU.src {w : World} {base : Nat} {v : Value} {zs : List Int} (h : OwnU w base v zs) : SrcU w v zs := by
  obtain ⟨p, c, rfl⟩ : ∃ p c, v = .slice p zs.length c := by
    obtain ⟨_, ⟨rfl, h0⟩ | ⟨g, cap, cur, rfl, _⟩⟩ := h
    · rw [h0]; exact ⟨_, _, rfl⟩
    · exact ⟨_, _, rfl⟩
  refine ⟨p, c, rfl, fun k hk => ?_⟩
  obtain ⟨g, e, _, h1, h2, _⟩ := h.cell k hk
  exact ⟨g, 0, e, h1, by rw [Nat.zero_add]; exact h2⟩
theorem SrcU.shape {w : World} {v : Value} {zs : List Int} (h : SrcU w v zs) : ∃ p c, v = .slice p zs.length c := by
  obtain ⟨p, c, e, _⟩ := h
  exact ⟨p, c, e⟩
set_option maxRecDepth 100000 in
set_option maxHeartbeats 3200000 in
theorem pathBytes_any (t : Tb) (B : Nat) (v1 v2 : Value) (w : World) (hl1 : t.cs.length ≤ 1500000) (hl2 : t.rs.length ≤ 1500000) (h : OwnT w B v1 v2 t) :
    Calls Try.prog 12 #[.agg #[v1, v2]] w fun e w' => e = .returned (.string (pathB t)) ∧ Below w.heap.size w w' := by
  obtain ⟨p1, c1, rfl⟩ := h.c.shape
  obtain ⟨p2, c2, rfl⟩ := h.r.shape
  have HR : Hid (∀ W, Below w.heap.size w W → Calls Try.prog 23 #[.agg #[.slice p1 t.cs.length c1, .slice p2 t.rs.length c2]] W fun e w' => e = .returned (.bool t.path) ∧ Below W.heap.size W w') := fun W hW => pathRight_any t p1 p2 c1 c2 W hl1 hl2 (h.c.below hW).row (h.r.below hW).row
  have HO : Hid (OwnT _ _ _ _ _) := h
  clear h
  have hX : Hid _ := heap_alloc_new w (.cells #[.slice p1 t.cs.length c1, .slice p2 t.rs.length c2] 26)
  have hA0 : Below w.heap.size w (w.alloc (.cells #[.slice p1 t.cs.length c1, .slice p2 t.rs.length c2] 26)) := all_alloc w _
  cases hp : t.path with
  | false =>
    rw [hp] at HR
    have eP : pathB t = ByteArray.empty := by unfold pathB; rw [hp]; rfl
    rw [eP]
    clear eP hp HO
    go_enter Try.func12, Try.ntmps12
    go_upto_region 1 with fail
    generalize w.alloc (.cells #[.slice p1 t.cs.length c1, .slice p2 t.rs.length c2] 26) = A at hX hA0 ⊢
    have x0 := cellW hX.out 0 _ rfl A (Below.refl _ _); have x1 := cellW hX.out 1 _ rfl A (Below.refl _ _)
    go_wp2_with (go_at_call 23; refine (HR.out _ hA0).mono ?_; rintro e w1 ⟨rfl, hb1⟩)
    go_ret
    exact ⟨rfl, keepB hA0 (Nat.le_refl _) hb1⟩
  | true =>
    rw [hp] at HR
    have eP : pathB t = ⟨(pathL t).toArray⟩ := by unfold pathB; rw [hp]; rfl
    obtain ⟨⟨ha1, ha2⟩, hn⟩ := (Tb.path_iff t).1 hp
    rw [eP]
    clear eP hp
    have hn1 : t.cs.length ≤ 5 := by omega
    have hn2 : t.rs.length ≤ 5 := by omega
    have H1 : Hid (∀ W, Below w.heap.size w W → Calls Try.prog 47 #[.slice p1 t.cs.length c1] W fun e w' => ∃ v', e = .returned v' ∧ OwnU w' W.heap.size v' ((halfL t.cs).map fun b => (b.toNat : Int)) ∧ Below W.heap.size W w') := fun W hW => halfBytes_any _ t.cs W hn1 ha1 (HO.out.c.below hW).row
    have H2 : Hid (∀ W, Below w.heap.size w W → Calls Try.prog 47 #[.slice p2 t.rs.length c2] W fun e w' => ∃ v', e = .returned v' ∧ OwnU w' W.heap.size v' ((halfL t.rs).map fun b => (b.toNat : Int)) ∧ Below W.heap.size W w') := fun W hW => halfBytes_any _ t.rs W hn2 ha2 (HO.out.r.below hW).row
    have e5 : ((halfL t.cs).map fun b => (b.toNat : Int)).length = 5 := by rw [List.length_map, halfL_len _ hn1]
    have e6 : ((halfL t.rs).map fun b => (b.toNat : Int)).length = 5 := by rw [List.length_map, halfL_len _ hn2]
    have HTG : Hid (∀ (W : World) (g : Nat) (u1 u2 : Value), W.heap[g]? = some (.cells #[u1, u2] 22 (0, 0)) → SrcU W u1 ((halfL t.cs).map fun b => (b.toNat : Int)) → SrcU W u2 ((halfL t.rs).map fun b => (b.toNat : Int)) → Calls Try.prog 46 #[.slice (some ⟨g, 0, none⟩) 2 2] W fun e w' => ∃ v, e = .returned v ∧ OwnU w' W.heap.size v ((pathL t).map fun b => (b.toNat : Int)) ∧ Below W.heap.size W w') := fun W g u1 u2 hg h1 h2 => by
      have := together_U g (0, 0) u1 u2 _ _ W hg h1 h2 (by rw [e5]; omega) (by rw [e6]; omega)
      unfold pathL
      rw [List.map_append]
      exact this
    generalize ((halfL t.cs).map fun b => (b.toNat : Int)) = a1 at H1 HTG e5
    generalize ((halfL t.rs).map fun b => (b.toNat : Int)) = a2 at H2 HTG e6
    generalize pathL t = PL at HTG ⊢
    clear HO ha1 ha2 hn hn1 hn2
    go_enter Try.func12, Try.ntmps12
    go_upto_region 1 with fail
    generalize w.alloc (.cells #[.slice p1 t.cs.length c1, .slice p2 t.rs.length c2] 26) = A0 at hX hA0 ⊢
    have x0 := cellW hX.out 0 _ rfl A0 (Below.refl _ _); have x1 := cellW hX.out 1 _ rfl A0 (Below.refl _ _)
    go_upto_region 3 with (go_at_call 23; refine (HR.out _ hA0).mono ?_; rintro e A ⟨rfl, hb1⟩)
    replace hX : Hid _ := blk hX.out hb1
    have hA := keepB hA0 (Nat.le_refl _) hb1
    clear x0 x1 hA0 hb1 HR
    have x0 := cellW hX.out 0 _ rfl
    have x1 := cellW hX.out 1 _ rfl
    refine wp_region_held_drew (S := (fun w' => Below A.heap.size A w')) (by kernel_rfl) ?_ (fun hHeld => ?_)
    · (try dsimp only); exact Below.drew (Below.refl _ _)
    have hB : Below A.heap.size A (World.drew A) := Below.drew (Below.refl _ _)
    generalize World.drew A = W0 at hB hHeld ⊢
    refine yieldH (i := 0) (v := ?_) rfl (by kernel_rfl) (by kernel_rfl) (by kernel_rfl) (fun _ _ _ h => h) (by rfl) ?_ (by assumption) ?_; rotate_left
    · intro w' hSw; (try dsimp only at hSw); go_simp; (try with_reducible rfl)
    try simp only [Act.put, List.setIfInBounds_toArray, List.set_cons_zero, List.set_cons_succ, List.getElem_toArray, List.getElem_cons_succ, List.getElem_cons_zero]
    refine yieldH (i := 1) (v := ?_) rfl (by kernel_rfl) (by kernel_rfl) (by kernel_rfl) (fun _ _ _ h => h) (by rfl) ?_ (by assumption) ?_; rotate_left
    · intro w' hSw; (try dsimp only at hSw); go_simp; (try with_reducible rfl)
    try simp only [Act.put, List.setIfInBounds_toArray, List.set_cons_zero, List.set_cons_succ, List.getElem_toArray, List.getElem_cons_succ, List.getElem_cons_zero]
    refine yieldH (i := 3) (v := ?_) rfl (by kernel_rfl) (by kernel_rfl) (by kernel_rfl) (fun _ _ _ h => h) (by rfl) ?_ (by assumption) ?_; rotate_left
    · intro w' hSw; (try dsimp only at hSw); go_simp; (try with_reducible rfl)
    try simp only [Act.put, List.setIfInBounds_toArray, List.set_cons_zero, List.set_cons_succ, List.getElem_toArray, List.getElem_cons_succ, List.getElem_cons_zero]
    refine yieldH (i := 4) (v := ?_) rfl (by kernel_rfl) (by kernel_rfl) (by kernel_rfl) (fun _ _ _ h => h) (by rfl) ?_ (by assumption) ?_; rotate_left
    · intro w' hSw; (try dsimp only at hSw); go_simp; (try with_reducible rfl)
    try simp only [Act.put, List.setIfInBounds_toArray, List.set_cons_zero, List.set_cons_succ, List.getElem_toArray, List.getElem_cons_succ, List.getElem_cons_zero]
    refine wpAnyH_ready (rs := [2]) (by kernel_rfl) (by simp) ?_
    refine AllReadyH.cons rfl (fun Kc hK => ?_) AllReadyH.nil
    go_simp
    go_at_call 47; refine (H1.out _ (keepB hA (Nat.le_refl _) hB)).mono ?_; rintro e W1 ⟨u1, rfl, own1, hb⟩; obtain ⟨pa, ca, hua⟩ := own1.src.shape; rw [e5] at hua; subst hua
    (try dsimp only)
    refine hK.out _ _ ?_ (fun hHeld => ?_)
    · (try dsimp only); exact keepB hB (Nat.le_refl _) hb
    clear hK Kc
    try simp only [Act.put, List.setIfInBounds_toArray, List.set_cons_zero, List.set_cons_succ, List.getElem_toArray, List.getElem_cons_succ, List.getElem_cons_zero]
    have o1 : Hid (OwnU _ _ _ a1) := own1
    replace hB := keepB hB (Nat.le_refl _) hb
    clear own1 hb
    refine wpAnyH_ready (rs := [5]) (by kernel_rfl) (by simp) ?_
    refine AllReadyH.cons rfl (fun Kc hK => ?_) AllReadyH.nil
    go_simp
    go_at_call 47; refine (H2.out _ (keepB hA (Nat.le_refl _) hB)).mono ?_; rintro e W2 ⟨u2, rfl, own2, hb⟩; obtain ⟨pb, cb, hub⟩ := own2.src.shape; rw [e6] at hub; subst hub
    (try dsimp only)
    refine hK.out _ _ ?_ (fun hHeld => ?_)
    · (try dsimp only); exact keepB hB (Nat.le_refl _) hb
    clear hK Kc
    try simp only [Act.put, List.setIfInBounds_toArray, List.set_cons_zero, List.set_cons_succ, List.getElem_toArray, List.getElem_cons_succ, List.getElem_cons_zero]
    replace o1 : Hid (OwnU W2 _ _ a1) := OwnU.below o1.out hb
    have o2 : Hid (OwnU _ _ _ a2) := own2
    replace hB := keepB hB (Nat.le_refl _) hb
    clear own2 hb
    refine wpAnyH_ready (rs := [6]) (by kernel_rfl) (by simp) ?_
    refine AllReadyH.cons rfl (fun Kc hK => ?_) AllReadyH.nil
    go_simp
    (try dsimp only)
    refine hK.out _ _ ?_ (fun hHeld => ?_)
    · (try dsimp only); exact keepB hB (Nat.le_refl _) (all_alloc W2 (.cells #[.slice pa 5 ca, .slice pb 5 cb] 22))
    clear hK Kc
    try simp only [Act.put, List.setIfInBounds_toArray, List.set_cons_zero, List.set_cons_succ, List.getElem_toArray, List.getElem_cons_succ, List.getElem_cons_zero]
    have rB : Hid _ := heap_alloc_new W2 (.cells #[.slice pa 5 ca, .slice pb 5 cb] 22)
    replace o1 : Hid (OwnU _ _ _ a1) := OwnU.below o1.out (all_alloc W2 (.cells #[.slice pa 5 ca, .slice pb 5 cb] 22))
    replace o2 : Hid (OwnU _ _ _ a2) := OwnU.below o2.out (all_alloc W2 (.cells #[.slice pa 5 ca, .slice pb 5 cb] 22))
    replace hB := keepB hB (Nat.le_refl _) (all_alloc W2 (.cells #[.slice pa 5 ca, .slice pb 5 cb] 22))
    generalize W2.alloc (.cells #[.slice pa 5 ca, .slice pb 5 cb] 22) = W3 at rB o1 o2 hB hHeld ⊢
    refine wpAnyH_ready (rs := [7]) (by kernel_rfl) (by simp) ?_
    refine AllReadyH.cons rfl (fun Kc hK => ?_) AllReadyH.nil
    go_simp
    go_at_call 46; refine (HTG.out _ _ _ _ rB.out o1.out.src o2.out.src).mono ?_; rintro e W4 ⟨u4, rfl, own4, hb⟩; obtain ⟨pc, cc, rfl⟩ := own4.src.shape; have hcv := OwnU.text own4; rw [List.length_map] at hcv
    (try dsimp only)
    refine hK.out _ _ ?_ (fun hHeld => ?_)
    · (try dsimp only); exact keepB hB (Nat.le_refl _) hb
    clear hK Kc
    try simp only [Act.put, List.setIfInBounds_toArray, List.set_cons_zero, List.set_cons_succ, List.getElem_toArray, List.getElem_cons_succ, List.getElem_cons_zero]
    replace hB := keepB hB (Nat.le_refl _) hb
    refine wpAnyH_ready (rs := [8]) (by kernel_rfl) (by simp) ?_
    refine AllReadyH.cons rfl (fun Kc hK => ?_) AllReadyH.nil
    go_simp
    (try dsimp only)
    refine hK.out _ _ ?_ (fun hHeld => ?_)
    · (try dsimp only); exact hB
    clear hK Kc
    try simp only [Act.put, List.setIfInBounds_toArray, List.set_cons_zero, List.set_cons_succ, List.getElem_toArray, List.getElem_cons_succ, List.getElem_cons_zero]
    refine yieldH (i := 9) (v := ?_) rfl (by kernel_rfl) (by kernel_rfl) (by kernel_rfl) (fun _ _ _ h => h) (by rfl) ?_ (by assumption) ?_; rotate_left
    · intro w' hSw; (try dsimp only at hSw); go_simp; (try with_reducible rfl)
    try simp only [Act.put, List.setIfInBounds_toArray, List.set_cons_zero, List.set_cons_succ, List.getElem_toArray, List.getElem_cons_succ, List.getElem_cons_zero]
    refine wpAnyH_done (by kernel_rfl) ?_ _
    go_wp2
    go_ret
    exact ⟨rfl, keepB hA (Nat.le_refl _) hB⟩
set_option maxRecDepth 100000 in
set_option maxHeartbeats 3200000 in
theorem specPathBytes_any (t : Tb) (B : Nat) (v1 v2 : Value) (w : World) (hl1 : t.cs.length ≤ 1500000) (hl2 : t.rs.length ≤ 1500000) (h : OwnT w B v1 v2 t) :
    Calls Try.prog 21 #[.agg #[v1, v2]] w fun e w' => e = .returned (.string (pathB t)) ∧ Below w.heap.size w w' := by
  obtain ⟨p1, c1, rfl⟩ := h.c.shape
  obtain ⟨p2, c2, rfl⟩ := h.r.shape
  have HR : Hid (∀ W, Below w.heap.size w W → Calls Try.prog 24 #[.agg #[.slice p1 t.cs.length c1, .slice p2 t.rs.length c2]] W fun e w' => e = .returned (.bool t.path) ∧ Below W.heap.size W w') := fun W hW => specPathRight_any t p1 p2 c1 c2 W hl1 hl2 (h.c.below hW).row (h.r.below hW).row
  have HO : Hid (OwnT _ _ _ _ _) := h
  clear h
  have hX : Hid _ := heap_alloc_new w (.cells #[.slice p1 t.cs.length c1, .slice p2 t.rs.length c2] 26)
  have hA0 : Below w.heap.size w (w.alloc (.cells #[.slice p1 t.cs.length c1, .slice p2 t.rs.length c2] 26)) := all_alloc w _
  cases hp : t.path with
  | false =>
    rw [hp] at HR
    have eP : pathB t = ByteArray.empty := by unfold pathB; rw [hp]; rfl
    rw [eP]
    clear eP hp HO
    go_enter Try.func21, Try.ntmps21
    go_upto_region 1 with fail
    generalize w.alloc (.cells #[.slice p1 t.cs.length c1, .slice p2 t.rs.length c2] 26) = A at hX hA0 ⊢
    have x0 := cellW hX.out 0 _ rfl A (Below.refl _ _); have x1 := cellW hX.out 1 _ rfl A (Below.refl _ _)
    go_wp2_with (go_at_call 24; refine (HR.out _ hA0).mono ?_; rintro e w1 ⟨rfl, hb1⟩)
    go_ret
    exact ⟨rfl, keepB hA0 (Nat.le_refl _) hb1⟩
  | true =>
    rw [hp] at HR
    have eP : pathB t = ⟨(pathL t).toArray⟩ := by unfold pathB; rw [hp]; rfl
    obtain ⟨⟨ha1, ha2⟩, hn⟩ := (Tb.path_iff t).1 hp
    rw [eP]
    clear eP hp
    have hn1 : t.cs.length ≤ 5 := by omega
    have hn2 : t.rs.length ≤ 5 := by omega
    have H1 : Hid (∀ W, Below w.heap.size w W → Calls Try.prog 54 #[.slice p1 t.cs.length c1] W fun e w' => e = .returned (.string ⟨(halfL t.cs).toArray⟩) ∧ Below W.heap.size W w') := fun W hW => l08Five_any _ t.cs W hn1 ha1 (HO.out.c.below hW).row
    have H2 : Hid (∀ W, Below w.heap.size w W → Calls Try.prog 54 #[.slice p2 t.rs.length c2] W fun e w' => e = .returned (.string ⟨(halfL t.rs).toArray⟩) ∧ Below W.heap.size W w') := fun W hW => l08Five_any _ t.rs W hn2 ha2 (HO.out.r.below hW).row
    have e1 : (⟨(halfL t.cs).toArray⟩ : ByteArray).size = 5 := halfL_len _ hn1
    have e2 : (⟨(halfL t.rs).toArray⟩ : ByteArray).size = 5 := halfL_len _ hn2
    have e3 : Hid ((⟨(halfL t.cs).toArray⟩ : ByteArray) ++ ⟨(halfL t.rs).toArray⟩ = ⟨(pathL t).toArray⟩) := bytes_two _ _
    generalize (⟨(halfL t.cs).toArray⟩ : ByteArray) = T1 at H1 e1 e3
    generalize (⟨(halfL t.rs).toArray⟩ : ByteArray) = T2 at H2 e2 e3
    have e4 : ¬ 9223372036854775807 < T1.size + T2.size := by omega
    generalize pathL t = PL at e3 ⊢
    clear HO ha1 ha2 hn hn1 hn2 e1 e2
    go_enter Try.func21, Try.ntmps21
    go_upto_region 1 with fail
    generalize w.alloc (.cells #[.slice p1 t.cs.length c1, .slice p2 t.rs.length c2] 26) = A0 at hX hA0 ⊢
    have x0 := cellW hX.out 0 _ rfl A0 (Below.refl _ _); have x1 := cellW hX.out 1 _ rfl A0 (Below.refl _ _)
    go_upto_region 3 with (go_at_call 24; refine (HR.out _ hA0).mono ?_; rintro e A ⟨rfl, hb1⟩)
    replace hX : Hid _ := blk hX.out hb1
    have hA := keepB hA0 (Nat.le_refl _) hb1
    clear x0 x1 hA0 hb1 HR
    have x0 := cellW hX.out 0 _ rfl
    have x1 := cellW hX.out 1 _ rfl
    refine wp_region_held_drew (S := (fun w' => Below A.heap.size A w')) (by kernel_rfl) ?_ (fun hHeld => ?_)
    · (try dsimp only); exact Below.drew (Below.refl _ _)
    have hB : Below A.heap.size A (World.drew A) := Below.drew (Below.refl _ _)
    generalize World.drew A = W0 at hB hHeld ⊢
    refine yieldH (i := 0) (v := ?_) rfl (by kernel_rfl) (by kernel_rfl) (by kernel_rfl) (fun _ _ _ h => h) (by rfl) ?_ (by assumption) ?_; rotate_left
    · intro w' hSw; (try dsimp only at hSw); go_simp; (try with_reducible rfl)
    try simp only [Act.put, List.setIfInBounds_toArray, List.set_cons_zero, List.set_cons_succ, List.getElem_toArray, List.getElem_cons_succ, List.getElem_cons_zero]
    refine yieldH (i := 1) (v := ?_) rfl (by kernel_rfl) (by kernel_rfl) (by kernel_rfl) (fun _ _ _ h => h) (by rfl) ?_ (by assumption) ?_; rotate_left
    · intro w' hSw; (try dsimp only at hSw); go_simp; (try with_reducible rfl)
    try simp only [Act.put, List.setIfInBounds_toArray, List.set_cons_zero, List.set_cons_succ, List.getElem_toArray, List.getElem_cons_succ, List.getElem_cons_zero]
    refine yieldH (i := 3) (v := ?_) rfl (by kernel_rfl) (by kernel_rfl) (by kernel_rfl) (fun _ _ _ h => h) (by rfl) ?_ (by assumption) ?_; rotate_left
    · intro w' hSw; (try dsimp only at hSw); go_simp; (try with_reducible rfl)
    try simp only [Act.put, List.setIfInBounds_toArray, List.set_cons_zero, List.set_cons_succ, List.getElem_toArray, List.getElem_cons_succ, List.getElem_cons_zero]
    refine yieldH (i := 4) (v := ?_) rfl (by kernel_rfl) (by kernel_rfl) (by kernel_rfl) (fun _ _ _ h => h) (by rfl) ?_ (by assumption) ?_; rotate_left
    · intro w' hSw; (try dsimp only at hSw); go_simp; (try with_reducible rfl)
    try simp only [Act.put, List.setIfInBounds_toArray, List.set_cons_zero, List.set_cons_succ, List.getElem_toArray, List.getElem_cons_succ, List.getElem_cons_zero]
    refine wpAnyH_ready (rs := [2]) (by kernel_rfl) (by simp) ?_
    refine AllReadyH.cons rfl (fun Kc hK => ?_) AllReadyH.nil
    go_simp
    go_at_call 54; refine (H1.out _ (keepB hA (Nat.le_refl _) hB)).mono ?_; rintro e W1 ⟨rfl, hb⟩
    (try dsimp only)
    refine hK.out _ _ ?_ (fun hHeld => ?_)
    · (try dsimp only); exact keepB hB (Nat.le_refl _) hb
    clear hK Kc
    try simp only [Act.put, List.setIfInBounds_toArray, List.set_cons_zero, List.set_cons_succ, List.getElem_toArray, List.getElem_cons_succ, List.getElem_cons_zero]
    replace hB := keepB hB (Nat.le_refl _) hb
    clear hb
    refine wpAnyH_ready (rs := [5]) (by kernel_rfl) (by simp) ?_
    refine AllReadyH.cons rfl (fun Kc hK => ?_) AllReadyH.nil
    go_simp
    go_at_call 54; refine (H2.out _ (keepB hA (Nat.le_refl _) hB)).mono ?_; rintro e W2 ⟨rfl, hb⟩
    (try dsimp only)
    refine hK.out _ _ ?_ (fun hHeld => ?_)
    · (try dsimp only); exact keepB hB (Nat.le_refl _) hb
    clear hK Kc
    try simp only [Act.put, List.setIfInBounds_toArray, List.set_cons_zero, List.set_cons_succ, List.getElem_toArray, List.getElem_cons_succ, List.getElem_cons_zero]
    replace hB := keepB hB (Nat.le_refl _) hb
    clear hb
    refine yieldH (i := 6) (v := ?_) rfl (by kernel_rfl) (by kernel_rfl) (by kernel_rfl) (fun _ _ _ h => h) (by rfl) ?_ (by assumption) ?_; rotate_left
    · intro w' hSw; (try dsimp only at hSw); go_simp; (try with_reducible rfl)
    try simp only [Act.put, List.setIfInBounds_toArray, List.set_cons_zero, List.set_cons_succ, List.getElem_toArray, List.getElem_cons_succ, List.getElem_cons_zero]
    refine yieldH (i := 7) (v := ?_) rfl (by kernel_rfl) (by kernel_rfl) (by kernel_rfl) (fun _ _ _ h => h) (by rfl) ?_ (by assumption) ?_; rotate_left
    · intro w' hSw; (try dsimp only at hSw); go_simp; (try with_reducible rfl)
    try simp only [Act.put, List.setIfInBounds_toArray, List.set_cons_zero, List.set_cons_succ, List.getElem_toArray, List.getElem_cons_succ, List.getElem_cons_zero]
    refine wpAnyH_done (by kernel_rfl) ?_ _
    go_wp2
    go_ret
    exact ⟨by rw [← e3.out]; rfl, keepB hA (Nat.le_refl _) hB⟩
end Go.Proofs.Ytineecongiplgaa
