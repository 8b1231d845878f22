/- A NEW SEGMENT: the model's. Written by mksegy.py. -/
import Derived.Test.YtklpaleghanhhaaQdSegF
import Derived.Test.YtklpaleghanhhaaQdSegS
namespace Go.Proofs.Ytklpaleghanhhaa
open Go.RowKit
set_option linter.unusedVariables false
set_option linter.unusedSimpArgs false

theorem newS_ok (a : Int) (h : addrB a = true) (w : World) : Calls Try.prog 97 #[.int .i64 a, .int .i64 0] w fun e w' => e = .returned (.agg #[.int .i64 a, .int .i64 0, .int .i64 0, .int .i64 0, .int .i64 0, .int .i64 0, .int .i64 0, .int .i64 0, .int .i64 0, .int .i64 0, .int .i64 0, .int .i64 0, .int .i64 0, .int .i64 0, .int .i64 0, .slice none 0 0, .slice none 0 0, .slice none 0 0, .slice none 0 0, .slice none 0 0, .int .i64 0]) ∧ Below w.heap.size w w' :=
  (specStationNew_any a 0 w).mono fun e w' hh => by
    have ho : okN a 0 = true := by unfold okN timeB; rw [h]; decide
    rw [ho] at hh
    exact ⟨hh.1, by first | exact hh.2 | exact hh.2.1 | exact hh.2.2⟩
theorem rows_ne {W : World} {b1 b2 k1 k2 n1 n2 : Nat} {e1 e2 : TypeId} {v1 v2 : Value} {x1 x2 : List Value} (h1 : W.ownsRow b1 e1 k1 v1 n1 x1) (h2 : W.ownsRow b2 e2 k2 v2 n2 x2) (he : e1 ≠ e2) : v1.ownBlock = none ∨ v1.ownBlock ≠ v2.ownBlock := by
  rcases h1.2 with ⟨rfl, _⟩ | ⟨g1, c1, cur1, rfl, _, hh1, _⟩
  · exact .inl rfl
  · refine .inr fun e => ?_
    rcases h2.2 with ⟨rfl, _⟩ | ⟨g2, c2, cur2, rfl, _, hh2, _⟩
    · cases e
    · have eg : g1 = g2 := Option.some.inj e
      subst eg
      rw [hh1] at hh2
      simp at hh2
      exact he hh2.2
theorem cells_of {W : World} {g : Nat} {L : List Value} {t : TypeId} (h : W.heap[g]? = some (.cells L.toArray t (0, 0))) : ∀ j u, L[j]? = some u → W.cell? ((⟨g, 0, none⟩ : Addr).add j) = some u := by
  intro j u hj
  rw [show (⟨g, 0, none⟩ : Addr).add j = ⟨g, j, none⟩ by unfold Addr.add; split <;> simp_all]
  simp [World.cell?, h, hj]
theorem flatS_more (l : List Int) (a : Int) : flatS (csN (l ++ [a])) = flatS (csN l) ++ stC (newS a 0) nilV := by
  rw [flatS_csN, flatS_csN, List.flatMap_append]
  simp
theorem flatU_more (l : List Int) (a : Int) : flatU (csN (l ++ [a])) = flatU (csN l) ++ [.bool true] := by
  rw [flatU_csN, flatU_csN, List.map_append]
  rfl
theorem l07Ill_any (n : Int) (w : World) : Calls Try.prog 95 #[.int .i64 n] w fun e w' => e = .returned (.agg #[.slice none 0 0, .slice none 0 0, .slice none 0 0, .slice none 0 0, .int .i64 n]) ∧ Below w.heap.size w w' := by
  have hR0 : Hid _ := heap_alloc_new w (.cells #[.slice none 0 0, .slice none 0 0, .slice none 0 0, .slice none 0 0, .int .i64 0] 91)
  have hA0 := all_alloc w (.cells #[.slice none 0 0, .slice none 0 0, .slice none 0 0, .slice none 0 0, .int .i64 0] 91)
  go_enter Try.func95, Try.ntmps95
  go_upto_region 1 with fail
  generalize w.alloc (.cells #[.slice none 0 0, .slice none 0 0, .slice none 0 0, .slice none 0 0, .int .i64 0] 91) = A at hR0 hA0 ⊢
  go_wp2_with (refine wpList_store_row rfl 91 (.tmp 2) (.tmp 4) rfl w.heap.size #[.slice none 0 0, .slice none 0 0, .slice none 0 0, .slice none 0 0, .int .i64 n] rfl rfl _ _ hR0.out (by kernel_rfl) rfl (by simp [Value.oneCell']) ?_)
  go_wp2
  have hYf := setRow_heap _ w.heap.size _ #[.slice none 0 0, .slice none 0 0, .slice none 0 0, .slice none 0 0, .int .i64 n] _ _ hR0.out
  have hAf : Below w.heap.size w _ := Below.setRow hA0 (g := w.heap.size) (Nat.le_refl _) #[.slice none 0 0, .slice none 0 0, .slice none 0 0, .slice none 0 0, .int .i64 n]
  exact bodyPost_ret (v := .agg #[.slice none 0 0, .slice none 0 0, .slice none 0 0, .slice none 0 0, .int .i64 n]) (results_cell_row Try.results95 _ _ w.heap.size _ _ _ _ rfl hYf Try.underlying91 rfl (by kernel_rfl)) rfl ⟨rfl, hAf⟩
set_option maxRecDepth 100000 in
set_option maxHeartbeats 6400000 in
theorem specSegmentNew_any (x : Value) (zs : List Int) (w : World) (hl : zs.length ≤ 1048576) (hx : RowI w x zs) :
    Calls Try.prog 55 #[x] w fun e w' => ∃ v1 v2, e = .returned (.agg #[v1, v2, .slice none 0 0, .slice none 0 0, .int .i64 (snCode zs)]) ∧ OwnSegB w' w.heap.size w'.heap.size v1 v2 (.slice none 0 0) (snSeg zs) ∧ Below w.heap.size w w' := by
  obtain ⟨i0, hi, hz0, hz1, hz2⟩ := info_parts infoSt19
  obtain ⟨j0, bi, bz0, bz1, bz2⟩ := info_parts infoBo
  have HX : Hid (∀ W, Below w.heap.size w W → RowI W x zs) := fun W hW => hx.below hW
  obtain ⟨px, cx, rfl, _⟩ := hx
  have hR0 : Hid _ := heap_alloc_new w (.cells #[.slice none 0 0, .slice none 0 0, .slice none 0 0, .slice none 0 0, .int .i64 0] 91)
  have hA0 := all_alloc w (.cells #[.slice none 0 0, .slice none 0 0, .slice none 0 0, .slice none 0 0, .int .i64 0] 91)
  have zA0 : (w.alloc (.cells #[.slice none 0 0, .slice none 0 0, .slice none 0 0, .slice none 0 0, .int .i64 0] 91)).heap.size = w.heap.size + 1 := by simp
  by_cases h4 : 400 < zs.length
  · have ec : snCode zs = 2 := by unfold snCode; rw [if_pos h4]
    have es : snSeg zs = ⟨[], [], []⟩ := by unfold snSeg; rw [if_neg (by rw [ec]; decide)]
    rw [ec, es]
    have h4' : (400 : Int) < (zs.length : Int) := by omega
    clear HX ec es zA0
    go_enter Try.func55, Try.ntmps55
    go_upto_region 1 with fail
    generalize w.alloc (.cells #[.slice none 0 0, .slice none 0 0, .slice none 0 0, .slice none 0 0, .int .i64 0] 91) = A at hR0 hA0 ⊢
    go_wp2_with (first
      | (go_at_call 95; refine (l07Ill_any 2 _).mono ?_; rintro e wi ⟨rfl, hbi⟩)
      | (refine wpList_store_row rfl 91 (.tmp 2) (.tmp 8) rfl w.heap.size #[.slice none 0 0, .slice none 0 0, .slice none 0 0, .slice none 0 0, .int .i64 2] rfl rfl _ _ (blk hR0.out hbi) (by kernel_rfl) rfl (by simp [Value.oneCell']) ?_))
    go_wp2
    have hYf := setRow_heap _ w.heap.size _ #[.slice none 0 0, .slice none 0 0, .slice none 0 0, .slice none 0 0, .int .i64 2] _ _ (blk hR0.out hbi)
    have hAf : Below w.heap.size w _ := Below.setRow (keepB hA0 (Nat.le_refl _) hbi) (g := w.heap.size) (Nat.le_refl _) #[.slice none 0 0, .slice none 0 0, .slice none 0 0, .slice none 0 0, .int .i64 2]
    exact bodyPost_ret (v := .agg #[.slice none 0 0, .slice none 0 0, .slice none 0 0, .slice none 0 0, .int .i64 2]) (results_cell_row Try.results55 _ _ w.heap.size _ _ _ _ rfl hYf Try.underlying91 rfl (by kernel_rfl)) rfl ⟨_, _, rfl, own_empty_seg _ _ hAf.size, hAf⟩
  have h4' : ¬ (400 : Int) < (zs.length : Int) := by omega
  by_cases h5 : 1 ≤ zs.length ∧ zs.length ≤ 4
  case neg =>
    have ec : snCode zs = 1 := by
      unfold snCode newOK
      rw [if_neg h4]
      by_cases h1 : 1 ≤ zs.length
      · rw [decide_eq_true h1, decide_eq_false (fun h => h5 ⟨h1, h⟩)]; rfl
      · rw [decide_eq_false h1]; rfl
    have es : snSeg zs = ⟨[], [], []⟩ := by unfold snSeg; rw [if_neg (by rw [ec]; decide)]
    rw [ec, es]
    clear HX ec es zA0
    by_cases h1 : (zs.length : Int) < 1
    · go_enter Try.func55, Try.ntmps55
      go_upto_region 1 with fail
      generalize w.alloc (.cells #[.slice none 0 0, .slice none 0 0, .slice none 0 0, .slice none 0 0, .int .i64 0] 91) = A at hR0 hA0 ⊢
      go_wp2_with (first
        | (go_at_call 95; refine (l07Ill_any 1 _).mono ?_; rintro e wi ⟨rfl, hbi⟩)
        | (refine wpList_store_row rfl 91 (.tmp 2) (.tmp 17) rfl w.heap.size #[.slice none 0 0, .slice none 0 0, .slice none 0 0, .slice none 0 0, .int .i64 1] rfl rfl _ _ (blk hR0.out hbi) (by kernel_rfl) rfl (by simp [Value.oneCell']) ?_))
      go_wp2
      have hYf := setRow_heap _ w.heap.size _ #[.slice none 0 0, .slice none 0 0, .slice none 0 0, .slice none 0 0, .int .i64 1] _ _ (blk hR0.out hbi)
      have hAf : Below w.heap.size w _ := Below.setRow (keepB hA0 (Nat.le_refl _) hbi) (g := w.heap.size) (Nat.le_refl _) #[.slice none 0 0, .slice none 0 0, .slice none 0 0, .slice none 0 0, .int .i64 1]
      exact bodyPost_ret (v := .agg #[.slice none 0 0, .slice none 0 0, .slice none 0 0, .slice none 0 0, .int .i64 1]) (results_cell_row Try.results55 _ _ w.heap.size _ _ _ _ rfl hYf Try.underlying91 rfl (by kernel_rfl)) rfl ⟨_, _, rfl, own_empty_seg _ _ hAf.size, hAf⟩
    · have h6 : (4 : Int) < (zs.length : Int) := by omega
      go_enter Try.func55, Try.ntmps55
      go_upto_region 1 with fail
      generalize w.alloc (.cells #[.slice none 0 0, .slice none 0 0, .slice none 0 0, .slice none 0 0, .int .i64 0] 91) = A at hR0 hA0 ⊢
      go_wp2_with (first
        | (go_at_call 95; refine (l07Ill_any 1 _).mono ?_; rintro e wi ⟨rfl, hbi⟩)
        | (refine wpList_store_row rfl 91 (.tmp 2) (.tmp 17) rfl w.heap.size #[.slice none 0 0, .slice none 0 0, .slice none 0 0, .slice none 0 0, .int .i64 1] rfl rfl _ _ (blk hR0.out hbi) (by kernel_rfl) rfl (by simp [Value.oneCell']) ?_))
      go_wp2
      have hYf := setRow_heap _ w.heap.size _ #[.slice none 0 0, .slice none 0 0, .slice none 0 0, .slice none 0 0, .int .i64 1] _ _ (blk hR0.out hbi)
      have hAf : Below w.heap.size w _ := Below.setRow (keepB hA0 (Nat.le_refl _) hbi) (g := w.heap.size) (Nat.le_refl _) #[.slice none 0 0, .slice none 0 0, .slice none 0 0, .slice none 0 0, .int .i64 1]
      exact bodyPost_ret (v := .agg #[.slice none 0 0, .slice none 0 0, .slice none 0 0, .slice none 0 0, .int .i64 1]) (results_cell_row Try.results55 _ _ w.heap.size _ _ _ _ rfl hYf Try.underlying91 rfl (by kernel_rfl)) rfl ⟨_, _, rfl, own_empty_seg _ _ hAf.size, hAf⟩
  have h1 : ¬ (zs.length : Int) < 1 := by omega
  have h6 : ¬ (4 : Int) < (zs.length : Int) := by omega
  have HC1 : Hid (zs.all addrB = false → snCode zs = 1 ∧ snSeg zs = ⟨[], [], []⟩) := fun h => by
    have ec : snCode zs = 1 := by unfold snCode newOK; rw [if_neg h4, h]; simp
    exact ⟨ec, by unfold snSeg; rw [if_neg (by rw [ec]; decide)]⟩
  have HC2 : Hid (riseQ zs = false → snCode zs = 1 ∧ snSeg zs = ⟨[], [], []⟩) := fun h' => by
    have ec : snCode zs = 1 := by unfold snCode newOK; rw [if_neg h4, h']; simp
    exact ⟨ec, by unfold snSeg; rw [if_neg (by rw [ec]; decide)]⟩
  have HC3 : Hid (zs.all addrB = true → riseQ zs = true → snCode zs = 0 ∧ snSeg zs = segNew zs) := fun h h' => by
    have ec : snCode zs = 0 := by unfold snCode newOK; rw [if_neg h4, h, h', decide_eq_true h5.1, decide_eq_true h5.2]; rfl
    exact ⟨ec, by unfold snSeg; rw [if_pos ec]⟩
  generalize snCode zs = PC at HC1 HC2 HC3 ⊢
  generalize snSeg zs = PS at HC1 HC2 HC3 ⊢
  have hn4 : zs.length ≤ 4 := h5.2
  have hn1 : 1 ≤ zs.length := h5.1
  clear h4 h5
  go_enter Try.func55, Try.ntmps55
  go_upto_region 1 with fail
  generalize w.alloc (.cells #[.slice none 0 0, .slice none 0 0, .slice none 0 0, .slice none 0 0, .int .i64 0] 91) = A at hR0 hA0 zA0 ⊢
  go_upto_region 6 with fail
  have hC1 : Hid _ := heap_alloc_new A (.cells #[.slice none 0 0, .slice none 0 0, .slice none 0 0] 47)
  have hb1 := all_alloc A (.cells #[.slice none 0 0, .slice none 0 0, .slice none 0 0] 47)
  generalize A.alloc (.cells #[.slice none 0 0, .slice none 0 0, .slice none 0 0] 47) = A2 at hC1 hb1 ⊢
  have hR1 : Hid _ := blk hR0.out hb1
  have hA1 := keepB hA0 (Nat.le_refl _) hb1
  rw [zA0] at *
  clear hR0 hA0 hb1 zA0
  go_wp2
  go_loopw [4] (fun i wr => ∃ k : Nat, k ≤ zs.length ∧ i = .int .i64 k ∧ Hid ((zs.take k).all addrB = true) ∧ Hid ((List.range k).all (riseF zs) = true) ∧ (∃ v u, Hid (wr.heap[w.heap.size + 1]? = some (.cells #[v, u, .slice none 0 0] 47 (0, 0))) ∧ Hid (wr.ownsRow (w.heap.size + 2) 135 19 v k (flatS (csN (zs.take k)))) ∧ Hid (wr.ownsRow (w.heap.size + 2) 4 1 u k (flatU (csN (zs.take k))))) ∧ Hid (wr.heap[w.heap.size]? = some (.cells #[.slice none 0 0, .slice none 0 0, .slice none 0 0, .slice none 0 0, .int .i64 0] 91 (0, 0))) ∧ Below w.heap.size w wr) (fun i _ => zs.length - (intOf i).toNat)
  case atStart => exact ⟨0, Nat.zero_le _, rfl, (by simp : (zs.take 0).all addrB = true), (by simp : (List.range 0).all (riseF zs) = true), ⟨_, _, hC1.out, World.ownsRow_nil _ _ _ _, World.ownsRow_nil _ _ _ _⟩, hR1.out, hA1⟩
  case round =>
    obtain ⟨k, hk, rfl, HA, HRA, ⟨v, u, HCb, HO, HU⟩, HR, hbel⟩ := hrel
    by_cases hlt : k < zs.length
    · obtain ⟨px', cx', e', hrow⟩ := HX.out w (Below.refl _ _)
      cases e'
      obtain ⟨gx, rfl, hgl, q0⟩ := hrow k hlt
      have q1 : ∀ W, Below w.heap.size w W → W.cell? ⟨gx, k, none⟩ = some (.int .i64 zs[k]) := fun W hW => by
        obtain ⟨_, _, e', hrow'⟩ := HX.out W hW
        cases e'
        obtain ⟨_, e2, _, q⟩ := hrow' k hlt
        cases e2
        exact q
      clear q0
      have HN : Hid (addrB zs[k] = false → PC = 1 ∧ PS = ⟨[], [], []⟩) := fun h => HC1.out (allSeg_no hlt h)
      have HY : Hid (addrB zs[k] = true → (zs.take (k + 1)).all addrB = true) := fun h => allSeg_more hlt HA.out h
      have HN2 : Hid (riseF zs k = false → PC = 1 ∧ PS = ⟨[], [], []⟩) := fun h => HC2.out (all_range_no hlt h)
      have HY2 : Hid (riseF zs k = true → (List.range (k + 1)).all (riseF zs) = true) := fun h => all_range_more HRA.out h
      have HTK : Hid (zs.take (k + 1) = zs.take k ++ [zs[k]]) := (List.take_succ_eq_append_getElem hlt)
      have HPOS : Hid (addrB zs[k] = true → 0 < zs[k]) := fun h => by unfold addrB at h; simp at h; omega
      rw [riseF_at _ k hlt] at HN2 HY2
      have hR : Below w.heap.size w wr.drew := Below.drew hbel
      have HAD : Hid (∀ W : World, Calls Try.prog 96 #[.int .i64 zs[k]] W fun e w' => e = .returned (.bool (addrB zs[k])) ∧ W = w') := fun W => l02Addr_any zs[k] W
      cases ha : addrB zs[k] with
      | false =>
        obtain ⟨rfl, rfl⟩ := HN.out ha
        rw [ha] at HAD
        clear HN HY HN2 HY2 HPOS ha HC1 HC2 HC3 HTK hrow
        generalize zs[k] = a at q1 HAD
        go_upto_region 9 with fail
        refine wp_region_held_drew (S := (fun w' => Below w.heap.size w w')) (by kernel_rfl) ?_ (fun hHeld => ?_)
        · (try dsimp only); exact hR
        refine yieldH (i := 0) (v := ?_) rfl (by kernel_rfl) (by kernel_rfl) (by kernel_rfl) (fun _ _ _ h => h) (by rfl) ?_ (by assumption) ?_; rotate_left
        · intro w hSw; (try dsimp only at hSw); go_simp; (try with_reducible rfl)
        try simp only [Act.put, List.setIfInBounds_toArray, List.set_cons_zero, List.set_cons_succ, List.getElem_toArray, List.getElem_cons_succ, List.getElem_cons_zero]
        refine yieldH (i := 1) (v := ?_) rfl (by kernel_rfl) (by kernel_rfl) (by kernel_rfl) (fun _ _ _ h => h) (by rfl) ?_ (by assumption) ?_; rotate_left
        · intro w hSw; (try dsimp only at hSw); go_simp; (try with_reducible rfl)
        try simp only [Act.put, List.setIfInBounds_toArray, List.set_cons_zero, List.set_cons_succ, List.getElem_toArray, List.getElem_cons_succ, List.getElem_cons_zero]
        refine yieldH (i := 2) (v := ?_) rfl (by kernel_rfl) (by kernel_rfl) (by kernel_rfl) (fun _ _ _ h => h) (by rfl) ?_ (by assumption) ?_; rotate_left
        · intro w hSw; (try dsimp only at hSw); go_simp; (try with_reducible rfl)
        try simp only [Act.put, List.setIfInBounds_toArray, List.set_cons_zero, List.set_cons_succ, List.getElem_toArray, List.getElem_cons_succ, List.getElem_cons_zero]
        refine yieldH (i := 3) (v := ?_) rfl (by kernel_rfl) (by kernel_rfl) (by kernel_rfl) (fun _ _ _ h => h) (by rfl) ?_ (by assumption) ?_; rotate_left
        · intro w hSw; (try dsimp only at hSw); go_simp; (try with_reducible rfl)
        try simp only [Act.put, List.setIfInBounds_toArray, List.set_cons_zero, List.set_cons_succ, List.getElem_toArray, List.getElem_cons_succ, List.getElem_cons_zero]
        refine wpAnyH_ready (rs := [4]) (by kernel_rfl) (by simp) ?_
        refine AllReadyH.cons rfl (fun K hK => ?_) AllReadyH.nil
        go_simp
        go_at_call 96; refine (HAD.out _).mono ?_; rintro e2 w2 ⟨rfl, rfl⟩
        dsimp only
        refine hK.out _ _ ?_ (fun hHeld => ?_)
        · (try dsimp only); exact hR
        clear hK K
        try simp only [Act.put, List.setIfInBounds_toArray, List.set_cons_zero, List.set_cons_succ, List.getElem_toArray, List.getElem_cons_succ, List.getElem_cons_zero]
        refine yieldH (i := 5) (v := ?_) rfl (by kernel_rfl) (by kernel_rfl) (by kernel_rfl) (fun _ _ _ h => h) (by rfl) ?_ (by assumption) ?_; rotate_left
        · intro w hSw; (try dsimp only at hSw); go_simp; (try with_reducible rfl)
        try simp only [Act.put, List.setIfInBounds_toArray, List.set_cons_zero, List.set_cons_succ, List.getElem_toArray, List.getElem_cons_succ, List.getElem_cons_zero]
        refine yieldH (i := 6) (v := ?_) rfl (by kernel_rfl) (by kernel_rfl) (by kernel_rfl) (fun _ _ _ h => h) (by rfl) ?_ (by assumption) ?_; rotate_left
        · intro w hSw; (try dsimp only at hSw); go_simp; (try with_reducible rfl)
        try simp only [Act.put, List.setIfInBounds_toArray, List.set_cons_zero, List.set_cons_succ, List.getElem_toArray, List.getElem_cons_succ, List.getElem_cons_zero]
        refine skipH (i := 7) rfl (by kernel_rfl) (by kernel_rfl) (by kernel_rfl) (fun _ _ _ h => h) (by rfl) (by assumption) ?_
        try simp only [Act.put, List.setIfInBounds_toArray, List.set_cons_zero, List.set_cons_succ, List.getElem_toArray, List.getElem_cons_succ, List.getElem_cons_zero]
        refine skipH (i := 8) rfl (by kernel_rfl) (by kernel_rfl) (by kernel_rfl) (fun _ _ _ h => h) (by rfl) (by assumption) ?_
        try simp only [Act.put, List.setIfInBounds_toArray, List.set_cons_zero, List.set_cons_succ, List.getElem_toArray, List.getElem_cons_succ, List.getElem_cons_zero]
        refine skipH (i := 9) rfl (by kernel_rfl) (by kernel_rfl) (by kernel_rfl) (fun _ _ _ h => h) (by rfl) (by assumption) ?_
        try simp only [Act.put, List.setIfInBounds_toArray, List.set_cons_zero, List.set_cons_succ, List.getElem_toArray, List.getElem_cons_succ, List.getElem_cons_zero]
        refine skipH (i := 10) rfl (by kernel_rfl) (by kernel_rfl) (by kernel_rfl) (fun _ _ _ h => h) (by rfl) (by assumption) ?_
        try simp only [Act.put, List.setIfInBounds_toArray, List.set_cons_zero, List.set_cons_succ, List.getElem_toArray, List.getElem_cons_succ, List.getElem_cons_zero]
        refine skipH (i := 11) rfl (by kernel_rfl) (by kernel_rfl) (by kernel_rfl) (fun _ _ _ h => h) (by rfl) (by assumption) ?_
        try simp only [Act.put, List.setIfInBounds_toArray, List.set_cons_zero, List.set_cons_succ, List.getElem_toArray, List.getElem_cons_succ, List.getElem_cons_zero]
        refine skipH (i := 12) rfl (by kernel_rfl) (by kernel_rfl) (by kernel_rfl) (fun _ _ _ h => h) (by rfl) (by assumption) ?_
        try simp only [Act.put, List.setIfInBounds_toArray, List.set_cons_zero, List.set_cons_succ, List.getElem_toArray, List.getElem_cons_succ, List.getElem_cons_zero]
        refine skipH (i := 13) rfl (by kernel_rfl) (by kernel_rfl) (by kernel_rfl) (fun _ _ _ h => h) (by rfl) (by assumption) ?_
        try simp only [Act.put, List.setIfInBounds_toArray, List.set_cons_zero, List.set_cons_succ, List.getElem_toArray, List.getElem_cons_succ, List.getElem_cons_zero]
        refine skipH (i := 14) rfl (by kernel_rfl) (by kernel_rfl) (by kernel_rfl) (fun _ _ _ h => h) (by rfl) (by assumption) ?_
        try simp only [Act.put, List.setIfInBounds_toArray, List.set_cons_zero, List.set_cons_succ, List.getElem_toArray, List.getElem_cons_succ, List.getElem_cons_zero]
        refine skipH (i := 15) rfl (by kernel_rfl) (by kernel_rfl) (by kernel_rfl) (fun _ _ _ h => h) (by rfl) (by assumption) ?_
        try simp only [Act.put, List.setIfInBounds_toArray, List.set_cons_zero, List.set_cons_succ, List.getElem_toArray, List.getElem_cons_succ, List.getElem_cons_zero]
        refine skipH (i := 16) rfl (by kernel_rfl) (by kernel_rfl) (by kernel_rfl) (fun _ _ _ h => h) (by rfl) (by assumption) ?_
        try simp only [Act.put, List.setIfInBounds_toArray, List.set_cons_zero, List.set_cons_succ, List.getElem_toArray, List.getElem_cons_succ, List.getElem_cons_zero]
        refine skipH (i := 17) rfl (by kernel_rfl) (by kernel_rfl) (by kernel_rfl) (fun _ _ _ h => h) (by rfl) (by assumption) ?_
        try simp only [Act.put, List.setIfInBounds_toArray, List.set_cons_zero, List.set_cons_succ, List.getElem_toArray, List.getElem_cons_succ, List.getElem_cons_zero]
        refine skipH (i := 18) rfl (by kernel_rfl) (by kernel_rfl) (by kernel_rfl) (fun _ _ _ h => h) (by rfl) (by assumption) ?_
        try simp only [Act.put, List.setIfInBounds_toArray, List.set_cons_zero, List.set_cons_succ, List.getElem_toArray, List.getElem_cons_succ, List.getElem_cons_zero]
        refine skipH (i := 19) rfl (by kernel_rfl) (by kernel_rfl) (by kernel_rfl) (fun _ _ _ h => h) (by rfl) (by assumption) ?_
        try simp only [Act.put, List.setIfInBounds_toArray, List.set_cons_zero, List.set_cons_succ, List.getElem_toArray, List.getElem_cons_succ, List.getElem_cons_zero]
        refine skipH (i := 20) rfl (by kernel_rfl) (by kernel_rfl) (by kernel_rfl) (fun _ _ _ h => h) (by rfl) (by assumption) ?_
        try simp only [Act.put, List.setIfInBounds_toArray, List.set_cons_zero, List.set_cons_succ, List.getElem_toArray, List.getElem_cons_succ, List.getElem_cons_zero]
        refine yieldH (i := 21) (v := ?_) rfl (by kernel_rfl) (by kernel_rfl) (by kernel_rfl) (fun _ _ _ h => h) (by rfl) ?_ (by assumption) ?_; rotate_left
        · intro w hSw; (try dsimp only at hSw); go_simp; (try with_reducible rfl)
        try simp only [Act.put, List.setIfInBounds_toArray, List.set_cons_zero, List.set_cons_succ, List.getElem_toArray, List.getElem_cons_succ, List.getElem_cons_zero]
        refine wpAnyH_done (by kernel_rfl) ?_ _
        have hR3 : Hid _ := blk (Y := wr) HR.out (Below.drew (Below.refl _ _))
        clear HR
        go_wp2_with (first
          | (go_at_call 95; refine (l07Ill_any 1 _).mono ?_; rintro e wi ⟨rfl, hbi⟩)
          | (refine wpList_store_row rfl 91 (.tmp 2) (.tmp 47) rfl w.heap.size #[.slice none 0 0, .slice none 0 0, .slice none 0 0, .slice none 0 0, .int .i64 1] rfl rfl _ _ (blk hR3.out hbi) (by kernel_rfl) rfl (by simp [Value.oneCell']) ?_))
        go_wp2
        have hYf := setRow_heap _ w.heap.size _ #[.slice none 0 0, .slice none 0 0, .slice none 0 0, .slice none 0 0, .int .i64 1] _ _ (blk hR3.out hbi)
        have hAf : Below w.heap.size w _ := Below.setRow (keepB hR (Nat.le_refl _) hbi) (g := w.heap.size) (Nat.le_refl _) #[.slice none 0 0, .slice none 0 0, .slice none 0 0, .slice none 0 0, .int .i64 1]
        exact bodyPost_ret (v := .agg #[.slice none 0 0, .slice none 0 0, .slice none 0 0, .slice none 0 0, .int .i64 1]) (results_cell_row Try.results55 _ _ w.heap.size _ _ _ _ rfl hYf Try.underlying91 rfl (by kernel_rfl)) rfl ⟨_, _, rfl, own_empty_seg _ _ hAf.size, hAf⟩
      | true =>
        have hpos := HPOS.out ha
        rw [ha] at HAD HY
        clear HN HPOS
        rcases Nat.eq_zero_or_pos k with h0 | h0
        · have hY2 : Hid ((List.range (k + 1)).all (riseF zs) = true) := by
            subst h0
            exact HY2.out (by simpa using hpos)
          have hk0 : ¬ (0 : Int) < (k : Int) := by omega
          have hk0n : ¬ 0 < k := by omega
          clear HN2 HY2 hpos hrow h0
          generalize zs[k] = a at q1 HAD HTK ha
          go_upto_region 9 with fail
          refine wp_region_held_drew (S := (fun w' => Below w.heap.size w w')) (by kernel_rfl) ?_ (fun hHeld => ?_)
          · (try dsimp only); exact hR
          refine yieldH (i := 0) (v := ?_) rfl (by kernel_rfl) (by kernel_rfl) (by kernel_rfl) (fun _ _ _ h => h) (by rfl) ?_ (by assumption) ?_; rotate_left
          · intro w hSw; (try dsimp only at hSw); go_simp; (try with_reducible rfl)
          try simp only [Act.put, List.setIfInBounds_toArray, List.set_cons_zero, List.set_cons_succ, List.getElem_toArray, List.getElem_cons_succ, List.getElem_cons_zero]
          refine yieldH (i := 1) (v := ?_) rfl (by kernel_rfl) (by kernel_rfl) (by kernel_rfl) (fun _ _ _ h => h) (by rfl) ?_ (by assumption) ?_; rotate_left
          · intro w hSw; (try dsimp only at hSw); go_simp; (try with_reducible rfl)
          try simp only [Act.put, List.setIfInBounds_toArray, List.set_cons_zero, List.set_cons_succ, List.getElem_toArray, List.getElem_cons_succ, List.getElem_cons_zero]
          refine yieldH (i := 2) (v := ?_) rfl (by kernel_rfl) (by kernel_rfl) (by kernel_rfl) (fun _ _ _ h => h) (by rfl) ?_ (by assumption) ?_; rotate_left
          · intro w hSw; (try dsimp only at hSw); go_simp; (try with_reducible rfl)
          try simp only [Act.put, List.setIfInBounds_toArray, List.set_cons_zero, List.set_cons_succ, List.getElem_toArray, List.getElem_cons_succ, List.getElem_cons_zero]
          refine yieldH (i := 3) (v := ?_) rfl (by kernel_rfl) (by kernel_rfl) (by kernel_rfl) (fun _ _ _ h => h) (by rfl) ?_ (by assumption) ?_; rotate_left
          · intro w hSw; (try dsimp only at hSw); go_simp; (try with_reducible rfl)
          try simp only [Act.put, List.setIfInBounds_toArray, List.set_cons_zero, List.set_cons_succ, List.getElem_toArray, List.getElem_cons_succ, List.getElem_cons_zero]
          refine wpAnyH_ready (rs := [4]) (by kernel_rfl) (by simp) ?_
          refine AllReadyH.cons rfl (fun K hK => ?_) AllReadyH.nil
          go_simp
          go_at_call 96; refine (HAD.out _).mono ?_; rintro e2 w2 ⟨rfl, rfl⟩
          dsimp only
          refine hK.out _ _ ?_ (fun hHeld => ?_)
          · (try dsimp only); exact hR
          clear hK K
          try simp only [Act.put, List.setIfInBounds_toArray, List.set_cons_zero, List.set_cons_succ, List.getElem_toArray, List.getElem_cons_succ, List.getElem_cons_zero]
          refine yieldH (i := 5) (v := ?_) rfl (by kernel_rfl) (by kernel_rfl) (by kernel_rfl) (fun _ _ _ h => h) (by rfl) ?_ (by assumption) ?_; rotate_left
          · intro w hSw; (try dsimp only at hSw); go_simp; (try with_reducible rfl)
          try simp only [Act.put, List.setIfInBounds_toArray, List.set_cons_zero, List.set_cons_succ, List.getElem_toArray, List.getElem_cons_succ, List.getElem_cons_zero]
          refine yieldH (i := 6) (v := ?_) rfl (by kernel_rfl) (by kernel_rfl) (by kernel_rfl) (fun _ _ _ h => h) (by rfl) ?_ (by assumption) ?_; rotate_left
          · intro w hSw; (try dsimp only at hSw); go_simp; (try with_reducible rfl)
          try simp only [Act.put, List.setIfInBounds_toArray, List.set_cons_zero, List.set_cons_succ, List.getElem_toArray, List.getElem_cons_succ, List.getElem_cons_zero]
          refine yieldH (i := 7) (v := ?_) rfl (by kernel_rfl) (by kernel_rfl) (by kernel_rfl) (fun _ _ _ h => h) (by rfl) ?_ (by assumption) ?_; rotate_left
          · intro w hSw; (try dsimp only at hSw); go_simp; (try with_reducible rfl)
          try simp only [Act.put, List.setIfInBounds_toArray, List.set_cons_zero, List.set_cons_succ, List.getElem_toArray, List.getElem_cons_succ, List.getElem_cons_zero]
          refine yieldH (i := 8) (v := ?_) rfl (by kernel_rfl) (by kernel_rfl) (by kernel_rfl) (fun _ _ _ h => h) (by rfl) ?_ (by assumption) ?_; rotate_left
          · intro w hSw; (try dsimp only at hSw); go_simp; (try with_reducible rfl)
          try simp only [Act.put, List.setIfInBounds_toArray, List.set_cons_zero, List.set_cons_succ, List.getElem_toArray, List.getElem_cons_succ, List.getElem_cons_zero]
          refine yieldH (i := 9) (v := ?_) rfl (by kernel_rfl) (by kernel_rfl) (by kernel_rfl) (fun _ _ _ h => h) (by rfl) ?_ (by assumption) ?_; rotate_left
          · intro w hSw; (try dsimp only at hSw); go_simp; (try with_reducible rfl)
          try simp only [Act.put, List.setIfInBounds_toArray, List.set_cons_zero, List.set_cons_succ, List.getElem_toArray, List.getElem_cons_succ, List.getElem_cons_zero]
          refine skipH (i := 10) rfl (by kernel_rfl) (by kernel_rfl) (by kernel_rfl) (fun _ _ _ h => h) (by rfl) (by assumption) ?_
          try simp only [Act.put, List.setIfInBounds_toArray, List.set_cons_zero, List.set_cons_succ, List.getElem_toArray, List.getElem_cons_succ, List.getElem_cons_zero]
          refine skipH (i := 11) rfl (by kernel_rfl) (by kernel_rfl) (by kernel_rfl) (fun _ _ _ h => h) (by rfl) (by assumption) ?_
          try simp only [Act.put, List.setIfInBounds_toArray, List.set_cons_zero, List.set_cons_succ, List.getElem_toArray, List.getElem_cons_succ, List.getElem_cons_zero]
          refine skipH (i := 12) rfl (by kernel_rfl) (by kernel_rfl) (by kernel_rfl) (fun _ _ _ h => h) (by rfl) (by assumption) ?_
          try simp only [Act.put, List.setIfInBounds_toArray, List.set_cons_zero, List.set_cons_succ, List.getElem_toArray, List.getElem_cons_succ, List.getElem_cons_zero]
          refine skipH (i := 13) rfl (by kernel_rfl) (by kernel_rfl) (by kernel_rfl) (fun _ _ _ h => h) (by rfl) (by assumption) ?_
          try simp only [Act.put, List.setIfInBounds_toArray, List.set_cons_zero, List.set_cons_succ, List.getElem_toArray, List.getElem_cons_succ, List.getElem_cons_zero]
          refine skipH (i := 14) rfl (by kernel_rfl) (by kernel_rfl) (by kernel_rfl) (fun _ _ _ h => h) (by rfl) (by assumption) ?_
          try simp only [Act.put, List.setIfInBounds_toArray, List.set_cons_zero, List.set_cons_succ, List.getElem_toArray, List.getElem_cons_succ, List.getElem_cons_zero]
          refine skipH (i := 15) rfl (by kernel_rfl) (by kernel_rfl) (by kernel_rfl) (fun _ _ _ h => h) (by rfl) (by assumption) ?_
          try simp only [Act.put, List.setIfInBounds_toArray, List.set_cons_zero, List.set_cons_succ, List.getElem_toArray, List.getElem_cons_succ, List.getElem_cons_zero]
          refine skipH (i := 16) rfl (by kernel_rfl) (by kernel_rfl) (by kernel_rfl) (fun _ _ _ h => h) (by rfl) (by assumption) ?_
          try simp only [Act.put, List.setIfInBounds_toArray, List.set_cons_zero, List.set_cons_succ, List.getElem_toArray, List.getElem_cons_succ, List.getElem_cons_zero]
          refine skipH (i := 17) rfl (by kernel_rfl) (by kernel_rfl) (by kernel_rfl) (fun _ _ _ h => h) (by rfl) (by assumption) ?_
          try simp only [Act.put, List.setIfInBounds_toArray, List.set_cons_zero, List.set_cons_succ, List.getElem_toArray, List.getElem_cons_succ, List.getElem_cons_zero]
          refine skipH (i := 18) rfl (by kernel_rfl) (by kernel_rfl) (by kernel_rfl) (fun _ _ _ h => h) (by rfl) (by assumption) ?_
          try simp only [Act.put, List.setIfInBounds_toArray, List.set_cons_zero, List.set_cons_succ, List.getElem_toArray, List.getElem_cons_succ, List.getElem_cons_zero]
          refine skipH (i := 19) rfl (by kernel_rfl) (by kernel_rfl) (by kernel_rfl) (fun _ _ _ h => h) (by rfl) (by assumption) ?_
          try simp only [Act.put, List.setIfInBounds_toArray, List.set_cons_zero, List.set_cons_succ, List.getElem_toArray, List.getElem_cons_succ, List.getElem_cons_zero]
          refine yieldH (i := 20) (v := ?_) rfl (by kernel_rfl) (by kernel_rfl) (by kernel_rfl) (fun _ _ _ h => h) (by rfl) ?_ (by assumption) ?_; rotate_left
          · intro w hSw; (try dsimp only at hSw); go_simp; (try with_reducible rfl)
          try simp only [Act.put, List.setIfInBounds_toArray, List.set_cons_zero, List.set_cons_succ, List.getElem_toArray, List.getElem_cons_succ, List.getElem_cons_zero]
          refine yieldH (i := 21) (v := ?_) rfl (by kernel_rfl) (by kernel_rfl) (by kernel_rfl) (fun _ _ _ h => h) (by rfl) ?_ (by assumption) ?_; rotate_left
          · intro w hSw; (try dsimp only at hSw); go_simp; (try with_reducible rfl)
          try simp only [Act.put, List.setIfInBounds_toArray, List.set_cons_zero, List.set_cons_succ, List.getElem_toArray, List.getElem_cons_succ, List.getElem_cons_zero]
          refine wpAnyH_done (by kernel_rfl) ?_ _
          obtain ⟨pv, cv, rfl⟩ := owns_shape HO.out
          obtain ⟨pu, cu, rfl⟩ := owns_shape HU.out
          have hB : Below w.heap.size w (World.drew (World.drew wr)) := Below.drew hR
          have hC : Hid ((World.drew (World.drew wr)).heap[w.heap.size + 1]? = some (.cells #[.slice pv k cv, .slice pu k cu, .slice none 0 0] 47 (0, 0))) := HCb.out
          have hRR : Hid ((World.drew (World.drew wr)).heap[w.heap.size]? = some (.cells #[.slice none 0 0, .slice none 0 0, .slice none 0 0, .slice none 0 0, .int .i64 0] 91 (0, 0))) := HR.out
          have hO : Hid (World.ownsRow (World.drew (World.drew wr)) _ _ _ _ _ _) := World.ownsRow.drew (World.ownsRow.drew HO.out)
          have hU : Hid (World.ownsRow (World.drew (World.drew wr)) _ _ _ _ _ _) := World.ownsRow.drew (World.ownsRow.drew HU.out)
          have HST : Hid (∀ W : World, Calls Try.prog 97 #[.int .i64 a, .int .i64 0] W fun e w' => e = .returned (.agg #[.int .i64 a, .int .i64 0, .int .i64 0, .int .i64 0, .int .i64 0, .int .i64 0, .int .i64 0, .int .i64 0, .int .i64 0, .int .i64 0, .int .i64 0, .int .i64 0, .int .i64 0, .int .i64 0, .int .i64 0, .slice none 0 0, .slice none 0 0, .slice none 0 0, .slice none 0 0, .slice none 0 0, .int .i64 0]) ∧ Below W.heap.size W w') := fun W => newS_ok a ha W
          have HFS : Hid (flatS (csN (zs.take (k + 1))) = flatS (csN (zs.take k)) ++ stC (newS a 0) nilV) := by show _ = _; rw [HTK.out]; exact flatS_more _ _
          have HFU : Hid (flatU (csN (zs.take (k + 1))) = flatU (csN (zs.take k)) ++ [.bool true]) := by show _ = _; rw [HTK.out]; exact flatU_more _ _
          have hk4 : k ≤ 4 := by omega
          clear HCb HR HO HU HC1 HC2 HC3 HA HRA HAD HTK ha
          go_upto_region 11 with fail
          refine wp_region_held_drew (S := (fun w' => Below w.heap.size w w')) (by kernel_rfl) ?_ (fun hHeld => ?_)
          · (try dsimp only); exact hB
          generalize (World.drew (World.drew wr)) = W0 at hB hC hRR hO hU hHeld ⊢
          refine yieldH (i := 0) (v := ?_) rfl (by kernel_rfl) (by kernel_rfl) (by kernel_rfl) (fun _ _ _ h => h) (by rfl) ?_ (by assumption) ?_; rotate_left
          · intro w' hSw; (try dsimp only at hSw); go_simp; (try with_reducible rfl)
          try simp only [Act.put, List.setIfInBounds_toArray, List.set_cons_zero, List.set_cons_succ, List.getElem_toArray, List.getElem_cons_succ, List.getElem_cons_zero]
          refine yieldH (i := 2) (v := ?_) rfl (by kernel_rfl) (by kernel_rfl) (by kernel_rfl) (fun _ _ _ h => h) (by rfl) ?_ (by assumption) ?_; rotate_left
          · intro w' hSw; (try dsimp only at hSw); go_simp; (try with_reducible rfl)
          try simp only [Act.put, List.setIfInBounds_toArray, List.set_cons_zero, List.set_cons_succ, List.getElem_toArray, List.getElem_cons_succ, List.getElem_cons_zero]
          refine yieldH (i := 3) (v := ?_) rfl (by kernel_rfl) (by kernel_rfl) (by kernel_rfl) (fun _ _ _ h => h) (by rfl) ?_ (by assumption) ?_; rotate_left
          · intro w' hSw; (try dsimp only at hSw); go_simp; (try with_reducible rfl)
          try simp only [Act.put, List.setIfInBounds_toArray, List.set_cons_zero, List.set_cons_succ, List.getElem_toArray, List.getElem_cons_succ, List.getElem_cons_zero]
          refine yieldH (i := 4) (v := ?_) rfl (by kernel_rfl) (by kernel_rfl) (by kernel_rfl) (fun _ _ _ h => h) (by rfl) ?_ (by assumption) ?_; rotate_left
          · intro w' hSw; (try dsimp only at hSw); go_simp; (try with_reducible rfl)
          try simp only [Act.put, List.setIfInBounds_toArray, List.set_cons_zero, List.set_cons_succ, List.getElem_toArray, List.getElem_cons_succ, List.getElem_cons_zero]
          refine yieldH (i := 5) (v := ?_) rfl (by kernel_rfl) (by kernel_rfl) (by kernel_rfl) (fun _ _ _ h => h) (by rfl) ?_ (by assumption) ?_; rotate_left
          · intro w' hSw; (try dsimp only at hSw); go_simp; (try with_reducible rfl)
          try simp only [Act.put, List.setIfInBounds_toArray, List.set_cons_zero, List.set_cons_succ, List.getElem_toArray, List.getElem_cons_succ, List.getElem_cons_zero]
          refine wpAnyH_ready (rs := [1, 6]) (by kernel_rfl) (by simp) ?_
          refine (AllReadyH.cons rfl (fun Kc hK => ?_) (AllReadyH.cons rfl (fun Kc hK => ?_) AllReadyH.nil))
          · have c0 := cellW hC.out 0 _ rfl W0 (Below.refl _ _)
            go_simp
            (try dsimp only)
            refine hK.out _ _ ?_ (fun hHeld => ?_)
            · (try dsimp only); exact hB
            clear hK Kc
            try simp only [Act.put, List.setIfInBounds_toArray, List.set_cons_zero, List.set_cons_succ, List.getElem_toArray, List.getElem_cons_succ, List.getElem_cons_zero]
            clear c0
            refine wpAnyH_ready (rs := [6]) (by kernel_rfl) (by simp) ?_
            refine (AllReadyH.cons rfl (fun Kc hK => ?_) AllReadyH.nil)
            go_simp
            go_at_call 97; refine (HST.out _).mono ?_; rintro e6 W1 ⟨rfl, hb⟩
            (try dsimp only)
            refine hK.out _ _ ?_ (fun hHeld => ?_)
            · (try dsimp only); exact keepB hB (Nat.le_refl _) hb
            clear hK Kc
            try simp only [Act.put, List.setIfInBounds_toArray, List.set_cons_zero, List.set_cons_succ, List.getElem_toArray, List.getElem_cons_succ, List.getElem_cons_zero]
            replace hC : Hid _ := blk hC.out hb
            replace hRR : Hid _ := blk hRR.out hb
            replace hO : Hid (World.ownsRow W1 _ _ _ _ _ _) := owns_below hO.out hb
            replace hU : Hid (World.ownsRow W1 _ _ _ _ _ _) := owns_below hU.out hb
            replace hB := keepB hB (Nat.le_refl _) hb
            clear hb
            refine yieldH (i := 7) (v := .agg (stC (newS a 0) nilV).toArray) rfl (by kernel_rfl) (by kernel_rfl) (by kernel_rfl) (fun _ _ _ h => h) (by rfl) ?_ (by assumption) ?_
            · intro w' hSw; (try dsimp only at hSw); go_simp; kernel_rfl
            try simp only [Act.put, List.setIfInBounds_toArray, List.set_cons_zero, List.set_cons_succ, List.getElem_toArray, List.getElem_cons_succ, List.getElem_cons_zero]
            obtain ⟨L, hL⟩ : ∃ L, stC (newS a 0) nilV = L := ⟨_, rfl⟩
            have hlenL : L.length = 19 := by rw [← hL]; rfl
            have honeL : ∀ u ∈ L, u.oneCell' = true := by rw [← hL]; intro u hu; simp [stC, newS, nilV] at hu; rcases hu with rfl | rfl | rfl | rfl <;> rfl
            have hfold : List.foldl (fun cs x => cs.setIfInBounds x.snd x.fst) #[.int .i64 0, .int .i64 0, .int .i64 0, .int .i64 0, .int .i64 0, .int .i64 0, .int .i64 0, .int .i64 0, .int .i64 0, .int .i64 0, .int .i64 0, .int .i64 0, .int .i64 0, .int .i64 0, .int .i64 0, .slice none 0 0, .slice none 0 0, .slice none 0 0, .slice none 0 0] L.zipIdx = L.toArray := fold_all L #[.int .i64 0, .int .i64 0, .int .i64 0, .int .i64 0, .int .i64 0, .int .i64 0, .int .i64 0, .int .i64 0, .int .i64 0, .int .i64 0, .int .i64 0, .int .i64 0, .int .i64 0, .int .i64 0, .int .i64 0, .slice none 0 0, .slice none 0 0, .slice none 0 0, .slice none 0 0] (by rw [hlenL]; rfl)
            rw [hL] at HFS
            rw [hL]
            clear hL
            refine wpAnyH_ready (rs := [8]) (by kernel_rfl) (by simp) ?_
            refine (AllReadyH.cons rfl (fun Kc hK => ?_) AllReadyH.nil)
            go_simp
            (try dsimp only)
            refine hK.out _ _ ?_ (fun hHeld => ?_)
            · (try dsimp only); exact keepB hB (Nat.le_refl _) (all_alloc W1 (.cells L.toArray 135))
            clear hK Kc
            try simp only [Act.put, List.setIfInBounds_toArray, List.set_cons_zero, List.set_cons_succ, List.getElem_toArray, List.getElem_cons_succ, List.getElem_cons_zero]
            have hb := all_alloc W1 (.cells L.toArray 135)
            have rB : Hid _ := heap_alloc_new W1 (.cells L.toArray 135)
            replace hC : Hid _ := blk hC.out hb
            replace hRR : Hid _ := blk hRR.out hb
            replace hO : Hid (World.ownsRow _ _ _ _ _ _ _) := World.ownsRow.alloc hO.out (.cells L.toArray 135)
            replace hU : Hid (World.ownsRow _ _ _ _ _ _ _) := World.ownsRow.alloc hU.out (.cells L.toArray 135)
            replace hB := keepB hB (Nat.le_refl _) hb
            clear hb
            generalize W1.alloc (.cells L.toArray 135) = W2 at hC hRR hO hU rB hB hHeld ⊢
            refine wpAnyH_ready (rs := [9]) (by kernel_rfl) (by simp) ?_
            refine (AllReadyH.cons rfl (fun Kc hK => ?_) AllReadyH.nil)
            have hzw : w.heap.size + 2 ≤ W2.heap.size := by have := (Array.getElem?_eq_some_iff.1 hC.out).1; omega
            refine wp_append_own _ (.tmp 49) (.tmp 56) 43 rfl (w.heap.size + 2) 135 i0 (.agg #[.int .i64 0, .int .i64 0, .int .i64 0, .int .i64 0, .int .i64 0, .int .i64 0, .int .i64 0, .int .i64 0, .int .i64 0, .int .i64 0, .int .i64 0, .int .i64 0, .int .i64 0, .int .i64 0, .int .i64 0, .slice none 0 0, .slice none 0 0, .slice none 0 0, .slice none 0 0]) 19 216 Try.underlying43 hi hz0 hz1 hz2 rfl (by decide) _ _ _ rfl hO.out ⟨W1.heap.size, 0, none⟩ 1 1 L rfl (by rw [hlenL]) (cells_of rB.out) honeL (by unfold maxLen; omega) (by omega) (by omega) ?_
            intro v' w9 hown hgr _
            obtain ⟨pb, eb, rfl⟩ := owns_shape hown
            have hlo := World.ownsRow.lt hO.out
            have hC9 : Hid (w9.heap[w.heap.size + 1]? = _) := (hgr.block (w.heap.size + 1) (by omega) (fun e => by have := hlo _ e.symm; omega)).trans hC.out
            have hR9 : Hid (w9.heap[w.heap.size]? = _) := (hgr.block w.heap.size (by omega) (fun e => by have := hlo _ e.symm; omega)).trans hRR.out
            have hU9 : Hid (World.ownsRow w9 _ _ _ _ _ _) := World.ownsRow.kept hU.out hgr (rows_ne hU.out hO.out (by decide))
            have hO9 : Hid (World.ownsRow w9 _ _ _ _ _ _) := hown
            have hB9 : Below w.heap.size w w9 := hB.grown hgr hB.size (fun q e => by have := hlo q e; omega)
            refine hK.out _ _ ?_ (fun hHeld => ?_)
            · (try dsimp only); exact hB9
            clear hK Kc hown hgr hlo hC hRR hO hU rB hB hzw
            try simp only [Act.put, List.setIfInBounds_toArray, List.set_cons_zero, List.set_cons_succ, List.getElem_toArray, List.getElem_cons_succ, List.getElem_cons_zero]
            have t0 := cellW hC9.out 0 _ rfl w9 (Below.refl _ _)
            have f0 := frozenW hC9.out 0 w9 (Below.refl _ _)
            refine yieldH (i := 10) (v := ?_) rfl (by kernel_rfl) (by kernel_rfl) (by kernel_rfl) (fun _ _ _ h => h) (by rfl) ?_ (by assumption) ?_; rotate_left
            · intro w' hSw; (try dsimp only at hSw); go_simp; (try with_reducible rfl)
            try simp only [Act.put, List.setIfInBounds_toArray, List.set_cons_zero, List.set_cons_succ, List.getElem_toArray, List.getElem_cons_succ, List.getElem_cons_zero]
            refine wpAnyH_ready (rs := [11]) (by kernel_rfl) (by simp) ?_
            refine AllReadyH.cons rfl (fun Kc hK => ?_) AllReadyH.nil
            go_simp
            (try dsimp only)
            refine hK.out _ _ ?_ (fun hHeld => ?_)
            · (try dsimp only); exact hB9.setCell (by simp only; omega) _
            clear hK Kc
            try simp only [Act.put, List.setIfInBounds_toArray, List.set_cons_zero, List.set_cons_succ, List.getElem_toArray, List.getElem_cons_succ, List.getElem_cons_zero]
            have hC6 : Hid ((w9.setCell ⟨w.heap.size + 1, 0, none⟩ (.slice pb (k + 1) eb)).heap[w.heap.size + 1]? = some (.cells #[.slice pb (k + 1) eb, .slice pu k cu, .slice none 0 0] 47 (0, 0))) := blk_set hC9.out 0 _
            have hR6 : Hid ((w9.setCell ⟨w.heap.size + 1, 0, none⟩ (.slice pb (k + 1) eb)).heap[w.heap.size]? = some (.cells #[.slice none 0 0, .slice none 0 0, .slice none 0 0, .slice none 0 0, .int .i64 0] 91 (0, 0))) := blk_far hR9.out (by simp only; omega) _
            have O6 : Hid (World.ownsRow (w9.setCell ⟨w.heap.size + 1, 0, none⟩ (.slice pb (k + 1) eb)) (w.heap.size + 2) 135 19 (.slice pb (k + 1) eb) (k + 1) (flatS (csN (zs.take (k + 1))))) := by show World.ownsRow _ _ _ _ _ _ _; rw [HFS.out]; exact owns_far hO9.out (by simp only; omega) _
            have U6 : Hid (World.ownsRow (w9.setCell ⟨w.heap.size + 1, 0, none⟩ (.slice pb (k + 1) eb)) _ _ _ _ _ _) := owns_far hU9.out (a := ⟨w.heap.size + 1, 0, none⟩) (by simp only; omega) (.slice pb (k + 1) eb)
            have hB6 : Below w.heap.size w (w9.setCell ⟨w.heap.size + 1, 0, none⟩ (.slice pb (k + 1) eb)) := hB9.setCell (by simp only; omega) _
            clear t0 f0 hC9 hR9 hU9 hO9 hB9 hfold honeL hlenL HFS HST q1
            generalize (w9.setCell ⟨w.heap.size + 1, 0, none⟩ (.slice pb (k + 1) eb)) = W6 at hC6 hR6 O6 U6 hB6 hHeld ⊢
            refine wpAnyH_done (by kernel_rfl) ?_ _
            go_upto_region 12 with fail
            have c1 := cellW hC6.out 1 _ rfl W6 (Below.refl _ _)
            have hzw : w.heap.size + 2 ≤ W6.heap.size := by have := (Array.getElem?_eq_some_iff.1 hC6.out).1; omega
            have hCb : Hid _ := blk hC6.out (all_alloc W6 (.cells #[.bool true] 4))
            have hRb : Hid _ := blk hR6.out (all_alloc W6 (.cells #[.bool true] 4))
            have Ob : Hid (World.ownsRow _ _ _ _ _ _ _) := World.ownsRow.alloc O6.out (.cells #[.bool true] 4)
            have Ub : Hid (World.ownsRow _ _ _ _ _ _ _) := World.ownsRow.alloc U6.out (.cells #[.bool true] 4)
            have hBb := keepB hB6 (Nat.le_refl _) (all_alloc W6 (.cells #[.bool true] 4))
            have hzaH : Hid ((W6.alloc (.cells #[.bool true] 4)).heap.size = W6.heap.size + 1) := (by simp : (W6.alloc (.cells #[.bool true] 4)).heap.size = W6.heap.size + 1)
            go_wp2_with (at_builtin; refine wpList_append_own _ rfl (.tmp 60) (.tmp 61) 44 rfl (w.heap.size + 2) 4 j0 (.bool false) 1 1 Try.underlying44 bi bz0 bz1 bz2 rfl (by decide) _ _ _ rfl Ub.out ⟨W6.heap.size, 0, none⟩ 1 1 [.bool true] rfl rfl (cells_newG _ _ _ _ rfl) (by intro x hx; simp at hx; subst hx; rfl) (by unfold maxLen; omega) (by omega) (by simp; omega) ?_; intro v7 w7 hown7 hgr7 _; obtain ⟨pw, ew, rfl⟩ := owns_shape hown7; have hlo7 := World.ownsRow.lt Ub.out; have hza := hzaH.out; have hC7 : Hid (w7.heap[w.heap.size + 1]? = _) := (hgr7.block (w.heap.size + 1) (by omega) (fun e => by have := hlo7 _ e.symm; omega)).trans hCb.out; have hR7 : Hid (w7.heap[w.heap.size]? = _) := (hgr7.block w.heap.size (by omega) (fun e => by have := hlo7 _ e.symm; omega)).trans hRb.out; have hO7 : Hid (World.ownsRow w7 _ _ _ _ _ _) := World.ownsRow.kept Ob.out hgr7 (rows_ne Ob.out Ub.out (by decide)); have hU7 : Hid (World.ownsRow w7 _ _ _ _ _ _) := hown7; have hB7 : Below w.heap.size w w7 := hBb.grown hgr7 (by omega) (fun q e => by have := hlo7 q e; omega); clear hza hown7 hgr7 hlo7; have t1 := cellW hC7.out 1 _ rfl w7 (Below.refl _ _); have f1 := frozenW hC7.out 1 w7 (Below.refl _ _))
            go_roundw
            case rel => exact ⟨k + 1, by omega, by go_num, HY.out (by first | rfl | trivial), hY2.out, ⟨_, _, blk_set hC7.out 1 _, owns_far hO7.out (by simp only; omega) _, (by rw [HFU.out]; exact owns_far hU7.out (by simp only; omega) _)⟩, blk_far hR7.out (by simp only; omega) _, hB7.setCell (by simp only; omega) _⟩
            case measure => simp [intOf]; omega
          · go_simp
            go_at_call 97; refine (HST.out _).mono ?_; rintro e6 W1 ⟨rfl, hb⟩
            (try dsimp only)
            refine hK.out _ _ ?_ (fun hHeld => ?_)
            · (try dsimp only); exact keepB hB (Nat.le_refl _) hb
            clear hK Kc
            try simp only [Act.put, List.setIfInBounds_toArray, List.set_cons_zero, List.set_cons_succ, List.getElem_toArray, List.getElem_cons_succ, List.getElem_cons_zero]
            replace hC : Hid _ := blk hC.out hb
            replace hRR : Hid _ := blk hRR.out hb
            replace hO : Hid (World.ownsRow W1 _ _ _ _ _ _) := owns_below hO.out hb
            replace hU : Hid (World.ownsRow W1 _ _ _ _ _ _) := owns_below hU.out hb
            replace hB := keepB hB (Nat.le_refl _) hb
            clear hb
            refine yieldH (i := 7) (v := .agg (stC (newS a 0) nilV).toArray) rfl (by kernel_rfl) (by kernel_rfl) (by kernel_rfl) (fun _ _ _ h => h) (by rfl) ?_ (by assumption) ?_
            · intro w' hSw; (try dsimp only at hSw); go_simp; kernel_rfl
            try simp only [Act.put, List.setIfInBounds_toArray, List.set_cons_zero, List.set_cons_succ, List.getElem_toArray, List.getElem_cons_succ, List.getElem_cons_zero]
            obtain ⟨L, hL⟩ : ∃ L, stC (newS a 0) nilV = L := ⟨_, rfl⟩
            have hlenL : L.length = 19 := by rw [← hL]; rfl
            have honeL : ∀ u ∈ L, u.oneCell' = true := by rw [← hL]; intro u hu; simp [stC, newS, nilV] at hu; rcases hu with rfl | rfl | rfl | rfl <;> rfl
            have hfold : List.foldl (fun cs x => cs.setIfInBounds x.snd x.fst) #[.int .i64 0, .int .i64 0, .int .i64 0, .int .i64 0, .int .i64 0, .int .i64 0, .int .i64 0, .int .i64 0, .int .i64 0, .int .i64 0, .int .i64 0, .int .i64 0, .int .i64 0, .int .i64 0, .int .i64 0, .slice none 0 0, .slice none 0 0, .slice none 0 0, .slice none 0 0] L.zipIdx = L.toArray := fold_all L #[.int .i64 0, .int .i64 0, .int .i64 0, .int .i64 0, .int .i64 0, .int .i64 0, .int .i64 0, .int .i64 0, .int .i64 0, .int .i64 0, .int .i64 0, .int .i64 0, .int .i64 0, .int .i64 0, .int .i64 0, .slice none 0 0, .slice none 0 0, .slice none 0 0, .slice none 0 0] (by rw [hlenL]; rfl)
            rw [hL] at HFS
            rw [hL]
            clear hL
            refine wpAnyH_ready (rs := [1, 8]) (by kernel_rfl) (by simp) ?_
            refine (AllReadyH.cons rfl (fun Kc hK => ?_) (AllReadyH.cons rfl (fun Kc hK => ?_) AllReadyH.nil))
            · have c0 := cellW hC.out 0 _ rfl W1 (Below.refl _ _)
              go_simp
              (try dsimp only)
              refine hK.out _ _ ?_ (fun hHeld => ?_)
              · (try dsimp only); exact hB
              clear hK Kc
              try simp only [Act.put, List.setIfInBounds_toArray, List.set_cons_zero, List.set_cons_succ, List.getElem_toArray, List.getElem_cons_succ, List.getElem_cons_zero]
              clear c0
              refine wpAnyH_ready (rs := [8]) (by kernel_rfl) (by simp) ?_
              refine (AllReadyH.cons rfl (fun Kc hK => ?_) AllReadyH.nil)
              go_simp
              (try dsimp only)
              refine hK.out _ _ ?_ (fun hHeld => ?_)
              · (try dsimp only); exact keepB hB (Nat.le_refl _) (all_alloc W1 (.cells L.toArray 135))
              clear hK Kc
              try simp only [Act.put, List.setIfInBounds_toArray, List.set_cons_zero, List.set_cons_succ, List.getElem_toArray, List.getElem_cons_succ, List.getElem_cons_zero]
              have hb := all_alloc W1 (.cells L.toArray 135)
              have rB : Hid _ := heap_alloc_new W1 (.cells L.toArray 135)
              replace hC : Hid _ := blk hC.out hb
              replace hRR : Hid _ := blk hRR.out hb
              replace hO : Hid (World.ownsRow _ _ _ _ _ _ _) := World.ownsRow.alloc hO.out (.cells L.toArray 135)
              replace hU : Hid (World.ownsRow _ _ _ _ _ _ _) := World.ownsRow.alloc hU.out (.cells L.toArray 135)
              replace hB := keepB hB (Nat.le_refl _) hb
              clear hb
              generalize W1.alloc (.cells L.toArray 135) = W2 at hC hRR hO hU rB hB hHeld ⊢
              refine wpAnyH_ready (rs := [9]) (by kernel_rfl) (by simp) ?_
              refine (AllReadyH.cons rfl (fun Kc hK => ?_) AllReadyH.nil)
              have hzw : w.heap.size + 2 ≤ W2.heap.size := by have := (Array.getElem?_eq_some_iff.1 hC.out).1; omega
              refine wp_append_own _ (.tmp 49) (.tmp 56) 43 rfl (w.heap.size + 2) 135 i0 (.agg #[.int .i64 0, .int .i64 0, .int .i64 0, .int .i64 0, .int .i64 0, .int .i64 0, .int .i64 0, .int .i64 0, .int .i64 0, .int .i64 0, .int .i64 0, .int .i64 0, .int .i64 0, .int .i64 0, .int .i64 0, .slice none 0 0, .slice none 0 0, .slice none 0 0, .slice none 0 0]) 19 216 Try.underlying43 hi hz0 hz1 hz2 rfl (by decide) _ _ _ rfl hO.out ⟨W1.heap.size, 0, none⟩ 1 1 L rfl (by rw [hlenL]) (cells_of rB.out) honeL (by unfold maxLen; omega) (by omega) (by omega) ?_
              intro v' w9 hown hgr _
              obtain ⟨pb, eb, rfl⟩ := owns_shape hown
              have hlo := World.ownsRow.lt hO.out
              have hC9 : Hid (w9.heap[w.heap.size + 1]? = _) := (hgr.block (w.heap.size + 1) (by omega) (fun e => by have := hlo _ e.symm; omega)).trans hC.out
              have hR9 : Hid (w9.heap[w.heap.size]? = _) := (hgr.block w.heap.size (by omega) (fun e => by have := hlo _ e.symm; omega)).trans hRR.out
              have hU9 : Hid (World.ownsRow w9 _ _ _ _ _ _) := World.ownsRow.kept hU.out hgr (rows_ne hU.out hO.out (by decide))
              have hO9 : Hid (World.ownsRow w9 _ _ _ _ _ _) := hown
              have hB9 : Below w.heap.size w w9 := hB.grown hgr hB.size (fun q e => by have := hlo q e; omega)
              refine hK.out _ _ ?_ (fun hHeld => ?_)
              · (try dsimp only); exact hB9
              clear hK Kc hown hgr hlo hC hRR hO hU rB hB hzw
              try simp only [Act.put, List.setIfInBounds_toArray, List.set_cons_zero, List.set_cons_succ, List.getElem_toArray, List.getElem_cons_succ, List.getElem_cons_zero]
              have t0 := cellW hC9.out 0 _ rfl w9 (Below.refl _ _)
              have f0 := frozenW hC9.out 0 w9 (Below.refl _ _)
              refine yieldH (i := 10) (v := ?_) rfl (by kernel_rfl) (by kernel_rfl) (by kernel_rfl) (fun _ _ _ h => h) (by rfl) ?_ (by assumption) ?_; rotate_left
              · intro w' hSw; (try dsimp only at hSw); go_simp; (try with_reducible rfl)
              try simp only [Act.put, List.setIfInBounds_toArray, List.set_cons_zero, List.set_cons_succ, List.getElem_toArray, List.getElem_cons_succ, List.getElem_cons_zero]
              refine wpAnyH_ready (rs := [11]) (by kernel_rfl) (by simp) ?_
              refine AllReadyH.cons rfl (fun Kc hK => ?_) AllReadyH.nil
              go_simp
              (try dsimp only)
              refine hK.out _ _ ?_ (fun hHeld => ?_)
              · (try dsimp only); exact hB9.setCell (by simp only; omega) _
              clear hK Kc
              try simp only [Act.put, List.setIfInBounds_toArray, List.set_cons_zero, List.set_cons_succ, List.getElem_toArray, List.getElem_cons_succ, List.getElem_cons_zero]
              have hC6 : Hid ((w9.setCell ⟨w.heap.size + 1, 0, none⟩ (.slice pb (k + 1) eb)).heap[w.heap.size + 1]? = some (.cells #[.slice pb (k + 1) eb, .slice pu k cu, .slice none 0 0] 47 (0, 0))) := blk_set hC9.out 0 _
              have hR6 : Hid ((w9.setCell ⟨w.heap.size + 1, 0, none⟩ (.slice pb (k + 1) eb)).heap[w.heap.size]? = some (.cells #[.slice none 0 0, .slice none 0 0, .slice none 0 0, .slice none 0 0, .int .i64 0] 91 (0, 0))) := blk_far hR9.out (by simp only; omega) _
              have O6 : Hid (World.ownsRow (w9.setCell ⟨w.heap.size + 1, 0, none⟩ (.slice pb (k + 1) eb)) (w.heap.size + 2) 135 19 (.slice pb (k + 1) eb) (k + 1) (flatS (csN (zs.take (k + 1))))) := by show World.ownsRow _ _ _ _ _ _ _; rw [HFS.out]; exact owns_far hO9.out (by simp only; omega) _
              have U6 : Hid (World.ownsRow (w9.setCell ⟨w.heap.size + 1, 0, none⟩ (.slice pb (k + 1) eb)) _ _ _ _ _ _) := owns_far hU9.out (a := ⟨w.heap.size + 1, 0, none⟩) (by simp only; omega) (.slice pb (k + 1) eb)
              have hB6 : Below w.heap.size w (w9.setCell ⟨w.heap.size + 1, 0, none⟩ (.slice pb (k + 1) eb)) := hB9.setCell (by simp only; omega) _
              clear t0 f0 hC9 hR9 hU9 hO9 hB9 hfold honeL hlenL HFS HST q1
              generalize (w9.setCell ⟨w.heap.size + 1, 0, none⟩ (.slice pb (k + 1) eb)) = W6 at hC6 hR6 O6 U6 hB6 hHeld ⊢
              refine wpAnyH_done (by kernel_rfl) ?_ _
              go_upto_region 12 with fail
              have c1 := cellW hC6.out 1 _ rfl W6 (Below.refl _ _)
              have hzw : w.heap.size + 2 ≤ W6.heap.size := by have := (Array.getElem?_eq_some_iff.1 hC6.out).1; omega
              have hCb : Hid _ := blk hC6.out (all_alloc W6 (.cells #[.bool true] 4))
              have hRb : Hid _ := blk hR6.out (all_alloc W6 (.cells #[.bool true] 4))
              have Ob : Hid (World.ownsRow _ _ _ _ _ _ _) := World.ownsRow.alloc O6.out (.cells #[.bool true] 4)
              have Ub : Hid (World.ownsRow _ _ _ _ _ _ _) := World.ownsRow.alloc U6.out (.cells #[.bool true] 4)
              have hBb := keepB hB6 (Nat.le_refl _) (all_alloc W6 (.cells #[.bool true] 4))
              have hzaH : Hid ((W6.alloc (.cells #[.bool true] 4)).heap.size = W6.heap.size + 1) := (by simp : (W6.alloc (.cells #[.bool true] 4)).heap.size = W6.heap.size + 1)
              go_wp2_with (at_builtin; refine wpList_append_own _ rfl (.tmp 60) (.tmp 61) 44 rfl (w.heap.size + 2) 4 j0 (.bool false) 1 1 Try.underlying44 bi bz0 bz1 bz2 rfl (by decide) _ _ _ rfl Ub.out ⟨W6.heap.size, 0, none⟩ 1 1 [.bool true] rfl rfl (cells_newG _ _ _ _ rfl) (by intro x hx; simp at hx; subst hx; rfl) (by unfold maxLen; omega) (by omega) (by simp; omega) ?_; intro v7 w7 hown7 hgr7 _; obtain ⟨pw, ew, rfl⟩ := owns_shape hown7; have hlo7 := World.ownsRow.lt Ub.out; have hza := hzaH.out; have hC7 : Hid (w7.heap[w.heap.size + 1]? = _) := (hgr7.block (w.heap.size + 1) (by omega) (fun e => by have := hlo7 _ e.symm; omega)).trans hCb.out; have hR7 : Hid (w7.heap[w.heap.size]? = _) := (hgr7.block w.heap.size (by omega) (fun e => by have := hlo7 _ e.symm; omega)).trans hRb.out; have hO7 : Hid (World.ownsRow w7 _ _ _ _ _ _) := World.ownsRow.kept Ob.out hgr7 (rows_ne Ob.out Ub.out (by decide)); have hU7 : Hid (World.ownsRow w7 _ _ _ _ _ _) := hown7; have hB7 : Below w.heap.size w w7 := hBb.grown hgr7 (by omega) (fun q e => by have := hlo7 q e; omega); clear hza hown7 hgr7 hlo7; have t1 := cellW hC7.out 1 _ rfl w7 (Below.refl _ _); have f1 := frozenW hC7.out 1 w7 (Below.refl _ _))
              go_roundw
              case rel => exact ⟨k + 1, by omega, by go_num, HY.out (by first | rfl | trivial), hY2.out, ⟨_, _, blk_set hC7.out 1 _, owns_far hO7.out (by simp only; omega) _, (by rw [HFU.out]; exact owns_far hU7.out (by simp only; omega) _)⟩, blk_far hR7.out (by simp only; omega) _, hB7.setCell (by simp only; omega) _⟩
              case measure => simp [intOf]; omega
            · go_simp
              (try dsimp only)
              refine hK.out _ _ ?_ (fun hHeld => ?_)
              · (try dsimp only); exact keepB hB (Nat.le_refl _) (all_alloc W1 (.cells L.toArray 135))
              clear hK Kc
              try simp only [Act.put, List.setIfInBounds_toArray, List.set_cons_zero, List.set_cons_succ, List.getElem_toArray, List.getElem_cons_succ, List.getElem_cons_zero]
              have hb := all_alloc W1 (.cells L.toArray 135)
              have rB : Hid _ := heap_alloc_new W1 (.cells L.toArray 135)
              replace hC : Hid _ := blk hC.out hb
              replace hRR : Hid _ := blk hRR.out hb
              replace hO : Hid (World.ownsRow _ _ _ _ _ _ _) := World.ownsRow.alloc hO.out (.cells L.toArray 135)
              replace hU : Hid (World.ownsRow _ _ _ _ _ _ _) := World.ownsRow.alloc hU.out (.cells L.toArray 135)
              replace hB := keepB hB (Nat.le_refl _) hb
              clear hb
              generalize W1.alloc (.cells L.toArray 135) = W2 at hC hRR hO hU rB hB hHeld ⊢
              refine wpAnyH_ready (rs := [1]) (by kernel_rfl) (by simp) ?_
              refine (AllReadyH.cons rfl (fun Kc hK => ?_) AllReadyH.nil)
              have c0 := cellW hC.out 0 _ rfl W2 (Below.refl _ _)
              go_simp
              (try dsimp only)
              refine hK.out _ _ ?_ (fun hHeld => ?_)
              · (try dsimp only); exact hB
              clear hK Kc
              try simp only [Act.put, List.setIfInBounds_toArray, List.set_cons_zero, List.set_cons_succ, List.getElem_toArray, List.getElem_cons_succ, List.getElem_cons_zero]
              clear c0
              refine wpAnyH_ready (rs := [9]) (by kernel_rfl) (by simp) ?_
              refine (AllReadyH.cons rfl (fun Kc hK => ?_) AllReadyH.nil)
              have hzw : w.heap.size + 2 ≤ W2.heap.size := by have := (Array.getElem?_eq_some_iff.1 hC.out).1; omega
              refine wp_append_own _ (.tmp 49) (.tmp 56) 43 rfl (w.heap.size + 2) 135 i0 (.agg #[.int .i64 0, .int .i64 0, .int .i64 0, .int .i64 0, .int .i64 0, .int .i64 0, .int .i64 0, .int .i64 0, .int .i64 0, .int .i64 0, .int .i64 0, .int .i64 0, .int .i64 0, .int .i64 0, .int .i64 0, .slice none 0 0, .slice none 0 0, .slice none 0 0, .slice none 0 0]) 19 216 Try.underlying43 hi hz0 hz1 hz2 rfl (by decide) _ _ _ rfl hO.out ⟨W1.heap.size, 0, none⟩ 1 1 L rfl (by rw [hlenL]) (cells_of rB.out) honeL (by unfold maxLen; omega) (by omega) (by omega) ?_
              intro v' w9 hown hgr _
              obtain ⟨pb, eb, rfl⟩ := owns_shape hown
              have hlo := World.ownsRow.lt hO.out
              have hC9 : Hid (w9.heap[w.heap.size + 1]? = _) := (hgr.block (w.heap.size + 1) (by omega) (fun e => by have := hlo _ e.symm; omega)).trans hC.out
              have hR9 : Hid (w9.heap[w.heap.size]? = _) := (hgr.block w.heap.size (by omega) (fun e => by have := hlo _ e.symm; omega)).trans hRR.out
              have hU9 : Hid (World.ownsRow w9 _ _ _ _ _ _) := World.ownsRow.kept hU.out hgr (rows_ne hU.out hO.out (by decide))
              have hO9 : Hid (World.ownsRow w9 _ _ _ _ _ _) := hown
              have hB9 : Below w.heap.size w w9 := hB.grown hgr hB.size (fun q e => by have := hlo q e; omega)
              refine hK.out _ _ ?_ (fun hHeld => ?_)
              · (try dsimp only); exact hB9
              clear hK Kc hown hgr hlo hC hRR hO hU rB hB hzw
              try simp only [Act.put, List.setIfInBounds_toArray, List.set_cons_zero, List.set_cons_succ, List.getElem_toArray, List.getElem_cons_succ, List.getElem_cons_zero]
              have t0 := cellW hC9.out 0 _ rfl w9 (Below.refl _ _)
              have f0 := frozenW hC9.out 0 w9 (Below.refl _ _)
              refine yieldH (i := 10) (v := ?_) rfl (by kernel_rfl) (by kernel_rfl) (by kernel_rfl) (fun _ _ _ h => h) (by rfl) ?_ (by assumption) ?_; rotate_left
              · intro w' hSw; (try dsimp only at hSw); go_simp; (try with_reducible rfl)
              try simp only [Act.put, List.setIfInBounds_toArray, List.set_cons_zero, List.set_cons_succ, List.getElem_toArray, List.getElem_cons_succ, List.getElem_cons_zero]
              refine wpAnyH_ready (rs := [11]) (by kernel_rfl) (by simp) ?_
              refine AllReadyH.cons rfl (fun Kc hK => ?_) AllReadyH.nil
              go_simp
              (try dsimp only)
              refine hK.out _ _ ?_ (fun hHeld => ?_)
              · (try dsimp only); exact hB9.setCell (by simp only; omega) _
              clear hK Kc
              try simp only [Act.put, List.setIfInBounds_toArray, List.set_cons_zero, List.set_cons_succ, List.getElem_toArray, List.getElem_cons_succ, List.getElem_cons_zero]
              have hC6 : Hid ((w9.setCell ⟨w.heap.size + 1, 0, none⟩ (.slice pb (k + 1) eb)).heap[w.heap.size + 1]? = some (.cells #[.slice pb (k + 1) eb, .slice pu k cu, .slice none 0 0] 47 (0, 0))) := blk_set hC9.out 0 _
              have hR6 : Hid ((w9.setCell ⟨w.heap.size + 1, 0, none⟩ (.slice pb (k + 1) eb)).heap[w.heap.size]? = some (.cells #[.slice none 0 0, .slice none 0 0, .slice none 0 0, .slice none 0 0, .int .i64 0] 91 (0, 0))) := blk_far hR9.out (by simp only; omega) _
              have O6 : Hid (World.ownsRow (w9.setCell ⟨w.heap.size + 1, 0, none⟩ (.slice pb (k + 1) eb)) (w.heap.size + 2) 135 19 (.slice pb (k + 1) eb) (k + 1) (flatS (csN (zs.take (k + 1))))) := by show World.ownsRow _ _ _ _ _ _ _; rw [HFS.out]; exact owns_far hO9.out (by simp only; omega) _
              have U6 : Hid (World.ownsRow (w9.setCell ⟨w.heap.size + 1, 0, none⟩ (.slice pb (k + 1) eb)) _ _ _ _ _ _) := owns_far hU9.out (a := ⟨w.heap.size + 1, 0, none⟩) (by simp only; omega) (.slice pb (k + 1) eb)
              have hB6 : Below w.heap.size w (w9.setCell ⟨w.heap.size + 1, 0, none⟩ (.slice pb (k + 1) eb)) := hB9.setCell (by simp only; omega) _
              clear t0 f0 hC9 hR9 hU9 hO9 hB9 hfold honeL hlenL HFS HST q1
              generalize (w9.setCell ⟨w.heap.size + 1, 0, none⟩ (.slice pb (k + 1) eb)) = W6 at hC6 hR6 O6 U6 hB6 hHeld ⊢
              refine wpAnyH_done (by kernel_rfl) ?_ _
              go_upto_region 12 with fail
              have c1 := cellW hC6.out 1 _ rfl W6 (Below.refl _ _)
              have hzw : w.heap.size + 2 ≤ W6.heap.size := by have := (Array.getElem?_eq_some_iff.1 hC6.out).1; omega
              have hCb : Hid _ := blk hC6.out (all_alloc W6 (.cells #[.bool true] 4))
              have hRb : Hid _ := blk hR6.out (all_alloc W6 (.cells #[.bool true] 4))
              have Ob : Hid (World.ownsRow _ _ _ _ _ _ _) := World.ownsRow.alloc O6.out (.cells #[.bool true] 4)
              have Ub : Hid (World.ownsRow _ _ _ _ _ _ _) := World.ownsRow.alloc U6.out (.cells #[.bool true] 4)
              have hBb := keepB hB6 (Nat.le_refl _) (all_alloc W6 (.cells #[.bool true] 4))
              have hzaH : Hid ((W6.alloc (.cells #[.bool true] 4)).heap.size = W6.heap.size + 1) := (by simp : (W6.alloc (.cells #[.bool true] 4)).heap.size = W6.heap.size + 1)
              go_wp2_with (at_builtin; refine wpList_append_own _ rfl (.tmp 60) (.tmp 61) 44 rfl (w.heap.size + 2) 4 j0 (.bool false) 1 1 Try.underlying44 bi bz0 bz1 bz2 rfl (by decide) _ _ _ rfl Ub.out ⟨W6.heap.size, 0, none⟩ 1 1 [.bool true] rfl rfl (cells_newG _ _ _ _ rfl) (by intro x hx; simp at hx; subst hx; rfl) (by unfold maxLen; omega) (by omega) (by simp; omega) ?_; intro v7 w7 hown7 hgr7 _; obtain ⟨pw, ew, rfl⟩ := owns_shape hown7; have hlo7 := World.ownsRow.lt Ub.out; have hza := hzaH.out; have hC7 : Hid (w7.heap[w.heap.size + 1]? = _) := (hgr7.block (w.heap.size + 1) (by omega) (fun e => by have := hlo7 _ e.symm; omega)).trans hCb.out; have hR7 : Hid (w7.heap[w.heap.size]? = _) := (hgr7.block w.heap.size (by omega) (fun e => by have := hlo7 _ e.symm; omega)).trans hRb.out; have hO7 : Hid (World.ownsRow w7 _ _ _ _ _ _) := World.ownsRow.kept Ob.out hgr7 (rows_ne Ob.out Ub.out (by decide)); have hU7 : Hid (World.ownsRow w7 _ _ _ _ _ _) := hown7; have hB7 : Below w.heap.size w w7 := hBb.grown hgr7 (by omega) (fun q e => by have := hlo7 q e; omega); clear hza hown7 hgr7 hlo7; have t1 := cellW hC7.out 1 _ rfl w7 (Below.refl _ _); have f1 := frozenW hC7.out 1 w7 (Below.refl _ _))
              go_roundw
              case rel => exact ⟨k + 1, by omega, by go_num, HY.out (by first | rfl | trivial), hY2.out, ⟨_, _, blk_set hC7.out 1 _, owns_far hO7.out (by simp only; omega) _, (by rw [HFU.out]; exact owns_far hU7.out (by simp only; omega) _)⟩, blk_far hR7.out (by simp only; omega) _, hB7.setCell (by simp only; omega) _⟩
              case measure => simp [intOf]; omega
        · obtain ⟨m, hkm⟩ : ∃ m, Hid (k = m + 1) := ⟨k - 1, (by omega : k = (k - 1) + 1)⟩
          have hm : m < zs.length := by have := hkm.out; omega
          have hk0 : (0 : Int) < (k : Int) := by omega
          have hk0n : 0 < k := h0
          have ewm : IntKind.i64.wrap ((k : Int) - 1) = (m : Int) := by
            have := hkm.out
            rw [show (k : Int) - 1 = (m : Int) by omega]
            exact wrapS m (by omega)
          have pm : ∀ W, Below w.heap.size w W → W.cell? ⟨gx, m, none⟩ = some (.int .i64 zs[m]) := fun W hW => by
            obtain ⟨_, _, e', hrow'⟩ := HX.out W hW
            cases e'
            obtain ⟨_, e2, _, q⟩ := hrow' m hm
            cases e2
            exact q
          have e9 : (0 :: zs).getD k 0 = zs[m] := by
            rw [hkm.out, List.getD_cons_succ, getD_at _ 0 hm]
          rw [e9] at HN2 HY2
          clear e9 hrow
          generalize zs[m] = pa at pm HN2 HY2
          generalize zs[k] = a at q1 HAD HTK HN2 HY2 hpos ha
          by_cases hlt2 : pa < a
          · have hle : ¬ a ≤ pa := by omega
            have hY2 : Hid _ := HY2.out (decide_eq_true hlt2)
            clear HN2 HY2 hlt2
            go_upto_region 9 with fail
            refine wp_region_held_drew (S := (fun w' => Below w.heap.size w w')) (by kernel_rfl) ?_ (fun hHeld => ?_)
            · (try dsimp only); exact hR
            refine yieldH (i := 0) (v := ?_) rfl (by kernel_rfl) (by kernel_rfl) (by kernel_rfl) (fun _ _ _ h => h) (by rfl) ?_ (by assumption) ?_; rotate_left
            · intro w hSw; (try dsimp only at hSw); go_simp; (try with_reducible rfl)
            try simp only [Act.put, List.setIfInBounds_toArray, List.set_cons_zero, List.set_cons_succ, List.getElem_toArray, List.getElem_cons_succ, List.getElem_cons_zero]
            refine yieldH (i := 1) (v := ?_) rfl (by kernel_rfl) (by kernel_rfl) (by kernel_rfl) (fun _ _ _ h => h) (by rfl) ?_ (by assumption) ?_; rotate_left
            · intro w hSw; (try dsimp only at hSw); go_simp; (try with_reducible rfl)
            try simp only [Act.put, List.setIfInBounds_toArray, List.set_cons_zero, List.set_cons_succ, List.getElem_toArray, List.getElem_cons_succ, List.getElem_cons_zero]
            refine yieldH (i := 2) (v := ?_) rfl (by kernel_rfl) (by kernel_rfl) (by kernel_rfl) (fun _ _ _ h => h) (by rfl) ?_ (by assumption) ?_; rotate_left
            · intro w hSw; (try dsimp only at hSw); go_simp; (try with_reducible rfl)
            try simp only [Act.put, List.setIfInBounds_toArray, List.set_cons_zero, List.set_cons_succ, List.getElem_toArray, List.getElem_cons_succ, List.getElem_cons_zero]
            refine yieldH (i := 3) (v := ?_) rfl (by kernel_rfl) (by kernel_rfl) (by kernel_rfl) (fun _ _ _ h => h) (by rfl) ?_ (by assumption) ?_; rotate_left
            · intro w hSw; (try dsimp only at hSw); go_simp; (try with_reducible rfl)
            try simp only [Act.put, List.setIfInBounds_toArray, List.set_cons_zero, List.set_cons_succ, List.getElem_toArray, List.getElem_cons_succ, List.getElem_cons_zero]
            refine wpAnyH_ready (rs := [4]) (by kernel_rfl) (by simp) ?_
            refine AllReadyH.cons rfl (fun K hK => ?_) AllReadyH.nil
            go_simp
            go_at_call 96; refine (HAD.out _).mono ?_; rintro e2 w2 ⟨rfl, rfl⟩
            dsimp only
            refine hK.out _ _ ?_ (fun hHeld => ?_)
            · (try dsimp only); exact hR
            clear hK K
            try simp only [Act.put, List.setIfInBounds_toArray, List.set_cons_zero, List.set_cons_succ, List.getElem_toArray, List.getElem_cons_succ, List.getElem_cons_zero]
            refine yieldH (i := 5) (v := ?_) rfl (by kernel_rfl) (by kernel_rfl) (by kernel_rfl) (fun _ _ _ h => h) (by rfl) ?_ (by assumption) ?_; rotate_left
            · intro w hSw; (try dsimp only at hSw); go_simp; (try with_reducible rfl)
            try simp only [Act.put, List.setIfInBounds_toArray, List.set_cons_zero, List.set_cons_succ, List.getElem_toArray, List.getElem_cons_succ, List.getElem_cons_zero]
            refine yieldH (i := 6) (v := ?_) rfl (by kernel_rfl) (by kernel_rfl) (by kernel_rfl) (fun _ _ _ h => h) (by rfl) ?_ (by assumption) ?_; rotate_left
            · intro w hSw; (try dsimp only at hSw); go_simp; (try with_reducible rfl)
            try simp only [Act.put, List.setIfInBounds_toArray, List.set_cons_zero, List.set_cons_succ, List.getElem_toArray, List.getElem_cons_succ, List.getElem_cons_zero]
            refine yieldH (i := 7) (v := ?_) rfl (by kernel_rfl) (by kernel_rfl) (by kernel_rfl) (fun _ _ _ h => h) (by rfl) ?_ (by assumption) ?_; rotate_left
            · intro w hSw; (try dsimp only at hSw); go_simp; (try with_reducible rfl)
            try simp only [Act.put, List.setIfInBounds_toArray, List.set_cons_zero, List.set_cons_succ, List.getElem_toArray, List.getElem_cons_succ, List.getElem_cons_zero]
            refine yieldH (i := 8) (v := ?_) rfl (by kernel_rfl) (by kernel_rfl) (by kernel_rfl) (fun _ _ _ h => h) (by rfl) ?_ (by assumption) ?_; rotate_left
            · intro w hSw; (try dsimp only at hSw); go_simp; (try with_reducible rfl)
            try simp only [Act.put, List.setIfInBounds_toArray, List.set_cons_zero, List.set_cons_succ, List.getElem_toArray, List.getElem_cons_succ, List.getElem_cons_zero]
            refine yieldH (i := 9) (v := ?_) rfl (by kernel_rfl) (by kernel_rfl) (by kernel_rfl) (fun _ _ _ h => h) (by rfl) ?_ (by assumption) ?_; rotate_left
            · intro w hSw; (try dsimp only at hSw); go_simp; (try with_reducible rfl)
            try simp only [Act.put, List.setIfInBounds_toArray, List.set_cons_zero, List.set_cons_succ, List.getElem_toArray, List.getElem_cons_succ, List.getElem_cons_zero]
            refine yieldH (i := 10) (v := ?_) rfl (by kernel_rfl) (by kernel_rfl) (by kernel_rfl) (fun _ _ _ h => h) (by rfl) ?_ (by assumption) ?_; rotate_left
            · intro w hSw; (try dsimp only at hSw); go_simp; (try with_reducible rfl)
            try simp only [Act.put, List.setIfInBounds_toArray, List.set_cons_zero, List.set_cons_succ, List.getElem_toArray, List.getElem_cons_succ, List.getElem_cons_zero]
            refine yieldH (i := 11) (v := ?_) rfl (by kernel_rfl) (by kernel_rfl) (by kernel_rfl) (fun _ _ _ h => h) (by rfl) ?_ (by assumption) ?_; rotate_left
            · intro w hSw; (try dsimp only at hSw); go_simp; (try with_reducible rfl)
            try simp only [Act.put, List.setIfInBounds_toArray, List.set_cons_zero, List.set_cons_succ, List.getElem_toArray, List.getElem_cons_succ, List.getElem_cons_zero]
            refine yieldH (i := 12) (v := ?_) rfl (by kernel_rfl) (by kernel_rfl) (by kernel_rfl) (fun _ _ _ h => h) (by rfl) ?_ (by assumption) ?_; rotate_left
            · intro w hSw; (try dsimp only at hSw); go_simp; (try with_reducible rfl)
            try simp only [Act.put, List.setIfInBounds_toArray, List.set_cons_zero, List.set_cons_succ, List.getElem_toArray, List.getElem_cons_succ, List.getElem_cons_zero]
            refine yieldH (i := 13) (v := ?_) rfl (by kernel_rfl) (by kernel_rfl) (by kernel_rfl) (fun _ _ _ h => h) (by rfl) ?_ (by assumption) ?_; rotate_left
            · intro w hSw; (try dsimp only at hSw); go_simp; (try with_reducible rfl)
            try simp only [Act.put, List.setIfInBounds_toArray, List.set_cons_zero, List.set_cons_succ, List.getElem_toArray, List.getElem_cons_succ, List.getElem_cons_zero]
            refine yieldH (i := 14) (v := ?_) rfl (by kernel_rfl) (by kernel_rfl) (by kernel_rfl) (fun _ _ _ h => h) (by rfl) ?_ (by assumption) ?_; rotate_left
            · intro w hSw; (try dsimp only at hSw); go_simp; (try with_reducible rfl)
            try simp only [Act.put, List.setIfInBounds_toArray, List.set_cons_zero, List.set_cons_succ, List.getElem_toArray, List.getElem_cons_succ, List.getElem_cons_zero]
            refine yieldH (i := 15) (v := ?_) rfl (by kernel_rfl) (by kernel_rfl) (by kernel_rfl) (fun _ _ _ h => h) (by rfl) ?_ (by assumption) ?_; rotate_left
            · intro w hSw; (try dsimp only at hSw); go_simp; (try with_reducible rfl)
            try simp only [Act.put, List.setIfInBounds_toArray, List.set_cons_zero, List.set_cons_succ, List.getElem_toArray, List.getElem_cons_succ, List.getElem_cons_zero]
            refine yieldH (i := 16) (v := ?_) rfl (by kernel_rfl) (by kernel_rfl) (by kernel_rfl) (fun _ _ _ h => h) (by rfl) ?_ (by assumption) ?_; rotate_left
            · intro w hSw; (try dsimp only at hSw); go_simp; (try with_reducible rfl)
            try simp only [Act.put, List.setIfInBounds_toArray, List.set_cons_zero, List.set_cons_succ, List.getElem_toArray, List.getElem_cons_succ, List.getElem_cons_zero]
            refine yieldH (i := 17) (v := ?_) rfl (by kernel_rfl) (by kernel_rfl) (by kernel_rfl) (fun _ _ _ h => h) (by rfl) ?_ (by assumption) ?_; rotate_left
            · intro w hSw; (try dsimp only at hSw); go_simp; (try with_reducible rfl)
            try simp only [Act.put, List.setIfInBounds_toArray, List.set_cons_zero, List.set_cons_succ, List.getElem_toArray, List.getElem_cons_succ, List.getElem_cons_zero]
            refine yieldH (i := 18) (v := ?_) rfl (by kernel_rfl) (by kernel_rfl) (by kernel_rfl) (fun _ _ _ h => h) (by rfl) ?_ (by assumption) ?_; rotate_left
            · intro w hSw; (try dsimp only at hSw); go_simp; (try with_reducible rfl)
            try simp only [Act.put, List.setIfInBounds_toArray, List.set_cons_zero, List.set_cons_succ, List.getElem_toArray, List.getElem_cons_succ, List.getElem_cons_zero]
            refine yieldH (i := 19) (v := ?_) rfl (by kernel_rfl) (by kernel_rfl) (by kernel_rfl) (fun _ _ _ h => h) (by rfl) ?_ (by assumption) ?_; rotate_left
            · intro w hSw; (try dsimp only at hSw); go_simp; (try with_reducible rfl)
            try simp only [Act.put, List.setIfInBounds_toArray, List.set_cons_zero, List.set_cons_succ, List.getElem_toArray, List.getElem_cons_succ, List.getElem_cons_zero]
            refine yieldH (i := 20) (v := ?_) rfl (by kernel_rfl) (by kernel_rfl) (by kernel_rfl) (fun _ _ _ h => h) (by rfl) ?_ (by assumption) ?_; rotate_left
            · intro w hSw; (try dsimp only at hSw); go_simp; (try with_reducible rfl)
            try simp only [Act.put, List.setIfInBounds_toArray, List.set_cons_zero, List.set_cons_succ, List.getElem_toArray, List.getElem_cons_succ, List.getElem_cons_zero]
            refine yieldH (i := 21) (v := ?_) rfl (by kernel_rfl) (by kernel_rfl) (by kernel_rfl) (fun _ _ _ h => h) (by rfl) ?_ (by assumption) ?_; rotate_left
            · intro w hSw; (try dsimp only at hSw); go_simp; (try with_reducible rfl)
            try simp only [Act.put, List.setIfInBounds_toArray, List.set_cons_zero, List.set_cons_succ, List.getElem_toArray, List.getElem_cons_succ, List.getElem_cons_zero]
            refine wpAnyH_done (by kernel_rfl) ?_ _
            clear pm ewm hkm hm hle
            obtain ⟨pv, cv, rfl⟩ := owns_shape HO.out
            obtain ⟨pu, cu, rfl⟩ := owns_shape HU.out
            have hB : Below w.heap.size w (World.drew (World.drew wr)) := Below.drew hR
            have hC : Hid ((World.drew (World.drew wr)).heap[w.heap.size + 1]? = some (.cells #[.slice pv k cv, .slice pu k cu, .slice none 0 0] 47 (0, 0))) := HCb.out
            have hRR : Hid ((World.drew (World.drew wr)).heap[w.heap.size]? = some (.cells #[.slice none 0 0, .slice none 0 0, .slice none 0 0, .slice none 0 0, .int .i64 0] 91 (0, 0))) := HR.out
            have hO : Hid (World.ownsRow (World.drew (World.drew wr)) _ _ _ _ _ _) := World.ownsRow.drew (World.ownsRow.drew HO.out)
            have hU : Hid (World.ownsRow (World.drew (World.drew wr)) _ _ _ _ _ _) := World.ownsRow.drew (World.ownsRow.drew HU.out)
            have HST : Hid (∀ W : World, Calls Try.prog 97 #[.int .i64 a, .int .i64 0] W fun e w' => e = .returned (.agg #[.int .i64 a, .int .i64 0, .int .i64 0, .int .i64 0, .int .i64 0, .int .i64 0, .int .i64 0, .int .i64 0, .int .i64 0, .int .i64 0, .int .i64 0, .int .i64 0, .int .i64 0, .int .i64 0, .int .i64 0, .slice none 0 0, .slice none 0 0, .slice none 0 0, .slice none 0 0, .slice none 0 0, .int .i64 0]) ∧ Below W.heap.size W w') := fun W => newS_ok a ha W
            have HFS : Hid (flatS (csN (zs.take (k + 1))) = flatS (csN (zs.take k)) ++ stC (newS a 0) nilV) := by show _ = _; rw [HTK.out]; exact flatS_more _ _
            have HFU : Hid (flatU (csN (zs.take (k + 1))) = flatU (csN (zs.take k)) ++ [.bool true]) := by show _ = _; rw [HTK.out]; exact flatU_more _ _
            have hk4 : k ≤ 4 := by omega
            clear HCb HR HO HU HC1 HC2 HC3 HA HRA HAD HTK ha
            go_upto_region 11 with fail
            refine wp_region_held_drew (S := (fun w' => Below w.heap.size w w')) (by kernel_rfl) ?_ (fun hHeld => ?_)
            · (try dsimp only); exact hB
            generalize (World.drew (World.drew wr)) = W0 at hB hC hRR hO hU hHeld ⊢
            refine yieldH (i := 0) (v := ?_) rfl (by kernel_rfl) (by kernel_rfl) (by kernel_rfl) (fun _ _ _ h => h) (by rfl) ?_ (by assumption) ?_; rotate_left
            · intro w' hSw; (try dsimp only at hSw); go_simp; (try with_reducible rfl)
            try simp only [Act.put, List.setIfInBounds_toArray, List.set_cons_zero, List.set_cons_succ, List.getElem_toArray, List.getElem_cons_succ, List.getElem_cons_zero]
            refine yieldH (i := 2) (v := ?_) rfl (by kernel_rfl) (by kernel_rfl) (by kernel_rfl) (fun _ _ _ h => h) (by rfl) ?_ (by assumption) ?_; rotate_left
            · intro w' hSw; (try dsimp only at hSw); go_simp; (try with_reducible rfl)
            try simp only [Act.put, List.setIfInBounds_toArray, List.set_cons_zero, List.set_cons_succ, List.getElem_toArray, List.getElem_cons_succ, List.getElem_cons_zero]
            refine yieldH (i := 3) (v := ?_) rfl (by kernel_rfl) (by kernel_rfl) (by kernel_rfl) (fun _ _ _ h => h) (by rfl) ?_ (by assumption) ?_; rotate_left
            · intro w' hSw; (try dsimp only at hSw); go_simp; (try with_reducible rfl)
            try simp only [Act.put, List.setIfInBounds_toArray, List.set_cons_zero, List.set_cons_succ, List.getElem_toArray, List.getElem_cons_succ, List.getElem_cons_zero]
            refine yieldH (i := 4) (v := ?_) rfl (by kernel_rfl) (by kernel_rfl) (by kernel_rfl) (fun _ _ _ h => h) (by rfl) ?_ (by assumption) ?_; rotate_left
            · intro w' hSw; (try dsimp only at hSw); go_simp; (try with_reducible rfl)
            try simp only [Act.put, List.setIfInBounds_toArray, List.set_cons_zero, List.set_cons_succ, List.getElem_toArray, List.getElem_cons_succ, List.getElem_cons_zero]
            refine yieldH (i := 5) (v := ?_) rfl (by kernel_rfl) (by kernel_rfl) (by kernel_rfl) (fun _ _ _ h => h) (by rfl) ?_ (by assumption) ?_; rotate_left
            · intro w' hSw; (try dsimp only at hSw); go_simp; (try with_reducible rfl)
            try simp only [Act.put, List.setIfInBounds_toArray, List.set_cons_zero, List.set_cons_succ, List.getElem_toArray, List.getElem_cons_succ, List.getElem_cons_zero]
            refine wpAnyH_ready (rs := [1, 6]) (by kernel_rfl) (by simp) ?_
            refine (AllReadyH.cons rfl (fun Kc hK => ?_) (AllReadyH.cons rfl (fun Kc hK => ?_) AllReadyH.nil))
            · have c0 := cellW hC.out 0 _ rfl W0 (Below.refl _ _)
              go_simp
              (try dsimp only)
              refine hK.out _ _ ?_ (fun hHeld => ?_)
              · (try dsimp only); exact hB
              clear hK Kc
              try simp only [Act.put, List.setIfInBounds_toArray, List.set_cons_zero, List.set_cons_succ, List.getElem_toArray, List.getElem_cons_succ, List.getElem_cons_zero]
              clear c0
              refine wpAnyH_ready (rs := [6]) (by kernel_rfl) (by simp) ?_
              refine (AllReadyH.cons rfl (fun Kc hK => ?_) AllReadyH.nil)
              go_simp
              go_at_call 97; refine (HST.out _).mono ?_; rintro e6 W1 ⟨rfl, hb⟩
              (try dsimp only)
              refine hK.out _ _ ?_ (fun hHeld => ?_)
              · (try dsimp only); exact keepB hB (Nat.le_refl _) hb
              clear hK Kc
              try simp only [Act.put, List.setIfInBounds_toArray, List.set_cons_zero, List.set_cons_succ, List.getElem_toArray, List.getElem_cons_succ, List.getElem_cons_zero]
              replace hC : Hid _ := blk hC.out hb
              replace hRR : Hid _ := blk hRR.out hb
              replace hO : Hid (World.ownsRow W1 _ _ _ _ _ _) := owns_below hO.out hb
              replace hU : Hid (World.ownsRow W1 _ _ _ _ _ _) := owns_below hU.out hb
              replace hB := keepB hB (Nat.le_refl _) hb
              clear hb
              refine yieldH (i := 7) (v := .agg (stC (newS a 0) nilV).toArray) rfl (by kernel_rfl) (by kernel_rfl) (by kernel_rfl) (fun _ _ _ h => h) (by rfl) ?_ (by assumption) ?_
              · intro w' hSw; (try dsimp only at hSw); go_simp; kernel_rfl
              try simp only [Act.put, List.setIfInBounds_toArray, List.set_cons_zero, List.set_cons_succ, List.getElem_toArray, List.getElem_cons_succ, List.getElem_cons_zero]
              obtain ⟨L, hL⟩ : ∃ L, stC (newS a 0) nilV = L := ⟨_, rfl⟩
              have hlenL : L.length = 19 := by rw [← hL]; rfl
              have honeL : ∀ u ∈ L, u.oneCell' = true := by rw [← hL]; intro u hu; simp [stC, newS, nilV] at hu; rcases hu with rfl | rfl | rfl | rfl <;> rfl
              have hfold : List.foldl (fun cs x => cs.setIfInBounds x.snd x.fst) #[.int .i64 0, .int .i64 0, .int .i64 0, .int .i64 0, .int .i64 0, .int .i64 0, .int .i64 0, .int .i64 0, .int .i64 0, .int .i64 0, .int .i64 0, .int .i64 0, .int .i64 0, .int .i64 0, .int .i64 0, .slice none 0 0, .slice none 0 0, .slice none 0 0, .slice none 0 0] L.zipIdx = L.toArray := fold_all L #[.int .i64 0, .int .i64 0, .int .i64 0, .int .i64 0, .int .i64 0, .int .i64 0, .int .i64 0, .int .i64 0, .int .i64 0, .int .i64 0, .int .i64 0, .int .i64 0, .int .i64 0, .int .i64 0, .int .i64 0, .slice none 0 0, .slice none 0 0, .slice none 0 0, .slice none 0 0] (by rw [hlenL]; rfl)
              rw [hL] at HFS
              rw [hL]
              clear hL
              refine wpAnyH_ready (rs := [8]) (by kernel_rfl) (by simp) ?_
              refine (AllReadyH.cons rfl (fun Kc hK => ?_) AllReadyH.nil)
              go_simp
              (try dsimp only)
              refine hK.out _ _ ?_ (fun hHeld => ?_)
              · (try dsimp only); exact keepB hB (Nat.le_refl _) (all_alloc W1 (.cells L.toArray 135))
              clear hK Kc
              try simp only [Act.put, List.setIfInBounds_toArray, List.set_cons_zero, List.set_cons_succ, List.getElem_toArray, List.getElem_cons_succ, List.getElem_cons_zero]
              have hb := all_alloc W1 (.cells L.toArray 135)
              have rB : Hid _ := heap_alloc_new W1 (.cells L.toArray 135)
              replace hC : Hid _ := blk hC.out hb
              replace hRR : Hid _ := blk hRR.out hb
              replace hO : Hid (World.ownsRow _ _ _ _ _ _ _) := World.ownsRow.alloc hO.out (.cells L.toArray 135)
              replace hU : Hid (World.ownsRow _ _ _ _ _ _ _) := World.ownsRow.alloc hU.out (.cells L.toArray 135)
              replace hB := keepB hB (Nat.le_refl _) hb
              clear hb
              generalize W1.alloc (.cells L.toArray 135) = W2 at hC hRR hO hU rB hB hHeld ⊢
              refine wpAnyH_ready (rs := [9]) (by kernel_rfl) (by simp) ?_
              refine (AllReadyH.cons rfl (fun Kc hK => ?_) AllReadyH.nil)
              have hzw : w.heap.size + 2 ≤ W2.heap.size := by have := (Array.getElem?_eq_some_iff.1 hC.out).1; omega
              refine wp_append_own _ (.tmp 49) (.tmp 56) 43 rfl (w.heap.size + 2) 135 i0 (.agg #[.int .i64 0, .int .i64 0, .int .i64 0, .int .i64 0, .int .i64 0, .int .i64 0, .int .i64 0, .int .i64 0, .int .i64 0, .int .i64 0, .int .i64 0, .int .i64 0, .int .i64 0, .int .i64 0, .int .i64 0, .slice none 0 0, .slice none 0 0, .slice none 0 0, .slice none 0 0]) 19 216 Try.underlying43 hi hz0 hz1 hz2 rfl (by decide) _ _ _ rfl hO.out ⟨W1.heap.size, 0, none⟩ 1 1 L rfl (by rw [hlenL]) (cells_of rB.out) honeL (by unfold maxLen; omega) (by omega) (by omega) ?_
              intro v' w9 hown hgr _
              obtain ⟨pb, eb, rfl⟩ := owns_shape hown
              have hlo := World.ownsRow.lt hO.out
              have hC9 : Hid (w9.heap[w.heap.size + 1]? = _) := (hgr.block (w.heap.size + 1) (by omega) (fun e => by have := hlo _ e.symm; omega)).trans hC.out
              have hR9 : Hid (w9.heap[w.heap.size]? = _) := (hgr.block w.heap.size (by omega) (fun e => by have := hlo _ e.symm; omega)).trans hRR.out
              have hU9 : Hid (World.ownsRow w9 _ _ _ _ _ _) := World.ownsRow.kept hU.out hgr (rows_ne hU.out hO.out (by decide))
              have hO9 : Hid (World.ownsRow w9 _ _ _ _ _ _) := hown
              have hB9 : Below w.heap.size w w9 := hB.grown hgr hB.size (fun q e => by have := hlo q e; omega)
              refine hK.out _ _ ?_ (fun hHeld => ?_)
              · (try dsimp only); exact hB9
              clear hK Kc hown hgr hlo hC hRR hO hU rB hB hzw
              try simp only [Act.put, List.setIfInBounds_toArray, List.set_cons_zero, List.set_cons_succ, List.getElem_toArray, List.getElem_cons_succ, List.getElem_cons_zero]
              have t0 := cellW hC9.out 0 _ rfl w9 (Below.refl _ _)
              have f0 := frozenW hC9.out 0 w9 (Below.refl _ _)
              refine yieldH (i := 10) (v := ?_) rfl (by kernel_rfl) (by kernel_rfl) (by kernel_rfl) (fun _ _ _ h => h) (by rfl) ?_ (by assumption) ?_; rotate_left
              · intro w' hSw; (try dsimp only at hSw); go_simp; (try with_reducible rfl)
              try simp only [Act.put, List.setIfInBounds_toArray, List.set_cons_zero, List.set_cons_succ, List.getElem_toArray, List.getElem_cons_succ, List.getElem_cons_zero]
              refine wpAnyH_ready (rs := [11]) (by kernel_rfl) (by simp) ?_
              refine AllReadyH.cons rfl (fun Kc hK => ?_) AllReadyH.nil
              go_simp
              (try dsimp only)
              refine hK.out _ _ ?_ (fun hHeld => ?_)
              · (try dsimp only); exact hB9.setCell (by simp only; omega) _
              clear hK Kc
              try simp only [Act.put, List.setIfInBounds_toArray, List.set_cons_zero, List.set_cons_succ, List.getElem_toArray, List.getElem_cons_succ, List.getElem_cons_zero]
              have hC6 : Hid ((w9.setCell ⟨w.heap.size + 1, 0, none⟩ (.slice pb (k + 1) eb)).heap[w.heap.size + 1]? = some (.cells #[.slice pb (k + 1) eb, .slice pu k cu, .slice none 0 0] 47 (0, 0))) := blk_set hC9.out 0 _
              have hR6 : Hid ((w9.setCell ⟨w.heap.size + 1, 0, none⟩ (.slice pb (k + 1) eb)).heap[w.heap.size]? = some (.cells #[.slice none 0 0, .slice none 0 0, .slice none 0 0, .slice none 0 0, .int .i64 0] 91 (0, 0))) := blk_far hR9.out (by simp only; omega) _
              have O6 : Hid (World.ownsRow (w9.setCell ⟨w.heap.size + 1, 0, none⟩ (.slice pb (k + 1) eb)) (w.heap.size + 2) 135 19 (.slice pb (k + 1) eb) (k + 1) (flatS (csN (zs.take (k + 1))))) := by show World.ownsRow _ _ _ _ _ _ _; rw [HFS.out]; exact owns_far hO9.out (by simp only; omega) _
              have U6 : Hid (World.ownsRow (w9.setCell ⟨w.heap.size + 1, 0, none⟩ (.slice pb (k + 1) eb)) _ _ _ _ _ _) := owns_far hU9.out (a := ⟨w.heap.size + 1, 0, none⟩) (by simp only; omega) (.slice pb (k + 1) eb)
              have hB6 : Below w.heap.size w (w9.setCell ⟨w.heap.size + 1, 0, none⟩ (.slice pb (k + 1) eb)) := hB9.setCell (by simp only; omega) _
              clear t0 f0 hC9 hR9 hU9 hO9 hB9 hfold honeL hlenL HFS HST q1
              generalize (w9.setCell ⟨w.heap.size + 1, 0, none⟩ (.slice pb (k + 1) eb)) = W6 at hC6 hR6 O6 U6 hB6 hHeld ⊢
              refine wpAnyH_done (by kernel_rfl) ?_ _
              go_upto_region 12 with fail
              have c1 := cellW hC6.out 1 _ rfl W6 (Below.refl _ _)
              have hzw : w.heap.size + 2 ≤ W6.heap.size := by have := (Array.getElem?_eq_some_iff.1 hC6.out).1; omega
              have hCb : Hid _ := blk hC6.out (all_alloc W6 (.cells #[.bool true] 4))
              have hRb : Hid _ := blk hR6.out (all_alloc W6 (.cells #[.bool true] 4))
              have Ob : Hid (World.ownsRow _ _ _ _ _ _ _) := World.ownsRow.alloc O6.out (.cells #[.bool true] 4)
              have Ub : Hid (World.ownsRow _ _ _ _ _ _ _) := World.ownsRow.alloc U6.out (.cells #[.bool true] 4)
              have hBb := keepB hB6 (Nat.le_refl _) (all_alloc W6 (.cells #[.bool true] 4))
              have hzaH : Hid ((W6.alloc (.cells #[.bool true] 4)).heap.size = W6.heap.size + 1) := (by simp : (W6.alloc (.cells #[.bool true] 4)).heap.size = W6.heap.size + 1)
              go_wp2_with (at_builtin; refine wpList_append_own _ rfl (.tmp 60) (.tmp 61) 44 rfl (w.heap.size + 2) 4 j0 (.bool false) 1 1 Try.underlying44 bi bz0 bz1 bz2 rfl (by decide) _ _ _ rfl Ub.out ⟨W6.heap.size, 0, none⟩ 1 1 [.bool true] rfl rfl (cells_newG _ _ _ _ rfl) (by intro x hx; simp at hx; subst hx; rfl) (by unfold maxLen; omega) (by omega) (by simp; omega) ?_; intro v7 w7 hown7 hgr7 _; obtain ⟨pw, ew, rfl⟩ := owns_shape hown7; have hlo7 := World.ownsRow.lt Ub.out; have hza := hzaH.out; have hC7 : Hid (w7.heap[w.heap.size + 1]? = _) := (hgr7.block (w.heap.size + 1) (by omega) (fun e => by have := hlo7 _ e.symm; omega)).trans hCb.out; have hR7 : Hid (w7.heap[w.heap.size]? = _) := (hgr7.block w.heap.size (by omega) (fun e => by have := hlo7 _ e.symm; omega)).trans hRb.out; have hO7 : Hid (World.ownsRow w7 _ _ _ _ _ _) := World.ownsRow.kept Ob.out hgr7 (rows_ne Ob.out Ub.out (by decide)); have hU7 : Hid (World.ownsRow w7 _ _ _ _ _ _) := hown7; have hB7 : Below w.heap.size w w7 := hBb.grown hgr7 (by omega) (fun q e => by have := hlo7 q e; omega); clear hza hown7 hgr7 hlo7; have t1 := cellW hC7.out 1 _ rfl w7 (Below.refl _ _); have f1 := frozenW hC7.out 1 w7 (Below.refl _ _))
              go_roundw
              case rel => exact ⟨k + 1, by omega, by go_num, HY.out (by first | rfl | trivial), hY2.out, ⟨_, _, blk_set hC7.out 1 _, owns_far hO7.out (by simp only; omega) _, (by rw [HFU.out]; exact owns_far hU7.out (by simp only; omega) _)⟩, blk_far hR7.out (by simp only; omega) _, hB7.setCell (by simp only; omega) _⟩
              case measure => simp [intOf]; omega
            · go_simp
              go_at_call 97; refine (HST.out _).mono ?_; rintro e6 W1 ⟨rfl, hb⟩
              (try dsimp only)
              refine hK.out _ _ ?_ (fun hHeld => ?_)
              · (try dsimp only); exact keepB hB (Nat.le_refl _) hb
              clear hK Kc
              try simp only [Act.put, List.setIfInBounds_toArray, List.set_cons_zero, List.set_cons_succ, List.getElem_toArray, List.getElem_cons_succ, List.getElem_cons_zero]
              replace hC : Hid _ := blk hC.out hb
              replace hRR : Hid _ := blk hRR.out hb
              replace hO : Hid (World.ownsRow W1 _ _ _ _ _ _) := owns_below hO.out hb
              replace hU : Hid (World.ownsRow W1 _ _ _ _ _ _) := owns_below hU.out hb
              replace hB := keepB hB (Nat.le_refl _) hb
              clear hb
              refine yieldH (i := 7) (v := .agg (stC (newS a 0) nilV).toArray) rfl (by kernel_rfl) (by kernel_rfl) (by kernel_rfl) (fun _ _ _ h => h) (by rfl) ?_ (by assumption) ?_
              · intro w' hSw; (try dsimp only at hSw); go_simp; kernel_rfl
              try simp only [Act.put, List.setIfInBounds_toArray, List.set_cons_zero, List.set_cons_succ, List.getElem_toArray, List.getElem_cons_succ, List.getElem_cons_zero]
              obtain ⟨L, hL⟩ : ∃ L, stC (newS a 0) nilV = L := ⟨_, rfl⟩
              have hlenL : L.length = 19 := by rw [← hL]; rfl
              have honeL : ∀ u ∈ L, u.oneCell' = true := by rw [← hL]; intro u hu; simp [stC, newS, nilV] at hu; rcases hu with rfl | rfl | rfl | rfl <;> rfl
              have hfold : List.foldl (fun cs x => cs.setIfInBounds x.snd x.fst) #[.int .i64 0, .int .i64 0, .int .i64 0, .int .i64 0, .int .i64 0, .int .i64 0, .int .i64 0, .int .i64 0, .int .i64 0, .int .i64 0, .int .i64 0, .int .i64 0, .int .i64 0, .int .i64 0, .int .i64 0, .slice none 0 0, .slice none 0 0, .slice none 0 0, .slice none 0 0] L.zipIdx = L.toArray := fold_all L #[.int .i64 0, .int .i64 0, .int .i64 0, .int .i64 0, .int .i64 0, .int .i64 0, .int .i64 0, .int .i64 0, .int .i64 0, .int .i64 0, .int .i64 0, .int .i64 0, .int .i64 0, .int .i64 0, .int .i64 0, .slice none 0 0, .slice none 0 0, .slice none 0 0, .slice none 0 0] (by rw [hlenL]; rfl)
              rw [hL] at HFS
              rw [hL]
              clear hL
              refine wpAnyH_ready (rs := [1, 8]) (by kernel_rfl) (by simp) ?_
              refine (AllReadyH.cons rfl (fun Kc hK => ?_) (AllReadyH.cons rfl (fun Kc hK => ?_) AllReadyH.nil))
              · have c0 := cellW hC.out 0 _ rfl W1 (Below.refl _ _)
                go_simp
                (try dsimp only)
                refine hK.out _ _ ?_ (fun hHeld => ?_)
                · (try dsimp only); exact hB
                clear hK Kc
                try simp only [Act.put, List.setIfInBounds_toArray, List.set_cons_zero, List.set_cons_succ, List.getElem_toArray, List.getElem_cons_succ, List.getElem_cons_zero]
                clear c0
                refine wpAnyH_ready (rs := [8]) (by kernel_rfl) (by simp) ?_
                refine (AllReadyH.cons rfl (fun Kc hK => ?_) AllReadyH.nil)
                go_simp
                (try dsimp only)
                refine hK.out _ _ ?_ (fun hHeld => ?_)
                · (try dsimp only); exact keepB hB (Nat.le_refl _) (all_alloc W1 (.cells L.toArray 135))
                clear hK Kc
                try simp only [Act.put, List.setIfInBounds_toArray, List.set_cons_zero, List.set_cons_succ, List.getElem_toArray, List.getElem_cons_succ, List.getElem_cons_zero]
                have hb := all_alloc W1 (.cells L.toArray 135)
                have rB : Hid _ := heap_alloc_new W1 (.cells L.toArray 135)
                replace hC : Hid _ := blk hC.out hb
                replace hRR : Hid _ := blk hRR.out hb
                replace hO : Hid (World.ownsRow _ _ _ _ _ _ _) := World.ownsRow.alloc hO.out (.cells L.toArray 135)
                replace hU : Hid (World.ownsRow _ _ _ _ _ _ _) := World.ownsRow.alloc hU.out (.cells L.toArray 135)
                replace hB := keepB hB (Nat.le_refl _) hb
                clear hb
                generalize W1.alloc (.cells L.toArray 135) = W2 at hC hRR hO hU rB hB hHeld ⊢
                refine wpAnyH_ready (rs := [9]) (by kernel_rfl) (by simp) ?_
                refine (AllReadyH.cons rfl (fun Kc hK => ?_) AllReadyH.nil)
                have hzw : w.heap.size + 2 ≤ W2.heap.size := by have := (Array.getElem?_eq_some_iff.1 hC.out).1; omega
                refine wp_append_own _ (.tmp 49) (.tmp 56) 43 rfl (w.heap.size + 2) 135 i0 (.agg #[.int .i64 0, .int .i64 0, .int .i64 0, .int .i64 0, .int .i64 0, .int .i64 0, .int .i64 0, .int .i64 0, .int .i64 0, .int .i64 0, .int .i64 0, .int .i64 0, .int .i64 0, .int .i64 0, .int .i64 0, .slice none 0 0, .slice none 0 0, .slice none 0 0, .slice none 0 0]) 19 216 Try.underlying43 hi hz0 hz1 hz2 rfl (by decide) _ _ _ rfl hO.out ⟨W1.heap.size, 0, none⟩ 1 1 L rfl (by rw [hlenL]) (cells_of rB.out) honeL (by unfold maxLen; omega) (by omega) (by omega) ?_
                intro v' w9 hown hgr _
                obtain ⟨pb, eb, rfl⟩ := owns_shape hown
                have hlo := World.ownsRow.lt hO.out
                have hC9 : Hid (w9.heap[w.heap.size + 1]? = _) := (hgr.block (w.heap.size + 1) (by omega) (fun e => by have := hlo _ e.symm; omega)).trans hC.out
                have hR9 : Hid (w9.heap[w.heap.size]? = _) := (hgr.block w.heap.size (by omega) (fun e => by have := hlo _ e.symm; omega)).trans hRR.out
                have hU9 : Hid (World.ownsRow w9 _ _ _ _ _ _) := World.ownsRow.kept hU.out hgr (rows_ne hU.out hO.out (by decide))
                have hO9 : Hid (World.ownsRow w9 _ _ _ _ _ _) := hown
                have hB9 : Below w.heap.size w w9 := hB.grown hgr hB.size (fun q e => by have := hlo q e; omega)
                refine hK.out _ _ ?_ (fun hHeld => ?_)
                · (try dsimp only); exact hB9
                clear hK Kc hown hgr hlo hC hRR hO hU rB hB hzw
                try simp only [Act.put, List.setIfInBounds_toArray, List.set_cons_zero, List.set_cons_succ, List.getElem_toArray, List.getElem_cons_succ, List.getElem_cons_zero]
                have t0 := cellW hC9.out 0 _ rfl w9 (Below.refl _ _)
                have f0 := frozenW hC9.out 0 w9 (Below.refl _ _)
                refine yieldH (i := 10) (v := ?_) rfl (by kernel_rfl) (by kernel_rfl) (by kernel_rfl) (fun _ _ _ h => h) (by rfl) ?_ (by assumption) ?_; rotate_left
                · intro w' hSw; (try dsimp only at hSw); go_simp; (try with_reducible rfl)
                try simp only [Act.put, List.setIfInBounds_toArray, List.set_cons_zero, List.set_cons_succ, List.getElem_toArray, List.getElem_cons_succ, List.getElem_cons_zero]
                refine wpAnyH_ready (rs := [11]) (by kernel_rfl) (by simp) ?_
                refine AllReadyH.cons rfl (fun Kc hK => ?_) AllReadyH.nil
                go_simp
                (try dsimp only)
                refine hK.out _ _ ?_ (fun hHeld => ?_)
                · (try dsimp only); exact hB9.setCell (by simp only; omega) _
                clear hK Kc
                try simp only [Act.put, List.setIfInBounds_toArray, List.set_cons_zero, List.set_cons_succ, List.getElem_toArray, List.getElem_cons_succ, List.getElem_cons_zero]
                have hC6 : Hid ((w9.setCell ⟨w.heap.size + 1, 0, none⟩ (.slice pb (k + 1) eb)).heap[w.heap.size + 1]? = some (.cells #[.slice pb (k + 1) eb, .slice pu k cu, .slice none 0 0] 47 (0, 0))) := blk_set hC9.out 0 _
                have hR6 : Hid ((w9.setCell ⟨w.heap.size + 1, 0, none⟩ (.slice pb (k + 1) eb)).heap[w.heap.size]? = some (.cells #[.slice none 0 0, .slice none 0 0, .slice none 0 0, .slice none 0 0, .int .i64 0] 91 (0, 0))) := blk_far hR9.out (by simp only; omega) _
                have O6 : Hid (World.ownsRow (w9.setCell ⟨w.heap.size + 1, 0, none⟩ (.slice pb (k + 1) eb)) (w.heap.size + 2) 135 19 (.slice pb (k + 1) eb) (k + 1) (flatS (csN (zs.take (k + 1))))) := by show World.ownsRow _ _ _ _ _ _ _; rw [HFS.out]; exact owns_far hO9.out (by simp only; omega) _
                have U6 : Hid (World.ownsRow (w9.setCell ⟨w.heap.size + 1, 0, none⟩ (.slice pb (k + 1) eb)) _ _ _ _ _ _) := owns_far hU9.out (a := ⟨w.heap.size + 1, 0, none⟩) (by simp only; omega) (.slice pb (k + 1) eb)
                have hB6 : Below w.heap.size w (w9.setCell ⟨w.heap.size + 1, 0, none⟩ (.slice pb (k + 1) eb)) := hB9.setCell (by simp only; omega) _
                clear t0 f0 hC9 hR9 hU9 hO9 hB9 hfold honeL hlenL HFS HST q1
                generalize (w9.setCell ⟨w.heap.size + 1, 0, none⟩ (.slice pb (k + 1) eb)) = W6 at hC6 hR6 O6 U6 hB6 hHeld ⊢
                refine wpAnyH_done (by kernel_rfl) ?_ _
                go_upto_region 12 with fail
                have c1 := cellW hC6.out 1 _ rfl W6 (Below.refl _ _)
                have hzw : w.heap.size + 2 ≤ W6.heap.size := by have := (Array.getElem?_eq_some_iff.1 hC6.out).1; omega
                have hCb : Hid _ := blk hC6.out (all_alloc W6 (.cells #[.bool true] 4))
                have hRb : Hid _ := blk hR6.out (all_alloc W6 (.cells #[.bool true] 4))
                have Ob : Hid (World.ownsRow _ _ _ _ _ _ _) := World.ownsRow.alloc O6.out (.cells #[.bool true] 4)
                have Ub : Hid (World.ownsRow _ _ _ _ _ _ _) := World.ownsRow.alloc U6.out (.cells #[.bool true] 4)
                have hBb := keepB hB6 (Nat.le_refl _) (all_alloc W6 (.cells #[.bool true] 4))
                have hzaH : Hid ((W6.alloc (.cells #[.bool true] 4)).heap.size = W6.heap.size + 1) := (by simp : (W6.alloc (.cells #[.bool true] 4)).heap.size = W6.heap.size + 1)
                go_wp2_with (at_builtin; refine wpList_append_own _ rfl (.tmp 60) (.tmp 61) 44 rfl (w.heap.size + 2) 4 j0 (.bool false) 1 1 Try.underlying44 bi bz0 bz1 bz2 rfl (by decide) _ _ _ rfl Ub.out ⟨W6.heap.size, 0, none⟩ 1 1 [.bool true] rfl rfl (cells_newG _ _ _ _ rfl) (by intro x hx; simp at hx; subst hx; rfl) (by unfold maxLen; omega) (by omega) (by simp; omega) ?_; intro v7 w7 hown7 hgr7 _; obtain ⟨pw, ew, rfl⟩ := owns_shape hown7; have hlo7 := World.ownsRow.lt Ub.out; have hza := hzaH.out; have hC7 : Hid (w7.heap[w.heap.size + 1]? = _) := (hgr7.block (w.heap.size + 1) (by omega) (fun e => by have := hlo7 _ e.symm; omega)).trans hCb.out; have hR7 : Hid (w7.heap[w.heap.size]? = _) := (hgr7.block w.heap.size (by omega) (fun e => by have := hlo7 _ e.symm; omega)).trans hRb.out; have hO7 : Hid (World.ownsRow w7 _ _ _ _ _ _) := World.ownsRow.kept Ob.out hgr7 (rows_ne Ob.out Ub.out (by decide)); have hU7 : Hid (World.ownsRow w7 _ _ _ _ _ _) := hown7; have hB7 : Below w.heap.size w w7 := hBb.grown hgr7 (by omega) (fun q e => by have := hlo7 q e; omega); clear hza hown7 hgr7 hlo7; have t1 := cellW hC7.out 1 _ rfl w7 (Below.refl _ _); have f1 := frozenW hC7.out 1 w7 (Below.refl _ _))
                go_roundw
                case rel => exact ⟨k + 1, by omega, by go_num, HY.out (by first | rfl | trivial), hY2.out, ⟨_, _, blk_set hC7.out 1 _, owns_far hO7.out (by simp only; omega) _, (by rw [HFU.out]; exact owns_far hU7.out (by simp only; omega) _)⟩, blk_far hR7.out (by simp only; omega) _, hB7.setCell (by simp only; omega) _⟩
                case measure => simp [intOf]; omega
              · go_simp
                (try dsimp only)
                refine hK.out _ _ ?_ (fun hHeld => ?_)
                · (try dsimp only); exact keepB hB (Nat.le_refl _) (all_alloc W1 (.cells L.toArray 135))
                clear hK Kc
                try simp only [Act.put, List.setIfInBounds_toArray, List.set_cons_zero, List.set_cons_succ, List.getElem_toArray, List.getElem_cons_succ, List.getElem_cons_zero]
                have hb := all_alloc W1 (.cells L.toArray 135)
                have rB : Hid _ := heap_alloc_new W1 (.cells L.toArray 135)
                replace hC : Hid _ := blk hC.out hb
                replace hRR : Hid _ := blk hRR.out hb
                replace hO : Hid (World.ownsRow _ _ _ _ _ _ _) := World.ownsRow.alloc hO.out (.cells L.toArray 135)
                replace hU : Hid (World.ownsRow _ _ _ _ _ _ _) := World.ownsRow.alloc hU.out (.cells L.toArray 135)
                replace hB := keepB hB (Nat.le_refl _) hb
                clear hb
                generalize W1.alloc (.cells L.toArray 135) = W2 at hC hRR hO hU rB hB hHeld ⊢
                refine wpAnyH_ready (rs := [1]) (by kernel_rfl) (by simp) ?_
                refine (AllReadyH.cons rfl (fun Kc hK => ?_) AllReadyH.nil)
                have c0 := cellW hC.out 0 _ rfl W2 (Below.refl _ _)
                go_simp
                (try dsimp only)
                refine hK.out _ _ ?_ (fun hHeld => ?_)
                · (try dsimp only); exact hB
                clear hK Kc
                try simp only [Act.put, List.setIfInBounds_toArray, List.set_cons_zero, List.set_cons_succ, List.getElem_toArray, List.getElem_cons_succ, List.getElem_cons_zero]
                clear c0
                refine wpAnyH_ready (rs := [9]) (by kernel_rfl) (by simp) ?_
                refine (AllReadyH.cons rfl (fun Kc hK => ?_) AllReadyH.nil)
                have hzw : w.heap.size + 2 ≤ W2.heap.size := by have := (Array.getElem?_eq_some_iff.1 hC.out).1; omega
                refine wp_append_own _ (.tmp 49) (.tmp 56) 43 rfl (w.heap.size + 2) 135 i0 (.agg #[.int .i64 0, .int .i64 0, .int .i64 0, .int .i64 0, .int .i64 0, .int .i64 0, .int .i64 0, .int .i64 0, .int .i64 0, .int .i64 0, .int .i64 0, .int .i64 0, .int .i64 0, .int .i64 0, .int .i64 0, .slice none 0 0, .slice none 0 0, .slice none 0 0, .slice none 0 0]) 19 216 Try.underlying43 hi hz0 hz1 hz2 rfl (by decide) _ _ _ rfl hO.out ⟨W1.heap.size, 0, none⟩ 1 1 L rfl (by rw [hlenL]) (cells_of rB.out) honeL (by unfold maxLen; omega) (by omega) (by omega) ?_
                intro v' w9 hown hgr _
                obtain ⟨pb, eb, rfl⟩ := owns_shape hown
                have hlo := World.ownsRow.lt hO.out
                have hC9 : Hid (w9.heap[w.heap.size + 1]? = _) := (hgr.block (w.heap.size + 1) (by omega) (fun e => by have := hlo _ e.symm; omega)).trans hC.out
                have hR9 : Hid (w9.heap[w.heap.size]? = _) := (hgr.block w.heap.size (by omega) (fun e => by have := hlo _ e.symm; omega)).trans hRR.out
                have hU9 : Hid (World.ownsRow w9 _ _ _ _ _ _) := World.ownsRow.kept hU.out hgr (rows_ne hU.out hO.out (by decide))
                have hO9 : Hid (World.ownsRow w9 _ _ _ _ _ _) := hown
                have hB9 : Below w.heap.size w w9 := hB.grown hgr hB.size (fun q e => by have := hlo q e; omega)
                refine hK.out _ _ ?_ (fun hHeld => ?_)
                · (try dsimp only); exact hB9
                clear hK Kc hown hgr hlo hC hRR hO hU rB hB hzw
                try simp only [Act.put, List.setIfInBounds_toArray, List.set_cons_zero, List.set_cons_succ, List.getElem_toArray, List.getElem_cons_succ, List.getElem_cons_zero]
                have t0 := cellW hC9.out 0 _ rfl w9 (Below.refl _ _)
                have f0 := frozenW hC9.out 0 w9 (Below.refl _ _)
                refine yieldH (i := 10) (v := ?_) rfl (by kernel_rfl) (by kernel_rfl) (by kernel_rfl) (fun _ _ _ h => h) (by rfl) ?_ (by assumption) ?_; rotate_left
                · intro w' hSw; (try dsimp only at hSw); go_simp; (try with_reducible rfl)
                try simp only [Act.put, List.setIfInBounds_toArray, List.set_cons_zero, List.set_cons_succ, List.getElem_toArray, List.getElem_cons_succ, List.getElem_cons_zero]
                refine wpAnyH_ready (rs := [11]) (by kernel_rfl) (by simp) ?_
                refine AllReadyH.cons rfl (fun Kc hK => ?_) AllReadyH.nil
                go_simp
                (try dsimp only)
                refine hK.out _ _ ?_ (fun hHeld => ?_)
                · (try dsimp only); exact hB9.setCell (by simp only; omega) _
                clear hK Kc
                try simp only [Act.put, List.setIfInBounds_toArray, List.set_cons_zero, List.set_cons_succ, List.getElem_toArray, List.getElem_cons_succ, List.getElem_cons_zero]
                have hC6 : Hid ((w9.setCell ⟨w.heap.size + 1, 0, none⟩ (.slice pb (k + 1) eb)).heap[w.heap.size + 1]? = some (.cells #[.slice pb (k + 1) eb, .slice pu k cu, .slice none 0 0] 47 (0, 0))) := blk_set hC9.out 0 _
                have hR6 : Hid ((w9.setCell ⟨w.heap.size + 1, 0, none⟩ (.slice pb (k + 1) eb)).heap[w.heap.size]? = some (.cells #[.slice none 0 0, .slice none 0 0, .slice none 0 0, .slice none 0 0, .int .i64 0] 91 (0, 0))) := blk_far hR9.out (by simp only; omega) _
                have O6 : Hid (World.ownsRow (w9.setCell ⟨w.heap.size + 1, 0, none⟩ (.slice pb (k + 1) eb)) (w.heap.size + 2) 135 19 (.slice pb (k + 1) eb) (k + 1) (flatS (csN (zs.take (k + 1))))) := by show World.ownsRow _ _ _ _ _ _ _; rw [HFS.out]; exact owns_far hO9.out (by simp only; omega) _
                have U6 : Hid (World.ownsRow (w9.setCell ⟨w.heap.size + 1, 0, none⟩ (.slice pb (k + 1) eb)) _ _ _ _ _ _) := owns_far hU9.out (a := ⟨w.heap.size + 1, 0, none⟩) (by simp only; omega) (.slice pb (k + 1) eb)
                have hB6 : Below w.heap.size w (w9.setCell ⟨w.heap.size + 1, 0, none⟩ (.slice pb (k + 1) eb)) := hB9.setCell (by simp only; omega) _
                clear t0 f0 hC9 hR9 hU9 hO9 hB9 hfold honeL hlenL HFS HST q1
                generalize (w9.setCell ⟨w.heap.size + 1, 0, none⟩ (.slice pb (k + 1) eb)) = W6 at hC6 hR6 O6 U6 hB6 hHeld ⊢
                refine wpAnyH_done (by kernel_rfl) ?_ _
                go_upto_region 12 with fail
                have c1 := cellW hC6.out 1 _ rfl W6 (Below.refl _ _)
                have hzw : w.heap.size + 2 ≤ W6.heap.size := by have := (Array.getElem?_eq_some_iff.1 hC6.out).1; omega
                have hCb : Hid _ := blk hC6.out (all_alloc W6 (.cells #[.bool true] 4))
                have hRb : Hid _ := blk hR6.out (all_alloc W6 (.cells #[.bool true] 4))
                have Ob : Hid (World.ownsRow _ _ _ _ _ _ _) := World.ownsRow.alloc O6.out (.cells #[.bool true] 4)
                have Ub : Hid (World.ownsRow _ _ _ _ _ _ _) := World.ownsRow.alloc U6.out (.cells #[.bool true] 4)
                have hBb := keepB hB6 (Nat.le_refl _) (all_alloc W6 (.cells #[.bool true] 4))
                have hzaH : Hid ((W6.alloc (.cells #[.bool true] 4)).heap.size = W6.heap.size + 1) := (by simp : (W6.alloc (.cells #[.bool true] 4)).heap.size = W6.heap.size + 1)
                go_wp2_with (at_builtin; refine wpList_append_own _ rfl (.tmp 60) (.tmp 61) 44 rfl (w.heap.size + 2) 4 j0 (.bool false) 1 1 Try.underlying44 bi bz0 bz1 bz2 rfl (by decide) _ _ _ rfl Ub.out ⟨W6.heap.size, 0, none⟩ 1 1 [.bool true] rfl rfl (cells_newG _ _ _ _ rfl) (by intro x hx; simp at hx; subst hx; rfl) (by unfold maxLen; omega) (by omega) (by simp; omega) ?_; intro v7 w7 hown7 hgr7 _; obtain ⟨pw, ew, rfl⟩ := owns_shape hown7; have hlo7 := World.ownsRow.lt Ub.out; have hza := hzaH.out; have hC7 : Hid (w7.heap[w.heap.size + 1]? = _) := (hgr7.block (w.heap.size + 1) (by omega) (fun e => by have := hlo7 _ e.symm; omega)).trans hCb.out; have hR7 : Hid (w7.heap[w.heap.size]? = _) := (hgr7.block w.heap.size (by omega) (fun e => by have := hlo7 _ e.symm; omega)).trans hRb.out; have hO7 : Hid (World.ownsRow w7 _ _ _ _ _ _) := World.ownsRow.kept Ob.out hgr7 (rows_ne Ob.out Ub.out (by decide)); have hU7 : Hid (World.ownsRow w7 _ _ _ _ _ _) := hown7; have hB7 : Below w.heap.size w w7 := hBb.grown hgr7 (by omega) (fun q e => by have := hlo7 q e; omega); clear hza hown7 hgr7 hlo7; have t1 := cellW hC7.out 1 _ rfl w7 (Below.refl _ _); have f1 := frozenW hC7.out 1 w7 (Below.refl _ _))
                go_roundw
                case rel => exact ⟨k + 1, by omega, by go_num, HY.out (by first | rfl | trivial), hY2.out, ⟨_, _, blk_set hC7.out 1 _, owns_far hO7.out (by simp only; omega) _, (by rw [HFU.out]; exact owns_far hU7.out (by simp only; omega) _)⟩, blk_far hR7.out (by simp only; omega) _, hB7.setCell (by simp only; omega) _⟩
                case measure => simp [intOf]; omega
          · have hle : a ≤ pa := by omega
            obtain ⟨rfl, rfl⟩ := HN2.out (decide_eq_false hlt2)
            clear HN2 HY2 hlt2 HC1 HC2 HC3
            go_upto_region 9 with fail
            refine wp_region_held_drew (S := (fun w' => Below w.heap.size w w')) (by kernel_rfl) ?_ (fun hHeld => ?_)
            · (try dsimp only); exact hR
            refine yieldH (i := 0) (v := ?_) rfl (by kernel_rfl) (by kernel_rfl) (by kernel_rfl) (fun _ _ _ h => h) (by rfl) ?_ (by assumption) ?_; rotate_left
            · intro w hSw; (try dsimp only at hSw); go_simp; (try with_reducible rfl)
            try simp only [Act.put, List.setIfInBounds_toArray, List.set_cons_zero, List.set_cons_succ, List.getElem_toArray, List.getElem_cons_succ, List.getElem_cons_zero]
            refine yieldH (i := 1) (v := ?_) rfl (by kernel_rfl) (by kernel_rfl) (by kernel_rfl) (fun _ _ _ h => h) (by rfl) ?_ (by assumption) ?_; rotate_left
            · intro w hSw; (try dsimp only at hSw); go_simp; (try with_reducible rfl)
            try simp only [Act.put, List.setIfInBounds_toArray, List.set_cons_zero, List.set_cons_succ, List.getElem_toArray, List.getElem_cons_succ, List.getElem_cons_zero]
            refine yieldH (i := 2) (v := ?_) rfl (by kernel_rfl) (by kernel_rfl) (by kernel_rfl) (fun _ _ _ h => h) (by rfl) ?_ (by assumption) ?_; rotate_left
            · intro w hSw; (try dsimp only at hSw); go_simp; (try with_reducible rfl)
            try simp only [Act.put, List.setIfInBounds_toArray, List.set_cons_zero, List.set_cons_succ, List.getElem_toArray, List.getElem_cons_succ, List.getElem_cons_zero]
            refine yieldH (i := 3) (v := ?_) rfl (by kernel_rfl) (by kernel_rfl) (by kernel_rfl) (fun _ _ _ h => h) (by rfl) ?_ (by assumption) ?_; rotate_left
            · intro w hSw; (try dsimp only at hSw); go_simp; (try with_reducible rfl)
            try simp only [Act.put, List.setIfInBounds_toArray, List.set_cons_zero, List.set_cons_succ, List.getElem_toArray, List.getElem_cons_succ, List.getElem_cons_zero]
            refine wpAnyH_ready (rs := [4]) (by kernel_rfl) (by simp) ?_
            refine AllReadyH.cons rfl (fun K hK => ?_) AllReadyH.nil
            go_simp
            go_at_call 96; refine (HAD.out _).mono ?_; rintro e2 w2 ⟨rfl, rfl⟩
            dsimp only
            refine hK.out _ _ ?_ (fun hHeld => ?_)
            · (try dsimp only); exact hR
            clear hK K
            try simp only [Act.put, List.setIfInBounds_toArray, List.set_cons_zero, List.set_cons_succ, List.getElem_toArray, List.getElem_cons_succ, List.getElem_cons_zero]
            refine yieldH (i := 5) (v := ?_) rfl (by kernel_rfl) (by kernel_rfl) (by kernel_rfl) (fun _ _ _ h => h) (by rfl) ?_ (by assumption) ?_; rotate_left
            · intro w hSw; (try dsimp only at hSw); go_simp; (try with_reducible rfl)
            try simp only [Act.put, List.setIfInBounds_toArray, List.set_cons_zero, List.set_cons_succ, List.getElem_toArray, List.getElem_cons_succ, List.getElem_cons_zero]
            refine yieldH (i := 6) (v := ?_) rfl (by kernel_rfl) (by kernel_rfl) (by kernel_rfl) (fun _ _ _ h => h) (by rfl) ?_ (by assumption) ?_; rotate_left
            · intro w hSw; (try dsimp only at hSw); go_simp; (try with_reducible rfl)
            try simp only [Act.put, List.setIfInBounds_toArray, List.set_cons_zero, List.set_cons_succ, List.getElem_toArray, List.getElem_cons_succ, List.getElem_cons_zero]
            refine yieldH (i := 7) (v := ?_) rfl (by kernel_rfl) (by kernel_rfl) (by kernel_rfl) (fun _ _ _ h => h) (by rfl) ?_ (by assumption) ?_; rotate_left
            · intro w hSw; (try dsimp only at hSw); go_simp; (try with_reducible rfl)
            try simp only [Act.put, List.setIfInBounds_toArray, List.set_cons_zero, List.set_cons_succ, List.getElem_toArray, List.getElem_cons_succ, List.getElem_cons_zero]
            refine yieldH (i := 8) (v := ?_) rfl (by kernel_rfl) (by kernel_rfl) (by kernel_rfl) (fun _ _ _ h => h) (by rfl) ?_ (by assumption) ?_; rotate_left
            · intro w hSw; (try dsimp only at hSw); go_simp; (try with_reducible rfl)
            try simp only [Act.put, List.setIfInBounds_toArray, List.set_cons_zero, List.set_cons_succ, List.getElem_toArray, List.getElem_cons_succ, List.getElem_cons_zero]
            refine yieldH (i := 9) (v := ?_) rfl (by kernel_rfl) (by kernel_rfl) (by kernel_rfl) (fun _ _ _ h => h) (by rfl) ?_ (by assumption) ?_; rotate_left
            · intro w hSw; (try dsimp only at hSw); go_simp; (try with_reducible rfl)
            try simp only [Act.put, List.setIfInBounds_toArray, List.set_cons_zero, List.set_cons_succ, List.getElem_toArray, List.getElem_cons_succ, List.getElem_cons_zero]
            refine yieldH (i := 10) (v := ?_) rfl (by kernel_rfl) (by kernel_rfl) (by kernel_rfl) (fun _ _ _ h => h) (by rfl) ?_ (by assumption) ?_; rotate_left
            · intro w hSw; (try dsimp only at hSw); go_simp; (try with_reducible rfl)
            try simp only [Act.put, List.setIfInBounds_toArray, List.set_cons_zero, List.set_cons_succ, List.getElem_toArray, List.getElem_cons_succ, List.getElem_cons_zero]
            refine yieldH (i := 11) (v := ?_) rfl (by kernel_rfl) (by kernel_rfl) (by kernel_rfl) (fun _ _ _ h => h) (by rfl) ?_ (by assumption) ?_; rotate_left
            · intro w hSw; (try dsimp only at hSw); go_simp; (try with_reducible rfl)
            try simp only [Act.put, List.setIfInBounds_toArray, List.set_cons_zero, List.set_cons_succ, List.getElem_toArray, List.getElem_cons_succ, List.getElem_cons_zero]
            refine yieldH (i := 12) (v := ?_) rfl (by kernel_rfl) (by kernel_rfl) (by kernel_rfl) (fun _ _ _ h => h) (by rfl) ?_ (by assumption) ?_; rotate_left
            · intro w hSw; (try dsimp only at hSw); go_simp; (try with_reducible rfl)
            try simp only [Act.put, List.setIfInBounds_toArray, List.set_cons_zero, List.set_cons_succ, List.getElem_toArray, List.getElem_cons_succ, List.getElem_cons_zero]
            refine yieldH (i := 13) (v := ?_) rfl (by kernel_rfl) (by kernel_rfl) (by kernel_rfl) (fun _ _ _ h => h) (by rfl) ?_ (by assumption) ?_; rotate_left
            · intro w hSw; (try dsimp only at hSw); go_simp; (try with_reducible rfl)
            try simp only [Act.put, List.setIfInBounds_toArray, List.set_cons_zero, List.set_cons_succ, List.getElem_toArray, List.getElem_cons_succ, List.getElem_cons_zero]
            refine yieldH (i := 14) (v := ?_) rfl (by kernel_rfl) (by kernel_rfl) (by kernel_rfl) (fun _ _ _ h => h) (by rfl) ?_ (by assumption) ?_; rotate_left
            · intro w hSw; (try dsimp only at hSw); go_simp; (try with_reducible rfl)
            try simp only [Act.put, List.setIfInBounds_toArray, List.set_cons_zero, List.set_cons_succ, List.getElem_toArray, List.getElem_cons_succ, List.getElem_cons_zero]
            refine yieldH (i := 15) (v := ?_) rfl (by kernel_rfl) (by kernel_rfl) (by kernel_rfl) (fun _ _ _ h => h) (by rfl) ?_ (by assumption) ?_; rotate_left
            · intro w hSw; (try dsimp only at hSw); go_simp; (try with_reducible rfl)
            try simp only [Act.put, List.setIfInBounds_toArray, List.set_cons_zero, List.set_cons_succ, List.getElem_toArray, List.getElem_cons_succ, List.getElem_cons_zero]
            refine yieldH (i := 16) (v := ?_) rfl (by kernel_rfl) (by kernel_rfl) (by kernel_rfl) (fun _ _ _ h => h) (by rfl) ?_ (by assumption) ?_; rotate_left
            · intro w hSw; (try dsimp only at hSw); go_simp; (try with_reducible rfl)
            try simp only [Act.put, List.setIfInBounds_toArray, List.set_cons_zero, List.set_cons_succ, List.getElem_toArray, List.getElem_cons_succ, List.getElem_cons_zero]
            refine yieldH (i := 17) (v := ?_) rfl (by kernel_rfl) (by kernel_rfl) (by kernel_rfl) (fun _ _ _ h => h) (by rfl) ?_ (by assumption) ?_; rotate_left
            · intro w hSw; (try dsimp only at hSw); go_simp; (try with_reducible rfl)
            try simp only [Act.put, List.setIfInBounds_toArray, List.set_cons_zero, List.set_cons_succ, List.getElem_toArray, List.getElem_cons_succ, List.getElem_cons_zero]
            refine yieldH (i := 18) (v := ?_) rfl (by kernel_rfl) (by kernel_rfl) (by kernel_rfl) (fun _ _ _ h => h) (by rfl) ?_ (by assumption) ?_; rotate_left
            · intro w hSw; (try dsimp only at hSw); go_simp; (try with_reducible rfl)
            try simp only [Act.put, List.setIfInBounds_toArray, List.set_cons_zero, List.set_cons_succ, List.getElem_toArray, List.getElem_cons_succ, List.getElem_cons_zero]
            refine yieldH (i := 19) (v := ?_) rfl (by kernel_rfl) (by kernel_rfl) (by kernel_rfl) (fun _ _ _ h => h) (by rfl) ?_ (by assumption) ?_; rotate_left
            · intro w hSw; (try dsimp only at hSw); go_simp; (try with_reducible rfl)
            try simp only [Act.put, List.setIfInBounds_toArray, List.set_cons_zero, List.set_cons_succ, List.getElem_toArray, List.getElem_cons_succ, List.getElem_cons_zero]
            refine yieldH (i := 20) (v := ?_) rfl (by kernel_rfl) (by kernel_rfl) (by kernel_rfl) (fun _ _ _ h => h) (by rfl) ?_ (by assumption) ?_; rotate_left
            · intro w hSw; (try dsimp only at hSw); go_simp; (try with_reducible rfl)
            try simp only [Act.put, List.setIfInBounds_toArray, List.set_cons_zero, List.set_cons_succ, List.getElem_toArray, List.getElem_cons_succ, List.getElem_cons_zero]
            refine yieldH (i := 21) (v := ?_) rfl (by kernel_rfl) (by kernel_rfl) (by kernel_rfl) (fun _ _ _ h => h) (by rfl) ?_ (by assumption) ?_; rotate_left
            · intro w hSw; (try dsimp only at hSw); go_simp; (try with_reducible rfl)
            try simp only [Act.put, List.setIfInBounds_toArray, List.set_cons_zero, List.set_cons_succ, List.getElem_toArray, List.getElem_cons_succ, List.getElem_cons_zero]
            refine wpAnyH_done (by kernel_rfl) ?_ _
            have hR3 : Hid _ := blk (Y := wr) HR.out (Below.drew (Below.refl _ _))
            clear HR
            go_wp2_with (first
              | (go_at_call 95; refine (l07Ill_any 1 _).mono ?_; rintro e wi ⟨rfl, hbi⟩)
              | (refine wpList_store_row rfl 91 (.tmp 2) (.tmp 47) rfl w.heap.size #[.slice none 0 0, .slice none 0 0, .slice none 0 0, .slice none 0 0, .int .i64 1] rfl rfl _ _ (blk hR3.out hbi) (by kernel_rfl) rfl (by simp [Value.oneCell']) ?_))
            go_wp2
            have hYf := setRow_heap _ w.heap.size _ #[.slice none 0 0, .slice none 0 0, .slice none 0 0, .slice none 0 0, .int .i64 1] _ _ (blk hR3.out hbi)
            have hAf : Below w.heap.size w _ := Below.setRow (keepB hR (Nat.le_refl _) hbi) (g := w.heap.size) (Nat.le_refl _) #[.slice none 0 0, .slice none 0 0, .slice none 0 0, .slice none 0 0, .int .i64 1]
            exact bodyPost_ret (v := .agg #[.slice none 0 0, .slice none 0 0, .slice none 0 0, .slice none 0 0, .int .i64 1]) (results_cell_row Try.results55 _ _ w.heap.size _ _ _ _ rfl hYf Try.underlying91 rfl (by kernel_rfl)) rfl ⟨_, _, rfl, own_empty_seg _ _ hAf.size, hAf⟩
    · have hkk : k = zs.length := by omega
      subst hkk
      have HA1 : zs.all addrB = true := by have := HA.out; rwa [List.take_length] at this
      obtain ⟨rfl, rfl⟩ := HC3.out HA1 HRA.out
      have O1 : World.ownsRow wr (w.heap.size + 2) 135 19 v zs.length (flatS (csN zs)) := by have := HO.out; rwa [List.take_length] at this
      have O2 : World.ownsRow wr (w.heap.size + 2) 4 1 u zs.length (flatU (csN zs)) := by have := HU.out; rwa [List.take_length] at this
      clear HA HO HU HRA HC1 HC2 HC3 HA1 HX
      obtain ⟨p1, d1, rfl⟩ := owns_shape O1
      obtain ⟨p2, d2, rfl⟩ := owns_shape O2
      have hz2 : w.heap.size + 2 ≤ wr.heap.size := by have := (Array.getElem?_eq_some_iff.1 HCb.out).1; omega
      have hOS : Hid _ := own_segNew zs hn1 hz2 O1 O2
      clear O1 O2
      go_wp2_with (first
        | (refine wpList_load_row rfl 47 (.tmp 3) rfl (w.heap.size + 1) rfl _ _ _ _ HCb.out Try.underlying47 rfl (by kernel_rfl) ?_)
        | (refine wpList_store_row rfl 91 (.tmp 2) (.tmp 65) rfl w.heap.size #[.slice p1 zs.length d1, .slice p2 zs.length d2, .slice none 0 0, .slice none 0 0, .int .i64 0] rfl rfl _ _ HR.out (by kernel_rfl) rfl (by simp [Value.oneCell']) ?_))
      go_wp2
      have hYf := setRow_heap _ w.heap.size _ #[.slice p1 zs.length d1, .slice p2 zs.length d2, .slice none 0 0, .slice none 0 0, .int .i64 0] _ _ HR.out
      have hAf : Below w.heap.size w _ := Below.setRow hbel (g := w.heap.size) (Nat.le_refl _) #[.slice p1 zs.length d1, .slice p2 zs.length d2, .slice none 0 0, .slice none 0 0, .int .i64 0]
      have hzs : wr.heap.size ≤ (wr.setRow w.heap.size #[.slice p1 zs.length d1, .slice p2 zs.length d2, .slice none 0 0, .slice none 0 0, .int .i64 0]).heap.size := (Below.setRow (Below.refl w.heap.size wr) (g := w.heap.size) (Nat.le_refl _) #[.slice p1 zs.length d1, .slice p2 zs.length d2, .slice none 0 0, .slice none 0 0, .int .i64 0]).size
      exact bodyPost_ret (v := .agg #[.slice p1 zs.length d1, .slice p2 zs.length d2, .slice none 0 0, .slice none 0 0, .int .i64 0]) (results_cell_row Try.results55 _ _ w.heap.size _ _ _ _ rfl hYf Try.underlying91 rfl (by kernel_rfl)) rfl ⟨_, _, rfl, (hOS.out.same (Same.setRow (.inl (by omega)) #[.slice p1 zs.length d1, .slice p2 zs.length d2, .slice none 0 0, .slice none 0 0, .int .i64 0]) hzs).widen (by omega) hzs (Nat.le_refl _), hAf⟩
end Go.Proofs.Ytklpaleghanhhaa
