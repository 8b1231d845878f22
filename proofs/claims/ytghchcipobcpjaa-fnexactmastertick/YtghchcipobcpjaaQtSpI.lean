/- A QUESTION ISSUED, the model's: what is told of a fault, and a master copied. Written by mkspi.py. -/
import Derived.Test.YtghchcipobcpjaaQtIssI
namespace Go.Proofs.Ytghchcipobcpjaa
open Go.RowKit
set_option linter.unusedVariables false
set_option linter.unusedSimpArgs false

set_option maxRecDepth 100000 in
set_option maxHeartbeats 1600000 in
theorem l09Ill_any (c : Int) (w : World) : Calls Try.prog 18 #[.int .i64 c] w fun e w' => e = .returned (.agg #[.int .i64 0, .slice none 0 0, .slice none 0 0, .slice none 0 0, .int .i64 0, .int .i64 c]) ∧ Below w.heap.size w w' := by
  go_enter Try.func18, Try.ntmps18
  go_upto_region 1 with fail
  have hX : Hid _ := heap_alloc_new w (.cells #[.int .i64 0, .slice none 0 0, .slice none 0 0, .slice none 0 0, .int .i64 0, .int .i64 0] 33)
  go_wp2_with (refine wpList_store_row rfl 33 (.tmp 2) (.tmp 4) rfl w.heap.size #[.int .i64 0, .slice none 0 0, .slice none 0 0, .slice none 0 0, .int .i64 0, .int .i64 c] rfl rfl _ _ hX.out (by kernel_rfl) rfl (by simp [Value.oneCell']) ?_)
  go_wp2
  have hYf := setRow_heap _ w.heap.size _ #[.int .i64 0, .slice none 0 0, .slice none 0 0, .slice none 0 0, .int .i64 0, .int .i64 c] _ _ hX.out
  exact bodyPost_ret (v := .agg #[.int .i64 0, .slice none 0 0, .slice none 0 0, .slice none 0 0, .int .i64 0, .int .i64 c]) (results_cell_row Try.results18 _ _ w.heap.size _ _ _ _ rfl hYf Try.underlying33 rfl (by kernel_rfl)) rfl ⟨rfl, rcRow_fresh _ _ _⟩
/-- rows of two types never share a block -/
theorem rows_apart {w : World} {b1 b2 : Nat} {u v : Value} {l : List Wt} {k : List Dn} (h1 : OwnKW w b1 u l) (h2 : OwnKD w b2 v k) : ∀ a b, u.ownBlock = some a → v.ownBlock = some b → a ≠ b := by
  intro a b ha hb e
  subst e
  rcases h1.2 with ⟨rfl, _⟩ | ⟨g, cap, cur, rfl, _, q, _⟩
  · cases ha
  rcases h2.2 with ⟨rfl, _⟩ | ⟨g', cap', cur', rfl, _, q', _⟩
  · cases hb
  cases ha
  cases hb
  rw [q] at q'
  cases q'
set_option maxRecDepth 100000 in
set_option maxHeartbeats 6400000 in
theorem l09Copy_any (s : Mst) (v1 v2 : Value) (w : World) (hl1 : s.op.length ≤ 1048576) (hl2 : s.dn.length ≤ 1048576) (h : RowMst w v1 v2 s) :
    Calls Try.prog 21 #[.agg #[.int .i64 s.nx, v1, v2]] w fun e w' => ∃ va vd, e = .returned (.agg #[.int .i64 s.nx, va, vd]) ∧ OwnKW w' w.heap.size va s.op ∧ OwnKD w' w.heap.size vd s.dn ∧ Below w.heap.size w w' := by
  obtain ⟨iW, TW⟩ := tyW
  obtain ⟨iD, TD⟩ := tyD
  have HTW : Hid _ := TW
  have HTD : Hid _ := TD
  have HW : Hid (∀ W, Below w.heap.size w W → RowW W v1 s.op) := fun W hW => RowC.below h.o hW
  have HD : Hid (∀ W, Below w.heap.size w W → RowD W v2 s.dn) := fun W hW => RowC.below h.d hW
  obtain ⟨⟨p1, c1, rfl, _⟩, ⟨p2, c2, rfl, _⟩⟩ := h
  clear TW TD
  have hX0 : Hid _ := blk (heap_alloc_new w (.cells #[.int .i64 s.nx, .slice p1 s.op.length c1, .slice p2 s.dn.length c2] 30)) (all_alloc _ (.cells #[.int .i64 0, .slice none 0 0, .slice none 0 0] 30))
  have hY0 : Hid _ := heap_alloc_new (w.alloc (.cells #[.int .i64 s.nx, .slice p1 s.op.length c1, .slice p2 s.dn.length c2] 30)) (.cells #[.int .i64 0, .slice none 0 0, .slice none 0 0] 30)
  have hA0 : Below w.heap.size w ((w.alloc (.cells #[.int .i64 s.nx, .slice p1 s.op.length c1, .slice p2 s.dn.length c2] 30)).alloc (.cells #[.int .i64 0, .slice none 0 0, .slice none 0 0] 30)) := keepB (all_alloc w _) (Nat.le_refl _) (all_alloc _ _)
  have e2 : ((w.alloc (.cells #[.int .i64 s.nx, .slice p1 s.op.length c1, .slice p2 s.dn.length c2] 30)).alloc (.cells #[.int .i64 0, .slice none 0 0, .slice none 0 0] 30)).heap.size = w.heap.size + 1 + 1 := by simp
  rw [show (w.alloc (.cells #[.int .i64 s.nx, .slice p1 s.op.length c1, .slice p2 s.dn.length c2] 30)).heap.size = w.heap.size + 1 by simp] at hY0
  go_enter Try.func21, Try.ntmps21
  go_upto_region 1 with fail
  have hX := hX0
  have hY := hY0
  have hA := hA0
  generalize (w.alloc (.cells #[.int .i64 s.nx, .slice p1 s.op.length c1, .slice p2 s.dn.length c2] 30)).alloc (.cells #[.int .i64 0, .slice none 0 0, .slice none 0 0] 30) = A at hX hY hA e2 ⊢
  clear hX0 hY0 hA0
  have hd := Below.drew (Below.refl A.heap.size A)
  refine wp_region_held_drew (S := (fun w' => w'.heap[w.heap.size]? = some (.cells #[.int .i64 s.nx, .slice p1 s.op.length c1, .slice p2 s.dn.length c2] 30 (0, 0)))) (by kernel_rfl) ?_ (fun hHeld => ?_)
  · (try dsimp only); exact blk hX.out hd
  replace hX : Hid _ := blk hX.out hd
  replace hY : Hid _ := blk hY.out hd
  replace hA : Below w.heap.size w A.drew := keepB hA (Nat.le_refl _) hd
  have gz : w.heap.size + 2 ≤ A.drew.heap.size := by show _ ≤ A.heap.size; omega
  clear hd e2
  generalize A.drew = u0 at hX hY hA gz hHeld ⊢
  first
    | (refine skipH (i := 0) rfl (by kernel_rfl) (by kernel_rfl) (by kernel_rfl) (fun _ _ _ h => h) (by rfl) (by assumption) ?_; try simp only [Act.put, List.setIfInBounds_toArray, List.set_cons_zero, List.set_cons_succ, List.getElem_toArray, List.getElem_cons_succ, List.getElem_cons_zero])
    | (refine yieldH (i := 0) (v := ?_) rfl (by kernel_rfl) (by kernel_rfl) (by kernel_rfl) (fun _ _ _ h => h) (by rfl) ?_ (by assumption) ?_; rotate_left; (intro w hSw; (try dsimp only at hSw); go_simp; (try with_reducible rfl)); try simp only [Act.put, List.setIfInBounds_toArray, List.set_cons_zero, List.set_cons_succ, List.getElem_toArray, List.getElem_cons_succ, List.getElem_cons_zero])
    | fail
  refine yieldH (i := 1) (v := .int .i64 s.nx) rfl (by kernel_rfl) (by kernel_rfl) (by kernel_rfl) (fun _ _ _ h => h) (by rfl) ?_ (by assumption) ?_
  · intro w hSw; (try dsimp only at hSw); have y := cellW hSw 0 _ rfl w (Below.refl _ _); go_simp
  try simp only [Act.put, List.setIfInBounds_toArray, List.set_cons_zero, List.set_cons_succ, List.getElem_toArray, List.getElem_cons_succ, List.getElem_cons_zero]
  first
    | (refine skipH (i := 3) rfl (by kernel_rfl) (by kernel_rfl) (by kernel_rfl) (fun _ _ _ h => h) (by rfl) (by assumption) ?_; try simp only [Act.put, List.setIfInBounds_toArray, List.set_cons_zero, List.set_cons_succ, List.getElem_toArray, List.getElem_cons_succ, List.getElem_cons_zero])
    | (refine yieldH (i := 3) (v := ?_) rfl (by kernel_rfl) (by kernel_rfl) (by kernel_rfl) (fun _ _ _ h => h) (by rfl) ?_ (by assumption) ?_; rotate_left; (intro w hSw; (try dsimp only at hSw); go_simp; (try with_reducible rfl)); try simp only [Act.put, List.setIfInBounds_toArray, List.set_cons_zero, List.set_cons_succ, List.getElem_toArray, List.getElem_cons_succ, List.getElem_cons_zero])
    | fail
  refine yieldH (i := 4) (v := .slice p1 s.op.length c1) rfl (by kernel_rfl) (by kernel_rfl) (by kernel_rfl) (fun _ _ _ h => h) (by rfl) ?_ (by assumption) ?_
  · intro w hSw; (try dsimp only at hSw); have y := cellW hSw 1 _ rfl w (Below.refl _ _); go_simp
  try simp only [Act.put, List.setIfInBounds_toArray, List.set_cons_zero, List.set_cons_succ, List.getElem_toArray, List.getElem_cons_succ, List.getElem_cons_zero]
  first
    | (refine skipH (i := 7) rfl (by kernel_rfl) (by kernel_rfl) (by kernel_rfl) (fun _ _ _ h => h) (by rfl) (by assumption) ?_; try simp only [Act.put, List.setIfInBounds_toArray, List.set_cons_zero, List.set_cons_succ, List.getElem_toArray, List.getElem_cons_succ, List.getElem_cons_zero])
    | (refine yieldH (i := 7) (v := ?_) rfl (by kernel_rfl) (by kernel_rfl) (by kernel_rfl) (fun _ _ _ h => h) (by rfl) ?_ (by assumption) ?_; rotate_left; (intro w hSw; (try dsimp only at hSw); go_simp; (try with_reducible rfl)); try simp only [Act.put, List.setIfInBounds_toArray, List.set_cons_zero, List.set_cons_succ, List.getElem_toArray, List.getElem_cons_succ, List.getElem_cons_zero])
    | fail
  refine yieldH (i := 8) (v := .slice p2 s.dn.length c2) rfl (by kernel_rfl) (by kernel_rfl) (by kernel_rfl) (fun _ _ _ h => h) (by rfl) ?_ (by assumption) ?_
  · intro w hSw; (try dsimp only at hSw); have y := cellW hSw 2 _ rfl w (Below.refl _ _); go_simp
  try simp only [Act.put, List.setIfInBounds_toArray, List.set_cons_zero, List.set_cons_succ, List.getElem_toArray, List.getElem_cons_succ, List.getElem_cons_zero]
  refine wpAnyH_ready (rs := [2, 6]) (by kernel_rfl) (by simp) ?_
  refine (AllReadyH.cons rfl (fun K hK => ?_) (AllReadyH.cons rfl (fun K hK => ?_) AllReadyH.nil))
  · go_simp
    (try dsimp only)
    refine hK.out _ _ ?_ (fun hHeld => ?_)
    · (try dsimp only); exact blk hX.out (all_alloc u0 (.cells #[] 50))
    clear hK K
    try simp only [Act.put, List.setIfInBounds_toArray, List.set_cons_zero, List.set_cons_succ, List.getElem_toArray, List.getElem_cons_succ, List.getElem_cons_zero]
    have HO2 : Hid (OwnKW (u0.alloc (.cells #[] 50)) (w.heap.size + 2) (.slice (some ⟨u0.heap.size, 0, none⟩) 0 0) []) := World.ownsRow_made u0 #[] 0 gz (by decide) rfl
    have hb := all_alloc u0 (.cells #[] 50)
    replace hX : Hid _ := blk hX.out hb
    replace hY : Hid _ := blk hY.out hb
    replace hA : Below w.heap.size w (u0.alloc (.cells #[] 50)) := keepB hA (Nat.le_refl _) hb
    replace gz : w.heap.size + 2 ≤ (u0.alloc (.cells #[] 50)).heap.size := Nat.le_trans gz hb.size
    clear hb
    generalize u0.alloc (.cells #[] 50) = u1 at hX hY hA gz HO2 hHeld ⊢
    obtain ⟨N2, hNe⟩ : ∃ N, u0.heap.size = N := ⟨_, rfl⟩
    rw [hNe] at HO2 ⊢
    clear hNe
    refine wpAnyH_ready (rs := [5, 6]) (by kernel_rfl) (by simp) ?_
    refine (AllReadyH.cons rfl (fun K hK => ?_) (AllReadyH.cons rfl (fun K hK => ?_) AllReadyH.nil))
    · obtain ⟨v', u2, hrun, hO7, hg7, hv7⟩ := app_recK HTW.out wtC_len wtC_one u1 27 (w.heap.size + 2) (.slice (some ⟨N2, 0, none⟩) 0 0) (.slice p1 s.op.length c1) [] s.op HO2.out (HW.out _ hA) (by simp) (by omega) gz
      have hlt7 := OwnK.lt HO2.out
      rw [List.nil_append] at hO7
      obtain ⟨pa, ca, rfl⟩ := OwnK.shape hO7
      have hx7 : u2.heap[w.heap.size]? = some (.cells #[.int .i64 s.nx, .slice p1 s.op.length c1, .slice p2 s.dn.length c2] 30 (0, 0)) := (hg7.block w.heap.size (by omega) (fun e => by have := (hlt7 w.heap.size e.symm).1; omega)).trans hX.out
      have hy7 : u2.heap[w.heap.size + 1]? = some (.cells #[.int .i64 0, .slice none 0 0, .slice none 0 0] 30 (0, 0)) := (hg7.block (w.heap.size + 1) (by omega) (fun e => by have := (hlt7 (w.heap.size + 1) e.symm).1; omega)).trans hY.out
      unfold Oper.wp; simp [Region.wanted, execOp, resolve, invoke, builtin, Act.eval, hrun, Result.andThen]
      (try dsimp only)
      refine hK.out _ _ ?_ (fun hHeld => ?_)
      · (try dsimp only); exact hx7
      clear hK K
      try simp only [Act.put, List.setIfInBounds_toArray, List.set_cons_zero, List.set_cons_succ, List.getElem_toArray, List.getElem_cons_succ, List.getElem_cons_zero]
      replace hA : Below w.heap.size w u2 := hA.grown hg7 hA.size (fun j hj => by have := hlt7 j hj; omega)
      replace HO2 : Hid (OwnKW u2 (w.heap.size + 2) (.slice pa s.op.length ca) s.op) := hO7
      replace hX : Hid _ := hx7
      replace hY : Hid _ := hy7
      replace gz : w.heap.size + 2 ≤ u2.heap.size := Nat.le_trans gz hg7.size
      clear hO7 hg7 hv7 hlt7 hx7 hy7 hrun
      refine wpAnyH_ready (rs := [6]) (by kernel_rfl) (by simp) ?_
      refine (AllReadyH.cons rfl (fun K hK => ?_) AllReadyH.nil)
      go_simp
      (try dsimp only)
      refine hK.out _ _ ?_ (fun hHeld => ?_)
      · (try dsimp only); exact blk hX.out (all_alloc u2 (.cells #[] 69))
      clear hK K
      try simp only [Act.put, List.setIfInBounds_toArray, List.set_cons_zero, List.set_cons_succ, List.getElem_toArray, List.getElem_cons_succ, List.getElem_cons_zero]
      have HO6 : Hid (OwnKD (u2.alloc (.cells #[] 69)) (w.heap.size + 2) (.slice (some ⟨u2.heap.size, 0, none⟩) 0 0) []) := World.ownsRow_made u2 #[] 0 gz (by decide) rfl
      have hb := all_alloc u2 (.cells #[] 69)
      replace hX : Hid _ := blk hX.out hb
      replace hY : Hid _ := blk hY.out hb
      replace hA : Below w.heap.size w (u2.alloc (.cells #[] 69)) := keepB hA (Nat.le_refl _) hb
      replace gz : w.heap.size + 2 ≤ (u2.alloc (.cells #[] 69)).heap.size := Nat.le_trans gz hb.size
      replace HO2 : Hid (OwnKW (u2.alloc (.cells #[] 69)) (w.heap.size + 2) (.slice pa s.op.length ca) s.op) := OwnK.below HO2.out hb
      clear hb
      generalize u2.alloc (.cells #[] 69) = u3 at hX hY hA gz HO2 HO6 hHeld ⊢
      obtain ⟨N6, hNe⟩ : ∃ N, u2.heap.size = N := ⟨_, rfl⟩
      rw [hNe] at HO6 ⊢
      clear hNe
      refine wpAnyH_ready (rs := [9]) (by kernel_rfl) (by simp) ?_
      refine (AllReadyH.cons rfl (fun K hK => ?_) AllReadyH.nil)
      obtain ⟨v', u4, hrun, hO7, hg7, hv7⟩ := app_recK HTD.out dnC_len dnC_one u3 28 (w.heap.size + 2) (.slice (some ⟨N6, 0, none⟩) 0 0) (.slice p2 s.dn.length c2) [] s.dn HO6.out (HD.out _ hA) (by simp) (by omega) gz
      have hlt7 := OwnK.lt HO6.out
      rw [List.nil_append] at hO7
      obtain ⟨pd, cd, rfl⟩ := OwnK.shape hO7
      have hx7 : u4.heap[w.heap.size]? = some (.cells #[.int .i64 s.nx, .slice p1 s.op.length c1, .slice p2 s.dn.length c2] 30 (0, 0)) := (hg7.block w.heap.size (by omega) (fun e => by have := (hlt7 w.heap.size e.symm).1; omega)).trans hX.out
      have hy7 : u4.heap[w.heap.size + 1]? = some (.cells #[.int .i64 0, .slice none 0 0, .slice none 0 0] 30 (0, 0)) := (hg7.block (w.heap.size + 1) (by omega) (fun e => by have := (hlt7 (w.heap.size + 1) e.symm).1; omega)).trans hY.out
      unfold Oper.wp; simp [Region.wanted, execOp, resolve, invoke, builtin, Act.eval, hrun, Result.andThen]
      (try dsimp only)
      refine hK.out _ _ ?_ (fun hHeld => ?_)
      · (try dsimp only); exact hx7
      clear hK K
      try simp only [Act.put, List.setIfInBounds_toArray, List.set_cons_zero, List.set_cons_succ, List.getElem_toArray, List.getElem_cons_succ, List.getElem_cons_zero]
      replace hA : Below w.heap.size w u4 := hA.grown hg7 hA.size (fun j hj => by have := hlt7 j hj; omega)
      replace HO2 : Hid (OwnKW u4 (w.heap.size + 2) (.slice pa s.op.length ca) s.op) := OwnK.grown HO2.out hg7 (fun a b ha hb e => rows_apart HO2.out HO6.out b a hb ha e.symm)
      replace HO6 : Hid (OwnKD u4 (w.heap.size + 2) (.slice pd s.dn.length cd) s.dn) := hO7
      replace hX : Hid _ := hx7
      replace hY : Hid _ := hy7
      replace gz : w.heap.size + 2 ≤ u4.heap.size := Nat.le_trans gz hg7.size
      clear hO7 hg7 hv7 hlt7 hx7 hy7 hrun
      first
        | (refine skipH (i := 10) rfl (by kernel_rfl) (by kernel_rfl) (by kernel_rfl) (fun _ _ _ h => h) (by rfl) (by assumption) ?_; try simp only [Act.put, List.setIfInBounds_toArray, List.set_cons_zero, List.set_cons_succ, List.getElem_toArray, List.getElem_cons_succ, List.getElem_cons_zero])
        | (refine yieldH (i := 10) (v := ?_) rfl (by kernel_rfl) (by kernel_rfl) (by kernel_rfl) (fun _ _ _ h => h) (by rfl) ?_ (by assumption) ?_; rotate_left; (intro w hSw; (try dsimp only at hSw); go_simp; (try with_reducible rfl)); try simp only [Act.put, List.setIfInBounds_toArray, List.set_cons_zero, List.set_cons_succ, List.getElem_toArray, List.getElem_cons_succ, List.getElem_cons_zero])
        | fail
      have z0 := cellW hY.out 0 _ rfl u4 (Below.refl _ _)
      have f0 := frozenW hY.out 0 u4 (Below.refl _ _)
      have z1 := cellW hY.out 1 _ rfl u4 (Below.refl _ _)
      have f1 := frozenW hY.out 1 u4 (Below.refl _ _)
      have z2 := cellW hY.out 2 _ rfl u4 (Below.refl _ _)
      have f2 := frozenW hY.out 2 u4 (Below.refl _ _)
      have q2 := OwnK.lt HO2.out
      have q6 := OwnK.lt HO6.out
      refine wpAnyH_ready (rs := [11]) (by kernel_rfl) (by simp) ?_
      refine AllReadyH.cons rfl (fun K hK => ?_) AllReadyH.nil
      go_simp
      (try dsimp only)
      refine hK.out _ _ ?_ (fun hHeld => ?_)
      · (try dsimp only); exact blk_far (a := ⟨w.heap.size + 1, 2, none⟩) (blk_far (a := ⟨w.heap.size + 1, 1, none⟩) (blk_far (a := ⟨w.heap.size + 1, 0, none⟩) (hX.out) (by simp only; omega) (.int .i64 s.nx)) (by simp only; omega) (.slice pa s.op.length ca)) (by simp only; omega) (.slice pd s.dn.length cd)
      clear hK K
      try simp only [Act.put, List.setIfInBounds_toArray, List.set_cons_zero, List.set_cons_succ, List.getElem_toArray, List.getElem_cons_succ, List.getElem_cons_zero]
      refine wpAnyH_done (by kernel_rfl) ?_ _
      go_wp2
      exact bodyPost_ret (v := .agg #[.int .i64 s.nx, .slice pa s.op.length ca, .slice pd s.dn.length cd]) (results_cell_row Try.results21 _ _ (w.heap.size + 1) _ _ _ _ rfl (blk_set (blk_set (blk_set (hY.out) 0 (.int .i64 s.nx)) 1 (.slice pa s.op.length ca)) 2 (.slice pd s.dn.length cd)) Try.underlying30 rfl (by kernel_rfl)) rfl ⟨_, _, rfl, OwnK.low (OwnK.far (OwnK.far (OwnK.far (HO2.out) (a := ⟨w.heap.size + 1, 0, none⟩) (fun b hb => by have := q2 b hb; simp only; omega) (.int .i64 s.nx)) (a := ⟨w.heap.size + 1, 1, none⟩) (fun b hb => by have := q2 b hb; simp only; omega) (.slice pa s.op.length ca)) (a := ⟨w.heap.size + 1, 2, none⟩) (fun b hb => by have := q2 b hb; simp only; omega) (.slice pd s.dn.length cd)) (by omega), OwnK.low (OwnK.far (OwnK.far (OwnK.far (HO6.out) (a := ⟨w.heap.size + 1, 0, none⟩) (fun b hb => by have := q6 b hb; simp only; omega) (.int .i64 s.nx)) (a := ⟨w.heap.size + 1, 1, none⟩) (fun b hb => by have := q6 b hb; simp only; omega) (.slice pa s.op.length ca)) (a := ⟨w.heap.size + 1, 2, none⟩) (fun b hb => by have := q6 b hb; simp only; omega) (.slice pd s.dn.length cd)) (by omega), (((hA).setCell (by simp only; omega) _).setCell (by simp only; omega) _).setCell (by simp only; omega) _⟩
    · go_simp
      (try dsimp only)
      refine hK.out _ _ ?_ (fun hHeld => ?_)
      · (try dsimp only); exact blk hX.out (all_alloc u1 (.cells #[] 69))
      clear hK K
      try simp only [Act.put, List.setIfInBounds_toArray, List.set_cons_zero, List.set_cons_succ, List.getElem_toArray, List.getElem_cons_succ, List.getElem_cons_zero]
      have HO6 : Hid (OwnKD (u1.alloc (.cells #[] 69)) (w.heap.size + 2) (.slice (some ⟨u1.heap.size, 0, none⟩) 0 0) []) := World.ownsRow_made u1 #[] 0 gz (by decide) rfl
      have hb := all_alloc u1 (.cells #[] 69)
      replace hX : Hid _ := blk hX.out hb
      replace hY : Hid _ := blk hY.out hb
      replace hA : Below w.heap.size w (u1.alloc (.cells #[] 69)) := keepB hA (Nat.le_refl _) hb
      replace gz : w.heap.size + 2 ≤ (u1.alloc (.cells #[] 69)).heap.size := Nat.le_trans gz hb.size
      replace HO2 : Hid (OwnKW (u1.alloc (.cells #[] 69)) (w.heap.size + 2) (.slice (some ⟨N2, 0, none⟩) 0 0) []) := OwnK.below HO2.out hb
      clear hb
      generalize u1.alloc (.cells #[] 69) = u2 at hX hY hA gz HO2 HO6 hHeld ⊢
      obtain ⟨N6, hNe⟩ : ∃ N, u1.heap.size = N := ⟨_, rfl⟩
      rw [hNe] at HO6 ⊢
      clear hNe
      refine wpAnyH_ready (rs := [5]) (by kernel_rfl) (by simp) ?_
      refine (AllReadyH.cons rfl (fun K hK => ?_) AllReadyH.nil)
      obtain ⟨v', u3, hrun, hO7, hg7, hv7⟩ := app_recK HTW.out wtC_len wtC_one u2 27 (w.heap.size + 2) (.slice (some ⟨N2, 0, none⟩) 0 0) (.slice p1 s.op.length c1) [] s.op HO2.out (HW.out _ hA) (by simp) (by omega) gz
      have hlt7 := OwnK.lt HO2.out
      rw [List.nil_append] at hO7
      obtain ⟨pa, ca, rfl⟩ := OwnK.shape hO7
      have hx7 : u3.heap[w.heap.size]? = some (.cells #[.int .i64 s.nx, .slice p1 s.op.length c1, .slice p2 s.dn.length c2] 30 (0, 0)) := (hg7.block w.heap.size (by omega) (fun e => by have := (hlt7 w.heap.size e.symm).1; omega)).trans hX.out
      have hy7 : u3.heap[w.heap.size + 1]? = some (.cells #[.int .i64 0, .slice none 0 0, .slice none 0 0] 30 (0, 0)) := (hg7.block (w.heap.size + 1) (by omega) (fun e => by have := (hlt7 (w.heap.size + 1) e.symm).1; omega)).trans hY.out
      unfold Oper.wp; simp [Region.wanted, execOp, resolve, invoke, builtin, Act.eval, hrun, Result.andThen]
      (try dsimp only)
      refine hK.out _ _ ?_ (fun hHeld => ?_)
      · (try dsimp only); exact hx7
      clear hK K
      try simp only [Act.put, List.setIfInBounds_toArray, List.set_cons_zero, List.set_cons_succ, List.getElem_toArray, List.getElem_cons_succ, List.getElem_cons_zero]
      replace hA : Below w.heap.size w u3 := hA.grown hg7 hA.size (fun j hj => by have := hlt7 j hj; omega)
      replace HO6 : Hid (OwnKD u3 (w.heap.size + 2) (.slice (some ⟨N6, 0, none⟩) 0 0) []) := OwnK.grown HO6.out hg7 (rows_apart HO2.out HO6.out)
      replace HO2 : Hid (OwnKW u3 (w.heap.size + 2) (.slice pa s.op.length ca) s.op) := hO7
      replace hX : Hid _ := hx7
      replace hY : Hid _ := hy7
      replace gz : w.heap.size + 2 ≤ u3.heap.size := Nat.le_trans gz hg7.size
      clear hO7 hg7 hv7 hlt7 hx7 hy7 hrun
      refine wpAnyH_ready (rs := [9]) (by kernel_rfl) (by simp) ?_
      refine (AllReadyH.cons rfl (fun K hK => ?_) AllReadyH.nil)
      obtain ⟨v', u4, hrun, hO7, hg7, hv7⟩ := app_recK HTD.out dnC_len dnC_one u3 28 (w.heap.size + 2) (.slice (some ⟨N6, 0, none⟩) 0 0) (.slice p2 s.dn.length c2) [] s.dn HO6.out (HD.out _ hA) (by simp) (by omega) gz
      have hlt7 := OwnK.lt HO6.out
      rw [List.nil_append] at hO7
      obtain ⟨pd, cd, rfl⟩ := OwnK.shape hO7
      have hx7 : u4.heap[w.heap.size]? = some (.cells #[.int .i64 s.nx, .slice p1 s.op.length c1, .slice p2 s.dn.length c2] 30 (0, 0)) := (hg7.block w.heap.size (by omega) (fun e => by have := (hlt7 w.heap.size e.symm).1; omega)).trans hX.out
      have hy7 : u4.heap[w.heap.size + 1]? = some (.cells #[.int .i64 0, .slice none 0 0, .slice none 0 0] 30 (0, 0)) := (hg7.block (w.heap.size + 1) (by omega) (fun e => by have := (hlt7 (w.heap.size + 1) e.symm).1; omega)).trans hY.out
      unfold Oper.wp; simp [Region.wanted, execOp, resolve, invoke, builtin, Act.eval, hrun, Result.andThen]
      (try dsimp only)
      refine hK.out _ _ ?_ (fun hHeld => ?_)
      · (try dsimp only); exact hx7
      clear hK K
      try simp only [Act.put, List.setIfInBounds_toArray, List.set_cons_zero, List.set_cons_succ, List.getElem_toArray, List.getElem_cons_succ, List.getElem_cons_zero]
      replace hA : Below w.heap.size w u4 := hA.grown hg7 hA.size (fun j hj => by have := hlt7 j hj; omega)
      replace HO2 : Hid (OwnKW u4 (w.heap.size + 2) (.slice pa s.op.length ca) s.op) := OwnK.grown HO2.out hg7 (fun a b ha hb e => rows_apart HO2.out HO6.out b a hb ha e.symm)
      replace HO6 : Hid (OwnKD u4 (w.heap.size + 2) (.slice pd s.dn.length cd) s.dn) := hO7
      replace hX : Hid _ := hx7
      replace hY : Hid _ := hy7
      replace gz : w.heap.size + 2 ≤ u4.heap.size := Nat.le_trans gz hg7.size
      clear hO7 hg7 hv7 hlt7 hx7 hy7 hrun
      first
        | (refine skipH (i := 10) rfl (by kernel_rfl) (by kernel_rfl) (by kernel_rfl) (fun _ _ _ h => h) (by rfl) (by assumption) ?_; try simp only [Act.put, List.setIfInBounds_toArray, List.set_cons_zero, List.set_cons_succ, List.getElem_toArray, List.getElem_cons_succ, List.getElem_cons_zero])
        | (refine yieldH (i := 10) (v := ?_) rfl (by kernel_rfl) (by kernel_rfl) (by kernel_rfl) (fun _ _ _ h => h) (by rfl) ?_ (by assumption) ?_; rotate_left; (intro w hSw; (try dsimp only at hSw); go_simp; (try with_reducible rfl)); try simp only [Act.put, List.setIfInBounds_toArray, List.set_cons_zero, List.set_cons_succ, List.getElem_toArray, List.getElem_cons_succ, List.getElem_cons_zero])
        | fail
      have z0 := cellW hY.out 0 _ rfl u4 (Below.refl _ _)
      have f0 := frozenW hY.out 0 u4 (Below.refl _ _)
      have z1 := cellW hY.out 1 _ rfl u4 (Below.refl _ _)
      have f1 := frozenW hY.out 1 u4 (Below.refl _ _)
      have z2 := cellW hY.out 2 _ rfl u4 (Below.refl _ _)
      have f2 := frozenW hY.out 2 u4 (Below.refl _ _)
      have q2 := OwnK.lt HO2.out
      have q6 := OwnK.lt HO6.out
      refine wpAnyH_ready (rs := [11]) (by kernel_rfl) (by simp) ?_
      refine AllReadyH.cons rfl (fun K hK => ?_) AllReadyH.nil
      go_simp
      (try dsimp only)
      refine hK.out _ _ ?_ (fun hHeld => ?_)
      · (try dsimp only); exact blk_far (a := ⟨w.heap.size + 1, 2, none⟩) (blk_far (a := ⟨w.heap.size + 1, 1, none⟩) (blk_far (a := ⟨w.heap.size + 1, 0, none⟩) (hX.out) (by simp only; omega) (.int .i64 s.nx)) (by simp only; omega) (.slice pa s.op.length ca)) (by simp only; omega) (.slice pd s.dn.length cd)
      clear hK K
      try simp only [Act.put, List.setIfInBounds_toArray, List.set_cons_zero, List.set_cons_succ, List.getElem_toArray, List.getElem_cons_succ, List.getElem_cons_zero]
      refine wpAnyH_done (by kernel_rfl) ?_ _
      go_wp2
      exact bodyPost_ret (v := .agg #[.int .i64 s.nx, .slice pa s.op.length ca, .slice pd s.dn.length cd]) (results_cell_row Try.results21 _ _ (w.heap.size + 1) _ _ _ _ rfl (blk_set (blk_set (blk_set (hY.out) 0 (.int .i64 s.nx)) 1 (.slice pa s.op.length ca)) 2 (.slice pd s.dn.length cd)) Try.underlying30 rfl (by kernel_rfl)) rfl ⟨_, _, rfl, OwnK.low (OwnK.far (OwnK.far (OwnK.far (HO2.out) (a := ⟨w.heap.size + 1, 0, none⟩) (fun b hb => by have := q2 b hb; simp only; omega) (.int .i64 s.nx)) (a := ⟨w.heap.size + 1, 1, none⟩) (fun b hb => by have := q2 b hb; simp only; omega) (.slice pa s.op.length ca)) (a := ⟨w.heap.size + 1, 2, none⟩) (fun b hb => by have := q2 b hb; simp only; omega) (.slice pd s.dn.length cd)) (by omega), OwnK.low (OwnK.far (OwnK.far (OwnK.far (HO6.out) (a := ⟨w.heap.size + 1, 0, none⟩) (fun b hb => by have := q6 b hb; simp only; omega) (.int .i64 s.nx)) (a := ⟨w.heap.size + 1, 1, none⟩) (fun b hb => by have := q6 b hb; simp only; omega) (.slice pa s.op.length ca)) (a := ⟨w.heap.size + 1, 2, none⟩) (fun b hb => by have := q6 b hb; simp only; omega) (.slice pd s.dn.length cd)) (by omega), (((hA).setCell (by simp only; omega) _).setCell (by simp only; omega) _).setCell (by simp only; omega) _⟩
  · go_simp
    (try dsimp only)
    refine hK.out _ _ ?_ (fun hHeld => ?_)
    · (try dsimp only); exact blk hX.out (all_alloc u0 (.cells #[] 69))
    clear hK K
    try simp only [Act.put, List.setIfInBounds_toArray, List.set_cons_zero, List.set_cons_succ, List.getElem_toArray, List.getElem_cons_succ, List.getElem_cons_zero]
    have HO6 : Hid (OwnKD (u0.alloc (.cells #[] 69)) (w.heap.size + 2) (.slice (some ⟨u0.heap.size, 0, none⟩) 0 0) []) := World.ownsRow_made u0 #[] 0 gz (by decide) rfl
    have hb := all_alloc u0 (.cells #[] 69)
    replace hX : Hid _ := blk hX.out hb
    replace hY : Hid _ := blk hY.out hb
    replace hA : Below w.heap.size w (u0.alloc (.cells #[] 69)) := keepB hA (Nat.le_refl _) hb
    replace gz : w.heap.size + 2 ≤ (u0.alloc (.cells #[] 69)).heap.size := Nat.le_trans gz hb.size
    clear hb
    generalize u0.alloc (.cells #[] 69) = u1 at hX hY hA gz HO6 hHeld ⊢
    obtain ⟨N6, hNe⟩ : ∃ N, u0.heap.size = N := ⟨_, rfl⟩
    rw [hNe] at HO6 ⊢
    clear hNe
    refine wpAnyH_ready (rs := [2]) (by kernel_rfl) (by simp) ?_
    refine (AllReadyH.cons rfl (fun K hK => ?_) AllReadyH.nil)
    go_simp
    (try dsimp only)
    refine hK.out _ _ ?_ (fun hHeld => ?_)
    · (try dsimp only); exact blk hX.out (all_alloc u1 (.cells #[] 50))
    clear hK K
    try simp only [Act.put, List.setIfInBounds_toArray, List.set_cons_zero, List.set_cons_succ, List.getElem_toArray, List.getElem_cons_succ, List.getElem_cons_zero]
    have HO2 : Hid (OwnKW (u1.alloc (.cells #[] 50)) (w.heap.size + 2) (.slice (some ⟨u1.heap.size, 0, none⟩) 0 0) []) := World.ownsRow_made u1 #[] 0 gz (by decide) rfl
    have hb := all_alloc u1 (.cells #[] 50)
    replace hX : Hid _ := blk hX.out hb
    replace hY : Hid _ := blk hY.out hb
    replace hA : Below w.heap.size w (u1.alloc (.cells #[] 50)) := keepB hA (Nat.le_refl _) hb
    replace gz : w.heap.size + 2 ≤ (u1.alloc (.cells #[] 50)).heap.size := Nat.le_trans gz hb.size
    replace HO6 : Hid (OwnKD (u1.alloc (.cells #[] 50)) (w.heap.size + 2) (.slice (some ⟨N6, 0, none⟩) 0 0) []) := OwnK.below HO6.out hb
    clear hb
    generalize u1.alloc (.cells #[] 50) = u2 at hX hY hA gz HO2 HO6 hHeld ⊢
    obtain ⟨N2, hNe⟩ : ∃ N, u1.heap.size = N := ⟨_, rfl⟩
    rw [hNe] at HO2 ⊢
    clear hNe
    refine wpAnyH_ready (rs := [5]) (by kernel_rfl) (by simp) ?_
    refine (AllReadyH.cons rfl (fun K hK => ?_) AllReadyH.nil)
    obtain ⟨v', u3, hrun, hO7, hg7, hv7⟩ := app_recK HTW.out wtC_len wtC_one u2 27 (w.heap.size + 2) (.slice (some ⟨N2, 0, none⟩) 0 0) (.slice p1 s.op.length c1) [] s.op HO2.out (HW.out _ hA) (by simp) (by omega) gz
    have hlt7 := OwnK.lt HO2.out
    rw [List.nil_append] at hO7
    obtain ⟨pa, ca, rfl⟩ := OwnK.shape hO7
    have hx7 : u3.heap[w.heap.size]? = some (.cells #[.int .i64 s.nx, .slice p1 s.op.length c1, .slice p2 s.dn.length c2] 30 (0, 0)) := (hg7.block w.heap.size (by omega) (fun e => by have := (hlt7 w.heap.size e.symm).1; omega)).trans hX.out
    have hy7 : u3.heap[w.heap.size + 1]? = some (.cells #[.int .i64 0, .slice none 0 0, .slice none 0 0] 30 (0, 0)) := (hg7.block (w.heap.size + 1) (by omega) (fun e => by have := (hlt7 (w.heap.size + 1) e.symm).1; omega)).trans hY.out
    unfold Oper.wp; simp [Region.wanted, execOp, resolve, invoke, builtin, Act.eval, hrun, Result.andThen]
    (try dsimp only)
    refine hK.out _ _ ?_ (fun hHeld => ?_)
    · (try dsimp only); exact hx7
    clear hK K
    try simp only [Act.put, List.setIfInBounds_toArray, List.set_cons_zero, List.set_cons_succ, List.getElem_toArray, List.getElem_cons_succ, List.getElem_cons_zero]
    replace hA : Below w.heap.size w u3 := hA.grown hg7 hA.size (fun j hj => by have := hlt7 j hj; omega)
    replace HO6 : Hid (OwnKD u3 (w.heap.size + 2) (.slice (some ⟨N6, 0, none⟩) 0 0) []) := OwnK.grown HO6.out hg7 (rows_apart HO2.out HO6.out)
    replace HO2 : Hid (OwnKW u3 (w.heap.size + 2) (.slice pa s.op.length ca) s.op) := hO7
    replace hX : Hid _ := hx7
    replace hY : Hid _ := hy7
    replace gz : w.heap.size + 2 ≤ u3.heap.size := Nat.le_trans gz hg7.size
    clear hO7 hg7 hv7 hlt7 hx7 hy7 hrun
    refine wpAnyH_ready (rs := [9]) (by kernel_rfl) (by simp) ?_
    refine (AllReadyH.cons rfl (fun K hK => ?_) AllReadyH.nil)
    obtain ⟨v', u4, hrun, hO7, hg7, hv7⟩ := app_recK HTD.out dnC_len dnC_one u3 28 (w.heap.size + 2) (.slice (some ⟨N6, 0, none⟩) 0 0) (.slice p2 s.dn.length c2) [] s.dn HO6.out (HD.out _ hA) (by simp) (by omega) gz
    have hlt7 := OwnK.lt HO6.out
    rw [List.nil_append] at hO7
    obtain ⟨pd, cd, rfl⟩ := OwnK.shape hO7
    have hx7 : u4.heap[w.heap.size]? = some (.cells #[.int .i64 s.nx, .slice p1 s.op.length c1, .slice p2 s.dn.length c2] 30 (0, 0)) := (hg7.block w.heap.size (by omega) (fun e => by have := (hlt7 w.heap.size e.symm).1; omega)).trans hX.out
    have hy7 : u4.heap[w.heap.size + 1]? = some (.cells #[.int .i64 0, .slice none 0 0, .slice none 0 0] 30 (0, 0)) := (hg7.block (w.heap.size + 1) (by omega) (fun e => by have := (hlt7 (w.heap.size + 1) e.symm).1; omega)).trans hY.out
    unfold Oper.wp; simp [Region.wanted, execOp, resolve, invoke, builtin, Act.eval, hrun, Result.andThen]
    (try dsimp only)
    refine hK.out _ _ ?_ (fun hHeld => ?_)
    · (try dsimp only); exact hx7
    clear hK K
    try simp only [Act.put, List.setIfInBounds_toArray, List.set_cons_zero, List.set_cons_succ, List.getElem_toArray, List.getElem_cons_succ, List.getElem_cons_zero]
    replace hA : Below w.heap.size w u4 := hA.grown hg7 hA.size (fun j hj => by have := hlt7 j hj; omega)
    replace HO2 : Hid (OwnKW u4 (w.heap.size + 2) (.slice pa s.op.length ca) s.op) := OwnK.grown HO2.out hg7 (fun a b ha hb e => rows_apart HO2.out HO6.out b a hb ha e.symm)
    replace HO6 : Hid (OwnKD u4 (w.heap.size + 2) (.slice pd s.dn.length cd) s.dn) := hO7
    replace hX : Hid _ := hx7
    replace hY : Hid _ := hy7
    replace gz : w.heap.size + 2 ≤ u4.heap.size := Nat.le_trans gz hg7.size
    clear hO7 hg7 hv7 hlt7 hx7 hy7 hrun
    first
      | (refine skipH (i := 10) rfl (by kernel_rfl) (by kernel_rfl) (by kernel_rfl) (fun _ _ _ h => h) (by rfl) (by assumption) ?_; try simp only [Act.put, List.setIfInBounds_toArray, List.set_cons_zero, List.set_cons_succ, List.getElem_toArray, List.getElem_cons_succ, List.getElem_cons_zero])
      | (refine yieldH (i := 10) (v := ?_) rfl (by kernel_rfl) (by kernel_rfl) (by kernel_rfl) (fun _ _ _ h => h) (by rfl) ?_ (by assumption) ?_; rotate_left; (intro w hSw; (try dsimp only at hSw); go_simp; (try with_reducible rfl)); try simp only [Act.put, List.setIfInBounds_toArray, List.set_cons_zero, List.set_cons_succ, List.getElem_toArray, List.getElem_cons_succ, List.getElem_cons_zero])
      | fail
    have z0 := cellW hY.out 0 _ rfl u4 (Below.refl _ _)
    have f0 := frozenW hY.out 0 u4 (Below.refl _ _)
    have z1 := cellW hY.out 1 _ rfl u4 (Below.refl _ _)
    have f1 := frozenW hY.out 1 u4 (Below.refl _ _)
    have z2 := cellW hY.out 2 _ rfl u4 (Below.refl _ _)
    have f2 := frozenW hY.out 2 u4 (Below.refl _ _)
    have q2 := OwnK.lt HO2.out
    have q6 := OwnK.lt HO6.out
    refine wpAnyH_ready (rs := [11]) (by kernel_rfl) (by simp) ?_
    refine AllReadyH.cons rfl (fun K hK => ?_) AllReadyH.nil
    go_simp
    (try dsimp only)
    refine hK.out _ _ ?_ (fun hHeld => ?_)
    · (try dsimp only); exact blk_far (a := ⟨w.heap.size + 1, 2, none⟩) (blk_far (a := ⟨w.heap.size + 1, 1, none⟩) (blk_far (a := ⟨w.heap.size + 1, 0, none⟩) (hX.out) (by simp only; omega) (.int .i64 s.nx)) (by simp only; omega) (.slice pa s.op.length ca)) (by simp only; omega) (.slice pd s.dn.length cd)
    clear hK K
    try simp only [Act.put, List.setIfInBounds_toArray, List.set_cons_zero, List.set_cons_succ, List.getElem_toArray, List.getElem_cons_succ, List.getElem_cons_zero]
    refine wpAnyH_done (by kernel_rfl) ?_ _
    go_wp2
    exact bodyPost_ret (v := .agg #[.int .i64 s.nx, .slice pa s.op.length ca, .slice pd s.dn.length cd]) (results_cell_row Try.results21 _ _ (w.heap.size + 1) _ _ _ _ rfl (blk_set (blk_set (blk_set (hY.out) 0 (.int .i64 s.nx)) 1 (.slice pa s.op.length ca)) 2 (.slice pd s.dn.length cd)) Try.underlying30 rfl (by kernel_rfl)) rfl ⟨_, _, rfl, OwnK.low (OwnK.far (OwnK.far (OwnK.far (HO2.out) (a := ⟨w.heap.size + 1, 0, none⟩) (fun b hb => by have := q2 b hb; simp only; omega) (.int .i64 s.nx)) (a := ⟨w.heap.size + 1, 1, none⟩) (fun b hb => by have := q2 b hb; simp only; omega) (.slice pa s.op.length ca)) (a := ⟨w.heap.size + 1, 2, none⟩) (fun b hb => by have := q2 b hb; simp only; omega) (.slice pd s.dn.length cd)) (by omega), OwnK.low (OwnK.far (OwnK.far (OwnK.far (HO6.out) (a := ⟨w.heap.size + 1, 0, none⟩) (fun b hb => by have := q6 b hb; simp only; omega) (.int .i64 s.nx)) (a := ⟨w.heap.size + 1, 1, none⟩) (fun b hb => by have := q6 b hb; simp only; omega) (.slice pa s.op.length ca)) (a := ⟨w.heap.size + 1, 2, none⟩) (fun b hb => by have := q6 b hb; simp only; omega) (.slice pd s.dn.length cd)) (by omega), (((hA).setCell (by simp only; omega) _).setCell (by simp only; omega) _).setCell (by simp only; omega) _⟩
end Go.Proofs.Ytghchcipobcpjaa
