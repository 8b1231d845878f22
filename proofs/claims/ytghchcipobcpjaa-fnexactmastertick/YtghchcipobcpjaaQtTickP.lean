/- A MASTER's TICK, the program's. Written by mktick.py. -/
import Derived.Test.YtghchcipobcpjaaQtTickL
namespace Go.Proofs.Ytghchcipobcpjaa
open Go.RowKit
set_option linter.unusedVariables false
set_option linter.unusedSimpArgs false

set_option maxRecDepth 100000 in
set_option maxHeartbeats 1600000 in
theorem handOutB_any (s : Mst) (base M : Nat) (va vd : Value) (w : World) (h : OwnBt w base M va vd s) :
    Calls Try.prog 30 #[.pointer (some ⟨M, 0, none⟩)] w fun e w' => e = .returned (.agg #[.int .i64 s.nx, va, vd]) ∧ Below w.heap.size w w' := by
  obtain ⟨pa, ca, rfl⟩ := OwnK.shape h.op
  obtain ⟨pd, cd, rfl⟩ := OwnK.shape h.dn
  have hA := all_alloc w (.cells #[.int .i64 0, .slice none 0 0, .slice none 0 0] 30)
  have hX : Hid _ := heap_alloc_new w (.cells #[.int .i64 0, .slice none 0 0, .slice none 0 0] 30)
  have hB : Hid _ := blk h.box hA
  have hMw : M < w.heap.size := (Array.getElem?_eq_some_iff.1 h.box).1
  go_enter Try.func30, Try.ntmps30
  go_upto_region 1 with fail
  generalize w.alloc (.cells #[.int .i64 0, .slice none 0 0, .slice none 0 0] 30) = A at hA hX hB ⊢
  have hd := Below.drew (Below.refl A.heap.size A)
  replace hX : Hid _ := blk hX.out hd
  replace hB : Hid _ := blk hB.out hd
  replace hA : Below w.heap.size w A.drew := keepB hA (Nat.le_refl _) hd
  refine wp_region_held_drew (S := (fun w' => w'.heap[M]? = some (.cells #[.slice pa s.op.length ca, .int .i64 s.nx, .slice pd s.dn.length cd] 60 (0, 0)))) (by kernel_rfl) ?_ (fun hHeld => ?_)
  · (try dsimp only); exact hB.out
  generalize A.drew = D at hA hX hB hHeld ⊢
  clear hd
  first
    | (refine skipH (i := 0) rfl (by kernel_rfl) (by kernel_rfl) (by kernel_rfl) (fun _ _ _ h => h) (by rfl) (by assumption) ?_; try simp only [Act.put, List.setIfInBounds_toArray, List.set_cons_zero, List.set_cons_succ, List.getElem_toArray, List.getElem_cons_succ, List.getElem_cons_zero])
    | (refine yieldH (i := 0) (v := ?_) rfl (by kernel_rfl) (by kernel_rfl) (by kernel_rfl) (fun _ _ _ h => h) (by rfl) ?_ (by assumption) ?_; rotate_left; (intro w hSw; (try dsimp only at hSw); go_simp; (try with_reducible rfl)); try simp only [Act.put, List.setIfInBounds_toArray, List.set_cons_zero, List.set_cons_succ, List.getElem_toArray, List.getElem_cons_succ, List.getElem_cons_zero])
    | fail
  first
    | (refine skipH (i := 1) rfl (by kernel_rfl) (by kernel_rfl) (by kernel_rfl) (fun _ _ _ h => h) (by rfl) (by assumption) ?_; try simp only [Act.put, List.setIfInBounds_toArray, List.set_cons_zero, List.set_cons_succ, List.getElem_toArray, List.getElem_cons_succ, List.getElem_cons_zero])
    | (refine yieldH (i := 1) (v := ?_) rfl (by kernel_rfl) (by kernel_rfl) (by kernel_rfl) (fun _ _ _ h => h) (by rfl) ?_ (by assumption) ?_; rotate_left; (intro w hSw; (try dsimp only at hSw); go_simp; (try with_reducible rfl)); try simp only [Act.put, List.setIfInBounds_toArray, List.set_cons_zero, List.set_cons_succ, List.getElem_toArray, List.getElem_cons_succ, List.getElem_cons_zero])
    | fail
  first
    | (refine skipH (i := 2) rfl (by kernel_rfl) (by kernel_rfl) (by kernel_rfl) (fun _ _ _ h => h) (by rfl) (by assumption) ?_; try simp only [Act.put, List.setIfInBounds_toArray, List.set_cons_zero, List.set_cons_succ, List.getElem_toArray, List.getElem_cons_succ, List.getElem_cons_zero])
    | (refine yieldH (i := 2) (v := ?_) rfl (by kernel_rfl) (by kernel_rfl) (by kernel_rfl) (fun _ _ _ h => h) (by rfl) ?_ (by assumption) ?_; rotate_left; (intro w hSw; (try dsimp only at hSw); go_simp; (try with_reducible rfl)); try simp only [Act.put, List.setIfInBounds_toArray, List.set_cons_zero, List.set_cons_succ, List.getElem_toArray, List.getElem_cons_succ, List.getElem_cons_zero])
    | fail
  refine yieldH (i := 3) (v := .int .i64 s.nx) rfl (by kernel_rfl) (by kernel_rfl) (by kernel_rfl) (fun _ _ _ h => h) (by rfl) ?_ (by assumption) ?_
  · intro w hSw; (try dsimp only at hSw); have y := cellW hSw 1 _ rfl w (Below.refl _ _); go_simp
  try simp only [Act.put, List.setIfInBounds_toArray, List.set_cons_zero, List.set_cons_succ, List.getElem_toArray, List.getElem_cons_succ, List.getElem_cons_zero]
  first
    | (refine skipH (i := 4) rfl (by kernel_rfl) (by kernel_rfl) (by kernel_rfl) (fun _ _ _ h => h) (by rfl) (by assumption) ?_; try simp only [Act.put, List.setIfInBounds_toArray, List.set_cons_zero, List.set_cons_succ, List.getElem_toArray, List.getElem_cons_succ, List.getElem_cons_zero])
    | (refine yieldH (i := 4) (v := ?_) rfl (by kernel_rfl) (by kernel_rfl) (by kernel_rfl) (fun _ _ _ h => h) (by rfl) ?_ (by assumption) ?_; rotate_left; (intro w hSw; (try dsimp only at hSw); go_simp; (try with_reducible rfl)); try simp only [Act.put, List.setIfInBounds_toArray, List.set_cons_zero, List.set_cons_succ, List.getElem_toArray, List.getElem_cons_succ, List.getElem_cons_zero])
    | fail
  first
    | (refine skipH (i := 5) rfl (by kernel_rfl) (by kernel_rfl) (by kernel_rfl) (fun _ _ _ h => h) (by rfl) (by assumption) ?_; try simp only [Act.put, List.setIfInBounds_toArray, List.set_cons_zero, List.set_cons_succ, List.getElem_toArray, List.getElem_cons_succ, List.getElem_cons_zero])
    | (refine yieldH (i := 5) (v := ?_) rfl (by kernel_rfl) (by kernel_rfl) (by kernel_rfl) (fun _ _ _ h => h) (by rfl) ?_ (by assumption) ?_; rotate_left; (intro w hSw; (try dsimp only at hSw); go_simp; (try with_reducible rfl)); try simp only [Act.put, List.setIfInBounds_toArray, List.set_cons_zero, List.set_cons_succ, List.getElem_toArray, List.getElem_cons_succ, List.getElem_cons_zero])
    | fail
  first
    | (refine skipH (i := 6) rfl (by kernel_rfl) (by kernel_rfl) (by kernel_rfl) (fun _ _ _ h => h) (by rfl) (by assumption) ?_; try simp only [Act.put, List.setIfInBounds_toArray, List.set_cons_zero, List.set_cons_succ, List.getElem_toArray, List.getElem_cons_succ, List.getElem_cons_zero])
    | (refine yieldH (i := 6) (v := ?_) rfl (by kernel_rfl) (by kernel_rfl) (by kernel_rfl) (fun _ _ _ h => h) (by rfl) ?_ (by assumption) ?_; rotate_left; (intro w hSw; (try dsimp only at hSw); go_simp; (try with_reducible rfl)); try simp only [Act.put, List.setIfInBounds_toArray, List.set_cons_zero, List.set_cons_succ, List.getElem_toArray, List.getElem_cons_succ, List.getElem_cons_zero])
    | fail
  first
    | (refine skipH (i := 7) rfl (by kernel_rfl) (by kernel_rfl) (by kernel_rfl) (fun _ _ _ h => h) (by rfl) (by assumption) ?_; try simp only [Act.put, List.setIfInBounds_toArray, List.set_cons_zero, List.set_cons_succ, List.getElem_toArray, List.getElem_cons_succ, List.getElem_cons_zero])
    | (refine yieldH (i := 7) (v := ?_) rfl (by kernel_rfl) (by kernel_rfl) (by kernel_rfl) (fun _ _ _ h => h) (by rfl) ?_ (by assumption) ?_; rotate_left; (intro w hSw; (try dsimp only at hSw); go_simp; (try with_reducible rfl)); try simp only [Act.put, List.setIfInBounds_toArray, List.set_cons_zero, List.set_cons_succ, List.getElem_toArray, List.getElem_cons_succ, List.getElem_cons_zero])
    | fail
  refine yieldH (i := 8) (v := .slice pa s.op.length ca) rfl (by kernel_rfl) (by kernel_rfl) (by kernel_rfl) (fun _ _ _ h => h) (by rfl) ?_ (by assumption) ?_
  · intro w hSw; (try dsimp only at hSw); have y := cellW hSw 0 _ rfl w (Below.refl _ _); go_simp
  try simp only [Act.put, List.setIfInBounds_toArray, List.set_cons_zero, List.set_cons_succ, List.getElem_toArray, List.getElem_cons_succ, List.getElem_cons_zero]
  first
    | (refine skipH (i := 9) rfl (by kernel_rfl) (by kernel_rfl) (by kernel_rfl) (fun _ _ _ h => h) (by rfl) (by assumption) ?_; try simp only [Act.put, List.setIfInBounds_toArray, List.set_cons_zero, List.set_cons_succ, List.getElem_toArray, List.getElem_cons_succ, List.getElem_cons_zero])
    | (refine yieldH (i := 9) (v := ?_) rfl (by kernel_rfl) (by kernel_rfl) (by kernel_rfl) (fun _ _ _ h => h) (by rfl) ?_ (by assumption) ?_; rotate_left; (intro w hSw; (try dsimp only at hSw); go_simp; (try with_reducible rfl)); try simp only [Act.put, List.setIfInBounds_toArray, List.set_cons_zero, List.set_cons_succ, List.getElem_toArray, List.getElem_cons_succ, List.getElem_cons_zero])
    | fail
  first
    | (refine skipH (i := 10) rfl (by kernel_rfl) (by kernel_rfl) (by kernel_rfl) (fun _ _ _ h => h) (by rfl) (by assumption) ?_; try simp only [Act.put, List.setIfInBounds_toArray, List.set_cons_zero, List.set_cons_succ, List.getElem_toArray, List.getElem_cons_succ, List.getElem_cons_zero])
    | (refine yieldH (i := 10) (v := ?_) rfl (by kernel_rfl) (by kernel_rfl) (by kernel_rfl) (fun _ _ _ h => h) (by rfl) ?_ (by assumption) ?_; rotate_left; (intro w hSw; (try dsimp only at hSw); go_simp; (try with_reducible rfl)); try simp only [Act.put, List.setIfInBounds_toArray, List.set_cons_zero, List.set_cons_succ, List.getElem_toArray, List.getElem_cons_succ, List.getElem_cons_zero])
    | fail
  first
    | (refine skipH (i := 11) rfl (by kernel_rfl) (by kernel_rfl) (by kernel_rfl) (fun _ _ _ h => h) (by rfl) (by assumption) ?_; try simp only [Act.put, List.setIfInBounds_toArray, List.set_cons_zero, List.set_cons_succ, List.getElem_toArray, List.getElem_cons_succ, List.getElem_cons_zero])
    | (refine yieldH (i := 11) (v := ?_) rfl (by kernel_rfl) (by kernel_rfl) (by kernel_rfl) (fun _ _ _ h => h) (by rfl) ?_ (by assumption) ?_; rotate_left; (intro w hSw; (try dsimp only at hSw); go_simp; (try with_reducible rfl)); try simp only [Act.put, List.setIfInBounds_toArray, List.set_cons_zero, List.set_cons_succ, List.getElem_toArray, List.getElem_cons_succ, List.getElem_cons_zero])
    | fail
  refine yieldH (i := 12) (v := .slice pd s.dn.length cd) rfl (by kernel_rfl) (by kernel_rfl) (by kernel_rfl) (fun _ _ _ h => h) (by rfl) ?_ (by assumption) ?_
  · intro w hSw; (try dsimp only at hSw); have y := cellW hSw 2 _ rfl w (Below.refl _ _); go_simp
  try simp only [Act.put, List.setIfInBounds_toArray, List.set_cons_zero, List.set_cons_succ, List.getElem_toArray, List.getElem_cons_succ, List.getElem_cons_zero]
  first
    | (refine skipH (i := 13) rfl (by kernel_rfl) (by kernel_rfl) (by kernel_rfl) (fun _ _ _ h => h) (by rfl) (by assumption) ?_; try simp only [Act.put, List.setIfInBounds_toArray, List.set_cons_zero, List.set_cons_succ, List.getElem_toArray, List.getElem_cons_succ, List.getElem_cons_zero])
    | (refine yieldH (i := 13) (v := ?_) rfl (by kernel_rfl) (by kernel_rfl) (by kernel_rfl) (fun _ _ _ h => h) (by rfl) ?_ (by assumption) ?_; rotate_left; (intro w hSw; (try dsimp only at hSw); go_simp; (try with_reducible rfl)); try simp only [Act.put, List.setIfInBounds_toArray, List.set_cons_zero, List.set_cons_succ, List.getElem_toArray, List.getElem_cons_succ, List.getElem_cons_zero])
    | fail
  have z0 := cellW hX.out 0 _ rfl D (Below.refl _ _)
  have z1 := cellW hX.out 1 _ rfl D (Below.refl _ _)
  have z2 := cellW hX.out 2 _ rfl D (Below.refl _ _)
  have f0 := frozenW hX.out 0 D (Below.refl _ _)
  have f1 := frozenW hX.out 1 D (Below.refl _ _)
  have f2 := frozenW hX.out 2 D (Below.refl _ _)
  refine wpAnyH_ready (rs := [14]) (by kernel_rfl) (by simp) ?_
  refine AllReadyH.cons rfl (fun K hK => ?_) AllReadyH.nil
  go_simp
  (try dsimp only)
  refine hK.out _ _ ?_ (fun hHeld => ?_)
  · (try dsimp only); exact blk_far (a := ⟨w.heap.size, 2, none⟩) (blk_far (a := ⟨w.heap.size, 1, none⟩) (blk_far (a := ⟨w.heap.size, 0, none⟩) hB.out (by simp only; omega) (.int .i64 s.nx)) (by simp only; omega) (.slice pa s.op.length ca)) (by simp only; omega) (.slice pd s.dn.length cd)
  clear hK K
  try simp only [Act.put, List.setIfInBounds_toArray, List.set_cons_zero, List.set_cons_succ, List.getElem_toArray, List.getElem_cons_succ, List.getElem_cons_zero]
  refine wpAnyH_done (by kernel_rfl) ?_ _
  go_wp2
  have hYf : (((D.setCell ⟨w.heap.size, 0, none⟩ (.int .i64 s.nx)).setCell ⟨w.heap.size, 1, none⟩ (.slice pa s.op.length ca)).setCell ⟨w.heap.size, 2, none⟩ (.slice pd s.dn.length cd)).heap[w.heap.size]? = some (.cells #[.int .i64 s.nx, .slice pa s.op.length ca, .slice pd s.dn.length cd] 30 (0, 0)) := blk_set (blk_set (blk_set hX.out 0 _) 1 _) 2 _
  exact bodyPost_ret (v := .agg #[.int .i64 s.nx, .slice pa s.op.length ca, .slice pd s.dn.length cd]) (results_cell_row Try.results30 _ _ w.heap.size _ _ _ _ rfl hYf Try.underlying30 rfl (by kernel_rfl)) rfl ⟨rfl, ((hA.setCell (by simp only; omega) _).setCell (by simp only; omega) _).setCell (by simp only; omega) _⟩
theorem tick_step (L : List Wt) (O : List Int) (dn : List Dn) (k : Nat) (hk : k < O.length) : dropW (dropAll L (O.take k)) O[k] = dropAll L (O.take (k + 1)) ∧ (dn ++ (O.take k).map doneE) ++ [⟨O[k], ⟨#[]⟩⟩] = dn ++ (O.take (k + 1)).map doneE := by
  rw [dropAll_more, List.take_succ_eq_append_getElem hk]
  refine ⟨rfl, ?_⟩
  rw [List.map_append, List.append_assoc]
  rfl
theorem OwnK.tightS {w : World} {base : Nat} {v : Value} {l : List ByteArray} (h : OwnKS w base v l) (hb : base ≤ w.heap.size) :
    ∃ lo hi, base ≤ lo ∧ hi ≤ w.heap.size ∧ OwnSB w lo hi v l ∧ (∀ k, lo ≤ k → k < hi → v.ownBlock = some k) ∧ (lo < hi ∨ hi ≤ base) := by
  have hlt := OwnK.lt h
  obtain ⟨h0, ⟨rfl, e⟩ | ⟨g, cap, cur, rfl, hg, rest⟩⟩ := h
  · exact ⟨base, base, Nat.le_refl _, hb, ⟨OwnK.sr (⟨h0, .inl ⟨rfl, e⟩⟩ : OwnKS w base _ l), fun k e => by cases e⟩, fun k h1 h2 => by omega, .inr (Nat.le_refl _)⟩
  · have hz := (hlt g rfl).2
    exact ⟨g, g + 1, hg, hz, ⟨OwnK.sr (⟨h0, .inr ⟨g, cap, cur, rfl, Nat.le_refl _, rest⟩⟩ : OwnKS w g _ l), fun k e => by cases e; exact Nat.lt_succ_self _⟩, fun k h1 h2 => by (have e : k = g := by omega); rw [e]; rfl, .inl (Nat.lt_succ_self _)⟩
/-- an answer out of the lists that it has -/
theorem OwnMo.mk3 {w : World} {base : Nat} {va vd vs : Value} {o : Mo} (ha : OwnKW w base va o.m.op) (hd : OwnKD w base vd o.m.dn) (hs : OwnKS w base vs o.se) (hb : base ≤ w.heap.size) : OwnMo w base w.heap.size va vd vs o := by
  obtain ⟨l1, k1, a1, a2, a3, a4, a5⟩ := OwnK.tight wtC_len ha hb
  obtain ⟨l2, k2, b1, b2, b3, b4, b5⟩ := OwnK.tight dnC_len hd hb
  obtain ⟨l3, k3, c1, c2, c3, c4, c5⟩ := OwnK.tightS hs hb
  exact ⟨Nat.le_refl _, l1, k1, l2, k2, l3, k3, ⟨a1, b1, c1⟩, ⟨a2, b2, c2⟩, a3, b3, c3, stretch_apart a1 b1 a4 b4 a5 b5 (own_apart ha hd (by decide)), stretch_apart a1 c1 a4 c4 a5 c5 (own_apart ha hs (by decide)), stretch_apart b1 c1 b4 c4 b5 c5 (own_apart hd hs (by decide))⟩
set_option maxRecDepth 100000 in
set_option maxHeartbeats 6400000 in
theorem masterTick_any (s : Mst) (v1 v2 : Value) (w : World) (ht : s.tot ≤ 1048576) (hwf : ∀ x ∈ s.dn, (Lit.int .i64 x.i).wf = true) (h : RowMst w v1 v2 s) :
    Calls Try.prog 15 #[.agg #[.int .i64 s.nx, v1, v2]] w fun e w' => ∃ u1 u2 u3, e = .returned (.agg #[.int .i64 (tickM s).m.nx, u1, u2, u3, .int .i64 (tickM s).id, .int .i64 (tickM s).co]) ∧ OwnMo w' w.heap.size w'.heap.size u1 u2 u3 (tickM s) ∧ Below w.heap.size w w' := by
  have q1 := csum_pos Wt.sz s.op
  have q3 := csum_pos Dn.sz s.dn
  have hb0 : s.op.length ≤ 1048576 ∧ s.dn.length ≤ 1048576 ∧ csum Wt.sz s.op ≤ 1048576 ∧ csum Dn.sz s.dn ≤ 1048576 := by unfold Mst.tot at ht; omega
  obtain ⟨b1, b2, b3, b4⟩ := hb0
  have HR : Hid (∀ W, Below w.heap.size w W → Calls Try.prog 25 #[.agg #[.int .i64 s.nx, v1, v2]] W fun e w' => e = .returned (.bool s.right) ∧ Below W.heap.size W w') := fun W hW => masterRight_any s v1 v2 W ht hwf (h.below hW)
  have HOM : Hid (∀ W, Below w.heap.size w W → Calls Try.prog 27 #[.agg #[.int .i64 s.nx, v1, v2]] W fun e w' => ∃ M va vd, e = .returned (.pointer (some ⟨M, 0, none⟩)) ∧ OwnAt w' W.heap.size M va vd s ∧ Below W.heap.size W w') := fun W hW => ownMaster_any s v1 v2 W b1 b2 (fun x hx => by have := csum_each Wt.sz hx; have e : Wt.sz x = x.t.size := rfl; omega) (fun x hx => by have := csum_each Dn.sz hx; have e : Dn.sz x = x.a.size := rfl; omega) (h.below hW)
  have hrl : s.right = true → s.op.length ≤ 3 ∧ s.dn.length ≤ 20 ∧ 1 ≤ s.nx ∧ s.nx ≤ 1000000 := right_len
  obtain ⟨⟨p1, c1, rfl, _⟩, ⟨p2, c2, rfl, _⟩⟩ := h
  clear q1 q3 ht hwf b1 b2 b3 b4
  have hX0 : Hid _ := blk (heap_alloc_new w (.cells #[.int .i64 s.nx, .slice p1 s.op.length c1, .slice p2 s.dn.length c2] 30)) (all_alloc _ (.cells #[.int .i64 0, .slice none 0 0, .slice none 0 0, .slice none 0 0, .int .i64 0, .int .i64 0] 33))
  have hY0 : Hid _ := heap_alloc_new (w.alloc (.cells #[.int .i64 s.nx, .slice p1 s.op.length c1, .slice p2 s.dn.length c2] 30)) (.cells #[.int .i64 0, .slice none 0 0, .slice none 0 0, .slice none 0 0, .int .i64 0, .int .i64 0] 33)
  have hA0 : Below w.heap.size w ((w.alloc (.cells #[.int .i64 s.nx, .slice p1 s.op.length c1, .slice p2 s.dn.length c2] 30)).alloc (.cells #[.int .i64 0, .slice none 0 0, .slice none 0 0, .slice none 0 0, .int .i64 0, .int .i64 0] 33)) := keepB (all_alloc w _) (Nat.le_refl _) (all_alloc _ _)
  have e2 : ((w.alloc (.cells #[.int .i64 s.nx, .slice p1 s.op.length c1, .slice p2 s.dn.length c2] 30)).alloc (.cells #[.int .i64 0, .slice none 0 0, .slice none 0 0, .slice none 0 0, .int .i64 0, .int .i64 0] 33)).heap.size = w.heap.size + 1 + 1 := by simp
  rw [show (w.alloc (.cells #[.int .i64 s.nx, .slice p1 s.op.length c1, .slice p2 s.dn.length c2] 30)).heap.size = w.heap.size + 1 by simp] at hY0
  unfold tickM
  cases hr : s.right with
  | false =>
    rw [if_neg (by decide)]
    rw [hr] at HR
    go_enter Try.func15, Try.ntmps15
    go_upto_region 1 with fail
    have hX := hX0
    have hY := hY0
    have hA := hA0
    generalize (w.alloc (.cells #[.int .i64 s.nx, .slice p1 s.op.length c1, .slice p2 s.dn.length c2] 30)).alloc (.cells #[.int .i64 0, .slice none 0 0, .slice none 0 0, .slice none 0 0, .int .i64 0, .int .i64 0] 33) = A at hX hY hA e2 ⊢
    clear hX0 hY0 hA0
    have g2 : w.heap.size + 1 + 1 ≤ A.heap.size := by omega
    clear e2
    have x0 := cellW hX.out 0 _ rfl A (Below.refl _ _)
    have x1 := cellW hX.out 1 _ rfl A (Below.refl _ _)
    have x2 := cellW hX.out 2 _ rfl A (Below.refl _ _)
    go_upto_region 2 with (first | (go_at_call 25; refine (HR.out _ hA).mono ?_; rintro e w1 ⟨rfl, hb1⟩))
    replace hY : Hid _ := blk hY.out hb1
    replace hA : Below w.heap.size w w1 := keepB hA (Nat.le_refl _) hb1
    go_wp2_with (first | (refine wpList_store_row rfl 33 (.tmp 2) (.tmp 11) rfl (w.heap.size + 1) #[.int .i64 0, .slice none 0 0, .slice none 0 0, .slice none 0 0, .int .i64 0, .int .i64 1] rfl rfl _ _ hY.out (by kernel_rfl) rfl (by simp [Value.oneCell']) ?_))
    go_wp2
    have hYf := setRow_heap _ (w.heap.size + 1) _ #[.int .i64 0, .slice none 0 0, .slice none 0 0, .slice none 0 0, .int .i64 0, .int .i64 1] _ _ hY.out
    have hAf : Below w.heap.size w (w1.setRow (w.heap.size + 1) #[.int .i64 0, .slice none 0 0, .slice none 0 0, .slice none 0 0, .int .i64 0, .int .i64 1]) := rcBelow_setRow hA (by omega) _
    exact bodyPost_ret (v := .agg #[.int .i64 0, .slice none 0 0, .slice none 0 0, .slice none 0 0, .int .i64 0, .int .i64 1]) (results_cell_row Try.results15 _ _ (w.heap.size + 1) _ _ _ _ rfl hYf Try.underlying33 rfl (by kernel_rfl)) rfl ⟨_, _, _, rfl, OwnMo.nil 1 hAf.size, hAf⟩
  | true =>
  rw [if_pos rfl]
  obtain ⟨hl1, hl2, hn1, hn2⟩ := hrl hr
  have hrise : riseW 0 s.nx s.op = true := by
    unfold Mst.right openW at hr
    simp only [Bool.and_eq_true] at hr
    exact hr.2.1.1
  obtain ⟨hf1, hf2⟩ := rise_facts s.op 0 hrise
  have HFIN : Hid (dropAll (s.op.map growW) (overW s.op) = (s.op.filter fun x => !overB x).map growW) := tick_final hf2
  rw [← HFIN.out]
  have HPL : Hid (∀ k (hk : k < (overW s.op).length), placeW (dropAll (s.op.map growW) ((overW s.op).take k)) (overW s.op)[k] < (dropAll (s.op.map growW) ((overW s.op).take k)).length) := fun k hk => tick_place hf2 k hk
  have HG : Hid (∀ (W : World) (base M : Nat) (va vd : Value), OwnBt W base M va vd s → Calls Try.prog 39 #[.pointer (some ⟨M, 0, none⟩)] W fun e w' => ∃ v1 v2, e = .returned (.tuple #[v1, v2]) ∧ OwnKS w' W.heap.size v1 (sentW s.op) ∧ OwnKI w' W.heap.size v2 (overW s.op) ∧ OwnBt w' base M va vd ⟨s.nx, s.op.map growW, s.dn⟩ ∧ Below base W w') := fun W base M va vd h => grow_any s base M va vd W (by omega) (fun x hx => by
    obtain ⟨_, _, h3, h4, h5, h6, h7⟩ := hf1 x hx
    exact ⟨by have := ((bodyB_iff _).1 h3).2; omega, h6, h7, h4, h5⟩) h
  have hol := overW_len s.op
  have hLl : ∀ ids, (dropAll (s.op.map growW) ids).length ≤ 3 := fun ids => by
    unfold dropAll
    exact Nat.le_trans (List.length_filter_le _ _) (by rw [List.length_map]; omega)
  have HLL : Hid (∀ ids, (dropAll (s.op.map growW) ids).length ≤ 3) := hLl
  have HHO : Hid (∀ (s : Mst) (W : World) (base M : Nat) (va vd : Value), OwnBt W base M va vd s → Calls Try.prog 30 #[.pointer (some ⟨M, 0, none⟩)] W fun e w' => e = .returned (.agg #[.int .i64 s.nx, va, vd]) ∧ Below W.heap.size W w') := fun s W base M va vd h => handOutB_any s base M va vd W h
  clear hf1 hf2 hLl hrise hrl HFIN
  generalize hL0 : s.op.map growW = L0 at *
  generalize hO : overW s.op = O at *
  generalize hS : sentW s.op = S at *
  clear hL0 hO hS
  rw [hr] at HR
  obtain ⟨Lf, HLf⟩ : ∃ Lf, Hid (dropAll L0 O = Lf) := ⟨_, (show _ = _ from rfl)⟩
  obtain ⟨Df, HDf⟩ : ∃ Df, Hid (s.dn ++ O.map doneE = Df) := ⟨_, (show _ = _ from rfl)⟩
  rw [HLf.out, HDf.out]
  go_enter Try.func15, Try.ntmps15
  go_upto_region 1 with fail
  have hX := hX0
  have hY := hY0
  have hA := hA0
  generalize (w.alloc (.cells #[.int .i64 s.nx, .slice p1 s.op.length c1, .slice p2 s.dn.length c2] 30)).alloc (.cells #[.int .i64 0, .slice none 0 0, .slice none 0 0, .slice none 0 0, .int .i64 0, .int .i64 0] 33) = A at hX hY hA e2 ⊢
  clear hX0 hY0 hA0
  have g2 : w.heap.size + 1 + 1 ≤ A.heap.size := by omega
  clear e2
  have x0 := cellW hX.out 0 _ rfl A (Below.refl _ _)
  have x1 := cellW hX.out 1 _ rfl A (Below.refl _ _)
  have x2 := cellW hX.out 2 _ rfl A (Below.refl _ _)
  go_upto_region 3 with (first | (go_at_call 25; refine (HR.out _ hA).mono ?_; rintro e w1 ⟨rfl, hb1⟩))
  replace hX : Hid _ := blk hX.out hb1
  replace hY : Hid _ := blk hY.out hb1
  replace hA : Below w.heap.size w w1 := keepB hA (Nat.le_refl _) hb1
  have g3 : w.heap.size + 1 + 1 ≤ w1.heap.size := by have := hb1.size; omega
  clear x0 x1 x2 hb1
  have x0 := cellW hX.out 0 _ rfl w1 (Below.refl _ _)
  have x1 := cellW hX.out 1 _ rfl w1 (Below.refl _ _)
  have x2 := cellW hX.out 2 _ rfl w1 (Below.refl _ _)
  go_upto_region 4 with (first | (go_at_call 27; refine (HOM.out _ hA).mono ?_; rintro e w3 ⟨M, va, vd, rfl, own3, hb3⟩))
  clear x0 x1 x2 hX
  have hz3 := hb3.size
  replace hY : Hid _ := blk hY.out hb3
  replace hA : Below w.heap.size w w3 := keepB hA (Nat.le_refl _) hb3
  have hB3 : Hid (OwnBt w3 w1.heap.size M va vd s) := own3.bt
  clear own3 hb3
  obtain ⟨B, hB⟩ : ∃ B, w1.heap.size = B := ⟨_, rfl⟩
  rw [hB] at hB3 g3 hz3
  clear hB
  go_upto_region 5 with (first | (go_at_call 39; refine (HG.out _ _ _ _ _ hB3.out).mono ?_; rintro e w4 ⟨vs, vo, rfl, hs4, ho4, hb4, hbl4⟩; obtain ⟨ps, cs, rfl⟩ := OwnK.shape hs4; obtain ⟨po, co, rfl⟩ := OwnK.shape ho4))
  have hz4 := hbl4.size
  have hY4 : Hid _ := (hbl4.block (w.heap.size + 1) (by omega)).trans hY.out
  have hA4 : Below w.heap.size w w4 := hA.trans (hbl4.mono (by omega))
  have HB4 : Hid (OwnBt w4 B M va vd ⟨s.nx, L0, s.dn⟩) := hb4
  have HS4 : Hid (OwnKS w4 w3.heap.size (.slice ps S.length cs) S) := hs4
  have HO4 : Hid (OwnKI w4 w3.heap.size (.slice po O.length co) O) := ho4
  have hlB := hB3.out.le
  obtain ⟨C, hC⟩ : ∃ C, w3.heap.size = C := ⟨_, rfl⟩
  rw [hC] at HS4 HO4 hz3
  clear hb4 hs4 ho4 hbl4 hB3 hY hA hC hz4
  go_wp2
  go_loopw [23] (fun i wr => ∃ (k : Nat) (va vd : Value), k ≤ O.length ∧ i = .int .i64 k ∧ Hid (OwnBt wr B M va vd ⟨s.nx, dropAll L0 (O.take k), s.dn ++ (O.take k).map doneE⟩) ∧ Hid (OwnKS wr C (.slice ps S.length cs) S) ∧ Hid (OwnKI wr C (.slice po O.length co) O) ∧ Hid (wr.heap[w.heap.size + 1]? = some (.cells #[.int .i64 0, .slice none 0 0, .slice none 0 0, .slice none 0 0, .int .i64 0, .int .i64 0] 33 (0, 0))) ∧ Below w.heap.size w wr) (fun i _ => O.length - (intOf i).toNat)
  case atStart => exact ⟨0, va, vd, Nat.zero_le _, rfl, (by rw [List.take_zero, dropAll_nil, List.map_nil, List.append_nil]; exact HB4.out : OwnBt w4 B M va vd ⟨s.nx, dropAll L0 (O.take 0), s.dn ++ (O.take 0).map doneE⟩), HS4.out, HO4.out, hY4.out, hA4⟩
  case round =>
    obtain ⟨k, va, vd, hk, rfl, HB, HS, HO, HY, hA⟩ := hrel
    by_cases hlt : k < O.length
    · obtain ⟨gO, e, _, _, ck, _⟩ := OwnI.cell (OwnK.oi HO.out) k hlt
      subst e
      have hdl : ((O.take k).map doneE).length ≤ 3 := by rw [List.length_map, List.length_take]; omega
      have HF : Hid (Calls Try.prog 40 #[.pointer (some ⟨M, 0, none⟩), .int .i64 O[k], .string ⟨#[]⟩] wr fun e w' => e = .returned (.tuple #[]) ∧ (∃ va' vd', OwnBt w' B M va' vd' ⟨s.nx, dropAll L0 (O.take (k + 1)), s.dn ++ (O.take (k + 1)).map doneE⟩) ∧ TouchR wr w' (fun k => k = M ∨ va.ownBlock = some k ∨ vd.ownBlock = some k)) := by
        have hst := tick_step L0 O s.dn k hlt
        rw [← hst.1, ← hst.2]
        exact finish_any ⟨s.nx, dropAll L0 (O.take k), s.dn ++ (O.take k).map doneE⟩ O[k] ⟨#[]⟩ B M va vd wr (by have := HLL.out (O.take k); show (dropAll L0 (O.take k)).length ≤ 1000; omega) (by show (s.dn ++ (O.take k).map doneE).length ≤ 1000; rw [List.length_append]; omega) (HPL.out k hlt) HB.out
      have hMw := (Array.getElem?_eq_some_iff.1 HB.out.box).1
      have hYw := (Array.getElem?_eq_some_iff.1 HY.out).1
      have HP : Hid (∀ W, TouchR wr W (fun k => k = M ∨ va.ownBlock = some k ∨ vd.ownBlock = some k) → OwnKS W C (.slice ps S.length cs) S ∧ OwnKI W C (.slice (some ⟨gO, 0, none⟩) O.length co) O ∧ W.heap[w.heap.size + 1]? = some (.cells #[.int .i64 0, .slice none 0 0, .slice none 0 0, .slice none 0 0, .int .i64 0, .int .i64 0] 33 (0, 0)) ∧ Below w.heap.size w W) := fun W hT => by
        have hva := OwnK.lt HB.out.op
        have hvd := OwnK.lt HB.out.dn
        refine ⟨OwnK.keep HS.out fun j hj => hT.block j (OwnK.lt HS.out j hj).2 ?_, OwnK.keep HO.out fun j hj => hT.block j (OwnK.lt HO.out j hj).2 ?_, (hT.block _ hYw ?_).trans HY.out, hA.trans ⟨hT.os, hT.tape, hT.output, ?_, fun j hj => hT.block j ?_ ?_⟩⟩
        · rintro (e | e | e)
          · exact box_apart HS.out HB.out.box (by decide) j hj e
          · exact own_apart HB.out.op HS.out (by decide) j j e hj rfl
          · exact own_apart HB.out.dn HS.out (by decide) j j e hj rfl
        · rintro (e | e | e)
          · exact box_apart HO.out HB.out.box (by decide) j hj e
          · exact own_apart HB.out.op HO.out (by decide) j j e hj rfl
          · exact own_apart HB.out.dn HO.out (by decide) j j e hj rfl
        · rintro (e | e | e)
          · omega
          · have := hva _ e; omega
          · have := hvd _ e; omega
        · have := hT.size; omega
        · omega
        · rintro (e | e | e)
          · omega
          · have := hva _ e; omega
          · have := hvd _ e; omega
      generalize O[k] = o at ck HF
      clear hdl HB HS HO HY hMw hYw hA
      go_wp2_with (go_at_call 40; refine HF.out.mono ?_; rintro e w8 ⟨rfl, ⟨va', vd', hb8⟩, ht8⟩)
      obtain ⟨r1, r2, r3, r4⟩ := HP.out w8 ht8
      go_roundw
      case rel => exact ⟨k + 1, va', vd', by omega, by go_num, hb8, r1, r2, r3, r4⟩
      case measure => simp [intOf]; omega
    · obtain rfl : k = O.length := by omega
      have hB9 : OwnBt wr B M va vd ⟨s.nx, Lf, Df⟩ := by
        have := HB.out
        rw [List.take_length, HLf.out, HDf.out] at this
        exact this
      obtain ⟨pa, ca, rfl⟩ := OwnK.shape hB9.op
      obtain ⟨pd, cd, rfl⟩ := OwnK.shape hB9.dn
      dsimp only at hB9
      have HB9 : Hid (OwnBt wr B M (.slice pa Lf.length ca) (.slice pd Df.length cd) ⟨s.nx, Lf, Df⟩) := hB9
      clear hB9 HB HO HR HOM HG HPL HLL hol HLf HDf
      have HHO2 : Hid (Calls Try.prog 30 #[.pointer (some ⟨M, 0, none⟩)] wr fun e w' => e = .returned (.agg #[.int .i64 s.nx, .slice pa Lf.length ca, .slice pd Df.length cd]) ∧ Below wr.heap.size wr w') := HHO.out ⟨s.nx, Lf, Df⟩ wr B M _ _ HB9.out
      clear HHO
      go_wp2_with (first
        | (go_at_call 30; refine HHO2.out.mono ?_; rintro e w9 ⟨rfl, hb9⟩; have hY9 : Hid _ := blk HY.out hb9)
        | (refine wpList_store_row rfl 33 (.tmp 2) (.tmp 34) rfl (w.heap.size + 1) #[.int .i64 s.nx, .slice pa Lf.length ca, .slice pd Df.length cd, .slice ps S.length cs, .int .i64 0, .int .i64 0] rfl rfl _ _ hY9.out (by kernel_rfl) rfl (by simp [Value.oneCell']) ?_))
      go_wp2
      have hA9 : Below w.heap.size w w9 := keepB hA (Nat.le_refl _) hb9
      have hYf := setRow_heap _ (w.heap.size + 1) _ #[.int .i64 s.nx, .slice pa Lf.length ca, .slice pd Df.length cd, .slice ps S.length cs, .int .i64 0, .int .i64 0] _ _ hY9.out
      have hAf : Below w.heap.size w (w9.setRow (w.heap.size + 1) #[.int .i64 s.nx, .slice pa Lf.length ca, .slice pd Df.length cd, .slice ps S.length cs, .int .i64 0, .int .i64 0]) := rcBelow_setRow hA9 (by omega) _
      have hzf : (w9.setRow (w.heap.size + 1) #[.int .i64 s.nx, .slice pa Lf.length ca, .slice pd Df.length cd, .slice ps S.length cs, .int .i64 0, .int .i64 0]).heap.size = w9.heap.size := setRow_size _ _ _
      have hoth : ∀ j, B ≤ j → (w9.setRow (w.heap.size + 1) #[.int .i64 s.nx, .slice pa Lf.length ca, .slice pd Df.length cd, .slice ps S.length cs, .int .i64 0, .int .i64 0]).heap[j]? = w9.heap[j]? := fun j hj => setRow_other w9 (w.heap.size + 1) j _ (by omega)
      have hO9 := OwnK.below HB9.out.op hb9
      have hD9 := OwnK.below HB9.out.dn hb9
      have hS9 := OwnK.below HS.out hb9
      have hlO := OwnK.lt hO9
      have hlD := OwnK.lt hD9
      have hlS := OwnK.lt hS9
      have hmk := OwnMo.mk3 (base := w.heap.size) (o := ⟨⟨s.nx, Lf, Df⟩, S, 0, 0⟩) (OwnK.low (OwnK.keep hO9 fun j hj => hoth j (hlO j hj).1) (by omega)) (OwnK.low (OwnK.keep hD9 fun j hj => hoth j (hlD j hj).1) (by omega)) (OwnK.low (OwnK.keep hS9 fun j hj => hoth j (by have := hlS j hj; omega)) (by omega)) hAf.size
      exact bodyPost_ret (v := .agg #[.int .i64 s.nx, .slice pa Lf.length ca, .slice pd Df.length cd, .slice ps S.length cs, .int .i64 0, .int .i64 0]) (results_cell_row Try.results15 _ _ (w.heap.size + 1) _ _ _ _ rfl hYf Try.underlying33 rfl (by kernel_rfl)) rfl ⟨_, _, _, rfl, hmk, hAf⟩
end Go.Proofs.Ytghchcipobcpjaa
