/- A MASTER's TICK, the model's. Written by mkspt.py. -/
import Derived.Test.YtghchcipobcpjaaQtTickP
import Derived.Test.YtghchcipobcpjaaQtSpL
namespace Go.Proofs.Ytghchcipobcpjaa
open Go.RowKit
set_option linter.unusedVariables false
set_option linter.unusedSimpArgs false

/-- the tick under way: the box of what came in, the answer's box, the box of what is made, its lists -/
structure TkI (w : World) (v1 v2 : Value) (X : Nat) (nx : Int) (vo : Value) (W : World) (vd vs vq : Value) (D : List Dn) (S : List ByteArray) (Q : List Wt) : Prop where
  bel : Below w.heap.size w W
  par : W.heap[w.heap.size]? = some (.cells #[.int .i64 nx, v1, v2] 30 (0, 0))
  res : W.heap[w.heap.size + 1]? = some (.cells #[.int .i64 0, .slice none 0 0, .slice none 0 0, .slice none 0 0, .int .i64 0, .int .i64 0] 33 (0, 0))
  box : W.heap[X]? = some (.cells #[.int .i64 nx, vo, vd, vs, .int .i64 0, .int .i64 0] 33 (0, 0))
  hX : w.heap.size + 2 ≤ X
  dn : OwnKD W (w.heap.size + 2) vd D
  se : OwnKS W (w.heap.size + 2) vs S
  op : OwnKW W (w.heap.size + 2) vq Q
theorem TkI.below {w : World} {v1 v2 : Value} {X : Nat} {nx : Int} {vo : Value} {W W' : World} {vd vs vq : Value} {D : List Dn} {S : List ByteArray} {Q : List Wt} (h : TkI w v1 v2 X nx vo W vd vs vq D S Q) (hb : Below W.heap.size W W') : TkI w v1 v2 X nx vo W' vd vs vq D S Q :=
  ⟨keepB h.bel (Nat.le_refl _) hb, blk h.par hb, blk h.res hb, blk h.box hb, h.hX, OwnK.below h.dn hb, OwnK.below h.se hb, OwnK.below h.op hb⟩
theorem TkI.size {w : World} {v1 v2 : Value} {X : Nat} {nx : Int} {vo : Value} {W : World} {vd vs vq : Value} {D : List Dn} {S : List ByteArray} {Q : List Wt} (h : TkI w v1 v2 X nx vo W vd vs vq D S Q) : w.heap.size + 2 ≤ X ∧ X < W.heap.size :=
  ⟨h.hX, (Array.getElem?_eq_some_iff.1 h.box).1⟩
theorem TkI.dput {w : World} {v1 v2 : Value} {X : Nat} {nx : Int} {vo : Value} {W W' : World} {vd vs vq v' : Value} {D D' : List Dn} {S : List ByteArray} {Q : List Wt} (h : TkI w v1 v2 X nx vo W vd vs vq D S Q) (g : W.grownBy W' vd.ownBlock) (ho : OwnKD W' (w.heap.size + 2) v' D') :
    TkI w v1 v2 X nx vo (W'.setCell ⟨X, 2, none⟩ v') v' vs vq D' S Q ∧ W'.heap[X]? = some (.cells #[.int .i64 nx, vo, vd, vs, .int .i64 0, .int .i64 0] 33 (0, 0)) := by
  have hz := h.size
  have hlt := OwnK.lt h.dn
  have hbx : W'.heap[X]? = _ := (g.block X hz.2 (fun e => box_apart h.dn h.box (by decide) X e.symm rfl)).trans h.box
  have hse : OwnKS W' (w.heap.size + 2) vs S := OwnK.grown h.se g (own_apart h.dn h.se (by decide))
  have hop : OwnKW W' (w.heap.size + 2) vq Q := OwnK.grown h.op g (own_apart h.dn h.op (by decide))
  refine ⟨⟨(h.bel.grown g (by have := h.bel.size; omega) (fun j hj => by have := hlt j hj; omega)).setCell (by simp only; omega) _, ?_, ?_, blk_set hbx 2 v', h.hX, OwnK.far ho (a := ⟨X, 2, none⟩) (box_apart ho hbx (by decide)) v', OwnK.far hse (a := ⟨X, 2, none⟩) (box_apart hse hbx (by decide)) v', OwnK.far hop (a := ⟨X, 2, none⟩) (box_apart hop hbx (by decide)) v'⟩, hbx⟩
  · exact blk_far (a := ⟨X, 2, none⟩) ((g.block _ (by omega) (fun e => by have := hlt _ e.symm; omega)).trans h.par) (by simp only; omega) v'
  · exact blk_far (a := ⟨X, 2, none⟩) ((g.block _ (by omega) (fun e => by have := hlt _ e.symm; omega)).trans h.res) (by simp only; omega) v'
theorem TkI.sput {w : World} {v1 v2 : Value} {X : Nat} {nx : Int} {vo : Value} {W W' : World} {vd vs vq v' : Value} {D : List Dn} {S S' : List ByteArray} {Q : List Wt} (h : TkI w v1 v2 X nx vo W vd vs vq D S Q) (g : W.grownBy W' vs.ownBlock) (ho : OwnKS W' (w.heap.size + 2) v' S') :
    TkI w v1 v2 X nx vo (W'.setCell ⟨X, 3, none⟩ v') vd v' vq D S' Q ∧ W'.heap[X]? = some (.cells #[.int .i64 nx, vo, vd, vs, .int .i64 0, .int .i64 0] 33 (0, 0)) := by
  have hz := h.size
  have hlt := OwnK.lt h.se
  have hbx : W'.heap[X]? = _ := (g.block X hz.2 (fun e => box_apart h.se h.box (by decide) X e.symm rfl)).trans h.box
  have hdn : OwnKD W' (w.heap.size + 2) vd D := OwnK.grown h.dn g (own_apart h.se h.dn (by decide))
  have hop : OwnKW W' (w.heap.size + 2) vq Q := OwnK.grown h.op g (own_apart h.se h.op (by decide))
  refine ⟨⟨(h.bel.grown g (by have := h.bel.size; omega) (fun j hj => by have := hlt j hj; omega)).setCell (by simp only; omega) _, ?_, ?_, blk_set hbx 3 v', h.hX, OwnK.far hdn (a := ⟨X, 3, none⟩) (box_apart hdn hbx (by decide)) v', OwnK.far ho (a := ⟨X, 3, none⟩) (box_apart ho hbx (by decide)) v', OwnK.far hop (a := ⟨X, 3, none⟩) (box_apart hop hbx (by decide)) v'⟩, hbx⟩
  · exact blk_far (a := ⟨X, 3, none⟩) ((g.block _ (by omega) (fun e => by have := hlt _ e.symm; omega)).trans h.par) (by simp only; omega) v'
  · exact blk_far (a := ⟨X, 3, none⟩) ((g.block _ (by omega) (fun e => by have := hlt _ e.symm; omega)).trans h.res) (by simp only; omega) v'
theorem TkI.oput {w : World} {v1 v2 : Value} {X : Nat} {nx : Int} {vo : Value} {W W' : World} {vd vs vq v' : Value} {D : List Dn} {S : List ByteArray} {Q Q' : List Wt} (h : TkI w v1 v2 X nx vo W vd vs vq D S Q) (g : W.grownBy W' vq.ownBlock) (ho : OwnKW W' (w.heap.size + 2) v' Q') :
    TkI w v1 v2 X nx vo W' vd vs v' D S Q' := by
  have hz := h.size
  have hlt := OwnK.lt h.op
  exact ⟨h.bel.grown g (by have := h.bel.size; omega) (fun j hj => by have := hlt j hj; omega), (g.block _ (by omega) (fun e => by have := hlt _ e.symm; omega)).trans h.par, (g.block _ (by omega) (fun e => by have := hlt _ e.symm; omega)).trans h.res, (g.block X hz.2 (fun e => box_apart h.op h.box (by decide) X e.symm rfl)).trans h.box, h.hX, OwnK.grown h.dn g (own_apart h.op h.dn (by decide)), OwnK.grown h.se g (own_apart h.op h.se (by decide)), ho⟩
theorem TkI.farN {w : World} {v1 v2 : Value} {X : Nat} {nx : Int} {vo : Value} {W : World} {vd vs vq : Value} {D : List Dn} {S : List ByteArray} {Q : List Wt} (h : TkI w v1 v2 X nx vo W vd vs vq D S Q) {N : Nat} (hNz : w.heap.size + 2 ≤ N) (hn : ∀ k, vq.ownBlock = some k → k ≠ N) {c : Array Value} (hN : W.heap[N]? = some (.cells c 50 (0, 0))) (o : Nat) (x : Value) :
    TkI w v1 v2 X nx vo (W.setCell ⟨N, o, none⟩ x) vd vs vq D S Q := by
  have hz := h.size
  have hNX : X ≠ N := by
    intro e
    have := h.box
    rw [e, hN] at this
    cases this
  exact ⟨h.bel.setCell (by simp only; omega) _, blk_far (a := ⟨N, o, none⟩) h.par (by simp only; omega) x, blk_far (a := ⟨N, o, none⟩) h.res (by simp only; omega) x, blk_far (a := ⟨N, o, none⟩) h.box hNX x, h.hX, OwnK.far h.dn (a := ⟨N, o, none⟩) (box_apart h.dn hN (by decide)) x, OwnK.far h.se (a := ⟨N, o, none⟩) (box_apart h.se hN (by decide)) x, OwnK.far h.op (a := ⟨N, o, none⟩) hn x⟩
def keptW (l : List Wt) : List Wt := (l.filter fun x => !overB x).map growW
theorem keptW_take (l : List Wt) (k : Nat) (h : k < l.length) : keptW (l.take (k + 1)) = keptW (l.take k) ++ (if overB l[k] then [] else [growW l[k]]) := by
  unfold keptW
  rw [List.take_succ_eq_append_getElem h, List.filter_append, List.map_append]
  by_cases hb : overB l[k] = true
  · rw [if_pos hb]; simp [hb]
  · rw [if_neg hb]; simp [hb]
theorem keptW_len (l : List Wt) : (keptW l).length ≤ l.length := by
  unfold keptW
  rw [List.length_map]
  exact List.length_filter_le _ _
set_option maxRecDepth 100000 in
set_option maxHeartbeats 6400000 in
theorem specTick0 (s : Mst) (v1 v2 : Value) (w : World) (ht : s.tot ≤ 1048576) (h : RowMst w v1 v2 s) (hr : s.right = false) :
    Calls Try.prog 14 #[.agg #[.int .i64 s.nx, v1, v2]] w fun e w' => e = .returned (.agg #[.int .i64 0, .slice none 0 0, .slice none 0 0, .slice none 0 0, .int .i64 0, .int .i64 1]) ∧ Below w.heap.size w w' := by
  have HI : Hid (∀ W, Calls Try.prog 18 #[.int .i64 1] W fun e w' => e = .returned (.agg #[.int .i64 0, .slice none 0 0, .slice none 0 0, .slice none 0 0, .int .i64 0, .int .i64 1]) ∧ Below W.heap.size W w') := fun W => l09Ill_any 1 W
  have HR : Hid (∀ W, Below w.heap.size w W → Calls Try.prog 19 #[.agg #[.int .i64 s.nx, v1, v2]] W fun e w' => e = .returned (.bool s.right) ∧ Below W.heap.size W w') := fun W hW => specMasterRight_any s v1 v2 W ht (h.below hW)
  rw [hr] at HR
  obtain ⟨⟨p1, c1, rfl, _⟩, ⟨p2, c2, rfl, _⟩⟩ := h
  have hX0 : Hid _ := blk (heap_alloc_new w (.cells #[.int .i64 s.nx, .slice p1 s.op.length c1, .slice p2 s.dn.length c2] 30)) (all_alloc _ (.cells #[.int .i64 0, .slice none 0 0, .slice none 0 0, .slice none 0 0, .int .i64 0, .int .i64 0] 33))
  have hY0 : Hid _ := heap_alloc_new (w.alloc (.cells #[.int .i64 s.nx, .slice p1 s.op.length c1, .slice p2 s.dn.length c2] 30)) (.cells #[.int .i64 0, .slice none 0 0, .slice none 0 0, .slice none 0 0, .int .i64 0, .int .i64 0] 33)
  have hA0 : Below w.heap.size w ((w.alloc (.cells #[.int .i64 s.nx, .slice p1 s.op.length c1, .slice p2 s.dn.length c2] 30)).alloc (.cells #[.int .i64 0, .slice none 0 0, .slice none 0 0, .slice none 0 0, .int .i64 0, .int .i64 0] 33)) := keepB (all_alloc w _) (Nat.le_refl _) (all_alloc _ _)
  have e2 : ((w.alloc (.cells #[.int .i64 s.nx, .slice p1 s.op.length c1, .slice p2 s.dn.length c2] 30)).alloc (.cells #[.int .i64 0, .slice none 0 0, .slice none 0 0, .slice none 0 0, .int .i64 0, .int .i64 0] 33)).heap.size = w.heap.size + 1 + 1 := by simp
  rw [show (w.alloc (.cells #[.int .i64 s.nx, .slice p1 s.op.length c1, .slice p2 s.dn.length c2] 30)).heap.size = w.heap.size + 1 by simp] at hY0
  clear ht hr
  go_enter Try.func14, Try.ntmps14
  go_upto_region 1 with fail
  have hX := hX0
  have hY := hY0
  have hA := hA0
  generalize (w.alloc (.cells #[.int .i64 s.nx, .slice p1 s.op.length c1, .slice p2 s.dn.length c2] 30)).alloc (.cells #[.int .i64 0, .slice none 0 0, .slice none 0 0, .slice none 0 0, .int .i64 0, .int .i64 0] 33) = A at hX hY hA e2 ⊢
  clear hX0 hY0 hA0
  have g2 : w.heap.size + 1 + 1 ≤ A.heap.size := by omega
  clear e2
  have x0 := cellW hX.out 0 _ rfl A (Below.refl _ _)
  have x1 := cellW hX.out 1 _ rfl A (Below.refl _ _)
  have x2 := cellW hX.out 2 _ rfl A (Below.refl _ _)
  go_upto_region 2 with (first | (go_at_call 19; refine (HR.out _ hA).mono ?_; rintro e w1 ⟨rfl, hb1⟩))
  replace hY : Hid _ := blk hY.out hb1
  replace hA : Below w.heap.size w w1 := keepB hA (Nat.le_refl _) hb1
  have hg1 := hb1.size
  go_wp2_with (first | (go_at_call 18; refine (HI.out _).mono ?_; rintro e w9 ⟨rfl, hb9⟩; have hY9 : Hid _ := blk hY.out hb9) | (refine wpList_store_row rfl 33 (.tmp 2) (.tmp 10) rfl (w.heap.size + 1) #[.int .i64 0, .slice none 0 0, .slice none 0 0, .slice none 0 0, .int .i64 0, .int .i64 1] rfl rfl _ _ hY9.out (by kernel_rfl) rfl (by simp [Value.oneCell']) ?_))
  go_wp2
  have hYf := setRow_heap _ (w.heap.size + 1) _ #[.int .i64 0, .slice none 0 0, .slice none 0 0, .slice none 0 0, .int .i64 0, .int .i64 1] _ _ hY9.out
  have hAf : Below w.heap.size w (w9.setRow (w.heap.size + 1) #[.int .i64 0, .slice none 0 0, .slice none 0 0, .slice none 0 0, .int .i64 0, .int .i64 1]) := rcBelow_setRow (keepB hA (Nat.le_refl _) hb9) (by omega) _
  exact bodyPost_ret (v := .agg #[.int .i64 0, .slice none 0 0, .slice none 0 0, .slice none 0 0, .int .i64 0, .int .i64 1]) (results_cell_row Try.results14 _ _ (w.heap.size + 1) _ _ _ _ rfl hYf Try.underlying33 rfl (by kernel_rfl)) rfl ⟨rfl, hAf⟩
set_option maxRecDepth 100000 in
set_option maxHeartbeats 12800000 in
theorem specTick1 (s : Mst) (v1 v2 : Value) (w : World) (ht : s.tot ≤ 1048576) (h : RowMst w v1 v2 s) (hr : s.right = true) :
    Calls Try.prog 14 #[.agg #[.int .i64 s.nx, v1, v2]] w fun e w' => ∃ u1 u2 u3, e = .returned (.agg #[.int .i64 s.nx, u1, u2, u3, .int .i64 0, .int .i64 0]) ∧ OwnMo w' w.heap.size w'.heap.size u1 u2 u3 ⟨⟨s.nx, keptW s.op, s.dn ++ (overW s.op).map doneE⟩, sentW s.op, 0, 0⟩ ∧ Below w.heap.size w w' := by
  obtain ⟨iT, TT⟩ := tyTx
  obtain ⟨iD, TD⟩ := tyD
  obtain ⟨iW, TW⟩ := tyW
  have HTT : Hid _ := TT
  have HTD : Hid _ := TD
  have HTW : Hid _ := TW
  clear TT TD TW
  obtain ⟨hl1, hl2, hn1, hn2⟩ := right_len hr
  have hrise : riseW 0 s.nx s.op = true := by
    have hr' := hr
    unfold Mst.right openW at hr'
    simp only [Bool.and_eq_true] at hr'
    exact hr'.2.1.1
  obtain ⟨hf1, hf2⟩ := rise_facts s.op 0 hrise
  have HF : Hid (∀ x ∈ s.op, 0 ≤ x.g ∧ x.g ≤ 2 ∧ 1 ≤ x.r ∧ x.r ≤ 3 ∧ ∀ W : World, Calls Try.prog 22 #[.int .i64 x.i, .string x.t] W fun e w' => e = .returned (.string (letB x.i x.t)) ∧ Below W.heap.size W w') := fun x hx => by
    obtain ⟨h1, h2, h3, h4, h5, h6, h7⟩ := hf1 x hx
    have hid : idB x.i = true := (idB_iff _).2 ⟨by omega, by omega⟩
    have hLF : letF x.i x.t = letB x.i x.t := by unfold letB; rw [if_pos ⟨hid, h3⟩]
    exact ⟨h6, h7, h4, h5, fun W => hLF ▸ l09Letter_any x.i x.t W ((bodyB_iff _).1 h3).2 (id_wf hid)⟩
  have HC : Hid (∀ W, Below w.heap.size w W → Calls Try.prog 21 #[.agg #[.int .i64 s.nx, v1, v2]] W fun e w' => ∃ va vd, e = .returned (.agg #[.int .i64 s.nx, va, vd]) ∧ OwnKW w' W.heap.size va s.op ∧ OwnKD w' W.heap.size vd s.dn ∧ Below W.heap.size W w') := fun W hW => l09Copy_any s v1 v2 W (by omega) (by omega) (h.below hW)
  have HR : Hid (∀ W, Below w.heap.size w W → Calls Try.prog 19 #[.agg #[.int .i64 s.nx, v1, v2]] W fun e w' => e = .returned (.bool s.right) ∧ Below W.heap.size W w') := fun W hW => specMasterRight_any s v1 v2 W ht (h.below hW)
  rw [hr] at HR
  have HROW : Hid (∀ W, Below w.heap.size w W → RowW W v1 s.op) := fun W hW => RowC.below h.o hW
  obtain ⟨⟨p1, c1, rfl, _⟩, ⟨p2, c2, rfl, _⟩⟩ := h
  have hX0 : Hid _ := blk (heap_alloc_new w (.cells #[.int .i64 s.nx, .slice p1 s.op.length c1, .slice p2 s.dn.length c2] 30)) (all_alloc _ (.cells #[.int .i64 0, .slice none 0 0, .slice none 0 0, .slice none 0 0, .int .i64 0, .int .i64 0] 33))
  have hY0 : Hid _ := heap_alloc_new (w.alloc (.cells #[.int .i64 s.nx, .slice p1 s.op.length c1, .slice p2 s.dn.length c2] 30)) (.cells #[.int .i64 0, .slice none 0 0, .slice none 0 0, .slice none 0 0, .int .i64 0, .int .i64 0] 33)
  have hA0 : Below w.heap.size w ((w.alloc (.cells #[.int .i64 s.nx, .slice p1 s.op.length c1, .slice p2 s.dn.length c2] 30)).alloc (.cells #[.int .i64 0, .slice none 0 0, .slice none 0 0, .slice none 0 0, .int .i64 0, .int .i64 0] 33)) := keepB (all_alloc w _) (Nat.le_refl _) (all_alloc _ _)
  have e2 : ((w.alloc (.cells #[.int .i64 s.nx, .slice p1 s.op.length c1, .slice p2 s.dn.length c2] 30)).alloc (.cells #[.int .i64 0, .slice none 0 0, .slice none 0 0, .slice none 0 0, .int .i64 0, .int .i64 0] 33)).heap.size = w.heap.size + 1 + 1 := by simp
  rw [show (w.alloc (.cells #[.int .i64 s.nx, .slice p1 s.op.length c1, .slice p2 s.dn.length c2] 30)).heap.size = w.heap.size + 1 by simp] at hY0
  clear ht hr hf1 hf2 hrise
  obtain ⟨KF, HKF⟩ : ∃ KF, Hid (keptW s.op = KF) := ⟨_, (show _ = _ from rfl)⟩
  obtain ⟨DF, HDF⟩ : ∃ DF, Hid (s.dn ++ (overW s.op).map doneE = DF) := ⟨_, (show _ = _ from rfl)⟩
  obtain ⟨SF, HSF⟩ : ∃ SF, Hid (sentW s.op = SF) := ⟨_, (show _ = _ from rfl)⟩
  rw [HKF.out, HDF.out, HSF.out]
  go_enter Try.func14, Try.ntmps14
  go_upto_region 1 with fail
  have hX := hX0
  have hY := hY0
  have hA := hA0
  generalize (w.alloc (.cells #[.int .i64 s.nx, .slice p1 s.op.length c1, .slice p2 s.dn.length c2] 30)).alloc (.cells #[.int .i64 0, .slice none 0 0, .slice none 0 0, .slice none 0 0, .int .i64 0, .int .i64 0] 33) = A at hX hY hA e2 ⊢
  clear hX0 hY0 hA0
  have g2 : w.heap.size + 1 + 1 ≤ A.heap.size := by omega
  clear e2
  have x0 := cellW hX.out 0 _ rfl A (Below.refl _ _)
  have x1 := cellW hX.out 1 _ rfl A (Below.refl _ _)
  have x2 := cellW hX.out 2 _ rfl A (Below.refl _ _)
  go_upto_region 3 with (first | (go_at_call 19; refine (HR.out _ hA).mono ?_; rintro e w1 ⟨rfl, hb1⟩))
  replace hX : Hid _ := blk hX.out hb1
  replace hY : Hid _ := blk hY.out hb1
  replace hA : Below w.heap.size w w1 := keepB hA (Nat.le_refl _) hb1
  have hg1 : w.heap.size + 2 ≤ w1.heap.size := by have := hb1.size; omega
  clear x0 x1 x2 hb1
  have x0 := cellW hX.out 0 _ rfl w1 (Below.refl _ _)
  have x1 := cellW hX.out 1 _ rfl w1 (Below.refl _ _)
  have x2 := cellW hX.out 2 _ rfl w1 (Below.refl _ _)
  have hbuild : ∀ (a b c : Value) (W : World), (Instr.build 33 #[(0, .agg #[a, b, c])]).run Try.prog W = .ok (.agg #[a, b, c, .slice none 0 0, .int .i64 0, .int .i64 0]) W := by
    intro a b c W
    kernel_rfl
  go_upto_region 4 with (first
    | (go_at_call 21; refine (HC.out _ hA).mono ?_; rintro e w3 ⟨va, vd, rfl, hO3, hD3, hb3⟩; obtain ⟨pa, ca, rfl⟩ := OwnK.shape hO3; obtain ⟨pd, cd, rfl⟩ := OwnK.shape hD3)
    | (refine wpList_store_row rfl 33 (.tmp 3) (.tmp 13) rfl w3.heap.size #[.int .i64 s.nx, .slice pa s.op.length ca, .slice pd s.dn.length cd, .slice none 0 0, .int .i64 0, .int .i64 0] rfl rfl _ _ (heap_alloc_new w3 (.cells #[.int .i64 0, .slice none 0 0, .slice none 0 0, .slice none 0 0, .int .i64 0, .int .i64 0] 33)) (by kernel_rfl) rfl (by simp [Value.oneCell']) ?_))
  have hbS : Below w3.heap.size w3 ((w3.alloc (.cells #[.int .i64 0, .slice none 0 0, .slice none 0 0, .slice none 0 0, .int .i64 0, .int .i64 0] 33)).setRow w3.heap.size #[.int .i64 s.nx, .slice pa s.op.length ca, .slice pd s.dn.length cd, .slice none 0 0, .int .i64 0, .int .i64 0]) := rcBelow_setRow (all_alloc w3 (.cells #[.int .i64 0, .slice none 0 0, .slice none 0 0, .slice none 0 0, .int .i64 0, .int .i64 0] 33)) (Nat.le_refl _) _
  have hBX : Hid _ := setRow_heap _ w3.heap.size _ #[.int .i64 s.nx, .slice pa s.op.length ca, .slice pd s.dn.length cd, .slice none 0 0, .int .i64 0, .int .i64 0] _ _ (heap_alloc_new w3 (.cells #[.int .i64 0, .slice none 0 0, .slice none 0 0, .slice none 0 0, .int .i64 0, .int .i64 0] 33))
  have hz3 := hb3.size
  have hI0 : Hid (TkI w (.slice p1 s.op.length c1) (.slice p2 s.dn.length c2) w3.heap.size s.nx (.slice pa s.op.length ca) ((w3.alloc (.cells #[.int .i64 0, .slice none 0 0, .slice none 0 0, .slice none 0 0, .int .i64 0, .int .i64 0] 33)).setRow w3.heap.size #[.int .i64 s.nx, .slice pa s.op.length ca, .slice pd s.dn.length cd, .slice none 0 0, .int .i64 0, .int .i64 0]) (.slice pd s.dn.length cd) (.slice none 0 0) (.slice none 0 0) s.dn [] []) :=
    (⟨keepB (keepB hA (Nat.le_refl _) hb3) (Nat.le_refl _) hbS, blk (blk hX.out hb3) hbS, blk (blk hY.out hb3) hbS, hBX.out, by omega, OwnK.low (OwnK.below hD3 hbS) hg1, OwnK.nil _ _ _ _ _, OwnK.nil _ _ _ _ _⟩ : TkI w (.slice p1 s.op.length c1) (.slice p2 s.dn.length c2) w3.heap.size s.nx (.slice pa s.op.length ca) ((w3.alloc (.cells #[.int .i64 0, .slice none 0 0, .slice none 0 0, .slice none 0 0, .int .i64 0, .int .i64 0] 33)).setRow w3.heap.size #[.int .i64 s.nx, .slice pa s.op.length ca, .slice pd s.dn.length cd, .slice none 0 0, .int .i64 0, .int .i64 0]) (.slice pd s.dn.length cd) (.slice none 0 0) (.slice none 0 0) s.dn [] [])
  clear hO3 hD3 hb3 hbS hX hY hA x0 x1 x2 hBX HC HR hz3
  generalize (w3.alloc (.cells #[.int .i64 0, .slice none 0 0, .slice none 0 0, .slice none 0 0, .int .i64 0, .int .i64 0] 33)).setRow w3.heap.size #[.int .i64 s.nx, .slice pa s.op.length ca, .slice pd s.dn.length cd, .slice none 0 0, .int .i64 0, .int .i64 0] = V at hI0 ⊢
  obtain ⟨X, hXe⟩ : ∃ X, w3.heap.size = X := ⟨_, rfl⟩
  rw [hXe] at hI0 ⊢
  clear hXe
  have bE := all_alloc V (.cells #[] 50)
  have hI1 : Hid (TkI w (.slice p1 s.op.length c1) (.slice p2 s.dn.length c2) X s.nx (.slice pa s.op.length ca) (V.alloc (.cells #[] 50)) (.slice pd s.dn.length cd) (.slice none 0 0) (.slice (some ⟨V.heap.size, 0, none⟩) 0 0) s.dn [] []) := by
    obtain ⟨a1, a2, a3, a4, a5, a6, a7, a8⟩ := hI0.out.below bE
    have hz := hI0.out.size
    exact ⟨a1, a2, a3, a4, a5, a6, a7, ⟨by simp, .inr ⟨V.heap.size, 0, #[], rfl, by omega, heap_alloc_new V _, Nat.le_refl _, by decide, by simp, by simp⟩⟩⟩
  go_upto_region 5 with fail
  generalize V.alloc (.cells #[] 50) = V1 at hI1 ⊢
  generalize V.heap.size = N0 at hI1 ⊢
  clear hI0 bE
  go_wp2
  go_loopw [4, 5] (fun q i wr => ∃ (k : Nat) (vd vs vq : Value), vq = q ∧ k ≤ s.op.length ∧ i = .int .i64 k ∧ Hid (TkI w (.slice p1 s.op.length c1) (.slice p2 s.dn.length c2) X s.nx (.slice pa s.op.length ca) wr vd vs vq (s.dn ++ (overW (s.op.take k)).map doneE) (sentW (s.op.take k)) (keptW (s.op.take k)))) (fun _ i _ => s.op.length - (intOf i).toNat)
  case atStart => exact ⟨0, _, _, _, rfl, Nat.zero_le _, rfl, (by rw [List.take_zero, show (overW []).map doneE = [] from rfl, List.append_nil]; exact hI1.out)⟩
  case round =>
    obtain ⟨k, vd, vs, vq, rfl, hk, rfl, HT⟩ := hrel
    by_cases hlt : k < s.op.length
    · have hT := HT.out
      have px := cellW hT.par 1 _ rfl wr (Below.refl _ _)
      obtain ⟨g, o, c', e1, q1⟩ := RowC.at (HROW.out wr hT.bel) k hlt
      cases e1
      obtain ⟨hg0, hg2, hr1, hr3, hlet⟩ := HF.out s.op[k] (List.getElem_mem hlt)
      have HLET : Hid (∀ W : World, Calls Try.prog 22 #[.int .i64 s.op[k].i, .string s.op[k].t] W fun e w' => e = .returned (.string (letB s.op[k].i s.op[k].t)) ∧ Below W.heap.size W w') := hlet
      have HKT : Hid _ := keptW_take s.op k hlt
      have HST : Hid _ := sentW_take s.op k hlt
      have HOT : Hid _ := overW_take s.op k hlt
      have hkl : (keptW (s.op.take k)).length ≤ 3 := Nat.le_trans (keptW_len _) (by rw [List.length_take]; omega)
      have hsl : (sentW (s.op.take k)).length ≤ 3 := Nat.le_trans (sentW_len _) (by rw [List.length_take]; omega)
      have hdl : (s.dn ++ (overW (s.op.take k)).map doneE).length ≤ 30 := by
        have := overW_len (s.op.take k)
        rw [List.length_append, List.length_map]
        rw [List.length_take] at this
        omega
      have Q1 : Hid (wr.rangeAt g (o + k * 4) [.int .i64 s.op[k].i, .string s.op[k].t, .int .i64 s.op[k].r, .int .i64 s.op[k].g]) := q1 wr (Below.refl _ _)
      clear q1 hT hlet
      generalize keptW (s.op.take k) = Q at *
      generalize sentW (s.op.take k) = S at *
      have HDE : Hid (∀ z, (s.dn ++ (overW (s.op.take k)).map doneE) ++ z = s.dn ++ ((overW (s.op.take k)).map doneE ++ z)) := fun z => List.append_assoc _ _ _
      generalize hDk : s.dn ++ (overW (s.op.take k)).map doneE = D at *
      have HD0 : Hid (s.dn ++ (overW (s.op.take k)).map doneE = D) := hDk
      clear hDk HDE
      generalize hxk : s.op[k] = x at *
      clear hxk
      have hload : Hid True := trivial
      go_upto_region 9 with (first
        | (have _ := hload; refine wpList_load_mid rfl 50 (.tmp 25) rfl g (o + k * 4) rfl _ _ Q1.out Try.underlying50 rfl (by kernel_rfl) ?_; clear hload)
        | (refine wpList_store_row rfl 50 (.tmp 6) (.tmp 26) rfl wr.heap.size #[.int .i64 x.i, .string x.t, .int .i64 x.r, .int .i64 x.g] rfl rfl _ _ (heap_alloc_new wr _) (by kernel_rfl) rfl (by simp [Value.oneCell']) ?_))
      have h6 : Hid _ := setRow_heap _ wr.heap.size _ #[.int .i64 x.i, .string x.t, .int .i64 x.r, .int .i64 x.g] _ _ (heap_alloc_new wr (.cells #[.int .i64 0, .string ⟨#[]⟩, .int .i64 0, .int .i64 0] 50))
      have hb6 : Below wr.heap.size wr ((wr.alloc (.cells #[.int .i64 0, .string ⟨#[]⟩, .int .i64 0, .int .i64 0] 50)).setRow wr.heap.size #[.int .i64 x.i, .string x.t, .int .i64 x.r, .int .i64 x.g]) := rcRow_fresh _ _ _
      generalize ((wr.alloc (.cells #[.int .i64 0, .string ⟨#[]⟩, .int .i64 0, .int .i64 0] 50)).setRow wr.heap.size #[.int .i64 x.i, .string x.t, .int .i64 x.r, .int .i64 x.g]) = A6 at h6 hb6 ⊢
      obtain ⟨N, hN⟩ : ∃ N, wr.heap.size = N := ⟨_, rfl⟩
      have hNz : w.heap.size + 2 ≤ N := by have := HT.out.size; omega
      have hNn : ∀ k, vq.ownBlock = some k → k ≠ N := fun k hk => by have := OwnK.lt HT.out.op k hk; omega
      rw [hN] at h6 hb6 ⊢
      have hbw : N ≤ wr.heap.size := by omega
      clear px Q1
      have c3 := cellW h6.out 3 _ rfl A6 (Below.refl _ _)
      have f3 := frozenW h6.out 3 A6 (Below.refl _ _)
      have h10 : Hid ((A6.setCell ⟨N, 3, none⟩ (.int .i64 (x.g + 1))).heap[N]? = some (.cells #[.int .i64 x.i, .string x.t, .int .i64 x.r, .int .i64 (x.g + 1)] 50 (0, 0))) := blk_set h6.out 3 _
      have hb10 : Below N wr (A6.setCell ⟨N, 3, none⟩ (.int .i64 (x.g + 1))) := hb6.setCell (by simp only; omega) _
      go_upto_region 10 with fail
      generalize (A6.setCell ⟨N, 3, none⟩ (.int .i64 (x.g + 1))) = A at h10 hb10 ⊢
      have HA : Hid (TkI w _ _ X s.nx _ A vd vs vq D S Q) := HT.out.below (by rw [hN]; exact hb10)
      clear c3 f3 h6 hb6 HT hb10 hbw hN
      have a0 := cellW h10.out 0 _ rfl A (Below.refl _ _)
      have a2 := cellW h10.out 2 _ rfl A (Below.refl _ _)
      have a3 := cellW h10.out 3 _ rfl A (Below.refl _ _)
      have f2 := frozenW h10.out 2 A (Below.refl _ _)
      have f3 := frozenW h10.out 3 A (Below.refl _ _)
      by_cases h1 : x.g + 1 < 3
      · have h1' : ¬ (3 : Int) ≤ x.g + 1 := by omega
        have hgr : growW x = ⟨x.i, x.t, x.r, x.g + 1⟩ := by unfold growW; rw [if_pos h1]
        have hsb : sendsB x = false := by unfold sendsB; rw [decide_eq_true h1]; rfl
        have hob : overB x = false := by unfold overB; rw [decide_eq_true h1]; rfl
        have HNy : Hid (A.heap[N]? = some (.cells #[.int .i64 (growW x).i, .string (growW x).t, .int .i64 (growW x).r, .int .i64 (growW x).g] 50 (0, 0))) := by rw [hgr]; exact h10.out
        have HQ : Hid (keptW (s.op.take (k + 1)) = Q ++ [growW x] ∧ sentW (s.op.take (k + 1)) = S ∧ s.dn ++ (overW (s.op.take (k + 1))).map doneE = D) := by
          refine ⟨by rw [HKT.out, hob]; rfl, by rw [HST.out, hsb]; simp, ?_⟩
          rw [HOT.out, hob, ← HD0.out]
          simp
        clear hgr hsb hob h10 HKT HST HOT HD0 HLET
        generalize growW x = y at HNy HQ
        go_upto_region 16 with fail
        clear a0 a2 a3 f2 f3 h1 h1'
        have bG := all_alloc A (.cells #[.int .i64 y.i, .string y.t, .int .i64 y.r, .int .i64 y.g] 50)
        have hzG := bG.size
        have hzA := HA.out.size
        go_wp2_with (first
          | (refine wpList_load_rowG (by first | rfl | (simp only [Region.wanted, yielded]; rfl)) 50 (.tmp 6) rfl N rfl _ _ _ _ HNy.out Try.underlying50 rfl (by kernel_rfl) ?_)
          | (refine wpList_app_rec HTW.out wtC_len wtC_one rfl (.tmp 67) (.tmp 69) rfl (w.heap.size + 2) vq (.slice (some ⟨A.heap.size, 0, none⟩) 1 1) Q [y] rfl rfl (OwnK.below HA.out.op bG) (row_oneW (heap_alloc_new A (.cells #[.int .i64 y.i, .string y.t, .int .i64 y.r, .int .i64 y.g] 50))) (by omega) (by simp) (by omega) ?_
             intro v8 w8 hO8 hg8 hv8
             have HI8 : Hid (TkI w _ _ X s.nx _ w8 vd vs v8 D S (Q ++ [y])) := (HA.out.below bG).oput hg8 hO8
             clear hO8 hg8 hv8))
        go_roundw
        case rel => exact ⟨k + 1, vd, vs, v8, rfl, by omega, by go_num, by rw [HQ.out.1, HQ.out.2.1, HQ.out.2.2]; exact HI8.out⟩
        case measure => simp [intOf]; omega
      have h1' : (3 : Int) ≤ x.g + 1 := by omega
      by_cases h2 : x.r < 3
      · have h2' : ¬ (3 : Int) ≤ x.r := by omega
        have hgr : growW x = ⟨x.i, x.t, x.r + 1, 0⟩ := by unfold growW; rw [if_neg h1, if_pos h2]
        have hsb : sendsB x = true := by unfold sendsB; rw [decide_eq_false h1, decide_eq_true h2]; rfl
        have hob : overB x = false := by unfold overB; rw [decide_eq_false h1, decide_eq_true h2]; rfl
        have HQ : Hid (keptW (s.op.take (k + 1)) = Q ++ [growW x] ∧ sentW (s.op.take (k + 1)) = S ++ [letB x.i x.t] ∧ s.dn ++ (overW (s.op.take (k + 1))).map doneE = D) := by
          refine ⟨by rw [HKT.out, hob]; rfl, by rw [HST.out, hsb]; rfl, ?_⟩
          rw [HOT.out, hob, ← HD0.out]
          simp
        clear hsb hob HKT HST HOT HD0
        have h13 : Hid ((A.setCell ⟨N, 3, none⟩ (.int .i64 0)).heap[N]? = some (.cells #[.int .i64 x.i, .string x.t, .int .i64 x.r, .int .i64 0] 50 (0, 0))) := blk_set h10.out 3 _
        have h14 : Hid (((A.setCell ⟨N, 3, none⟩ (.int .i64 0)).setCell ⟨N, 2, none⟩ (.int .i64 (x.r + 1))).heap[N]? = some (.cells #[.int .i64 x.i, .string x.t, .int .i64 (x.r + 1), .int .i64 0] 50 (0, 0))) := blk_set h13.out 2 _
        have HA14 : Hid (TkI w _ _ X s.nx _ ((A.setCell ⟨N, 3, none⟩ (.int .i64 0)).setCell ⟨N, 2, none⟩ (.int .i64 (x.r + 1))) vd vs vq D S Q) := (HA.out.farN hNz hNn h10.out 3 _).farN hNz hNn h13.out 2 _
        go_upto_region 14 with fail
        clear a0 a2 a3 f2 f3 h10 HA
        have b2 := cellW h13.out 2 _ rfl _ (Below.refl _ _)
        have g2 := frozenW h13.out 2 _ (Below.refl _ _)
        generalize (A.setCell ⟨N, 3, none⟩ (.int .i64 0)) = A3 at *
        go_upto_region 15 with fail
        clear b2 g2 h13
        generalize (A3.setCell ⟨N, 2, none⟩ (.int .i64 (x.r + 1))) = A4 at *
        have hd := Below.drew (Below.refl A4.heap.size A4)
        refine wp_region_held_drew (S := (fun w' => w'.heap[N]? = some (.cells #[.int .i64 x.i, .string x.t, .int .i64 (x.r + 1), .int .i64 0] 50 (0, 0)))) (by kernel_rfl) ?_ (fun hHeld => ?_)
        · (try dsimp only); exact blk h14.out hd
        replace h14 : Hid _ := blk h14.out hd
        replace HA14 : Hid (TkI w _ _ X s.nx _ A4.drew vd vs vq D S Q) := HA14.out.below hd
        clear hd
        generalize A4.drew = D4 at h14 HA14 hHeld ⊢
        generalize letB x.i x.t = LB at HLET HQ
        first
          | (refine skipH (i := 0) rfl (by kernel_rfl) (by kernel_rfl) (by kernel_rfl) (fun _ _ _ h => h) (by rfl) (by assumption) ?_; try simp only [Act.put, List.setIfInBounds_toArray, List.set_cons_zero, List.set_cons_succ, List.getElem_toArray, List.getElem_cons_succ, List.getElem_cons_zero])
          | (refine yieldH (i := 0) (v := ?_) rfl (by kernel_rfl) (by kernel_rfl) (by kernel_rfl) (fun _ _ _ h => h) (by rfl) ?_ (by assumption) ?_; rotate_left; (intro w hSw; (try dsimp only at hSw); go_simp; (try with_reducible rfl)); try simp only [Act.put, List.setIfInBounds_toArray, List.set_cons_zero, List.set_cons_succ, List.getElem_toArray, List.getElem_cons_succ, List.getElem_cons_zero])
          | fail
        first
          | (refine skipH (i := 2) rfl (by kernel_rfl) (by kernel_rfl) (by kernel_rfl) (fun _ _ _ h => h) (by rfl) (by assumption) ?_; try simp only [Act.put, List.setIfInBounds_toArray, List.set_cons_zero, List.set_cons_succ, List.getElem_toArray, List.getElem_cons_succ, List.getElem_cons_zero])
          | (refine yieldH (i := 2) (v := ?_) rfl (by kernel_rfl) (by kernel_rfl) (by kernel_rfl) (fun _ _ _ h => h) (by rfl) ?_ (by assumption) ?_; rotate_left; (intro w hSw; (try dsimp only at hSw); go_simp; (try with_reducible rfl)); try simp only [Act.put, List.setIfInBounds_toArray, List.set_cons_zero, List.set_cons_succ, List.getElem_toArray, List.getElem_cons_succ, List.getElem_cons_zero])
          | fail
        refine yieldH (i := 3) (v := .int .i64 x.i) rfl (by kernel_rfl) (by kernel_rfl) (by kernel_rfl) (fun _ _ _ h => h) (by rfl) ?_ (by assumption) ?_
        · intro w hSw; (try dsimp only at hSw); have y := cellW hSw 0 _ rfl w (Below.refl _ _); go_simp
        try simp only [Act.put, List.setIfInBounds_toArray, List.set_cons_zero, List.set_cons_succ, List.getElem_toArray, List.getElem_cons_succ, List.getElem_cons_zero]
        first
          | (refine skipH (i := 4) rfl (by kernel_rfl) (by kernel_rfl) (by kernel_rfl) (fun _ _ _ h => h) (by rfl) (by assumption) ?_; try simp only [Act.put, List.setIfInBounds_toArray, List.set_cons_zero, List.set_cons_succ, List.getElem_toArray, List.getElem_cons_succ, List.getElem_cons_zero])
          | (refine yieldH (i := 4) (v := ?_) rfl (by kernel_rfl) (by kernel_rfl) (by kernel_rfl) (fun _ _ _ h => h) (by rfl) ?_ (by assumption) ?_; rotate_left; (intro w hSw; (try dsimp only at hSw); go_simp; (try with_reducible rfl)); try simp only [Act.put, List.setIfInBounds_toArray, List.set_cons_zero, List.set_cons_succ, List.getElem_toArray, List.getElem_cons_succ, List.getElem_cons_zero])
          | fail
        refine yieldH (i := 5) (v := .string x.t) rfl (by kernel_rfl) (by kernel_rfl) (by kernel_rfl) (fun _ _ _ h => h) (by rfl) ?_ (by assumption) ?_
        · intro w hSw; (try dsimp only at hSw); have y := cellW hSw 1 _ rfl w (Below.refl _ _); go_simp
        try simp only [Act.put, List.setIfInBounds_toArray, List.set_cons_zero, List.set_cons_succ, List.getElem_toArray, List.getElem_cons_succ, List.getElem_cons_zero]
        refine wpAnyH_ready (rs := [1, 6]) (by kernel_rfl) (by simp) ?_
        refine (AllReadyH.cons rfl (fun K hK => ?_) (AllReadyH.cons rfl (fun K hK => ?_) AllReadyH.nil))
        · have bx := cellW HA14.out.box 3 _ rfl D4 (Below.refl _ _)
          go_simp
          (try dsimp only)
          refine hK.out _ _ ?_ (fun hHeld => ?_)
          · (try dsimp only); exact h14.out
          clear hK K
          try simp only [Act.put, List.setIfInBounds_toArray, List.set_cons_zero, List.set_cons_succ, List.getElem_toArray, List.getElem_cons_succ, List.getElem_cons_zero]
          clear bx
          refine wpAnyH_ready (rs := [6]) (by kernel_rfl) (by simp) ?_
          refine AllReadyH.cons rfl (fun K hK => ?_) AllReadyH.nil
          go_simp
          go_at_call 22; refine (HLET.out D4).mono ?_; rintro e6 w6 ⟨rfl, hb6⟩
          (try dsimp only)
          refine hK.out _ _ ?_ (fun hHeld => ?_)
          · (try dsimp only); exact blk h14.out hb6
          clear hK K
          try simp only [Act.put, List.setIfInBounds_toArray, List.set_cons_zero, List.set_cons_succ, List.getElem_toArray, List.getElem_cons_succ, List.getElem_cons_zero]
          replace h14 : Hid _ := blk h14.out hb6
          replace HA14 : Hid (TkI w _ _ X s.nx _ w6 vd vs vq D S Q) := HA14.out.below hb6
          clear hb6
          refine wpAnyH_ready (rs := [7]) (by kernel_rfl) (by simp) ?_
          refine AllReadyH.cons rfl (fun K hK => ?_) AllReadyH.nil
          go_simp
          (try dsimp only)
          refine hK.out _ _ ?_ (fun hHeld => ?_)
          · (try dsimp only); exact blk h14.out (all_alloc w6 (.cells #[.string LB] 9))
          clear hK K
          try simp only [Act.put, List.setIfInBounds_toArray, List.set_cons_zero, List.set_cons_succ, List.getElem_toArray, List.getElem_cons_succ, List.getElem_cons_zero]
          have bA := all_alloc w6 (.cells #[.string LB] 9)
          have hS7 : Hid _ := heap_alloc_new w6 (.cells #[.string LB] 9)
          replace h14 : Hid _ := blk h14.out bA
          replace HA14 : Hid (TkI w _ _ X s.nx _ (w6.alloc (.cells #[.string LB] 9)) vd vs vq D S Q) := HA14.out.below bA
          clear bA
          generalize w6.alloc (.cells #[.string LB] 9) = w7 at h14 HA14 hS7 hHeld ⊢
          obtain ⟨N7, hN7⟩ : ∃ N7, w6.heap.size = N7 := ⟨_, rfl⟩
          rw [hN7] at hS7 ⊢
          clear hN7
          refine wpAnyH_ready (rs := [8]) (by kernel_rfl) (by simp) ?_
          refine AllReadyH.cons rfl (fun K hK => ?_) AllReadyH.nil
          have hz8 := HA14.out.size
          obtain ⟨v9, w9, hrun, hO9, hg9, hv9⟩ := app_recK HTT.out txC_len txC_one w7 31 (w.heap.size + 2) vs (.slice (some ⟨N7, 0, none⟩) 1 1) S [LB] HA14.out.se (row_oneTx hS7.out) (by omega) (by simp) (by omega)
          obtain ⟨p9, c9, rfl⟩ := OwnK.shape hO9
          have hl9 : (S ++ [LB]).length = S.length + 1 := by rw [List.length_append]; rfl
          rw [hl9] at hO9 hv9 hrun
          clear hl9
          obtain ⟨hI9, hx9⟩ := HA14.out.sput hg9 hO9
          have HI9 : Hid (TkI w _ _ X s.nx _ (w9.setCell ⟨X, 3, none⟩ (.slice p9 (S.length + 1) c9)) vd (.slice p9 (S.length + 1) c9) vq D (S ++ [LB]) Q) := hI9
          have hN9 : w9.heap[N]? = some (.cells #[.int .i64 x.i, .string x.t, .int .i64 (x.r + 1), .int .i64 0] 50 (0, 0)) := (hg9.block N (Array.getElem?_eq_some_iff.1 h14.out).1 (fun e => box_apart HA14.out.se h14.out (by decide) N e.symm rfl)).trans h14.out
          have d3 := cellW hx9 3 _ rfl w9 (Below.refl _ _)
          have df := frozenW hx9 3 w9 (Below.refl _ _)
          have hNX : N ≠ X := fun e => by have := hx9; rw [← e, hN9] at this; injection this with this; injection this with h1 h2 h3; exact absurd h2 (by decide)
          have HN9 : Hid ((w9.setCell ⟨X, 3, none⟩ (.slice p9 (S.length + 1) c9)).heap[N]? = some (.cells #[.int .i64 x.i, .string x.t, .int .i64 (x.r + 1), .int .i64 0] 50 (0, 0))) := blk_far (a := ⟨X, 3, none⟩) hN9 hNX (.slice p9 (S.length + 1) c9)
          unfold Oper.wp; simp [Region.wanted, execOp, resolve, invoke, builtin, Act.eval, hrun, Result.andThen]
          (try dsimp only)
          refine hK.out _ _ ?_ (fun hHeld => ?_)
          · (try dsimp only); exact hN9
          clear hK K
          try simp only [Act.put, List.setIfInBounds_toArray, List.set_cons_zero, List.set_cons_succ, List.getElem_toArray, List.getElem_cons_succ, List.getElem_cons_zero]
          clear hrun hO9 hg9 hv9 hI9 hx9 hN9 hNX hS7 HA14 h14 hz8
          first
            | (refine skipH (i := 9) rfl (by kernel_rfl) (by kernel_rfl) (by kernel_rfl) (fun _ _ _ h => h) (by rfl) (by assumption) ?_; try simp only [Act.put, List.setIfInBounds_toArray, List.set_cons_zero, List.set_cons_succ, List.getElem_toArray, List.getElem_cons_succ, List.getElem_cons_zero])
            | (refine yieldH (i := 9) (v := ?_) rfl (by kernel_rfl) (by kernel_rfl) (by kernel_rfl) (fun _ _ _ h => h) (by rfl) ?_ (by assumption) ?_; rotate_left; (intro w hSw; (try dsimp only at hSw); go_simp; (try with_reducible rfl)); try simp only [Act.put, List.setIfInBounds_toArray, List.set_cons_zero, List.set_cons_succ, List.getElem_toArray, List.getElem_cons_succ, List.getElem_cons_zero])
            | fail
          refine wpAnyH_ready (rs := [10]) (by kernel_rfl) (by simp) ?_
          refine AllReadyH.cons rfl (fun K hK => ?_) AllReadyH.nil
          go_simp
          (try dsimp only)
          refine hK.out _ _ ?_ (fun hHeld => ?_)
          · (try dsimp only); exact HN9.out
          clear hK K
          try simp only [Act.put, List.setIfInBounds_toArray, List.set_cons_zero, List.set_cons_succ, List.getElem_toArray, List.getElem_cons_succ, List.getElem_cons_zero]
          clear d3 df
          refine wpAnyH_done (by kernel_rfl) ?_ _
          have HA : Hid (TkI w _ _ X s.nx _ (w9.setCell ⟨X, 3, none⟩ (.slice p9 (S.length + 1) c9)) vd (.slice p9 (S.length + 1) c9) vq D (S ++ [LB]) Q) := HI9.out
          have HNy : Hid ((w9.setCell ⟨X, 3, none⟩ (.slice p9 (S.length + 1) c9)).heap[N]? = some (.cells #[.int .i64 (growW x).i, .string (growW x).t, .int .i64 (growW x).r, .int .i64 (growW x).g] 50 (0, 0))) := by rw [hgr]; exact HN9.out
          clear hgr HI9 HN9 HLET hHeld
          generalize growW x = y at HNy HQ
          generalize w9.setCell ⟨X, 3, none⟩ (.slice p9 (S.length + 1) c9) = WG at HA HNy ⊢
          have bG := all_alloc WG (.cells #[.int .i64 y.i, .string y.t, .int .i64 y.r, .int .i64 y.g] 50)
          have hzG := bG.size
          have hzA := HA.out.size
          go_wp2_with (first
            | (refine wpList_load_rowG (by first | rfl | (simp only [Region.wanted, yielded]; rfl)) 50 (.tmp 6) rfl N rfl _ _ _ _ HNy.out Try.underlying50 rfl (by kernel_rfl) ?_)
            | (refine wpList_app_rec HTW.out wtC_len wtC_one rfl (.tmp 67) (.tmp 69) rfl (w.heap.size + 2) vq (.slice (some ⟨WG.heap.size, 0, none⟩) 1 1) Q [y] rfl rfl (OwnK.below HA.out.op bG) (row_oneW (heap_alloc_new WG (.cells #[.int .i64 y.i, .string y.t, .int .i64 y.r, .int .i64 y.g] 50))) (by omega) (by simp) (by omega) ?_
               intro v8 w8 hO8 hg8 hv8
               have HI8 : Hid (TkI w _ _ X s.nx _ w8 vd (.slice p9 (S.length + 1) c9) v8 D (S ++ [LB]) (Q ++ [y])) := (HA.out.below bG).oput hg8 hO8
               clear hO8 hg8 hv8))
          go_roundw
          case rel => exact ⟨k + 1, vd, (.slice p9 (S.length + 1) c9), v8, rfl, by omega, by go_num, by rw [HQ.out.1, HQ.out.2.1, HQ.out.2.2]; exact HI8.out⟩
          case measure => simp [intOf]; omega
        · go_simp
          go_at_call 22; refine (HLET.out D4).mono ?_; rintro e6 w6 ⟨rfl, hb6⟩
          (try dsimp only)
          refine hK.out _ _ ?_ (fun hHeld => ?_)
          · (try dsimp only); exact blk h14.out hb6
          clear hK K
          try simp only [Act.put, List.setIfInBounds_toArray, List.set_cons_zero, List.set_cons_succ, List.getElem_toArray, List.getElem_cons_succ, List.getElem_cons_zero]
          replace h14 : Hid _ := blk h14.out hb6
          replace HA14 : Hid (TkI w _ _ X s.nx _ w6 vd vs vq D S Q) := HA14.out.below hb6
          clear hb6
          refine wpAnyH_ready (rs := [1, 7]) (by kernel_rfl) (by simp) ?_
          refine (AllReadyH.cons rfl (fun K hK => ?_) (AllReadyH.cons rfl (fun K hK => ?_) AllReadyH.nil))
          · have bx := cellW HA14.out.box 3 _ rfl w6 (Below.refl _ _)
            go_simp
            (try dsimp only)
            refine hK.out _ _ ?_ (fun hHeld => ?_)
            · (try dsimp only); exact h14.out
            clear hK K
            try simp only [Act.put, List.setIfInBounds_toArray, List.set_cons_zero, List.set_cons_succ, List.getElem_toArray, List.getElem_cons_succ, List.getElem_cons_zero]
            clear bx
            refine wpAnyH_ready (rs := [7]) (by kernel_rfl) (by simp) ?_
            refine AllReadyH.cons rfl (fun K hK => ?_) AllReadyH.nil
            go_simp
            (try dsimp only)
            refine hK.out _ _ ?_ (fun hHeld => ?_)
            · (try dsimp only); exact blk h14.out (all_alloc w6 (.cells #[.string LB] 9))
            clear hK K
            try simp only [Act.put, List.setIfInBounds_toArray, List.set_cons_zero, List.set_cons_succ, List.getElem_toArray, List.getElem_cons_succ, List.getElem_cons_zero]
            have bA := all_alloc w6 (.cells #[.string LB] 9)
            have hS7 : Hid _ := heap_alloc_new w6 (.cells #[.string LB] 9)
            replace h14 : Hid _ := blk h14.out bA
            replace HA14 : Hid (TkI w _ _ X s.nx _ (w6.alloc (.cells #[.string LB] 9)) vd vs vq D S Q) := HA14.out.below bA
            clear bA
            generalize w6.alloc (.cells #[.string LB] 9) = w7 at h14 HA14 hS7 hHeld ⊢
            obtain ⟨N7, hN7⟩ : ∃ N7, w6.heap.size = N7 := ⟨_, rfl⟩
            rw [hN7] at hS7 ⊢
            clear hN7
            refine wpAnyH_ready (rs := [8]) (by kernel_rfl) (by simp) ?_
            refine AllReadyH.cons rfl (fun K hK => ?_) AllReadyH.nil
            have hz8 := HA14.out.size
            obtain ⟨v9, w9, hrun, hO9, hg9, hv9⟩ := app_recK HTT.out txC_len txC_one w7 31 (w.heap.size + 2) vs (.slice (some ⟨N7, 0, none⟩) 1 1) S [LB] HA14.out.se (row_oneTx hS7.out) (by omega) (by simp) (by omega)
            obtain ⟨p9, c9, rfl⟩ := OwnK.shape hO9
            have hl9 : (S ++ [LB]).length = S.length + 1 := by rw [List.length_append]; rfl
            rw [hl9] at hO9 hv9 hrun
            clear hl9
            obtain ⟨hI9, hx9⟩ := HA14.out.sput hg9 hO9
            have HI9 : Hid (TkI w _ _ X s.nx _ (w9.setCell ⟨X, 3, none⟩ (.slice p9 (S.length + 1) c9)) vd (.slice p9 (S.length + 1) c9) vq D (S ++ [LB]) Q) := hI9
            have hN9 : w9.heap[N]? = some (.cells #[.int .i64 x.i, .string x.t, .int .i64 (x.r + 1), .int .i64 0] 50 (0, 0)) := (hg9.block N (Array.getElem?_eq_some_iff.1 h14.out).1 (fun e => box_apart HA14.out.se h14.out (by decide) N e.symm rfl)).trans h14.out
            have d3 := cellW hx9 3 _ rfl w9 (Below.refl _ _)
            have df := frozenW hx9 3 w9 (Below.refl _ _)
            have hNX : N ≠ X := fun e => by have := hx9; rw [← e, hN9] at this; injection this with this; injection this with h1 h2 h3; exact absurd h2 (by decide)
            have HN9 : Hid ((w9.setCell ⟨X, 3, none⟩ (.slice p9 (S.length + 1) c9)).heap[N]? = some (.cells #[.int .i64 x.i, .string x.t, .int .i64 (x.r + 1), .int .i64 0] 50 (0, 0))) := blk_far (a := ⟨X, 3, none⟩) hN9 hNX (.slice p9 (S.length + 1) c9)
            unfold Oper.wp; simp [Region.wanted, execOp, resolve, invoke, builtin, Act.eval, hrun, Result.andThen]
            (try dsimp only)
            refine hK.out _ _ ?_ (fun hHeld => ?_)
            · (try dsimp only); exact hN9
            clear hK K
            try simp only [Act.put, List.setIfInBounds_toArray, List.set_cons_zero, List.set_cons_succ, List.getElem_toArray, List.getElem_cons_succ, List.getElem_cons_zero]
            clear hrun hO9 hg9 hv9 hI9 hx9 hN9 hNX hS7 HA14 h14 hz8
            first
              | (refine skipH (i := 9) rfl (by kernel_rfl) (by kernel_rfl) (by kernel_rfl) (fun _ _ _ h => h) (by rfl) (by assumption) ?_; try simp only [Act.put, List.setIfInBounds_toArray, List.set_cons_zero, List.set_cons_succ, List.getElem_toArray, List.getElem_cons_succ, List.getElem_cons_zero])
              | (refine yieldH (i := 9) (v := ?_) rfl (by kernel_rfl) (by kernel_rfl) (by kernel_rfl) (fun _ _ _ h => h) (by rfl) ?_ (by assumption) ?_; rotate_left; (intro w hSw; (try dsimp only at hSw); go_simp; (try with_reducible rfl)); try simp only [Act.put, List.setIfInBounds_toArray, List.set_cons_zero, List.set_cons_succ, List.getElem_toArray, List.getElem_cons_succ, List.getElem_cons_zero])
              | fail
            refine wpAnyH_ready (rs := [10]) (by kernel_rfl) (by simp) ?_
            refine AllReadyH.cons rfl (fun K hK => ?_) AllReadyH.nil
            go_simp
            (try dsimp only)
            refine hK.out _ _ ?_ (fun hHeld => ?_)
            · (try dsimp only); exact HN9.out
            clear hK K
            try simp only [Act.put, List.setIfInBounds_toArray, List.set_cons_zero, List.set_cons_succ, List.getElem_toArray, List.getElem_cons_succ, List.getElem_cons_zero]
            clear d3 df
            refine wpAnyH_done (by kernel_rfl) ?_ _
            have HA : Hid (TkI w _ _ X s.nx _ (w9.setCell ⟨X, 3, none⟩ (.slice p9 (S.length + 1) c9)) vd (.slice p9 (S.length + 1) c9) vq D (S ++ [LB]) Q) := HI9.out
            have HNy : Hid ((w9.setCell ⟨X, 3, none⟩ (.slice p9 (S.length + 1) c9)).heap[N]? = some (.cells #[.int .i64 (growW x).i, .string (growW x).t, .int .i64 (growW x).r, .int .i64 (growW x).g] 50 (0, 0))) := by rw [hgr]; exact HN9.out
            clear hgr HI9 HN9 HLET hHeld
            generalize growW x = y at HNy HQ
            generalize w9.setCell ⟨X, 3, none⟩ (.slice p9 (S.length + 1) c9) = WG at HA HNy ⊢
            have bG := all_alloc WG (.cells #[.int .i64 y.i, .string y.t, .int .i64 y.r, .int .i64 y.g] 50)
            have hzG := bG.size
            have hzA := HA.out.size
            go_wp2_with (first
              | (refine wpList_load_rowG (by first | rfl | (simp only [Region.wanted, yielded]; rfl)) 50 (.tmp 6) rfl N rfl _ _ _ _ HNy.out Try.underlying50 rfl (by kernel_rfl) ?_)
              | (refine wpList_app_rec HTW.out wtC_len wtC_one rfl (.tmp 67) (.tmp 69) rfl (w.heap.size + 2) vq (.slice (some ⟨WG.heap.size, 0, none⟩) 1 1) Q [y] rfl rfl (OwnK.below HA.out.op bG) (row_oneW (heap_alloc_new WG (.cells #[.int .i64 y.i, .string y.t, .int .i64 y.r, .int .i64 y.g] 50))) (by omega) (by simp) (by omega) ?_
                 intro v8 w8 hO8 hg8 hv8
                 have HI8 : Hid (TkI w _ _ X s.nx _ w8 vd (.slice p9 (S.length + 1) c9) v8 D (S ++ [LB]) (Q ++ [y])) := (HA.out.below bG).oput hg8 hO8
                 clear hO8 hg8 hv8))
            go_roundw
            case rel => exact ⟨k + 1, vd, (.slice p9 (S.length + 1) c9), v8, rfl, by omega, by go_num, by rw [HQ.out.1, HQ.out.2.1, HQ.out.2.2]; exact HI8.out⟩
            case measure => simp [intOf]; omega
          · go_simp
            (try dsimp only)
            refine hK.out _ _ ?_ (fun hHeld => ?_)
            · (try dsimp only); exact blk h14.out (all_alloc w6 (.cells #[.string LB] 9))
            clear hK K
            try simp only [Act.put, List.setIfInBounds_toArray, List.set_cons_zero, List.set_cons_succ, List.getElem_toArray, List.getElem_cons_succ, List.getElem_cons_zero]
            have bA := all_alloc w6 (.cells #[.string LB] 9)
            have hS7 : Hid _ := heap_alloc_new w6 (.cells #[.string LB] 9)
            replace h14 : Hid _ := blk h14.out bA
            replace HA14 : Hid (TkI w _ _ X s.nx _ (w6.alloc (.cells #[.string LB] 9)) vd vs vq D S Q) := HA14.out.below bA
            clear bA
            generalize w6.alloc (.cells #[.string LB] 9) = w7 at h14 HA14 hS7 hHeld ⊢
            obtain ⟨N7, hN7⟩ : ∃ N7, w6.heap.size = N7 := ⟨_, rfl⟩
            rw [hN7] at hS7 ⊢
            clear hN7
            refine wpAnyH_ready (rs := [1]) (by kernel_rfl) (by simp) ?_
            refine AllReadyH.cons rfl (fun K hK => ?_) AllReadyH.nil
            have bx := cellW HA14.out.box 3 _ rfl w7 (Below.refl _ _)
            go_simp
            (try dsimp only)
            refine hK.out _ _ ?_ (fun hHeld => ?_)
            · (try dsimp only); exact h14.out
            clear hK K
            try simp only [Act.put, List.setIfInBounds_toArray, List.set_cons_zero, List.set_cons_succ, List.getElem_toArray, List.getElem_cons_succ, List.getElem_cons_zero]
            clear bx
            refine wpAnyH_ready (rs := [8]) (by kernel_rfl) (by simp) ?_
            refine AllReadyH.cons rfl (fun K hK => ?_) AllReadyH.nil
            have hz8 := HA14.out.size
            obtain ⟨v9, w9, hrun, hO9, hg9, hv9⟩ := app_recK HTT.out txC_len txC_one w7 31 (w.heap.size + 2) vs (.slice (some ⟨N7, 0, none⟩) 1 1) S [LB] HA14.out.se (row_oneTx hS7.out) (by omega) (by simp) (by omega)
            obtain ⟨p9, c9, rfl⟩ := OwnK.shape hO9
            have hl9 : (S ++ [LB]).length = S.length + 1 := by rw [List.length_append]; rfl
            rw [hl9] at hO9 hv9 hrun
            clear hl9
            obtain ⟨hI9, hx9⟩ := HA14.out.sput hg9 hO9
            have HI9 : Hid (TkI w _ _ X s.nx _ (w9.setCell ⟨X, 3, none⟩ (.slice p9 (S.length + 1) c9)) vd (.slice p9 (S.length + 1) c9) vq D (S ++ [LB]) Q) := hI9
            have hN9 : w9.heap[N]? = some (.cells #[.int .i64 x.i, .string x.t, .int .i64 (x.r + 1), .int .i64 0] 50 (0, 0)) := (hg9.block N (Array.getElem?_eq_some_iff.1 h14.out).1 (fun e => box_apart HA14.out.se h14.out (by decide) N e.symm rfl)).trans h14.out
            have d3 := cellW hx9 3 _ rfl w9 (Below.refl _ _)
            have df := frozenW hx9 3 w9 (Below.refl _ _)
            have hNX : N ≠ X := fun e => by have := hx9; rw [← e, hN9] at this; injection this with this; injection this with h1 h2 h3; exact absurd h2 (by decide)
            have HN9 : Hid ((w9.setCell ⟨X, 3, none⟩ (.slice p9 (S.length + 1) c9)).heap[N]? = some (.cells #[.int .i64 x.i, .string x.t, .int .i64 (x.r + 1), .int .i64 0] 50 (0, 0))) := blk_far (a := ⟨X, 3, none⟩) hN9 hNX (.slice p9 (S.length + 1) c9)
            unfold Oper.wp; simp [Region.wanted, execOp, resolve, invoke, builtin, Act.eval, hrun, Result.andThen]
            (try dsimp only)
            refine hK.out _ _ ?_ (fun hHeld => ?_)
            · (try dsimp only); exact hN9
            clear hK K
            try simp only [Act.put, List.setIfInBounds_toArray, List.set_cons_zero, List.set_cons_succ, List.getElem_toArray, List.getElem_cons_succ, List.getElem_cons_zero]
            clear hrun hO9 hg9 hv9 hI9 hx9 hN9 hNX hS7 HA14 h14 hz8
            first
              | (refine skipH (i := 9) rfl (by kernel_rfl) (by kernel_rfl) (by kernel_rfl) (fun _ _ _ h => h) (by rfl) (by assumption) ?_; try simp only [Act.put, List.setIfInBounds_toArray, List.set_cons_zero, List.set_cons_succ, List.getElem_toArray, List.getElem_cons_succ, List.getElem_cons_zero])
              | (refine yieldH (i := 9) (v := ?_) rfl (by kernel_rfl) (by kernel_rfl) (by kernel_rfl) (fun _ _ _ h => h) (by rfl) ?_ (by assumption) ?_; rotate_left; (intro w hSw; (try dsimp only at hSw); go_simp; (try with_reducible rfl)); try simp only [Act.put, List.setIfInBounds_toArray, List.set_cons_zero, List.set_cons_succ, List.getElem_toArray, List.getElem_cons_succ, List.getElem_cons_zero])
              | fail
            refine wpAnyH_ready (rs := [10]) (by kernel_rfl) (by simp) ?_
            refine AllReadyH.cons rfl (fun K hK => ?_) AllReadyH.nil
            go_simp
            (try dsimp only)
            refine hK.out _ _ ?_ (fun hHeld => ?_)
            · (try dsimp only); exact HN9.out
            clear hK K
            try simp only [Act.put, List.setIfInBounds_toArray, List.set_cons_zero, List.set_cons_succ, List.getElem_toArray, List.getElem_cons_succ, List.getElem_cons_zero]
            clear d3 df
            refine wpAnyH_done (by kernel_rfl) ?_ _
            have HA : Hid (TkI w _ _ X s.nx _ (w9.setCell ⟨X, 3, none⟩ (.slice p9 (S.length + 1) c9)) vd (.slice p9 (S.length + 1) c9) vq D (S ++ [LB]) Q) := HI9.out
            have HNy : Hid ((w9.setCell ⟨X, 3, none⟩ (.slice p9 (S.length + 1) c9)).heap[N]? = some (.cells #[.int .i64 (growW x).i, .string (growW x).t, .int .i64 (growW x).r, .int .i64 (growW x).g] 50 (0, 0))) := by rw [hgr]; exact HN9.out
            clear hgr HI9 HN9 HLET hHeld
            generalize growW x = y at HNy HQ
            generalize w9.setCell ⟨X, 3, none⟩ (.slice p9 (S.length + 1) c9) = WG at HA HNy ⊢
            have bG := all_alloc WG (.cells #[.int .i64 y.i, .string y.t, .int .i64 y.r, .int .i64 y.g] 50)
            have hzG := bG.size
            have hzA := HA.out.size
            go_wp2_with (first
              | (refine wpList_load_rowG (by first | rfl | (simp only [Region.wanted, yielded]; rfl)) 50 (.tmp 6) rfl N rfl _ _ _ _ HNy.out Try.underlying50 rfl (by kernel_rfl) ?_)
              | (refine wpList_app_rec HTW.out wtC_len wtC_one rfl (.tmp 67) (.tmp 69) rfl (w.heap.size + 2) vq (.slice (some ⟨WG.heap.size, 0, none⟩) 1 1) Q [y] rfl rfl (OwnK.below HA.out.op bG) (row_oneW (heap_alloc_new WG (.cells #[.int .i64 y.i, .string y.t, .int .i64 y.r, .int .i64 y.g] 50))) (by omega) (by simp) (by omega) ?_
                 intro v8 w8 hO8 hg8 hv8
                 have HI8 : Hid (TkI w _ _ X s.nx _ w8 vd (.slice p9 (S.length + 1) c9) v8 D (S ++ [LB]) (Q ++ [y])) := (HA.out.below bG).oput hg8 hO8
                 clear hO8 hg8 hv8))
            go_roundw
            case rel => exact ⟨k + 1, vd, (.slice p9 (S.length + 1) c9), v8, rfl, by omega, by go_num, by rw [HQ.out.1, HQ.out.2.1, HQ.out.2.2]; exact HI8.out⟩
            case measure => simp [intOf]; omega
      · have h2' : (3 : Int) ≤ x.r := by omega
        have hsb : sendsB x = false := by unfold sendsB; rw [decide_eq_false h1, decide_eq_false h2]; rfl
        have hob : overB x = true := by unfold overB; rw [decide_eq_false h1, decide_eq_false h2]; rfl
        have HQ : Hid (keptW (s.op.take (k + 1)) = Q ∧ sentW (s.op.take (k + 1)) = S ∧ s.dn ++ (overW (s.op.take (k + 1))).map doneE = D ++ [⟨x.i, ⟨#[]⟩⟩]) := by
          refine ⟨by rw [HKT.out, hob]; simp, by rw [HST.out, hsb]; simp, ?_⟩
          rw [HOT.out, hob, ← HD0.out, List.append_assoc, if_pos rfl, List.map_append]
          rfl
        clear hsb hob HKT HST HOT HD0 HLET
        have bX2 := cellW HA.out.box 2 _ rfl A (Below.refl _ _)
        have bV := all_alloc A (.cells #[.int .i64 x.i, .string ⟨#[]⟩] 69)
        have hzV := bV.size
        have hzA := HA.out.size
        go_wp2_with (first
          | (refine wpList_app_rec HTD.out dnC_len dnC_one rfl (.tmp 41) (.tmp 45) rfl (w.heap.size + 2) vd (.slice (some ⟨A.heap.size, 0, none⟩) 1 1) D [⟨x.i, ⟨#[]⟩⟩] rfl rfl (OwnK.below HA.out.dn bV) (row_oneD (heap_alloc_new A (.cells #[.int .i64 x.i, .string ⟨#[]⟩] 69))) (by omega) (by simp) (by omega) ?_
             intro v7 w7 hO7 hg7 hv7
             obtain ⟨p7, c7, rfl⟩ := OwnK.shape hO7
             rw [show (D ++ [(⟨x.i, ⟨#[]⟩⟩ : Dn)]).length = D.length + 1 by rw [List.length_append]; rfl] at hO7 hv7 ⊢
             obtain ⟨hI7, hx7⟩ := (HA.out.below bV).dput hg7 hO7
             have HI7 : Hid (TkI w _ _ X s.nx _ (w7.setCell ⟨X, 2, none⟩ (.slice p7 (D.length + 1) c7)) (.slice p7 (D.length + 1) c7) vs vq (D ++ [⟨x.i, ⟨#[]⟩⟩]) S Q) := hI7
             have d2 := cellW hx7 2 _ rfl w7 (Below.refl _ _)
             have df := frozenW hx7 2 w7 (Below.refl _ _)
             clear hI7 hx7 hO7 hg7 hv7))
        go_roundw
        case rel => exact ⟨k + 1, (.slice p7 (D.length + 1) c7), vs, vq, rfl, by omega, by go_num, by rw [HQ.out.1, HQ.out.2.1, HQ.out.2.2]; exact HI7.out⟩
        case measure => simp [intOf]; omega
    · obtain rfl : k = s.op.length := by omega
      have HT9 : Hid (TkI w (.slice p1 s.op.length c1) (.slice p2 s.dn.length c2) X s.nx (.slice pa s.op.length ca) wr vd vs vq DF SF KF) := by
        have := HT.out
        rw [List.take_length, HKF.out, HDF.out, HSF.out] at this
        exact this
      clear HT HROW HF HKF HDF HSF
      obtain ⟨pq, cq, rfl⟩ := OwnK.shape HT9.out.op
      obtain ⟨pe, ce, rfl⟩ := OwnK.shape HT9.out.dn
      obtain ⟨ps, cs, rfl⟩ := OwnK.shape HT9.out.se
      replace HT9 : Hid (TkI w _ _ X s.nx _ wr (.slice pe DF.length ce) (.slice ps SF.length cs) (.slice pq KF.length cq) DF SF KF) := HT9.out
      have px := cellW HT9.out.par 1 _ rfl wr (Below.refl _ _)
      have bX0 := cellW HT9.out.box 1 _ rfl wr (Below.refl _ _)
      have fX0 := frozenW HT9.out.box 1 wr (Below.refl _ _)
      have hz := HT9.out.size
      have hbx : Hid ((wr.setCell ⟨X, 1, none⟩ (.slice pq KF.length cq)).heap[X]? = some (.cells #[.int .i64 s.nx, .slice pq KF.length cq, .slice pe DF.length ce, .slice ps SF.length cs, .int .i64 0, .int .i64 0] 33 (0, 0))) := blk_set HT9.out.box 1 (.slice pq KF.length cq)
      have hres : Hid ((wr.setCell ⟨X, 1, none⟩ (.slice pq KF.length cq)).heap[w.heap.size + 1]? = some (.cells #[.int .i64 0, .slice none 0 0, .slice none 0 0, .slice none 0 0, .int .i64 0, .int .i64 0] 33 (0, 0))) := blk_far (a := ⟨X, 1, none⟩) HT9.out.res (by simp only; omega) (.slice pq KF.length cq)
      have hbel : Below w.heap.size w (wr.setCell ⟨X, 1, none⟩ (.slice pq KF.length cq)) := HT9.out.bel.setCell (by simp only; omega) (.slice pq KF.length cq)
      have hdn : OwnKD (wr.setCell ⟨X, 1, none⟩ (.slice pq KF.length cq)) (w.heap.size + 2) (.slice pe DF.length ce) DF := OwnK.far HT9.out.dn (a := ⟨X, 1, none⟩) (box_apart HT9.out.dn HT9.out.box (by decide)) (.slice pq KF.length cq)
      have hse : OwnKS (wr.setCell ⟨X, 1, none⟩ (.slice pq KF.length cq)) (w.heap.size + 2) (.slice ps SF.length cs) SF := OwnK.far HT9.out.se (a := ⟨X, 1, none⟩) (box_apart HT9.out.se HT9.out.box (by decide)) (.slice pq KF.length cq)
      have hop : OwnKW (wr.setCell ⟨X, 1, none⟩ (.slice pq KF.length cq)) (w.heap.size + 2) (.slice pq KF.length cq) KF := OwnK.far HT9.out.op (a := ⟨X, 1, none⟩) (box_apart HT9.out.op HT9.out.box (by decide)) (.slice pq KF.length cq)
      have HOWN : Hid (OwnKD (wr.setCell ⟨X, 1, none⟩ (.slice pq KF.length cq)) (w.heap.size + 2) (.slice pe DF.length ce) DF ∧ OwnKS (wr.setCell ⟨X, 1, none⟩ (.slice pq KF.length cq)) (w.heap.size + 2) (.slice ps SF.length cs) SF ∧ OwnKW (wr.setCell ⟨X, 1, none⟩ (.slice pq KF.length cq)) (w.heap.size + 2) (.slice pq KF.length cq) KF) := ⟨hdn, hse, hop⟩
      clear hdn hse hop HT9
      go_upto_region 18 with fail
      generalize wr.setCell ⟨X, 1, none⟩ (.slice pq KF.length cq) = w9 at *
      clear bX0 fX0 px
      go_wp2_with (first
        | (refine wpList_load_rowG (by first | rfl | (simp only [Region.wanted, yielded]; rfl)) 33 (.tmp 3) rfl X rfl _ _ _ _ hbx.out Try.underlying33 rfl (by kernel_rfl) ?_)
        | (refine wpList_store_row rfl 33 (.tmp 2) (.tmp 74) rfl (w.heap.size + 1) #[.int .i64 s.nx, .slice pq KF.length cq, .slice pe DF.length ce, .slice ps SF.length cs, .int .i64 0, .int .i64 0] rfl rfl _ _ hres.out (by kernel_rfl) rfl (by simp [Value.oneCell']) ?_))
      go_wp2
      have hYf := setRow_heap _ (w.heap.size + 1) _ #[.int .i64 s.nx, .slice pq KF.length cq, .slice pe DF.length ce, .slice ps SF.length cs, .int .i64 0, .int .i64 0] _ _ hres.out
      have hAf : Below w.heap.size w (w9.setRow (w.heap.size + 1) #[.int .i64 s.nx, .slice pq KF.length cq, .slice pe DF.length ce, .slice ps SF.length cs, .int .i64 0, .int .i64 0]) := rcBelow_setRow hbel (by omega) _
      have hoth : ∀ j, w.heap.size + 2 ≤ j → (w9.setRow (w.heap.size + 1) #[.int .i64 s.nx, .slice pq KF.length cq, .slice pe DF.length ce, .slice ps SF.length cs, .int .i64 0, .int .i64 0]).heap[j]? = w9.heap[j]? := fun j hj => setRow_other w9 (w.heap.size + 1) j _ (by omega)
      obtain ⟨hD9, hS9, hO9⟩ := HOWN.out
      have hlO := OwnK.lt hO9
      have hlD := OwnK.lt hD9
      have hlS := OwnK.lt hS9
      have hmk := OwnMo.mk3 (base := w.heap.size) (o := ⟨⟨s.nx, KF, DF⟩, SF, 0, 0⟩) (OwnK.low (OwnK.keep hO9 fun j hj => hoth j (hlO j hj).1) (by omega)) (OwnK.low (OwnK.keep hD9 fun j hj => hoth j (hlD j hj).1) (by omega)) (OwnK.low (OwnK.keep hS9 fun j hj => hoth j (hlS j hj).1) (by omega)) hAf.size
      exact bodyPost_ret (v := .agg #[.int .i64 s.nx, .slice pq KF.length cq, .slice pe DF.length ce, .slice ps SF.length cs, .int .i64 0, .int .i64 0]) (results_cell_row Try.results14 _ _ (w.heap.size + 1) _ _ _ _ rfl hYf Try.underlying33 rfl (by kernel_rfl)) rfl ⟨_, _, _, rfl, hmk, hAf⟩
theorem specMasterTick_any (s : Mst) (v1 v2 : Value) (w : World) (ht : s.tot ≤ 1048576) (h : RowMst w v1 v2 s) :
    Calls Try.prog 14 #[.agg #[.int .i64 s.nx, v1, v2]] w fun e w' => ∃ u1 u2 u3, e = .returned (.agg #[.int .i64 (tickM s).m.nx, u1, u2, u3, .int .i64 (tickM s).id, .int .i64 (tickM s).co]) ∧ OwnMo w' w.heap.size w'.heap.size u1 u2 u3 (tickM s) ∧ Below w.heap.size w w' := by
  unfold tickM
  cases hr : s.right with
  | false =>
    rw [if_neg (by decide)]
    exact (specTick0 s v1 v2 w ht h hr).mono fun e w' q => ⟨_, _, _, q.1, OwnMo.nil 1 q.2.size, q.2⟩
  | true =>
    rw [if_pos rfl]
    exact specTick1 s v1 v2 w ht h hr
end Go.Proofs.Ytghchcipobcpjaa
