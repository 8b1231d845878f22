/- THE DRAW of a path and a bridge. Written by mkdp4.py. -/
import Derived.Test.YtineecongiplgaaQpPlainFrame
import Derived.Test.YtineecongiplgaaQpPaSh
namespace Go.Proofs.Ytineecongiplgaa
open Go.RowKit
set_option linter.unusedVariables false
set_option linter.unusedSimpArgs false

def tab2v : List Int := [0, 9]
theorem tab2_cell {W : World} {g : Nat} (h : W.heap[g]? = some (.cells #[.int .i64 0, .int .i64 9] 2 (0, 0))) (r : Nat) (hr : r < 2) : W.cell? ⟨g, r, none⟩ = some (.int .i64 (tab2v.getD r 0)) := by
  refine cellW h r _ ?_ W (Below.refl _ _)
  match r, hr with
  | 0, _ => rfl
  | 1, _ => rfl
/-- a path and a bridge were drawn -/
def SDraw (w : World) (x : Ending) (w' : World) : Prop := ∃ (t : Tb) (p1 p2 : Option Addr) (c1 c2 : Nat) (via : Int), x = .returned (.tuple #[.agg #[.slice p1 t.cs.length c1, .slice p2 t.rs.length c2], .int .i64 via]) ∧ OwnT w' w.heap.size (.slice p1 t.cs.length c1) (.slice p2 t.rs.length c2) t ∧ (t.cs.length ≤ 100 ∧ t.rs.length ≤ 100) ∧ Below w.heap.size w w'
set_option maxRecDepth 100000 in
set_option maxHeartbeats 3200000 in
theorem drawPathStep_any (B : Nat) (a : Option Addr) (len cap : Nat) (w : World) (hr : Rb B w a len) (hB0 : B ≤ w.heap.size) :
    Calls Try.prog 9 #[.slice a len cap] w (SDraw w) := by
  have HR : Hid _ := Rb_blwP hr ((Below.refl B w).alloc hB0 (.cells #[.slice none 0 0, .slice none 0 0] 26))
  have hB1 : B ≤ (w.alloc (.cells #[.slice none 0 0, .slice none 0 0] 26)).heap.size := by simp; omega
  have hP0 : Hid _ := heap_alloc_new w (.cells #[.slice none 0 0, .slice none 0 0] 26)
  clear hr
  obtain ⟨b, hb⟩ : ∃ b, Hid ((w.alloc (.cells #[.slice none 0 0, .slice none 0 0] 26)).heap.size = b) := ⟨_, show _ = _ from rfl⟩
  have hPb : w.heap.size < b := by have := hb.out; simp at this; omega
  go_enter Try.func9, Try.ntmps9
  go_upto_region 3 with (first
    | (go_at_call 39; refine (source_DP B a len cap _ HR.out hB1 b hb.out).mono ?_; rintro e w1 ⟨rfl, hD1, hb1⟩; have hP1 : Hid (w1.heap[w.heap.size]? = some (.cells #[.slice none 0 0, .slice none 0 0] 26 (0, 0))) := (hb1.block _ (by omega)).trans hP0.out)
    | (go_at_call 43; refine (l08Path_D hD1).mono ?_; rintro x w2 ⟨t, p1, p2, c1, c2, g, rfl, hO, hg, hn, hD2⟩))
  have hbA : Below w.heap.size w w1 := (((Below.refl w.heap.size w).alloc (Nat.le_refl _) (.cells #[.slice none 0 0, .slice none 0 0] 26)).trans (hb1.mono (by omega)))
  have hlt1 : w.heap.size < w1.heap.size := (Array.getElem?_eq_some_iff.1 hP1.out).1
  have hltb : b < w1.heap.size := hD1.lt
  have bP0 : Hid (w2.heap[w.heap.size]? = _) := (hD2.grb.block w.heap.size hlt1 (by omega)).trans hP1.out
  have hbg : b < g := by omega
  have hs2 := hD2.size
  have bV : Hid _ := heap_alloc_new w2 (.cells #[.slice p1 t.cs.length c1, .slice p2 t.rs.length c2] 26)
  have bP : Hid _ := blk bP0.out (all_alloc w2 (.cells #[.slice p1 t.cs.length c1, .slice p2 t.rs.length c2] 26))
  have o : Hid (OwnT _ g _ _ t) := hO.below (all_alloc w2 (.cells #[.slice p1 t.cs.length c1, .slice p2 t.rs.length c2] 26))
  have hD : Hid (Dr b B a len cap w1 _) := hD2.alloc (.cells #[.slice p1 t.cs.length c1, .slice p2 t.rs.length c2] 26)
  obtain ⟨V, hV⟩ : ∃ V, w2.heap.size = V := ⟨_, rfl⟩
  have hVb : V ≠ b := by omega
  have hPV : w.heap.size < V := by omega
  have hbV : b < V := by omega
  rw [hV] at bV ⊢
  generalize w2.alloc (.cells #[.slice p1 t.cs.length c1, .slice p2 t.rs.length c2] 26) = W at bV bP o hD ⊢
  clear hP0 hP1 bP0 hO hD2 hD1 HR hB1 hb1 hV hs2 hltb hlt1 hB0 hb
  have hB : Below w.heap.size w W := hbA.trans (hD.out.grb.below (by omega) hbA.size)
  go_upto_region 4 with (go_at_call 44; refine (one_D hD.out 10 (by omega)).mono ?_; rintro e w3 ⟨rb, rfl, hD3, ho3⟩; replace bV : Hid (w3.heap[V]? = _) := (ho3.block _ hVb).trans bV.out; replace bP : Hid (w3.heap[w.heap.size]? = _) := (ho3.block _ (by omega)).trans bP.out; replace o : Hid (OwnT w3 g _ _ t) := ⟨OwnI.onlyP o.out.c ho3 hbg, OwnI.onlyP o.out.r ho3 hbg, o.out.ne⟩; replace hB : Below w.heap.size w w3 := hbA.trans (hD3.grb.below (by omega) hbA.size); replace hD : Hid (Dr b B a len cap w1 w3) := hD3; clear hD3 ho3; cases rb)
  · go_upto_region 5 with fail
    refine wp_region_held_drew (S := (fun w' => w'.heap[V]? = some (.cells #[.slice p1 t.cs.length c1, .slice p2 t.rs.length c2] 26 (0, 0)))) (by kernel_rfl) ?_ (fun hHeld => ?_)
    · (try dsimp only); exact bV.out
    replace bV : Hid ((World.drew w3).heap[V]? = some (.cells #[.slice p1 t.cs.length c1, .slice p2 t.rs.length c2] 26 (0, 0))) := bV.out
    replace bP : Hid ((World.drew w3).heap[w.heap.size]? = some (.cells #[.slice none 0 0, .slice none 0 0] 26 (0, 0))) := bP.out
    replace o : Hid (OwnT (World.drew w3) g _ _ t) := o.out.below (Below.drew (Below.refl _ _))
    replace hB : Below w.heap.size w (World.drew w3) := Below.drew hB
    replace hD : Hid (Dr b B a len cap w1 (World.drew w3)) := hD.out.below (Below.drew (Below.refl _ _))
    generalize (World.drew w3) = W0 at bV bP o hB hD hHeld ⊢
    refine yieldH (i := 0) (v := ?_) rfl (by kernel_rfl) (by kernel_rfl) (by kernel_rfl) (fun _ _ _ h => h) (by rfl) ?_ (by assumption) ?_; rotate_left
    · intro w' hSw; (try dsimp only at hSw); have q0 := cellW hSw 0 _ rfl w' (Below.refl _ _); have q1 := cellW hSw 1 _ rfl w' (Below.refl _ _); go_simp; (try with_reducible rfl)
    try simp only [Act.put, List.setIfInBounds_toArray, List.set_cons_zero, List.set_cons_succ, List.getElem_toArray, List.getElem_cons_succ, List.getElem_cons_zero]
    refine yieldH (i := 1) (v := ?_) rfl (by kernel_rfl) (by kernel_rfl) (by kernel_rfl) (fun _ _ _ h => h) (by rfl) ?_ (by assumption) ?_; rotate_left
    · intro w' hSw; (try dsimp only at hSw); go_simp; (try with_reducible rfl)
    try simp only [Act.put, List.setIfInBounds_toArray, List.set_cons_zero, List.set_cons_succ, List.getElem_toArray, List.getElem_cons_succ, List.getElem_cons_zero]
    refine wpAnyH_ready (rs := [2]) (by kernel_rfl) (by simp) ?_
    refine (AllReadyH.cons rfl (fun Kc hK => ?_) AllReadyH.nil)
    go_simp
    go_at_call 45; refine (n_D hD.out 8 (by omega)).mono ?_; rintro e3 W1 ⟨r8, rfl, hr8, hD3, ho3⟩
    (try dsimp only)
    refine hK.out _ _ ?_ (fun hHeld => ?_)
    · (try dsimp only); exact ((ho3.block _ hVb).trans bV.out)
    clear hK Kc
    try simp only [Act.put, List.setIfInBounds_toArray, List.set_cons_zero, List.set_cons_succ, List.getElem_toArray, List.getElem_cons_succ, List.getElem_cons_zero]
    replace bV : Hid (W1.heap[V]? = _) := (ho3.block _ hVb).trans bV.out
    replace bP : Hid (W1.heap[w.heap.size]? = _) := (ho3.block _ (by omega)).trans bP.out
    replace o : Hid (OwnT W1 g _ _ t) := ⟨OwnI.onlyP o.out.c ho3 hbg, OwnI.onlyP o.out.r ho3 hbg, o.out.ne⟩
    replace hB : Below w.heap.size w W1 := hbA.trans (hD3.grb.below (by omega) hbA.size)
    have hw8 := wrap1 r8 (by omega)
    clear hD3 ho3 hD
    refine yieldH (i := 3) (v := ?_) rfl (by decide +kernel) (by decide +kernel) (by decide +kernel) (fun _ _ _ h => h) (by rfl) ?_ (by assumption) ?_; rotate_left
    · intro w' hSw; (try dsimp only at hSw); go_simp; (try with_reducible rfl)
    try simp only [Act.put, List.setIfInBounds_toArray, List.set_cons_zero, List.set_cons_succ, List.getElem_toArray, List.getElem_cons_succ, List.getElem_cons_zero]
    refine wpAnyH_ready (rs := [4]) (by kernel_rfl) (by simp) ?_
    refine (AllReadyH.cons rfl (fun Kc hK => ?_) AllReadyH.nil)
    have z0 := cellW bP.out 0 _ rfl _ (Below.refl _ _); have z1 := cellW bP.out 1 _ rfl _ (Below.refl _ _); have g0 := frozenW bP.out 0 _ (Below.refl _ _); have g1 := frozenW bP.out 1 _ (Below.refl _ _)
    have bV9 : Hid (((W1.setCell ⟨w.heap.size, 0, none⟩ (.slice p1 t.cs.length c1)).setCell ⟨w.heap.size, 1, none⟩ (.slice p2 t.rs.length c2)).heap[V]? = _) := blk_far (blk_far bV.out (by show V ≠ w.heap.size; omega) _) (by show V ≠ w.heap.size; omega) _
    have bP9 : Hid (((W1.setCell ⟨w.heap.size, 0, none⟩ (.slice p1 t.cs.length c1)).setCell ⟨w.heap.size, 1, none⟩ (.slice p2 t.rs.length c2)).heap[w.heap.size]? = some (.cells #[.slice p1 t.cs.length c1, .slice p2 t.rs.length c2] 26 (0, 0))) := blk_set (blk_set bP.out 0 _) 1 _
    have o9 : Hid (OwnT ((W1.setCell ⟨w.heap.size, 0, none⟩ (.slice p1 t.cs.length c1)).setCell ⟨w.heap.size, 1, none⟩ (.slice p2 t.rs.length c2)) g _ _ t) := OwnT.farT (OwnT.farT o.out (by simp only; omega) _) (by simp only; omega) _
    have hB9 : Below w.heap.size w ((W1.setCell ⟨w.heap.size, 0, none⟩ (.slice p1 t.cs.length c1)).setCell ⟨w.heap.size, 1, none⟩ (.slice p2 t.rs.length c2)) := (hB.setCell (Nat.le_refl _) _).setCell (Nat.le_refl _) _
    go_simp
    (try dsimp only)
    refine hK.out _ _ ?_ (fun hHeld => ?_)
    · (try dsimp only); exact bV9.out
    clear hK Kc
    try simp only [Act.put, List.setIfInBounds_toArray, List.set_cons_zero, List.set_cons_succ, List.getElem_toArray, List.getElem_cons_succ, List.getElem_cons_zero]
    clear z0 z1 g0 g1 bV bP o hB
    generalize ((W1.setCell ⟨w.heap.size, 0, none⟩ (.slice p1 t.cs.length c1)).setCell ⟨w.heap.size, 1, none⟩ (.slice p2 t.rs.length c2)) = W2 at bV9 bP9 o9 hB9 hHeld ⊢
    have bV := bV9; have bP := bP9; have o := o9; have hB := hB9
    clear bV9 bP9 o9 hB9
    refine yieldH (i := 5) (v := ?_) rfl (by decide +kernel) (by decide +kernel) (by decide +kernel) (fun _ _ _ h => h) (by rfl) ?_ (by assumption) ?_; rotate_left
    · intro w' hSw; (try dsimp only at hSw); go_simp; (try with_reducible rfl)
    try simp only [Act.put, List.setIfInBounds_toArray, List.set_cons_zero, List.set_cons_succ, List.getElem_toArray, List.getElem_cons_succ, List.getElem_cons_zero]
    refine wpAnyH_done (by kernel_rfl) ?_ _
    have y0 := cellW bP.out 0 _ rfl _ (Below.refl _ _); have y1 := cellW bP.out 1 _ rfl _ (Below.refl _ _)
    go_wp2
    exact bodyPost_ret (v := .tuple #[.agg #[.slice p1 t.cs.length c1, .slice p2 t.rs.length c2], .int .i64 (1 + (r8 : Int))]) (by simp [results, Try.results9, go_sem, y0, y1]; try rfl) rfl ⟨t, p1, p2, c1, c2, (1 + (r8 : Int)), rfl, OwnT.leT o.out (by omega), hn, hB⟩
  · refine wp_region_held_drew (S := (fun w' => w'.heap[V]? = some (.cells #[.slice p1 t.cs.length c1, .slice p2 t.rs.length c2] 26 (0, 0)))) (by kernel_rfl) ?_ (fun hHeld => ?_)
    · (try dsimp only); exact bV.out
    replace bV : Hid ((World.drew w3).heap[V]? = some (.cells #[.slice p1 t.cs.length c1, .slice p2 t.rs.length c2] 26 (0, 0))) := bV.out
    replace bP : Hid ((World.drew w3).heap[w.heap.size]? = some (.cells #[.slice none 0 0, .slice none 0 0] 26 (0, 0))) := bP.out
    replace o : Hid (OwnT (World.drew w3) g _ _ t) := o.out.below (Below.drew (Below.refl _ _))
    replace hB : Below w.heap.size w (World.drew w3) := Below.drew hB
    replace hD : Hid (Dr b B a len cap w1 (World.drew w3)) := hD.out.below (Below.drew (Below.refl _ _))
    generalize (World.drew w3) = W0 at bV bP o hB hD hHeld ⊢
    refine yieldH (i := 0) (v := ?_) rfl (by kernel_rfl) (by kernel_rfl) (by kernel_rfl) (fun _ _ _ h => h) (by rfl) ?_ (by assumption) ?_; rotate_left
    · intro w' hSw; (try dsimp only at hSw); have q0 := cellW hSw 0 _ rfl w' (Below.refl _ _); have q1 := cellW hSw 1 _ rfl w' (Below.refl _ _); go_simp; (try with_reducible rfl)
    try simp only [Act.put, List.setIfInBounds_toArray, List.set_cons_zero, List.set_cons_succ, List.getElem_toArray, List.getElem_cons_succ, List.getElem_cons_zero]
    refine yieldH (i := 2) (v := ?_) rfl (by kernel_rfl) (by kernel_rfl) (by kernel_rfl) (fun _ _ _ h => h) (by rfl) ?_ (by assumption) ?_; rotate_left
    · intro w' hSw; (try dsimp only at hSw); go_simp; (try with_reducible rfl)
    try simp only [Act.put, List.setIfInBounds_toArray, List.set_cons_zero, List.set_cons_succ, List.getElem_toArray, List.getElem_cons_succ, List.getElem_cons_zero]
    refine wpAnyH_ready (rs := [1, 3]) (by kernel_rfl) (by simp) ?_
    refine (AllReadyH.cons rfl (fun Kc hK => ?_) (AllReadyH.cons rfl (fun Kc hK => ?_) AllReadyH.nil))
    · go_simp
      (try dsimp only)
      refine hK.out _ _ ?_ (fun hHeld => ?_)
      · (try dsimp only); exact blk bV.out (all_alloc W0 (.cells #[.int .i64 0, .int .i64 9] 2))
      clear hK Kc
      try simp only [Act.put, List.setIfInBounds_toArray, List.set_cons_zero, List.set_cons_succ, List.getElem_toArray, List.getElem_cons_succ, List.getElem_cons_zero]
      have hb := all_alloc W0 (.cells #[.int .i64 0, .int .i64 9] 2)
      have gL0 := heap_alloc_new W0 (.cells #[.int .i64 0, .int .i64 9] 2)
      have hgl0 : b < W0.heap.size := by have := (Array.getElem?_eq_some_iff.1 bV.out).1; omega
      replace bV : Hid _ := blk bV.out hb
      replace bP : Hid _ := blk bP.out hb
      replace o : Hid (OwnT _ g _ _ t) := o.out.below hb
      replace hB := keepB hB (Nat.le_refl _) hb
      replace hD : Hid (Dr b B a len cap w1 _) := hD.out.below hb
      clear hb
      obtain ⟨GL, hGL⟩ : ∃ GL, W0.heap.size = GL := ⟨_, rfl⟩
      have gL : Hid ((W0.alloc (.cells #[.int .i64 0, .int .i64 9] 2)).heap[GL]? = some (.cells #[.int .i64 0, .int .i64 9] 2 (0, 0))) := by rw [← hGL]; exact gL0
      rw [hGL] at hgl0 ⊢
      clear gL0 hGL
      generalize W0.alloc (.cells #[.int .i64 0, .int .i64 9] 2) = W1 at bV bP o hB gL hHeld hD ⊢
      refine wpAnyH_ready (rs := [3]) (by kernel_rfl) (by simp) ?_
      refine (AllReadyH.cons rfl (fun Kc hK => ?_) AllReadyH.nil)
      go_simp
      go_at_call 45; refine (n_D hD.out 2 (by omega)).mono ?_; rintro e3 W2 ⟨r2, rfl, hr2, hD3, ho3⟩
      (try dsimp only)
      refine hK.out _ _ ?_ (fun hHeld => ?_)
      · (try dsimp only); exact ((ho3.block _ hVb).trans bV.out)
      clear hK Kc
      try simp only [Act.put, List.setIfInBounds_toArray, List.set_cons_zero, List.set_cons_succ, List.getElem_toArray, List.getElem_cons_succ, List.getElem_cons_zero]
      replace bV : Hid (W2.heap[V]? = _) := (ho3.block _ hVb).trans bV.out
      replace bP : Hid (W2.heap[w.heap.size]? = _) := (ho3.block _ (by omega)).trans bP.out
      replace o : Hid (OwnT W2 g _ _ t) := ⟨OwnI.onlyP o.out.c ho3 hbg, OwnI.onlyP o.out.r ho3 hbg, o.out.ne⟩
      replace hB : Below w.heap.size w W2 := hbA.trans (hD3.grb.below (by omega) hbA.size)
      replace gL : Hid (W2.heap[GL]? = _) := (ho3.block _ (by omega)).trans gL.out
      clear hD3 ho3 hD
      have hr22 : r2 < 2 := by omega
      have hi2 : (r2 : Int) < 2 := by omega
      have hsz2 : b < W2.heap.size := by have := (Array.getElem?_eq_some_iff.1 bV.out).1; omega
      refine yieldH (i := 4) (v := ?_) rfl (by kernel_rfl) (by kernel_rfl) (by kernel_rfl) (fun _ _ _ h => h) (by rfl) ?_ (by assumption) ?_; rotate_left
      · intro w' hSw; (try dsimp only at hSw); go_simp; (try with_reducible rfl)
      try simp only [Act.put, List.setIfInBounds_toArray, List.set_cons_zero, List.set_cons_succ, List.getElem_toArray, List.getElem_cons_succ, List.getElem_cons_zero]
      refine wpAnyH_ready (rs := [5, 6]) (by kernel_rfl) (by simp) ?_
      refine (AllReadyH.cons rfl (fun Kc hK => ?_) (AllReadyH.cons rfl (fun Kc hK => ?_) AllReadyH.nil))
      · have hcl := tab2_cell gL.out r2 hr22
        obtain ⟨xv, hxv⟩ : ∃ xv, tab2v.getD r2 0 = xv := ⟨_, rfl⟩
        rw [hxv] at hcl
        clear hxv
        go_simp
        (try dsimp only)
        refine hK.out _ _ ?_ (fun hHeld => ?_)
        · (try dsimp only); exact bV.out
        clear hK Kc
        try simp only [Act.put, List.setIfInBounds_toArray, List.set_cons_zero, List.set_cons_succ, List.getElem_toArray, List.getElem_cons_succ, List.getElem_cons_zero]
        clear hcl
        refine wpAnyH_ready (rs := [6]) (by kernel_rfl) (by simp) ?_
        refine (AllReadyH.cons rfl (fun Kc hK => ?_) AllReadyH.nil)
        have z0 := cellW bP.out 0 _ rfl _ (Below.refl _ _); have z1 := cellW bP.out 1 _ rfl _ (Below.refl _ _); have g0 := frozenW bP.out 0 _ (Below.refl _ _); have g1 := frozenW bP.out 1 _ (Below.refl _ _)
        have bV9 : Hid (((W2.setCell ⟨w.heap.size, 0, none⟩ (.slice p1 t.cs.length c1)).setCell ⟨w.heap.size, 1, none⟩ (.slice p2 t.rs.length c2)).heap[V]? = _) := blk_far (blk_far bV.out (by show V ≠ w.heap.size; omega) _) (by show V ≠ w.heap.size; omega) _
        have bP9 : Hid (((W2.setCell ⟨w.heap.size, 0, none⟩ (.slice p1 t.cs.length c1)).setCell ⟨w.heap.size, 1, none⟩ (.slice p2 t.rs.length c2)).heap[w.heap.size]? = some (.cells #[.slice p1 t.cs.length c1, .slice p2 t.rs.length c2] 26 (0, 0))) := blk_set (blk_set bP.out 0 _) 1 _
        have o9 : Hid (OwnT ((W2.setCell ⟨w.heap.size, 0, none⟩ (.slice p1 t.cs.length c1)).setCell ⟨w.heap.size, 1, none⟩ (.slice p2 t.rs.length c2)) g _ _ t) := OwnT.farT (OwnT.farT o.out (by simp only; omega) _) (by simp only; omega) _
        have hB9 : Below w.heap.size w ((W2.setCell ⟨w.heap.size, 0, none⟩ (.slice p1 t.cs.length c1)).setCell ⟨w.heap.size, 1, none⟩ (.slice p2 t.rs.length c2)) := (hB.setCell (Nat.le_refl _) _).setCell (Nat.le_refl _) _
        have gL9 : Hid (((W2.setCell ⟨w.heap.size, 0, none⟩ (.slice p1 t.cs.length c1)).setCell ⟨w.heap.size, 1, none⟩ (.slice p2 t.rs.length c2)).heap[GL]? = _) := blk_far (blk_far gL.out (by show GL ≠ w.heap.size; omega) _) (by show GL ≠ w.heap.size; omega) _
        go_simp
        (try dsimp only)
        refine hK.out _ _ ?_ (fun hHeld => ?_)
        · (try dsimp only); exact bV9.out
        clear hK Kc
        try simp only [Act.put, List.setIfInBounds_toArray, List.set_cons_zero, List.set_cons_succ, List.getElem_toArray, List.getElem_cons_succ, List.getElem_cons_zero]
        clear z0 z1 g0 g1 bV bP o hB gL
        generalize ((W2.setCell ⟨w.heap.size, 0, none⟩ (.slice p1 t.cs.length c1)).setCell ⟨w.heap.size, 1, none⟩ (.slice p2 t.rs.length c2)) = W3 at bV9 bP9 o9 hB9 gL9 hHeld ⊢
        have bV := bV9; have bP := bP9; have o := o9; have hB := hB9
        have gL := gL9
        clear bV9 bP9 o9 hB9 gL9
        refine yieldH (i := 7) (v := ?_) rfl (by decide +kernel) (by decide +kernel) (by decide +kernel) (fun _ _ _ h => h) (by rfl) ?_ (by assumption) ?_; rotate_left
        · intro w' hSw; (try dsimp only at hSw); go_simp; (try with_reducible rfl)
        try simp only [Act.put, List.setIfInBounds_toArray, List.set_cons_zero, List.set_cons_succ, List.getElem_toArray, List.getElem_cons_succ, List.getElem_cons_zero]
        refine wpAnyH_done (by kernel_rfl) ?_ _
        have y0 := cellW bP.out 0 _ rfl _ (Below.refl _ _); have y1 := cellW bP.out 1 _ rfl _ (Below.refl _ _)
        go_wp2
        exact bodyPost_ret (v := .tuple #[.agg #[.slice p1 t.cs.length c1, .slice p2 t.rs.length c2], .int .i64 xv]) (by simp [results, Try.results9, go_sem, y0, y1]; try rfl) rfl ⟨t, p1, p2, c1, c2, xv, rfl, OwnT.leT o.out (by omega), hn, hB⟩
      · have z0 := cellW bP.out 0 _ rfl _ (Below.refl _ _); have z1 := cellW bP.out 1 _ rfl _ (Below.refl _ _); have g0 := frozenW bP.out 0 _ (Below.refl _ _); have g1 := frozenW bP.out 1 _ (Below.refl _ _)
        have bV9 : Hid (((W2.setCell ⟨w.heap.size, 0, none⟩ (.slice p1 t.cs.length c1)).setCell ⟨w.heap.size, 1, none⟩ (.slice p2 t.rs.length c2)).heap[V]? = _) := blk_far (blk_far bV.out (by show V ≠ w.heap.size; omega) _) (by show V ≠ w.heap.size; omega) _
        have bP9 : Hid (((W2.setCell ⟨w.heap.size, 0, none⟩ (.slice p1 t.cs.length c1)).setCell ⟨w.heap.size, 1, none⟩ (.slice p2 t.rs.length c2)).heap[w.heap.size]? = some (.cells #[.slice p1 t.cs.length c1, .slice p2 t.rs.length c2] 26 (0, 0))) := blk_set (blk_set bP.out 0 _) 1 _
        have o9 : Hid (OwnT ((W2.setCell ⟨w.heap.size, 0, none⟩ (.slice p1 t.cs.length c1)).setCell ⟨w.heap.size, 1, none⟩ (.slice p2 t.rs.length c2)) g _ _ t) := OwnT.farT (OwnT.farT o.out (by simp only; omega) _) (by simp only; omega) _
        have hB9 : Below w.heap.size w ((W2.setCell ⟨w.heap.size, 0, none⟩ (.slice p1 t.cs.length c1)).setCell ⟨w.heap.size, 1, none⟩ (.slice p2 t.rs.length c2)) := (hB.setCell (Nat.le_refl _) _).setCell (Nat.le_refl _) _
        have gL9 : Hid (((W2.setCell ⟨w.heap.size, 0, none⟩ (.slice p1 t.cs.length c1)).setCell ⟨w.heap.size, 1, none⟩ (.slice p2 t.rs.length c2)).heap[GL]? = _) := blk_far (blk_far gL.out (by show GL ≠ w.heap.size; omega) _) (by show GL ≠ w.heap.size; omega) _
        go_simp
        (try dsimp only)
        refine hK.out _ _ ?_ (fun hHeld => ?_)
        · (try dsimp only); exact bV9.out
        clear hK Kc
        try simp only [Act.put, List.setIfInBounds_toArray, List.set_cons_zero, List.set_cons_succ, List.getElem_toArray, List.getElem_cons_succ, List.getElem_cons_zero]
        clear z0 z1 g0 g1 bV bP o hB gL
        generalize ((W2.setCell ⟨w.heap.size, 0, none⟩ (.slice p1 t.cs.length c1)).setCell ⟨w.heap.size, 1, none⟩ (.slice p2 t.rs.length c2)) = W3 at bV9 bP9 o9 hB9 gL9 hHeld ⊢
        have bV := bV9; have bP := bP9; have o := o9; have hB := hB9
        have gL := gL9
        clear bV9 bP9 o9 hB9 gL9
        refine wpAnyH_ready (rs := [5]) (by kernel_rfl) (by simp) ?_
        refine (AllReadyH.cons rfl (fun Kc hK => ?_) AllReadyH.nil)
        have hcl := tab2_cell gL.out r2 hr22
        obtain ⟨xv, hxv⟩ : ∃ xv, tab2v.getD r2 0 = xv := ⟨_, rfl⟩
        rw [hxv] at hcl
        clear hxv
        go_simp
        (try dsimp only)
        refine hK.out _ _ ?_ (fun hHeld => ?_)
        · (try dsimp only); exact bV.out
        clear hK Kc
        try simp only [Act.put, List.setIfInBounds_toArray, List.set_cons_zero, List.set_cons_succ, List.getElem_toArray, List.getElem_cons_succ, List.getElem_cons_zero]
        clear hcl
        refine yieldH (i := 7) (v := ?_) rfl (by decide +kernel) (by decide +kernel) (by decide +kernel) (fun _ _ _ h => h) (by rfl) ?_ (by assumption) ?_; rotate_left
        · intro w' hSw; (try dsimp only at hSw); go_simp; (try with_reducible rfl)
        try simp only [Act.put, List.setIfInBounds_toArray, List.set_cons_zero, List.set_cons_succ, List.getElem_toArray, List.getElem_cons_succ, List.getElem_cons_zero]
        refine wpAnyH_done (by kernel_rfl) ?_ _
        have y0 := cellW bP.out 0 _ rfl _ (Below.refl _ _); have y1 := cellW bP.out 1 _ rfl _ (Below.refl _ _)
        go_wp2
        exact bodyPost_ret (v := .tuple #[.agg #[.slice p1 t.cs.length c1, .slice p2 t.rs.length c2], .int .i64 xv]) (by simp [results, Try.results9, go_sem, y0, y1]; try rfl) rfl ⟨t, p1, p2, c1, c2, xv, rfl, OwnT.leT o.out (by omega), hn, hB⟩
    · go_simp
      go_at_call 45; refine (n_D hD.out 2 (by omega)).mono ?_; rintro e3 W1 ⟨r2, rfl, hr2, hD3, ho3⟩
      (try dsimp only)
      refine hK.out _ _ ?_ (fun hHeld => ?_)
      · (try dsimp only); exact ((ho3.block _ hVb).trans bV.out)
      clear hK Kc
      try simp only [Act.put, List.setIfInBounds_toArray, List.set_cons_zero, List.set_cons_succ, List.getElem_toArray, List.getElem_cons_succ, List.getElem_cons_zero]
      replace bV : Hid (W1.heap[V]? = _) := (ho3.block _ hVb).trans bV.out
      replace bP : Hid (W1.heap[w.heap.size]? = _) := (ho3.block _ (by omega)).trans bP.out
      replace o : Hid (OwnT W1 g _ _ t) := ⟨OwnI.onlyP o.out.c ho3 hbg, OwnI.onlyP o.out.r ho3 hbg, o.out.ne⟩
      replace hB : Below w.heap.size w W1 := hbA.trans (hD3.grb.below (by omega) hbA.size)
      clear hD3 ho3 hD
      have hr22 : r2 < 2 := by omega
      have hi2 : (r2 : Int) < 2 := by omega
      have hsz1 : b < W1.heap.size := by have := (Array.getElem?_eq_some_iff.1 bV.out).1; omega
      refine wpAnyH_ready (rs := [1, 6]) (by kernel_rfl) (by simp) ?_
      refine (AllReadyH.cons rfl (fun Kc hK => ?_) (AllReadyH.cons rfl (fun Kc hK => ?_) AllReadyH.nil))
      · go_simp
        (try dsimp only)
        refine hK.out _ _ ?_ (fun hHeld => ?_)
        · (try dsimp only); exact blk bV.out (all_alloc W1 (.cells #[.int .i64 0, .int .i64 9] 2))
        clear hK Kc
        try simp only [Act.put, List.setIfInBounds_toArray, List.set_cons_zero, List.set_cons_succ, List.getElem_toArray, List.getElem_cons_succ, List.getElem_cons_zero]
        have hb := all_alloc W1 (.cells #[.int .i64 0, .int .i64 9] 2)
        have gL0 := heap_alloc_new W1 (.cells #[.int .i64 0, .int .i64 9] 2)
        have hgl0 : b < W1.heap.size := by have := (Array.getElem?_eq_some_iff.1 bV.out).1; omega
        replace bV : Hid _ := blk bV.out hb
        replace bP : Hid _ := blk bP.out hb
        replace o : Hid (OwnT _ g _ _ t) := o.out.below hb
        replace hB := keepB hB (Nat.le_refl _) hb
        clear hb
        obtain ⟨GL, hGL⟩ : ∃ GL, W1.heap.size = GL := ⟨_, rfl⟩
        have gL : Hid ((W1.alloc (.cells #[.int .i64 0, .int .i64 9] 2)).heap[GL]? = some (.cells #[.int .i64 0, .int .i64 9] 2 (0, 0))) := by rw [← hGL]; exact gL0
        rw [hGL] at hgl0 ⊢
        clear gL0 hGL
        generalize W1.alloc (.cells #[.int .i64 0, .int .i64 9] 2) = W2 at bV bP o hB gL hHeld ⊢
        refine yieldH (i := 4) (v := ?_) rfl (by kernel_rfl) (by kernel_rfl) (by kernel_rfl) (fun _ _ _ h => h) (by rfl) ?_ (by assumption) ?_; rotate_left
        · intro w' hSw; (try dsimp only at hSw); go_simp; (try with_reducible rfl)
        try simp only [Act.put, List.setIfInBounds_toArray, List.set_cons_zero, List.set_cons_succ, List.getElem_toArray, List.getElem_cons_succ, List.getElem_cons_zero]
        refine wpAnyH_ready (rs := [5, 6]) (by kernel_rfl) (by simp) ?_
        refine (AllReadyH.cons rfl (fun Kc hK => ?_) (AllReadyH.cons rfl (fun Kc hK => ?_) AllReadyH.nil))
        · have hcl := tab2_cell gL.out r2 hr22
          obtain ⟨xv, hxv⟩ : ∃ xv, tab2v.getD r2 0 = xv := ⟨_, rfl⟩
          rw [hxv] at hcl
          clear hxv
          go_simp
          (try dsimp only)
          refine hK.out _ _ ?_ (fun hHeld => ?_)
          · (try dsimp only); exact bV.out
          clear hK Kc
          try simp only [Act.put, List.setIfInBounds_toArray, List.set_cons_zero, List.set_cons_succ, List.getElem_toArray, List.getElem_cons_succ, List.getElem_cons_zero]
          clear hcl
          refine wpAnyH_ready (rs := [6]) (by kernel_rfl) (by simp) ?_
          refine (AllReadyH.cons rfl (fun Kc hK => ?_) AllReadyH.nil)
          have z0 := cellW bP.out 0 _ rfl _ (Below.refl _ _); have z1 := cellW bP.out 1 _ rfl _ (Below.refl _ _); have g0 := frozenW bP.out 0 _ (Below.refl _ _); have g1 := frozenW bP.out 1 _ (Below.refl _ _)
          have bV9 : Hid (((W2.setCell ⟨w.heap.size, 0, none⟩ (.slice p1 t.cs.length c1)).setCell ⟨w.heap.size, 1, none⟩ (.slice p2 t.rs.length c2)).heap[V]? = _) := blk_far (blk_far bV.out (by show V ≠ w.heap.size; omega) _) (by show V ≠ w.heap.size; omega) _
          have bP9 : Hid (((W2.setCell ⟨w.heap.size, 0, none⟩ (.slice p1 t.cs.length c1)).setCell ⟨w.heap.size, 1, none⟩ (.slice p2 t.rs.length c2)).heap[w.heap.size]? = some (.cells #[.slice p1 t.cs.length c1, .slice p2 t.rs.length c2] 26 (0, 0))) := blk_set (blk_set bP.out 0 _) 1 _
          have o9 : Hid (OwnT ((W2.setCell ⟨w.heap.size, 0, none⟩ (.slice p1 t.cs.length c1)).setCell ⟨w.heap.size, 1, none⟩ (.slice p2 t.rs.length c2)) g _ _ t) := OwnT.farT (OwnT.farT o.out (by simp only; omega) _) (by simp only; omega) _
          have hB9 : Below w.heap.size w ((W2.setCell ⟨w.heap.size, 0, none⟩ (.slice p1 t.cs.length c1)).setCell ⟨w.heap.size, 1, none⟩ (.slice p2 t.rs.length c2)) := (hB.setCell (Nat.le_refl _) _).setCell (Nat.le_refl _) _
          have gL9 : Hid (((W2.setCell ⟨w.heap.size, 0, none⟩ (.slice p1 t.cs.length c1)).setCell ⟨w.heap.size, 1, none⟩ (.slice p2 t.rs.length c2)).heap[GL]? = _) := blk_far (blk_far gL.out (by show GL ≠ w.heap.size; omega) _) (by show GL ≠ w.heap.size; omega) _
          go_simp
          (try dsimp only)
          refine hK.out _ _ ?_ (fun hHeld => ?_)
          · (try dsimp only); exact bV9.out
          clear hK Kc
          try simp only [Act.put, List.setIfInBounds_toArray, List.set_cons_zero, List.set_cons_succ, List.getElem_toArray, List.getElem_cons_succ, List.getElem_cons_zero]
          clear z0 z1 g0 g1 bV bP o hB gL
          generalize ((W2.setCell ⟨w.heap.size, 0, none⟩ (.slice p1 t.cs.length c1)).setCell ⟨w.heap.size, 1, none⟩ (.slice p2 t.rs.length c2)) = W3 at bV9 bP9 o9 hB9 gL9 hHeld ⊢
          have bV := bV9; have bP := bP9; have o := o9; have hB := hB9
          have gL := gL9
          clear bV9 bP9 o9 hB9 gL9
          refine yieldH (i := 7) (v := ?_) rfl (by decide +kernel) (by decide +kernel) (by decide +kernel) (fun _ _ _ h => h) (by rfl) ?_ (by assumption) ?_; rotate_left
          · intro w' hSw; (try dsimp only at hSw); go_simp; (try with_reducible rfl)
          try simp only [Act.put, List.setIfInBounds_toArray, List.set_cons_zero, List.set_cons_succ, List.getElem_toArray, List.getElem_cons_succ, List.getElem_cons_zero]
          refine wpAnyH_done (by kernel_rfl) ?_ _
          have y0 := cellW bP.out 0 _ rfl _ (Below.refl _ _); have y1 := cellW bP.out 1 _ rfl _ (Below.refl _ _)
          go_wp2
          exact bodyPost_ret (v := .tuple #[.agg #[.slice p1 t.cs.length c1, .slice p2 t.rs.length c2], .int .i64 xv]) (by simp [results, Try.results9, go_sem, y0, y1]; try rfl) rfl ⟨t, p1, p2, c1, c2, xv, rfl, OwnT.leT o.out (by omega), hn, hB⟩
        · have z0 := cellW bP.out 0 _ rfl _ (Below.refl _ _); have z1 := cellW bP.out 1 _ rfl _ (Below.refl _ _); have g0 := frozenW bP.out 0 _ (Below.refl _ _); have g1 := frozenW bP.out 1 _ (Below.refl _ _)
          have bV9 : Hid (((W2.setCell ⟨w.heap.size, 0, none⟩ (.slice p1 t.cs.length c1)).setCell ⟨w.heap.size, 1, none⟩ (.slice p2 t.rs.length c2)).heap[V]? = _) := blk_far (blk_far bV.out (by show V ≠ w.heap.size; omega) _) (by show V ≠ w.heap.size; omega) _
          have bP9 : Hid (((W2.setCell ⟨w.heap.size, 0, none⟩ (.slice p1 t.cs.length c1)).setCell ⟨w.heap.size, 1, none⟩ (.slice p2 t.rs.length c2)).heap[w.heap.size]? = some (.cells #[.slice p1 t.cs.length c1, .slice p2 t.rs.length c2] 26 (0, 0))) := blk_set (blk_set bP.out 0 _) 1 _
          have o9 : Hid (OwnT ((W2.setCell ⟨w.heap.size, 0, none⟩ (.slice p1 t.cs.length c1)).setCell ⟨w.heap.size, 1, none⟩ (.slice p2 t.rs.length c2)) g _ _ t) := OwnT.farT (OwnT.farT o.out (by simp only; omega) _) (by simp only; omega) _
          have hB9 : Below w.heap.size w ((W2.setCell ⟨w.heap.size, 0, none⟩ (.slice p1 t.cs.length c1)).setCell ⟨w.heap.size, 1, none⟩ (.slice p2 t.rs.length c2)) := (hB.setCell (Nat.le_refl _) _).setCell (Nat.le_refl _) _
          have gL9 : Hid (((W2.setCell ⟨w.heap.size, 0, none⟩ (.slice p1 t.cs.length c1)).setCell ⟨w.heap.size, 1, none⟩ (.slice p2 t.rs.length c2)).heap[GL]? = _) := blk_far (blk_far gL.out (by show GL ≠ w.heap.size; omega) _) (by show GL ≠ w.heap.size; omega) _
          go_simp
          (try dsimp only)
          refine hK.out _ _ ?_ (fun hHeld => ?_)
          · (try dsimp only); exact bV9.out
          clear hK Kc
          try simp only [Act.put, List.setIfInBounds_toArray, List.set_cons_zero, List.set_cons_succ, List.getElem_toArray, List.getElem_cons_succ, List.getElem_cons_zero]
          clear z0 z1 g0 g1 bV bP o hB gL
          generalize ((W2.setCell ⟨w.heap.size, 0, none⟩ (.slice p1 t.cs.length c1)).setCell ⟨w.heap.size, 1, none⟩ (.slice p2 t.rs.length c2)) = W3 at bV9 bP9 o9 hB9 gL9 hHeld ⊢
          have bV := bV9; have bP := bP9; have o := o9; have hB := hB9
          have gL := gL9
          clear bV9 bP9 o9 hB9 gL9
          refine wpAnyH_ready (rs := [5]) (by kernel_rfl) (by simp) ?_
          refine (AllReadyH.cons rfl (fun Kc hK => ?_) AllReadyH.nil)
          have hcl := tab2_cell gL.out r2 hr22
          obtain ⟨xv, hxv⟩ : ∃ xv, tab2v.getD r2 0 = xv := ⟨_, rfl⟩
          rw [hxv] at hcl
          clear hxv
          go_simp
          (try dsimp only)
          refine hK.out _ _ ?_ (fun hHeld => ?_)
          · (try dsimp only); exact bV.out
          clear hK Kc
          try simp only [Act.put, List.setIfInBounds_toArray, List.set_cons_zero, List.set_cons_succ, List.getElem_toArray, List.getElem_cons_succ, List.getElem_cons_zero]
          clear hcl
          refine yieldH (i := 7) (v := ?_) rfl (by decide +kernel) (by decide +kernel) (by decide +kernel) (fun _ _ _ h => h) (by rfl) ?_ (by assumption) ?_; rotate_left
          · intro w' hSw; (try dsimp only at hSw); go_simp; (try with_reducible rfl)
          try simp only [Act.put, List.setIfInBounds_toArray, List.set_cons_zero, List.set_cons_succ, List.getElem_toArray, List.getElem_cons_succ, List.getElem_cons_zero]
          refine wpAnyH_done (by kernel_rfl) ?_ _
          have y0 := cellW bP.out 0 _ rfl _ (Below.refl _ _); have y1 := cellW bP.out 1 _ rfl _ (Below.refl _ _)
          go_wp2
          exact bodyPost_ret (v := .tuple #[.agg #[.slice p1 t.cs.length c1, .slice p2 t.rs.length c2], .int .i64 xv]) (by simp [results, Try.results9, go_sem, y0, y1]; try rfl) rfl ⟨t, p1, p2, c1, c2, xv, rfl, OwnT.leT o.out (by omega), hn, hB⟩
      · have z0 := cellW bP.out 0 _ rfl _ (Below.refl _ _); have z1 := cellW bP.out 1 _ rfl _ (Below.refl _ _); have g0 := frozenW bP.out 0 _ (Below.refl _ _); have g1 := frozenW bP.out 1 _ (Below.refl _ _)
        have bV9 : Hid (((W1.setCell ⟨w.heap.size, 0, none⟩ (.slice p1 t.cs.length c1)).setCell ⟨w.heap.size, 1, none⟩ (.slice p2 t.rs.length c2)).heap[V]? = _) := blk_far (blk_far bV.out (by show V ≠ w.heap.size; omega) _) (by show V ≠ w.heap.size; omega) _
        have bP9 : Hid (((W1.setCell ⟨w.heap.size, 0, none⟩ (.slice p1 t.cs.length c1)).setCell ⟨w.heap.size, 1, none⟩ (.slice p2 t.rs.length c2)).heap[w.heap.size]? = some (.cells #[.slice p1 t.cs.length c1, .slice p2 t.rs.length c2] 26 (0, 0))) := blk_set (blk_set bP.out 0 _) 1 _
        have o9 : Hid (OwnT ((W1.setCell ⟨w.heap.size, 0, none⟩ (.slice p1 t.cs.length c1)).setCell ⟨w.heap.size, 1, none⟩ (.slice p2 t.rs.length c2)) g _ _ t) := OwnT.farT (OwnT.farT o.out (by simp only; omega) _) (by simp only; omega) _
        have hB9 : Below w.heap.size w ((W1.setCell ⟨w.heap.size, 0, none⟩ (.slice p1 t.cs.length c1)).setCell ⟨w.heap.size, 1, none⟩ (.slice p2 t.rs.length c2)) := (hB.setCell (Nat.le_refl _) _).setCell (Nat.le_refl _) _
        go_simp
        (try dsimp only)
        refine hK.out _ _ ?_ (fun hHeld => ?_)
        · (try dsimp only); exact bV9.out
        clear hK Kc
        try simp only [Act.put, List.setIfInBounds_toArray, List.set_cons_zero, List.set_cons_succ, List.getElem_toArray, List.getElem_cons_succ, List.getElem_cons_zero]
        clear z0 z1 g0 g1 bV bP o hB
        generalize ((W1.setCell ⟨w.heap.size, 0, none⟩ (.slice p1 t.cs.length c1)).setCell ⟨w.heap.size, 1, none⟩ (.slice p2 t.rs.length c2)) = W2 at bV9 bP9 o9 hB9 hHeld ⊢
        have bV := bV9; have bP := bP9; have o := o9; have hB := hB9
        clear bV9 bP9 o9 hB9
        refine wpAnyH_ready (rs := [1]) (by kernel_rfl) (by simp) ?_
        refine (AllReadyH.cons rfl (fun Kc hK => ?_) AllReadyH.nil)
        go_simp
        (try dsimp only)
        refine hK.out _ _ ?_ (fun hHeld => ?_)
        · (try dsimp only); exact blk bV.out (all_alloc W2 (.cells #[.int .i64 0, .int .i64 9] 2))
        clear hK Kc
        try simp only [Act.put, List.setIfInBounds_toArray, List.set_cons_zero, List.set_cons_succ, List.getElem_toArray, List.getElem_cons_succ, List.getElem_cons_zero]
        have hb := all_alloc W2 (.cells #[.int .i64 0, .int .i64 9] 2)
        have gL0 := heap_alloc_new W2 (.cells #[.int .i64 0, .int .i64 9] 2)
        have hgl0 : b < W2.heap.size := by have := (Array.getElem?_eq_some_iff.1 bV.out).1; omega
        replace bV : Hid _ := blk bV.out hb
        replace bP : Hid _ := blk bP.out hb
        replace o : Hid (OwnT _ g _ _ t) := o.out.below hb
        replace hB := keepB hB (Nat.le_refl _) hb
        clear hb
        obtain ⟨GL, hGL⟩ : ∃ GL, W2.heap.size = GL := ⟨_, rfl⟩
        have gL : Hid ((W2.alloc (.cells #[.int .i64 0, .int .i64 9] 2)).heap[GL]? = some (.cells #[.int .i64 0, .int .i64 9] 2 (0, 0))) := by rw [← hGL]; exact gL0
        rw [hGL] at hgl0 ⊢
        clear gL0 hGL
        generalize W2.alloc (.cells #[.int .i64 0, .int .i64 9] 2) = W3 at bV bP o hB gL hHeld ⊢
        refine yieldH (i := 4) (v := ?_) rfl (by kernel_rfl) (by kernel_rfl) (by kernel_rfl) (fun _ _ _ h => h) (by rfl) ?_ (by assumption) ?_; rotate_left
        · intro w' hSw; (try dsimp only at hSw); go_simp; (try with_reducible rfl)
        try simp only [Act.put, List.setIfInBounds_toArray, List.set_cons_zero, List.set_cons_succ, List.getElem_toArray, List.getElem_cons_succ, List.getElem_cons_zero]
        refine wpAnyH_ready (rs := [5]) (by kernel_rfl) (by simp) ?_
        refine (AllReadyH.cons rfl (fun Kc hK => ?_) AllReadyH.nil)
        have hcl := tab2_cell gL.out r2 hr22
        obtain ⟨xv, hxv⟩ : ∃ xv, tab2v.getD r2 0 = xv := ⟨_, rfl⟩
        rw [hxv] at hcl
        clear hxv
        go_simp
        (try dsimp only)
        refine hK.out _ _ ?_ (fun hHeld => ?_)
        · (try dsimp only); exact bV.out
        clear hK Kc
        try simp only [Act.put, List.setIfInBounds_toArray, List.set_cons_zero, List.set_cons_succ, List.getElem_toArray, List.getElem_cons_succ, List.getElem_cons_zero]
        clear hcl
        refine yieldH (i := 7) (v := ?_) rfl (by decide +kernel) (by decide +kernel) (by decide +kernel) (fun _ _ _ h => h) (by rfl) ?_ (by assumption) ?_; rotate_left
        · intro w' hSw; (try dsimp only at hSw); go_simp; (try with_reducible rfl)
        try simp only [Act.put, List.setIfInBounds_toArray, List.set_cons_zero, List.set_cons_succ, List.getElem_toArray, List.getElem_cons_succ, List.getElem_cons_zero]
        refine wpAnyH_done (by kernel_rfl) ?_ _
        have y0 := cellW bP.out 0 _ rfl _ (Below.refl _ _); have y1 := cellW bP.out 1 _ rfl _ (Below.refl _ _)
        go_wp2
        exact bodyPost_ret (v := .tuple #[.agg #[.slice p1 t.cs.length c1, .slice p2 t.rs.length c2], .int .i64 xv]) (by simp [results, Try.results9, go_sem, y0, y1]; try rfl) rfl ⟨t, p1, p2, c1, c2, xv, rfl, OwnT.leT o.out (by omega), hn, hB⟩
end Go.Proofs.Ytineecongiplgaa
