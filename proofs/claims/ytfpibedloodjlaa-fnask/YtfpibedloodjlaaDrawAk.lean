/- THE DRAW of a question. -/
import Derived.Test.YtfpibedloodjlaaDrawA
import Derived.Test.YtfpibedloodjlaaTail
namespace Go.Proofs.Ytfpibedloodjlaa
open Go.RowKit
set_option linter.unusedVariables false
set_option linter.unusedSimpArgs false

theorem own_oneV {W : World} {B g : Nat} {n : Int} (hg : g = W.heap.size) (hB : B < g) : OwnI (W.alloc (.cells #[.int .i64 n] 2)) (B + 1) (.slice (some ⟨g, 0, none⟩) 1 1) [n] := by
  subst hg
  exact ⟨by simp, .inr ⟨W.heap.size, 1, _, rfl, hB, heap_alloc_new W _, Nat.le_refl _, by decide, rfl, rfl⟩⟩
def tab8 : List Int := [0, 4, 8, 9, 16, 17, 64, 65]
theorem tab8_cell (r : Nat) (h : r < 8) (W : World) : (W.alloc (.cells #[.int .i64 0, .int .i64 4, .int .i64 8, .int .i64 9, .int .i64 16, .int .i64 17, .int .i64 64, .int .i64 65] 2)).cell? ⟨W.heap.size, r, none⟩ = some (.int .i64 (tab8.getD r 0)) := by
  have hn := heap_alloc_new W (.cells #[.int .i64 0, .int .i64 4, .int .i64 8, .int .i64 9, .int .i64 16, .int .i64 17, .int .i64 64, .int .i64 65] 2)
  simp only [World.cell?, hn]
  match r, h with
  | 0, _ => rfl
  | 1, _ => rfl
  | 2, _ => rfl
  | 3, _ => rfl
  | 4, _ => rfl
  | 5, _ => rfl
  | 6, _ => rfl
  | 7, _ => rfl
def tab3 : List Int := [-1, 65535, 65536]
theorem tab3_cell (r : Nat) (h : r < 3) (W : World) : (W.alloc (.cells #[.int .i64 (-1), .int .i64 65535, .int .i64 65536] 2)).cell? ⟨W.heap.size, r, none⟩ = some (.int .i64 (tab3.getD r 0)) := by
  have hn := heap_alloc_new W (.cells #[.int .i64 (-1), .int .i64 65535, .int .i64 65536] 2)
  simp only [World.cell?, hn]
  match r, h with
  | 0, _ => rfl
  | 1, _ => rfl
  | 2, _ => rfl
def tab6 : List Int := [1, 3, 5, 6, 15, 16]
theorem tab6_at {W : World} {g : Nat} (h : W.heap[g]? = some (.cells #[.int .i64 1, .int .i64 3, .int .i64 5, .int .i64 6, .int .i64 15, .int .i64 16] 2 (0, 0))) (r : Nat) (hr : r < 6) : W.cell? ⟨g, r, none⟩ = some (.int .i64 (tab6.getD r 0)) := by
  simp only [World.cell?, h]
  match r, hr with
  | 0, _ => rfl
  | 1, _ => rfl
  | 2, _ => rfl
  | 3, _ => rfl
  | 4, _ => rfl
  | 5, _ => rfl
set_option maxRecDepth 100000 in
set_option maxHeartbeats 12800000 in
theorem l04Ask_D {b B : Nat} {a : Option Addr} {len cap : Nat} {w0 w : World} (h : Dr b B a len cap w0 w) :
    Calls Try.prog 33 #[.pointer (some ⟨b, 0, none⟩)] w (PAsk b B a len cap w0) := by
  have HD : Hid (Dr b B a len cap w0 (w.alloc (.cells #[.int .i64 0, .int .i64 0, .int .i64 0, .slice none 0 0] 25))) := h.alloc (.cells #[.int .i64 0, .int .i64 0, .int .i64 0, .slice none 0 0] 25)
  have hP0 : Hid _ := heap_alloc_new w (.cells #[.int .i64 0, .int .i64 0, .int .i64 0, .slice none 0 0] 25)
  have hbP : b < w.heap.size := h.lt
  have hwP : w0.heap.size ≤ w.heap.size := h.size
  clear h
  go_enter Try.func33, Try.ntmps33
  go_upto_region 1 with fail
  generalize w.alloc (.cells #[.int .i64 0, .int .i64 0, .int .i64 0, .slice none 0 0] 25) = A0 at HD hP0 ⊢
  generalize w.heap.size = P at hbP hwP hP0 ⊢
  go_cut [3] (fun s3 wx => ∃ V, s3 = .pointer (some ⟨V, 0, none⟩) ∧ QAsk b B a len cap w0 P V 0 wx)
  case first =>
    have D0 : Hid (Dr b B a len cap w0 (World.drew A0)) := HD.out.below (Below.drew (Below.refl _ _))
    have P0 : Hid ((World.drew A0).heap[P]? = some (.cells #[.int .i64 0, .int .i64 0, .int .i64 0, .slice none 0 0] 25 (0, 0))) := hP0.out
    clear HD hP0
    refine wp_region_held_drew (S := (fun w' => Dr b B a len cap w0 w')) (by kernel_rfl) ?_ (fun hHeld => ?_)
    · (try dsimp only); exact D0.out
    clear hHeld
    have hHeld := D0.out
    generalize World.drew A0 = x0 at D0 P0 hHeld ⊢
    refine yieldH (i := 1) (v := ?_) rfl (by kernel_rfl) (by kernel_rfl) (by kernel_rfl) (fun _ _ _ h => h) (by rfl) ?_ (by assumption) ?_; rotate_left
    · intro w hSw; (try dsimp only at hSw); go_simp; (try with_reducible rfl)
    try simp only [Act.put, List.setIfInBounds_toArray, List.set_cons_zero, List.set_cons_succ, List.getElem_toArray, List.getElem_cons_succ, List.getElem_cons_zero]
    refine yieldH (i := 5) (v := ?_) rfl (by kernel_rfl) (by kernel_rfl) (by kernel_rfl) (fun _ _ _ h => h) (by rfl) ?_ (by assumption) ?_; rotate_left
    · intro w hSw; (try dsimp only at hSw); go_simp; (try with_reducible rfl)
    try simp only [Act.put, List.setIfInBounds_toArray, List.set_cons_zero, List.set_cons_succ, List.getElem_toArray, List.getElem_cons_succ, List.getElem_cons_zero]
    refine wpAnyH_ready (rs := [0, 2, 8]) (by kernel_rfl) (by simp) ?_
    refine (AllReadyH.cons rfl (fun Kc hK => ?_) (AllReadyH.cons rfl (fun Kc hK => ?_) (AllReadyH.cons rfl (fun Kc hK => ?_) AllReadyH.nil)))
    · go_simp
      try dsimp only
      refine hK.out _ _ ?_ (fun hHeld => ?_)
      · (try dsimp only); exact (D0.out.alloc (.cells #[.int .i64 1, .int .i64 3, .int .i64 5, .int .i64 6, .int .i64 15, .int .i64 16] 2))
      clear hK Kc
      try simp only [Act.put, List.setIfInBounds_toArray, List.set_cons_zero, List.set_cons_succ, List.getElem_toArray, List.getElem_cons_succ, List.getElem_cons_zero]
      have D1 : Hid (Dr b B a len cap w0 (x0.alloc (.cells #[.int .i64 1, .int .i64 3, .int .i64 5, .int .i64 6, .int .i64 15, .int .i64 16] 2))) := D0.out.alloc (.cells #[.int .i64 1, .int .i64 3, .int .i64 5, .int .i64 6, .int .i64 15, .int .i64 16] 2)
      have P1 : Hid ((x0.alloc (.cells #[.int .i64 1, .int .i64 3, .int .i64 5, .int .i64 6, .int .i64 15, .int .i64 16] 2)).heap[P]? = some (.cells #[.int .i64 0, .int .i64 0, .int .i64 0, .slice none 0 0] 25 (0, 0))) := blk P0.out (all_alloc x0 (.cells #[.int .i64 1, .int .i64 3, .int .i64 5, .int .i64 6, .int .i64 15, .int .i64 16] 2))
      have N1 : Hid ((x0.alloc (.cells #[.int .i64 1, .int .i64 3, .int .i64 5, .int .i64 6, .int .i64 15, .int .i64 16] 2)).heap[x0.heap.size]? = some (.cells #[.int .i64 1, .int .i64 3, .int .i64 5, .int .i64 6, .int .i64 15, .int .i64 16] 2 (0, 0))) := heap_alloc_new x0 (.cells #[.int .i64 1, .int .i64 3, .int .i64 5, .int .i64 6, .int .i64 15, .int .i64 16] 2)
      have LgT : P < x0.heap.size := (Array.getElem?_eq_some_iff.1 P0.out).1
      clear hHeld
      have hHeld := D1.out
      generalize x0.alloc (.cells #[.int .i64 1, .int .i64 3, .int .i64 5, .int .i64 6, .int .i64 15, .int .i64 16] 2) = x1 at D1 P1 N1 hHeld ⊢
      generalize x0.heap.size = gT at N1 LgT ⊢
      have T1 := N1
      refine wpAnyH_ready (rs := [2, 8]) (by kernel_rfl) (by simp) ?_
      refine (AllReadyH.cons rfl (fun Kc hK => ?_) (AllReadyH.cons rfl (fun Kc hK => ?_) AllReadyH.nil))
      · go_simp
        go_at_call 39; refine (n_D D1.out 6 (by omega)).mono ?_; rintro e x2 ⟨r1, rfl, hr2, hD2, ho2⟩
        try dsimp only
        refine hK.out _ _ ?_ (fun hHeld => ?_)
        · (try dsimp only); exact hD2
        clear hK Kc
        try simp only [Act.put, List.setIfInBounds_toArray, List.set_cons_zero, List.set_cons_succ, List.getElem_toArray, List.getElem_cons_succ, List.getElem_cons_zero]
        have D2 : Hid (Dr b B a len cap w0 x2) := hD2
        have P2 : Hid (x2.heap[P]? = some (.cells #[.int .i64 0, .int .i64 0, .int .i64 0, .slice none 0 0] 25 (0, 0))) := (ho2.block P (by omega)).trans P1.out
        have T2 : Hid (x2.heap[gT]? = some (.cells #[.int .i64 1, .int .i64 3, .int .i64 5, .int .i64 6, .int .i64 15, .int .i64 16] 2 (0, 0))) := (ho2.block gT (by omega)).trans T1.out
        have hs1 : r1 < 6 := by omega
        have hi1 : (r1 : Int) < 6 := by omega
        clear ho2 hr2
        refine yieldH (i := 3) (v := ?_) rfl (by kernel_rfl) (by kernel_rfl) (by kernel_rfl) (fun _ _ _ h => h) (by rfl) ?_ (by assumption) ?_; rotate_left
        · intro w hSw; (try dsimp only at hSw); go_simp; (try with_reducible rfl)
        try simp only [Act.put, List.setIfInBounds_toArray, List.set_cons_zero, List.set_cons_succ, List.getElem_toArray, List.getElem_cons_succ, List.getElem_cons_zero]
        refine wpAnyH_ready (rs := [4, 6, 8]) (by kernel_rfl) (by simp) ?_
        refine (AllReadyH.cons rfl (fun Kc hK => ?_) (AllReadyH.cons rfl (fun Kc hK => ?_) (AllReadyH.cons rfl (fun Kc hK => ?_) AllReadyH.nil)))
        · have lc := tab6_at T2.out r1 hs1
          go_simp
          try dsimp only
          refine hK.out _ _ ?_ (fun hHeld => ?_)
          · (try dsimp only); exact D2.out
          clear hK Kc
          try simp only [Act.put, List.setIfInBounds_toArray, List.set_cons_zero, List.set_cons_succ, List.getElem_toArray, List.getElem_cons_succ, List.getElem_cons_zero]
          refine wpAnyH_ready (rs := [6, 8]) (by kernel_rfl) (by simp) ?_
          refine (AllReadyH.cons rfl (fun Kc hK => ?_) (AllReadyH.cons rfl (fun Kc hK => ?_) AllReadyH.nil))
          · go_simp
            go_at_call 39; refine (n_D D2.out 14 (by omega)).mono ?_; rintro e x3 ⟨r2, rfl, hr3, hD3, ho3⟩
            try dsimp only
            refine hK.out _ _ ?_ (fun hHeld => ?_)
            · (try dsimp only); exact hD3
            clear hK Kc
            try simp only [Act.put, List.setIfInBounds_toArray, List.set_cons_zero, List.set_cons_succ, List.getElem_toArray, List.getElem_cons_succ, List.getElem_cons_zero]
            have D3 : Hid (Dr b B a len cap w0 x3) := hD3
            have P3 : Hid (x3.heap[P]? = some (.cells #[.int .i64 0, .int .i64 0, .int .i64 0, .slice none 0 0] 25 (0, 0))) := (ho3.block P (by omega)).trans P2.out
            have T3 : Hid (x3.heap[gT]? = some (.cells #[.int .i64 1, .int .i64 3, .int .i64 5, .int .i64 6, .int .i64 15, .int .i64 16] 2 (0, 0))) := (ho3.block gT (by omega)).trans T2.out
            clear ho3 hr3
            refine yieldH (i := 7) (v := ?_) rfl (by kernel_rfl) (by kernel_rfl) (by kernel_rfl) (fun _ _ _ h => h) (by rfl) ?_ (by assumption) ?_; rotate_left
            · intro w hSw; (try dsimp only at hSw); go_simp; (try with_reducible rfl)
            try simp only [Act.put, List.setIfInBounds_toArray, List.set_cons_zero, List.set_cons_succ, List.getElem_toArray, List.getElem_cons_succ, List.getElem_cons_zero]
            refine wpAnyH_ready (rs := [8]) (by kernel_rfl) (by simp) ?_
            refine (AllReadyH.cons rfl (fun Kc hK => ?_) AllReadyH.nil)
            go_simp
            try dsimp only
            refine hK.out _ _ ?_ (fun hHeld => ?_)
            · (try dsimp only); exact (D3.out.alloc (.cells #[.int .i64 0, .int .i64 0, .int .i64 0, .slice none 0 0] 25))
            clear hK Kc
            try simp only [Act.put, List.setIfInBounds_toArray, List.set_cons_zero, List.set_cons_succ, List.getElem_toArray, List.getElem_cons_succ, List.getElem_cons_zero]
            have D4 : Hid (Dr b B a len cap w0 (x3.alloc (.cells #[.int .i64 0, .int .i64 0, .int .i64 0, .slice none 0 0] 25))) := D3.out.alloc (.cells #[.int .i64 0, .int .i64 0, .int .i64 0, .slice none 0 0] 25)
            have P4 : Hid ((x3.alloc (.cells #[.int .i64 0, .int .i64 0, .int .i64 0, .slice none 0 0] 25)).heap[P]? = some (.cells #[.int .i64 0, .int .i64 0, .int .i64 0, .slice none 0 0] 25 (0, 0))) := blk P3.out (all_alloc x3 (.cells #[.int .i64 0, .int .i64 0, .int .i64 0, .slice none 0 0] 25))
            have N4 : Hid ((x3.alloc (.cells #[.int .i64 0, .int .i64 0, .int .i64 0, .slice none 0 0] 25)).heap[x3.heap.size]? = some (.cells #[.int .i64 0, .int .i64 0, .int .i64 0, .slice none 0 0] 25 (0, 0))) := heap_alloc_new x3 (.cells #[.int .i64 0, .int .i64 0, .int .i64 0, .slice none 0 0] 25)
            have LV : P < x3.heap.size := (Array.getElem?_eq_some_iff.1 P3.out).1
            have T4 : Hid ((x3.alloc (.cells #[.int .i64 0, .int .i64 0, .int .i64 0, .slice none 0 0] 25)).heap[gT]? = some (.cells #[.int .i64 1, .int .i64 3, .int .i64 5, .int .i64 6, .int .i64 15, .int .i64 16] 2 (0, 0))) := blk T3.out (all_alloc x3 (.cells #[.int .i64 0, .int .i64 0, .int .i64 0, .slice none 0 0] 25))
            clear hHeld
            have hHeld := D4.out
            generalize x3.alloc (.cells #[.int .i64 0, .int .i64 0, .int .i64 0, .slice none 0 0] 25) = x4 at D4 P4 N4 T4 hHeld ⊢
            generalize x3.heap.size = V at N4 LV ⊢
            have V4 := N4
            refine wpAnyH_ready (rs := [9]) (by kernel_rfl) (by simp) ?_
            refine (AllReadyH.cons rfl (fun Kc hK => ?_) AllReadyH.nil)
            have u0 := cellW V4.out 0 _ rfl x4 (Below.refl _ _)
            have u1 := cellW V4.out 1 _ rfl x4 (Below.refl _ _)
            have u2 := cellW V4.out 2 _ rfl x4 (Below.refl _ _)
            have u3 := cellW V4.out 3 _ rfl x4 (Below.refl _ _)
            have uf0 := frozenW V4.out 0 x4 (Below.refl _ _)
            have uf1 := frozenW V4.out 1 x4 (Below.refl _ _)
            have uf2 := frozenW V4.out 2 x4 (Below.refl _ _)
            have uf3 := frozenW V4.out 3 x4 (Below.refl _ _)
            go_simp
            try dsimp only
            refine hK.out _ _ ?_ (fun hHeld => ?_)
            · (try dsimp only); exact (Dr.set (Dr.set (Dr.set (Dr.set D4.out (by omega) (by omega) _ _) (by omega) (by omega) _ _) (by omega) (by omega) _ _) (by omega) (by omega) _ _)
            clear hK Kc
            try simp only [Act.put, List.setIfInBounds_toArray, List.set_cons_zero, List.set_cons_succ, List.getElem_toArray, List.getElem_cons_succ, List.getElem_cons_zero]
            refine wpAnyH_done (by kernel_rfl) ?_ _
            go_wp2
            go_meet
            exact ⟨V, rfl, QAsk.mk (y := ⟨_, _, _, []⟩) ⟨hHeld, (Joins.block_setCell (i := 3) (Joins.block_setCell (i := 2) (Joins.block_setCell (i := 1) (Joins.block_setCell (i := 0) V4.out _) _) _) _), ((Below.heap_setCell _ _ _ _ (by simp only; omega)).trans ((Below.heap_setCell _ _ _ _ (by simp only; omega)).trans ((Below.heap_setCell _ _ _ _ (by simp only; omega)).trans ((Below.heap_setCell _ _ _ _ (by simp only; omega)).trans P4.out)))), OwnI.nil _ _, hbP, hwP, LV⟩ (by simp)⟩
          · go_simp
            try dsimp only
            refine hK.out _ _ ?_ (fun hHeld => ?_)
            · (try dsimp only); exact (D2.out.alloc (.cells #[.int .i64 0, .int .i64 0, .int .i64 0, .slice none 0 0] 25))
            clear hK Kc
            try simp only [Act.put, List.setIfInBounds_toArray, List.set_cons_zero, List.set_cons_succ, List.getElem_toArray, List.getElem_cons_succ, List.getElem_cons_zero]
            have D3 : Hid (Dr b B a len cap w0 (x2.alloc (.cells #[.int .i64 0, .int .i64 0, .int .i64 0, .slice none 0 0] 25))) := D2.out.alloc (.cells #[.int .i64 0, .int .i64 0, .int .i64 0, .slice none 0 0] 25)
            have P3 : Hid ((x2.alloc (.cells #[.int .i64 0, .int .i64 0, .int .i64 0, .slice none 0 0] 25)).heap[P]? = some (.cells #[.int .i64 0, .int .i64 0, .int .i64 0, .slice none 0 0] 25 (0, 0))) := blk P2.out (all_alloc x2 (.cells #[.int .i64 0, .int .i64 0, .int .i64 0, .slice none 0 0] 25))
            have N3 : Hid ((x2.alloc (.cells #[.int .i64 0, .int .i64 0, .int .i64 0, .slice none 0 0] 25)).heap[x2.heap.size]? = some (.cells #[.int .i64 0, .int .i64 0, .int .i64 0, .slice none 0 0] 25 (0, 0))) := heap_alloc_new x2 (.cells #[.int .i64 0, .int .i64 0, .int .i64 0, .slice none 0 0] 25)
            have LV : P < x2.heap.size := (Array.getElem?_eq_some_iff.1 P2.out).1
            have T3 : Hid ((x2.alloc (.cells #[.int .i64 0, .int .i64 0, .int .i64 0, .slice none 0 0] 25)).heap[gT]? = some (.cells #[.int .i64 1, .int .i64 3, .int .i64 5, .int .i64 6, .int .i64 15, .int .i64 16] 2 (0, 0))) := blk T2.out (all_alloc x2 (.cells #[.int .i64 0, .int .i64 0, .int .i64 0, .slice none 0 0] 25))
            clear hHeld
            have hHeld := D3.out
            generalize x2.alloc (.cells #[.int .i64 0, .int .i64 0, .int .i64 0, .slice none 0 0] 25) = x3 at D3 P3 N3 T3 hHeld ⊢
            generalize x2.heap.size = V at N3 LV ⊢
            have V3 := N3
            refine wpAnyH_ready (rs := [6]) (by kernel_rfl) (by simp) ?_
            refine (AllReadyH.cons rfl (fun Kc hK => ?_) AllReadyH.nil)
            go_simp
            go_at_call 39; refine (n_D D3.out 14 (by omega)).mono ?_; rintro e x4 ⟨r2, rfl, hr4, hD4, ho4⟩
            try dsimp only
            refine hK.out _ _ ?_ (fun hHeld => ?_)
            · (try dsimp only); exact hD4
            clear hK Kc
            try simp only [Act.put, List.setIfInBounds_toArray, List.set_cons_zero, List.set_cons_succ, List.getElem_toArray, List.getElem_cons_succ, List.getElem_cons_zero]
            have D4 : Hid (Dr b B a len cap w0 x4) := hD4
            have P4 : Hid (x4.heap[P]? = some (.cells #[.int .i64 0, .int .i64 0, .int .i64 0, .slice none 0 0] 25 (0, 0))) := (ho4.block P (by omega)).trans P3.out
            have T4 : Hid (x4.heap[gT]? = some (.cells #[.int .i64 1, .int .i64 3, .int .i64 5, .int .i64 6, .int .i64 15, .int .i64 16] 2 (0, 0))) := (ho4.block gT (by omega)).trans T3.out
            have V4 : Hid (x4.heap[V]? = some (.cells #[.int .i64 0, .int .i64 0, .int .i64 0, .slice none 0 0] 25 (0, 0))) := (ho4.block V (by omega)).trans V3.out
            clear ho4 hr4
            refine yieldH (i := 7) (v := ?_) rfl (by kernel_rfl) (by kernel_rfl) (by kernel_rfl) (fun _ _ _ h => h) (by rfl) ?_ (by assumption) ?_; rotate_left
            · intro w hSw; (try dsimp only at hSw); go_simp; (try with_reducible rfl)
            try simp only [Act.put, List.setIfInBounds_toArray, List.set_cons_zero, List.set_cons_succ, List.getElem_toArray, List.getElem_cons_succ, List.getElem_cons_zero]
            refine wpAnyH_ready (rs := [9]) (by kernel_rfl) (by simp) ?_
            refine (AllReadyH.cons rfl (fun Kc hK => ?_) AllReadyH.nil)
            have u0 := cellW V4.out 0 _ rfl x4 (Below.refl _ _)
            have u1 := cellW V4.out 1 _ rfl x4 (Below.refl _ _)
            have u2 := cellW V4.out 2 _ rfl x4 (Below.refl _ _)
            have u3 := cellW V4.out 3 _ rfl x4 (Below.refl _ _)
            have uf0 := frozenW V4.out 0 x4 (Below.refl _ _)
            have uf1 := frozenW V4.out 1 x4 (Below.refl _ _)
            have uf2 := frozenW V4.out 2 x4 (Below.refl _ _)
            have uf3 := frozenW V4.out 3 x4 (Below.refl _ _)
            go_simp
            try dsimp only
            refine hK.out _ _ ?_ (fun hHeld => ?_)
            · (try dsimp only); exact (Dr.set (Dr.set (Dr.set (Dr.set D4.out (by omega) (by omega) _ _) (by omega) (by omega) _ _) (by omega) (by omega) _ _) (by omega) (by omega) _ _)
            clear hK Kc
            try simp only [Act.put, List.setIfInBounds_toArray, List.set_cons_zero, List.set_cons_succ, List.getElem_toArray, List.getElem_cons_succ, List.getElem_cons_zero]
            refine wpAnyH_done (by kernel_rfl) ?_ _
            go_wp2
            go_meet
            exact ⟨V, rfl, QAsk.mk (y := ⟨_, _, _, []⟩) ⟨hHeld, (Joins.block_setCell (i := 3) (Joins.block_setCell (i := 2) (Joins.block_setCell (i := 1) (Joins.block_setCell (i := 0) V4.out _) _) _) _), ((Below.heap_setCell _ _ _ _ (by simp only; omega)).trans ((Below.heap_setCell _ _ _ _ (by simp only; omega)).trans ((Below.heap_setCell _ _ _ _ (by simp only; omega)).trans ((Below.heap_setCell _ _ _ _ (by simp only; omega)).trans P4.out)))), OwnI.nil _ _, hbP, hwP, LV⟩ (by simp)⟩
        · go_simp
          go_at_call 39; refine (n_D D2.out 14 (by omega)).mono ?_; rintro e x3 ⟨r2, rfl, hr3, hD3, ho3⟩
          try dsimp only
          refine hK.out _ _ ?_ (fun hHeld => ?_)
          · (try dsimp only); exact hD3
          clear hK Kc
          try simp only [Act.put, List.setIfInBounds_toArray, List.set_cons_zero, List.set_cons_succ, List.getElem_toArray, List.getElem_cons_succ, List.getElem_cons_zero]
          have D3 : Hid (Dr b B a len cap w0 x3) := hD3
          have P3 : Hid (x3.heap[P]? = some (.cells #[.int .i64 0, .int .i64 0, .int .i64 0, .slice none 0 0] 25 (0, 0))) := (ho3.block P (by omega)).trans P2.out
          have T3 : Hid (x3.heap[gT]? = some (.cells #[.int .i64 1, .int .i64 3, .int .i64 5, .int .i64 6, .int .i64 15, .int .i64 16] 2 (0, 0))) := (ho3.block gT (by omega)).trans T2.out
          clear ho3 hr3
          refine wpAnyH_ready (rs := [4, 8]) (by kernel_rfl) (by simp) ?_
          refine (AllReadyH.cons rfl (fun Kc hK => ?_) (AllReadyH.cons rfl (fun Kc hK => ?_) AllReadyH.nil))
          · have lc := tab6_at T3.out r1 hs1
            go_simp
            try dsimp only
            refine hK.out _ _ ?_ (fun hHeld => ?_)
            · (try dsimp only); exact D3.out
            clear hK Kc
            try simp only [Act.put, List.setIfInBounds_toArray, List.set_cons_zero, List.set_cons_succ, List.getElem_toArray, List.getElem_cons_succ, List.getElem_cons_zero]
            refine yieldH (i := 7) (v := ?_) rfl (by kernel_rfl) (by kernel_rfl) (by kernel_rfl) (fun _ _ _ h => h) (by rfl) ?_ (by assumption) ?_; rotate_left
            · intro w hSw; (try dsimp only at hSw); go_simp; (try with_reducible rfl)
            try simp only [Act.put, List.setIfInBounds_toArray, List.set_cons_zero, List.set_cons_succ, List.getElem_toArray, List.getElem_cons_succ, List.getElem_cons_zero]
            refine wpAnyH_ready (rs := [8]) (by kernel_rfl) (by simp) ?_
            refine (AllReadyH.cons rfl (fun Kc hK => ?_) AllReadyH.nil)
            go_simp
            try dsimp only
            refine hK.out _ _ ?_ (fun hHeld => ?_)
            · (try dsimp only); exact (D3.out.alloc (.cells #[.int .i64 0, .int .i64 0, .int .i64 0, .slice none 0 0] 25))
            clear hK Kc
            try simp only [Act.put, List.setIfInBounds_toArray, List.set_cons_zero, List.set_cons_succ, List.getElem_toArray, List.getElem_cons_succ, List.getElem_cons_zero]
            have D4 : Hid (Dr b B a len cap w0 (x3.alloc (.cells #[.int .i64 0, .int .i64 0, .int .i64 0, .slice none 0 0] 25))) := D3.out.alloc (.cells #[.int .i64 0, .int .i64 0, .int .i64 0, .slice none 0 0] 25)
            have P4 : Hid ((x3.alloc (.cells #[.int .i64 0, .int .i64 0, .int .i64 0, .slice none 0 0] 25)).heap[P]? = some (.cells #[.int .i64 0, .int .i64 0, .int .i64 0, .slice none 0 0] 25 (0, 0))) := blk P3.out (all_alloc x3 (.cells #[.int .i64 0, .int .i64 0, .int .i64 0, .slice none 0 0] 25))
            have N4 : Hid ((x3.alloc (.cells #[.int .i64 0, .int .i64 0, .int .i64 0, .slice none 0 0] 25)).heap[x3.heap.size]? = some (.cells #[.int .i64 0, .int .i64 0, .int .i64 0, .slice none 0 0] 25 (0, 0))) := heap_alloc_new x3 (.cells #[.int .i64 0, .int .i64 0, .int .i64 0, .slice none 0 0] 25)
            have LV : P < x3.heap.size := (Array.getElem?_eq_some_iff.1 P3.out).1
            have T4 : Hid ((x3.alloc (.cells #[.int .i64 0, .int .i64 0, .int .i64 0, .slice none 0 0] 25)).heap[gT]? = some (.cells #[.int .i64 1, .int .i64 3, .int .i64 5, .int .i64 6, .int .i64 15, .int .i64 16] 2 (0, 0))) := blk T3.out (all_alloc x3 (.cells #[.int .i64 0, .int .i64 0, .int .i64 0, .slice none 0 0] 25))
            clear hHeld
            have hHeld := D4.out
            generalize x3.alloc (.cells #[.int .i64 0, .int .i64 0, .int .i64 0, .slice none 0 0] 25) = x4 at D4 P4 N4 T4 hHeld ⊢
            generalize x3.heap.size = V at N4 LV ⊢
            have V4 := N4
            refine wpAnyH_ready (rs := [9]) (by kernel_rfl) (by simp) ?_
            refine (AllReadyH.cons rfl (fun Kc hK => ?_) AllReadyH.nil)
            have u0 := cellW V4.out 0 _ rfl x4 (Below.refl _ _)
            have u1 := cellW V4.out 1 _ rfl x4 (Below.refl _ _)
            have u2 := cellW V4.out 2 _ rfl x4 (Below.refl _ _)
            have u3 := cellW V4.out 3 _ rfl x4 (Below.refl _ _)
            have uf0 := frozenW V4.out 0 x4 (Below.refl _ _)
            have uf1 := frozenW V4.out 1 x4 (Below.refl _ _)
            have uf2 := frozenW V4.out 2 x4 (Below.refl _ _)
            have uf3 := frozenW V4.out 3 x4 (Below.refl _ _)
            go_simp
            try dsimp only
            refine hK.out _ _ ?_ (fun hHeld => ?_)
            · (try dsimp only); exact (Dr.set (Dr.set (Dr.set (Dr.set D4.out (by omega) (by omega) _ _) (by omega) (by omega) _ _) (by omega) (by omega) _ _) (by omega) (by omega) _ _)
            clear hK Kc
            try simp only [Act.put, List.setIfInBounds_toArray, List.set_cons_zero, List.set_cons_succ, List.getElem_toArray, List.getElem_cons_succ, List.getElem_cons_zero]
            refine wpAnyH_done (by kernel_rfl) ?_ _
            go_wp2
            go_meet
            exact ⟨V, rfl, QAsk.mk (y := ⟨_, _, _, []⟩) ⟨hHeld, (Joins.block_setCell (i := 3) (Joins.block_setCell (i := 2) (Joins.block_setCell (i := 1) (Joins.block_setCell (i := 0) V4.out _) _) _) _), ((Below.heap_setCell _ _ _ _ (by simp only; omega)).trans ((Below.heap_setCell _ _ _ _ (by simp only; omega)).trans ((Below.heap_setCell _ _ _ _ (by simp only; omega)).trans ((Below.heap_setCell _ _ _ _ (by simp only; omega)).trans P4.out)))), OwnI.nil _ _, hbP, hwP, LV⟩ (by simp)⟩
          · go_simp
            try dsimp only
            refine hK.out _ _ ?_ (fun hHeld => ?_)
            · (try dsimp only); exact (D3.out.alloc (.cells #[.int .i64 0, .int .i64 0, .int .i64 0, .slice none 0 0] 25))
            clear hK Kc
            try simp only [Act.put, List.setIfInBounds_toArray, List.set_cons_zero, List.set_cons_succ, List.getElem_toArray, List.getElem_cons_succ, List.getElem_cons_zero]
            have D4 : Hid (Dr b B a len cap w0 (x3.alloc (.cells #[.int .i64 0, .int .i64 0, .int .i64 0, .slice none 0 0] 25))) := D3.out.alloc (.cells #[.int .i64 0, .int .i64 0, .int .i64 0, .slice none 0 0] 25)
            have P4 : Hid ((x3.alloc (.cells #[.int .i64 0, .int .i64 0, .int .i64 0, .slice none 0 0] 25)).heap[P]? = some (.cells #[.int .i64 0, .int .i64 0, .int .i64 0, .slice none 0 0] 25 (0, 0))) := blk P3.out (all_alloc x3 (.cells #[.int .i64 0, .int .i64 0, .int .i64 0, .slice none 0 0] 25))
            have N4 : Hid ((x3.alloc (.cells #[.int .i64 0, .int .i64 0, .int .i64 0, .slice none 0 0] 25)).heap[x3.heap.size]? = some (.cells #[.int .i64 0, .int .i64 0, .int .i64 0, .slice none 0 0] 25 (0, 0))) := heap_alloc_new x3 (.cells #[.int .i64 0, .int .i64 0, .int .i64 0, .slice none 0 0] 25)
            have LV : P < x3.heap.size := (Array.getElem?_eq_some_iff.1 P3.out).1
            have T4 : Hid ((x3.alloc (.cells #[.int .i64 0, .int .i64 0, .int .i64 0, .slice none 0 0] 25)).heap[gT]? = some (.cells #[.int .i64 1, .int .i64 3, .int .i64 5, .int .i64 6, .int .i64 15, .int .i64 16] 2 (0, 0))) := blk T3.out (all_alloc x3 (.cells #[.int .i64 0, .int .i64 0, .int .i64 0, .slice none 0 0] 25))
            clear hHeld
            have hHeld := D4.out
            generalize x3.alloc (.cells #[.int .i64 0, .int .i64 0, .int .i64 0, .slice none 0 0] 25) = x4 at D4 P4 N4 T4 hHeld ⊢
            generalize x3.heap.size = V at N4 LV ⊢
            have V4 := N4
            refine wpAnyH_ready (rs := [4]) (by kernel_rfl) (by simp) ?_
            refine (AllReadyH.cons rfl (fun Kc hK => ?_) AllReadyH.nil)
            have lc := tab6_at T4.out r1 hs1
            go_simp
            try dsimp only
            refine hK.out _ _ ?_ (fun hHeld => ?_)
            · (try dsimp only); exact D4.out
            clear hK Kc
            try simp only [Act.put, List.setIfInBounds_toArray, List.set_cons_zero, List.set_cons_succ, List.getElem_toArray, List.getElem_cons_succ, List.getElem_cons_zero]
            refine yieldH (i := 7) (v := ?_) rfl (by kernel_rfl) (by kernel_rfl) (by kernel_rfl) (fun _ _ _ h => h) (by rfl) ?_ (by assumption) ?_; rotate_left
            · intro w hSw; (try dsimp only at hSw); go_simp; (try with_reducible rfl)
            try simp only [Act.put, List.setIfInBounds_toArray, List.set_cons_zero, List.set_cons_succ, List.getElem_toArray, List.getElem_cons_succ, List.getElem_cons_zero]
            refine wpAnyH_ready (rs := [9]) (by kernel_rfl) (by simp) ?_
            refine (AllReadyH.cons rfl (fun Kc hK => ?_) AllReadyH.nil)
            have u0 := cellW V4.out 0 _ rfl x4 (Below.refl _ _)
            have u1 := cellW V4.out 1 _ rfl x4 (Below.refl _ _)
            have u2 := cellW V4.out 2 _ rfl x4 (Below.refl _ _)
            have u3 := cellW V4.out 3 _ rfl x4 (Below.refl _ _)
            have uf0 := frozenW V4.out 0 x4 (Below.refl _ _)
            have uf1 := frozenW V4.out 1 x4 (Below.refl _ _)
            have uf2 := frozenW V4.out 2 x4 (Below.refl _ _)
            have uf3 := frozenW V4.out 3 x4 (Below.refl _ _)
            go_simp
            try dsimp only
            refine hK.out _ _ ?_ (fun hHeld => ?_)
            · (try dsimp only); exact (Dr.set (Dr.set (Dr.set (Dr.set D4.out (by omega) (by omega) _ _) (by omega) (by omega) _ _) (by omega) (by omega) _ _) (by omega) (by omega) _ _)
            clear hK Kc
            try simp only [Act.put, List.setIfInBounds_toArray, List.set_cons_zero, List.set_cons_succ, List.getElem_toArray, List.getElem_cons_succ, List.getElem_cons_zero]
            refine wpAnyH_done (by kernel_rfl) ?_ _
            go_wp2
            go_meet
            exact ⟨V, rfl, QAsk.mk (y := ⟨_, _, _, []⟩) ⟨hHeld, (Joins.block_setCell (i := 3) (Joins.block_setCell (i := 2) (Joins.block_setCell (i := 1) (Joins.block_setCell (i := 0) V4.out _) _) _) _), ((Below.heap_setCell _ _ _ _ (by simp only; omega)).trans ((Below.heap_setCell _ _ _ _ (by simp only; omega)).trans ((Below.heap_setCell _ _ _ _ (by simp only; omega)).trans ((Below.heap_setCell _ _ _ _ (by simp only; omega)).trans P4.out)))), OwnI.nil _ _, hbP, hwP, LV⟩ (by simp)⟩
        · go_simp
          try dsimp only
          refine hK.out _ _ ?_ (fun hHeld => ?_)
          · (try dsimp only); exact (D2.out.alloc (.cells #[.int .i64 0, .int .i64 0, .int .i64 0, .slice none 0 0] 25))
          clear hK Kc
          try simp only [Act.put, List.setIfInBounds_toArray, List.set_cons_zero, List.set_cons_succ, List.getElem_toArray, List.getElem_cons_succ, List.getElem_cons_zero]
          have D3 : Hid (Dr b B a len cap w0 (x2.alloc (.cells #[.int .i64 0, .int .i64 0, .int .i64 0, .slice none 0 0] 25))) := D2.out.alloc (.cells #[.int .i64 0, .int .i64 0, .int .i64 0, .slice none 0 0] 25)
          have P3 : Hid ((x2.alloc (.cells #[.int .i64 0, .int .i64 0, .int .i64 0, .slice none 0 0] 25)).heap[P]? = some (.cells #[.int .i64 0, .int .i64 0, .int .i64 0, .slice none 0 0] 25 (0, 0))) := blk P2.out (all_alloc x2 (.cells #[.int .i64 0, .int .i64 0, .int .i64 0, .slice none 0 0] 25))
          have N3 : Hid ((x2.alloc (.cells #[.int .i64 0, .int .i64 0, .int .i64 0, .slice none 0 0] 25)).heap[x2.heap.size]? = some (.cells #[.int .i64 0, .int .i64 0, .int .i64 0, .slice none 0 0] 25 (0, 0))) := heap_alloc_new x2 (.cells #[.int .i64 0, .int .i64 0, .int .i64 0, .slice none 0 0] 25)
          have LV : P < x2.heap.size := (Array.getElem?_eq_some_iff.1 P2.out).1
          have T3 : Hid ((x2.alloc (.cells #[.int .i64 0, .int .i64 0, .int .i64 0, .slice none 0 0] 25)).heap[gT]? = some (.cells #[.int .i64 1, .int .i64 3, .int .i64 5, .int .i64 6, .int .i64 15, .int .i64 16] 2 (0, 0))) := blk T2.out (all_alloc x2 (.cells #[.int .i64 0, .int .i64 0, .int .i64 0, .slice none 0 0] 25))
          clear hHeld
          have hHeld := D3.out
          generalize x2.alloc (.cells #[.int .i64 0, .int .i64 0, .int .i64 0, .slice none 0 0] 25) = x3 at D3 P3 N3 T3 hHeld ⊢
          generalize x2.heap.size = V at N3 LV ⊢
          have V3 := N3
          refine wpAnyH_ready (rs := [4, 6]) (by kernel_rfl) (by simp) ?_
          refine (AllReadyH.cons rfl (fun Kc hK => ?_) (AllReadyH.cons rfl (fun Kc hK => ?_) AllReadyH.nil))
          · have lc := tab6_at T3.out r1 hs1
            go_simp
            try dsimp only
            refine hK.out _ _ ?_ (fun hHeld => ?_)
            · (try dsimp only); exact D3.out
            clear hK Kc
            try simp only [Act.put, List.setIfInBounds_toArray, List.set_cons_zero, List.set_cons_succ, List.getElem_toArray, List.getElem_cons_succ, List.getElem_cons_zero]
            refine wpAnyH_ready (rs := [6]) (by kernel_rfl) (by simp) ?_
            refine (AllReadyH.cons rfl (fun Kc hK => ?_) AllReadyH.nil)
            go_simp
            go_at_call 39; refine (n_D D3.out 14 (by omega)).mono ?_; rintro e x4 ⟨r2, rfl, hr4, hD4, ho4⟩
            try dsimp only
            refine hK.out _ _ ?_ (fun hHeld => ?_)
            · (try dsimp only); exact hD4
            clear hK Kc
            try simp only [Act.put, List.setIfInBounds_toArray, List.set_cons_zero, List.set_cons_succ, List.getElem_toArray, List.getElem_cons_succ, List.getElem_cons_zero]
            have D4 : Hid (Dr b B a len cap w0 x4) := hD4
            have P4 : Hid (x4.heap[P]? = some (.cells #[.int .i64 0, .int .i64 0, .int .i64 0, .slice none 0 0] 25 (0, 0))) := (ho4.block P (by omega)).trans P3.out
            have T4 : Hid (x4.heap[gT]? = some (.cells #[.int .i64 1, .int .i64 3, .int .i64 5, .int .i64 6, .int .i64 15, .int .i64 16] 2 (0, 0))) := (ho4.block gT (by omega)).trans T3.out
            have V4 : Hid (x4.heap[V]? = some (.cells #[.int .i64 0, .int .i64 0, .int .i64 0, .slice none 0 0] 25 (0, 0))) := (ho4.block V (by omega)).trans V3.out
            clear ho4 hr4
            refine yieldH (i := 7) (v := ?_) rfl (by kernel_rfl) (by kernel_rfl) (by kernel_rfl) (fun _ _ _ h => h) (by rfl) ?_ (by assumption) ?_; rotate_left
            · intro w hSw; (try dsimp only at hSw); go_simp; (try with_reducible rfl)
            try simp only [Act.put, List.setIfInBounds_toArray, List.set_cons_zero, List.set_cons_succ, List.getElem_toArray, List.getElem_cons_succ, List.getElem_cons_zero]
            refine wpAnyH_ready (rs := [9]) (by kernel_rfl) (by simp) ?_
            refine (AllReadyH.cons rfl (fun Kc hK => ?_) AllReadyH.nil)
            have u0 := cellW V4.out 0 _ rfl x4 (Below.refl _ _)
            have u1 := cellW V4.out 1 _ rfl x4 (Below.refl _ _)
            have u2 := cellW V4.out 2 _ rfl x4 (Below.refl _ _)
            have u3 := cellW V4.out 3 _ rfl x4 (Below.refl _ _)
            have uf0 := frozenW V4.out 0 x4 (Below.refl _ _)
            have uf1 := frozenW V4.out 1 x4 (Below.refl _ _)
            have uf2 := frozenW V4.out 2 x4 (Below.refl _ _)
            have uf3 := frozenW V4.out 3 x4 (Below.refl _ _)
            go_simp
            try dsimp only
            refine hK.out _ _ ?_ (fun hHeld => ?_)
            · (try dsimp only); exact (Dr.set (Dr.set (Dr.set (Dr.set D4.out (by omega) (by omega) _ _) (by omega) (by omega) _ _) (by omega) (by omega) _ _) (by omega) (by omega) _ _)
            clear hK Kc
            try simp only [Act.put, List.setIfInBounds_toArray, List.set_cons_zero, List.set_cons_succ, List.getElem_toArray, List.getElem_cons_succ, List.getElem_cons_zero]
            refine wpAnyH_done (by kernel_rfl) ?_ _
            go_wp2
            go_meet
            exact ⟨V, rfl, QAsk.mk (y := ⟨_, _, _, []⟩) ⟨hHeld, (Joins.block_setCell (i := 3) (Joins.block_setCell (i := 2) (Joins.block_setCell (i := 1) (Joins.block_setCell (i := 0) V4.out _) _) _) _), ((Below.heap_setCell _ _ _ _ (by simp only; omega)).trans ((Below.heap_setCell _ _ _ _ (by simp only; omega)).trans ((Below.heap_setCell _ _ _ _ (by simp only; omega)).trans ((Below.heap_setCell _ _ _ _ (by simp only; omega)).trans P4.out)))), OwnI.nil _ _, hbP, hwP, LV⟩ (by simp)⟩
          · go_simp
            go_at_call 39; refine (n_D D3.out 14 (by omega)).mono ?_; rintro e x4 ⟨r2, rfl, hr4, hD4, ho4⟩
            try dsimp only
            refine hK.out _ _ ?_ (fun hHeld => ?_)
            · (try dsimp only); exact hD4
            clear hK Kc
            try simp only [Act.put, List.setIfInBounds_toArray, List.set_cons_zero, List.set_cons_succ, List.getElem_toArray, List.getElem_cons_succ, List.getElem_cons_zero]
            have D4 : Hid (Dr b B a len cap w0 x4) := hD4
            have P4 : Hid (x4.heap[P]? = some (.cells #[.int .i64 0, .int .i64 0, .int .i64 0, .slice none 0 0] 25 (0, 0))) := (ho4.block P (by omega)).trans P3.out
            have T4 : Hid (x4.heap[gT]? = some (.cells #[.int .i64 1, .int .i64 3, .int .i64 5, .int .i64 6, .int .i64 15, .int .i64 16] 2 (0, 0))) := (ho4.block gT (by omega)).trans T3.out
            have V4 : Hid (x4.heap[V]? = some (.cells #[.int .i64 0, .int .i64 0, .int .i64 0, .slice none 0 0] 25 (0, 0))) := (ho4.block V (by omega)).trans V3.out
            clear ho4 hr4
            refine wpAnyH_ready (rs := [4]) (by kernel_rfl) (by simp) ?_
            refine (AllReadyH.cons rfl (fun Kc hK => ?_) AllReadyH.nil)
            have lc := tab6_at T4.out r1 hs1
            go_simp
            try dsimp only
            refine hK.out _ _ ?_ (fun hHeld => ?_)
            · (try dsimp only); exact D4.out
            clear hK Kc
            try simp only [Act.put, List.setIfInBounds_toArray, List.set_cons_zero, List.set_cons_succ, List.getElem_toArray, List.getElem_cons_succ, List.getElem_cons_zero]
            refine yieldH (i := 7) (v := ?_) rfl (by kernel_rfl) (by kernel_rfl) (by kernel_rfl) (fun _ _ _ h => h) (by rfl) ?_ (by assumption) ?_; rotate_left
            · intro w hSw; (try dsimp only at hSw); go_simp; (try with_reducible rfl)
            try simp only [Act.put, List.setIfInBounds_toArray, List.set_cons_zero, List.set_cons_succ, List.getElem_toArray, List.getElem_cons_succ, List.getElem_cons_zero]
            refine wpAnyH_ready (rs := [9]) (by kernel_rfl) (by simp) ?_
            refine (AllReadyH.cons rfl (fun Kc hK => ?_) AllReadyH.nil)
            have u0 := cellW V4.out 0 _ rfl x4 (Below.refl _ _)
            have u1 := cellW V4.out 1 _ rfl x4 (Below.refl _ _)
            have u2 := cellW V4.out 2 _ rfl x4 (Below.refl _ _)
            have u3 := cellW V4.out 3 _ rfl x4 (Below.refl _ _)
            have uf0 := frozenW V4.out 0 x4 (Below.refl _ _)
            have uf1 := frozenW V4.out 1 x4 (Below.refl _ _)
            have uf2 := frozenW V4.out 2 x4 (Below.refl _ _)
            have uf3 := frozenW V4.out 3 x4 (Below.refl _ _)
            go_simp
            try dsimp only
            refine hK.out _ _ ?_ (fun hHeld => ?_)
            · (try dsimp only); exact (Dr.set (Dr.set (Dr.set (Dr.set D4.out (by omega) (by omega) _ _) (by omega) (by omega) _ _) (by omega) (by omega) _ _) (by omega) (by omega) _ _)
            clear hK Kc
            try simp only [Act.put, List.setIfInBounds_toArray, List.set_cons_zero, List.set_cons_succ, List.getElem_toArray, List.getElem_cons_succ, List.getElem_cons_zero]
            refine wpAnyH_done (by kernel_rfl) ?_ _
            go_wp2
            go_meet
            exact ⟨V, rfl, QAsk.mk (y := ⟨_, _, _, []⟩) ⟨hHeld, (Joins.block_setCell (i := 3) (Joins.block_setCell (i := 2) (Joins.block_setCell (i := 1) (Joins.block_setCell (i := 0) V4.out _) _) _) _), ((Below.heap_setCell _ _ _ _ (by simp only; omega)).trans ((Below.heap_setCell _ _ _ _ (by simp only; omega)).trans ((Below.heap_setCell _ _ _ _ (by simp only; omega)).trans ((Below.heap_setCell _ _ _ _ (by simp only; omega)).trans P4.out)))), OwnI.nil _ _, hbP, hwP, LV⟩ (by simp)⟩
      · go_simp
        try dsimp only
        refine hK.out _ _ ?_ (fun hHeld => ?_)
        · (try dsimp only); exact (D1.out.alloc (.cells #[.int .i64 0, .int .i64 0, .int .i64 0, .slice none 0 0] 25))
        clear hK Kc
        try simp only [Act.put, List.setIfInBounds_toArray, List.set_cons_zero, List.set_cons_succ, List.getElem_toArray, List.getElem_cons_succ, List.getElem_cons_zero]
        have D2 : Hid (Dr b B a len cap w0 (x1.alloc (.cells #[.int .i64 0, .int .i64 0, .int .i64 0, .slice none 0 0] 25))) := D1.out.alloc (.cells #[.int .i64 0, .int .i64 0, .int .i64 0, .slice none 0 0] 25)
        have P2 : Hid ((x1.alloc (.cells #[.int .i64 0, .int .i64 0, .int .i64 0, .slice none 0 0] 25)).heap[P]? = some (.cells #[.int .i64 0, .int .i64 0, .int .i64 0, .slice none 0 0] 25 (0, 0))) := blk P1.out (all_alloc x1 (.cells #[.int .i64 0, .int .i64 0, .int .i64 0, .slice none 0 0] 25))
        have N2 : Hid ((x1.alloc (.cells #[.int .i64 0, .int .i64 0, .int .i64 0, .slice none 0 0] 25)).heap[x1.heap.size]? = some (.cells #[.int .i64 0, .int .i64 0, .int .i64 0, .slice none 0 0] 25 (0, 0))) := heap_alloc_new x1 (.cells #[.int .i64 0, .int .i64 0, .int .i64 0, .slice none 0 0] 25)
        have LV : P < x1.heap.size := (Array.getElem?_eq_some_iff.1 P1.out).1
        have T2 : Hid ((x1.alloc (.cells #[.int .i64 0, .int .i64 0, .int .i64 0, .slice none 0 0] 25)).heap[gT]? = some (.cells #[.int .i64 1, .int .i64 3, .int .i64 5, .int .i64 6, .int .i64 15, .int .i64 16] 2 (0, 0))) := blk T1.out (all_alloc x1 (.cells #[.int .i64 0, .int .i64 0, .int .i64 0, .slice none 0 0] 25))
        clear hHeld
        have hHeld := D2.out
        generalize x1.alloc (.cells #[.int .i64 0, .int .i64 0, .int .i64 0, .slice none 0 0] 25) = x2 at D2 P2 N2 T2 hHeld ⊢
        generalize x1.heap.size = V at N2 LV ⊢
        have V2 := N2
        refine wpAnyH_ready (rs := [2]) (by kernel_rfl) (by simp) ?_
        refine (AllReadyH.cons rfl (fun Kc hK => ?_) AllReadyH.nil)
        go_simp
        go_at_call 39; refine (n_D D2.out 6 (by omega)).mono ?_; rintro e x3 ⟨r1, rfl, hr3, hD3, ho3⟩
        try dsimp only
        refine hK.out _ _ ?_ (fun hHeld => ?_)
        · (try dsimp only); exact hD3
        clear hK Kc
        try simp only [Act.put, List.setIfInBounds_toArray, List.set_cons_zero, List.set_cons_succ, List.getElem_toArray, List.getElem_cons_succ, List.getElem_cons_zero]
        have D3 : Hid (Dr b B a len cap w0 x3) := hD3
        have P3 : Hid (x3.heap[P]? = some (.cells #[.int .i64 0, .int .i64 0, .int .i64 0, .slice none 0 0] 25 (0, 0))) := (ho3.block P (by omega)).trans P2.out
        have T3 : Hid (x3.heap[gT]? = some (.cells #[.int .i64 1, .int .i64 3, .int .i64 5, .int .i64 6, .int .i64 15, .int .i64 16] 2 (0, 0))) := (ho3.block gT (by omega)).trans T2.out
        have V3 : Hid (x3.heap[V]? = some (.cells #[.int .i64 0, .int .i64 0, .int .i64 0, .slice none 0 0] 25 (0, 0))) := (ho3.block V (by omega)).trans V2.out
        have hs1 : r1 < 6 := by omega
        have hi1 : (r1 : Int) < 6 := by omega
        clear ho3 hr3
        refine yieldH (i := 3) (v := ?_) rfl (by kernel_rfl) (by kernel_rfl) (by kernel_rfl) (fun _ _ _ h => h) (by rfl) ?_ (by assumption) ?_; rotate_left
        · intro w hSw; (try dsimp only at hSw); go_simp; (try with_reducible rfl)
        try simp only [Act.put, List.setIfInBounds_toArray, List.set_cons_zero, List.set_cons_succ, List.getElem_toArray, List.getElem_cons_succ, List.getElem_cons_zero]
        refine wpAnyH_ready (rs := [4, 6]) (by kernel_rfl) (by simp) ?_
        refine (AllReadyH.cons rfl (fun Kc hK => ?_) (AllReadyH.cons rfl (fun Kc hK => ?_) AllReadyH.nil))
        · have lc := tab6_at T3.out r1 hs1
          go_simp
          try dsimp only
          refine hK.out _ _ ?_ (fun hHeld => ?_)
          · (try dsimp only); exact D3.out
          clear hK Kc
          try simp only [Act.put, List.setIfInBounds_toArray, List.set_cons_zero, List.set_cons_succ, List.getElem_toArray, List.getElem_cons_succ, List.getElem_cons_zero]
          refine wpAnyH_ready (rs := [6]) (by kernel_rfl) (by simp) ?_
          refine (AllReadyH.cons rfl (fun Kc hK => ?_) AllReadyH.nil)
          go_simp
          go_at_call 39; refine (n_D D3.out 14 (by omega)).mono ?_; rintro e x4 ⟨r2, rfl, hr4, hD4, ho4⟩
          try dsimp only
          refine hK.out _ _ ?_ (fun hHeld => ?_)
          · (try dsimp only); exact hD4
          clear hK Kc
          try simp only [Act.put, List.setIfInBounds_toArray, List.set_cons_zero, List.set_cons_succ, List.getElem_toArray, List.getElem_cons_succ, List.getElem_cons_zero]
          have D4 : Hid (Dr b B a len cap w0 x4) := hD4
          have P4 : Hid (x4.heap[P]? = some (.cells #[.int .i64 0, .int .i64 0, .int .i64 0, .slice none 0 0] 25 (0, 0))) := (ho4.block P (by omega)).trans P3.out
          have T4 : Hid (x4.heap[gT]? = some (.cells #[.int .i64 1, .int .i64 3, .int .i64 5, .int .i64 6, .int .i64 15, .int .i64 16] 2 (0, 0))) := (ho4.block gT (by omega)).trans T3.out
          have V4 : Hid (x4.heap[V]? = some (.cells #[.int .i64 0, .int .i64 0, .int .i64 0, .slice none 0 0] 25 (0, 0))) := (ho4.block V (by omega)).trans V3.out
          clear ho4 hr4
          refine yieldH (i := 7) (v := ?_) rfl (by kernel_rfl) (by kernel_rfl) (by kernel_rfl) (fun _ _ _ h => h) (by rfl) ?_ (by assumption) ?_; rotate_left
          · intro w hSw; (try dsimp only at hSw); go_simp; (try with_reducible rfl)
          try simp only [Act.put, List.setIfInBounds_toArray, List.set_cons_zero, List.set_cons_succ, List.getElem_toArray, List.getElem_cons_succ, List.getElem_cons_zero]
          refine wpAnyH_ready (rs := [9]) (by kernel_rfl) (by simp) ?_
          refine (AllReadyH.cons rfl (fun Kc hK => ?_) AllReadyH.nil)
          have u0 := cellW V4.out 0 _ rfl x4 (Below.refl _ _)
          have u1 := cellW V4.out 1 _ rfl x4 (Below.refl _ _)
          have u2 := cellW V4.out 2 _ rfl x4 (Below.refl _ _)
          have u3 := cellW V4.out 3 _ rfl x4 (Below.refl _ _)
          have uf0 := frozenW V4.out 0 x4 (Below.refl _ _)
          have uf1 := frozenW V4.out 1 x4 (Below.refl _ _)
          have uf2 := frozenW V4.out 2 x4 (Below.refl _ _)
          have uf3 := frozenW V4.out 3 x4 (Below.refl _ _)
          go_simp
          try dsimp only
          refine hK.out _ _ ?_ (fun hHeld => ?_)
          · (try dsimp only); exact (Dr.set (Dr.set (Dr.set (Dr.set D4.out (by omega) (by omega) _ _) (by omega) (by omega) _ _) (by omega) (by omega) _ _) (by omega) (by omega) _ _)
          clear hK Kc
          try simp only [Act.put, List.setIfInBounds_toArray, List.set_cons_zero, List.set_cons_succ, List.getElem_toArray, List.getElem_cons_succ, List.getElem_cons_zero]
          refine wpAnyH_done (by kernel_rfl) ?_ _
          go_wp2
          go_meet
          exact ⟨V, rfl, QAsk.mk (y := ⟨_, _, _, []⟩) ⟨hHeld, (Joins.block_setCell (i := 3) (Joins.block_setCell (i := 2) (Joins.block_setCell (i := 1) (Joins.block_setCell (i := 0) V4.out _) _) _) _), ((Below.heap_setCell _ _ _ _ (by simp only; omega)).trans ((Below.heap_setCell _ _ _ _ (by simp only; omega)).trans ((Below.heap_setCell _ _ _ _ (by simp only; omega)).trans ((Below.heap_setCell _ _ _ _ (by simp only; omega)).trans P4.out)))), OwnI.nil _ _, hbP, hwP, LV⟩ (by simp)⟩
        · go_simp
          go_at_call 39; refine (n_D D3.out 14 (by omega)).mono ?_; rintro e x4 ⟨r2, rfl, hr4, hD4, ho4⟩
          try dsimp only
          refine hK.out _ _ ?_ (fun hHeld => ?_)
          · (try dsimp only); exact hD4
          clear hK Kc
          try simp only [Act.put, List.setIfInBounds_toArray, List.set_cons_zero, List.set_cons_succ, List.getElem_toArray, List.getElem_cons_succ, List.getElem_cons_zero]
          have D4 : Hid (Dr b B a len cap w0 x4) := hD4
          have P4 : Hid (x4.heap[P]? = some (.cells #[.int .i64 0, .int .i64 0, .int .i64 0, .slice none 0 0] 25 (0, 0))) := (ho4.block P (by omega)).trans P3.out
          have T4 : Hid (x4.heap[gT]? = some (.cells #[.int .i64 1, .int .i64 3, .int .i64 5, .int .i64 6, .int .i64 15, .int .i64 16] 2 (0, 0))) := (ho4.block gT (by omega)).trans T3.out
          have V4 : Hid (x4.heap[V]? = some (.cells #[.int .i64 0, .int .i64 0, .int .i64 0, .slice none 0 0] 25 (0, 0))) := (ho4.block V (by omega)).trans V3.out
          clear ho4 hr4
          refine wpAnyH_ready (rs := [4]) (by kernel_rfl) (by simp) ?_
          refine (AllReadyH.cons rfl (fun Kc hK => ?_) AllReadyH.nil)
          have lc := tab6_at T4.out r1 hs1
          go_simp
          try dsimp only
          refine hK.out _ _ ?_ (fun hHeld => ?_)
          · (try dsimp only); exact D4.out
          clear hK Kc
          try simp only [Act.put, List.setIfInBounds_toArray, List.set_cons_zero, List.set_cons_succ, List.getElem_toArray, List.getElem_cons_succ, List.getElem_cons_zero]
          refine yieldH (i := 7) (v := ?_) rfl (by kernel_rfl) (by kernel_rfl) (by kernel_rfl) (fun _ _ _ h => h) (by rfl) ?_ (by assumption) ?_; rotate_left
          · intro w hSw; (try dsimp only at hSw); go_simp; (try with_reducible rfl)
          try simp only [Act.put, List.setIfInBounds_toArray, List.set_cons_zero, List.set_cons_succ, List.getElem_toArray, List.getElem_cons_succ, List.getElem_cons_zero]
          refine wpAnyH_ready (rs := [9]) (by kernel_rfl) (by simp) ?_
          refine (AllReadyH.cons rfl (fun Kc hK => ?_) AllReadyH.nil)
          have u0 := cellW V4.out 0 _ rfl x4 (Below.refl _ _)
          have u1 := cellW V4.out 1 _ rfl x4 (Below.refl _ _)
          have u2 := cellW V4.out 2 _ rfl x4 (Below.refl _ _)
          have u3 := cellW V4.out 3 _ rfl x4 (Below.refl _ _)
          have uf0 := frozenW V4.out 0 x4 (Below.refl _ _)
          have uf1 := frozenW V4.out 1 x4 (Below.refl _ _)
          have uf2 := frozenW V4.out 2 x4 (Below.refl _ _)
          have uf3 := frozenW V4.out 3 x4 (Below.refl _ _)
          go_simp
          try dsimp only
          refine hK.out _ _ ?_ (fun hHeld => ?_)
          · (try dsimp only); exact (Dr.set (Dr.set (Dr.set (Dr.set D4.out (by omega) (by omega) _ _) (by omega) (by omega) _ _) (by omega) (by omega) _ _) (by omega) (by omega) _ _)
          clear hK Kc
          try simp only [Act.put, List.setIfInBounds_toArray, List.set_cons_zero, List.set_cons_succ, List.getElem_toArray, List.getElem_cons_succ, List.getElem_cons_zero]
          refine wpAnyH_done (by kernel_rfl) ?_ _
          go_wp2
          go_meet
          exact ⟨V, rfl, QAsk.mk (y := ⟨_, _, _, []⟩) ⟨hHeld, (Joins.block_setCell (i := 3) (Joins.block_setCell (i := 2) (Joins.block_setCell (i := 1) (Joins.block_setCell (i := 0) V4.out _) _) _) _), ((Below.heap_setCell _ _ _ _ (by simp only; omega)).trans ((Below.heap_setCell _ _ _ _ (by simp only; omega)).trans ((Below.heap_setCell _ _ _ _ (by simp only; omega)).trans ((Below.heap_setCell _ _ _ _ (by simp only; omega)).trans P4.out)))), OwnI.nil _ _, hbP, hwP, LV⟩ (by simp)⟩
    · go_simp
      go_at_call 39; refine (n_D D0.out 6 (by omega)).mono ?_; rintro e x1 ⟨r1, rfl, hr1, hD1, ho1⟩
      try dsimp only
      refine hK.out _ _ ?_ (fun hHeld => ?_)
      · (try dsimp only); exact hD1
      clear hK Kc
      try simp only [Act.put, List.setIfInBounds_toArray, List.set_cons_zero, List.set_cons_succ, List.getElem_toArray, List.getElem_cons_succ, List.getElem_cons_zero]
      have D1 : Hid (Dr b B a len cap w0 x1) := hD1
      have P1 : Hid (x1.heap[P]? = some (.cells #[.int .i64 0, .int .i64 0, .int .i64 0, .slice none 0 0] 25 (0, 0))) := (ho1.block P (by omega)).trans P0.out
      have hs1 : r1 < 6 := by omega
      have hi1 : (r1 : Int) < 6 := by omega
      clear ho1 hr1
      refine wpAnyH_ready (rs := [0, 6, 8]) (by kernel_rfl) (by simp) ?_
      refine (AllReadyH.cons rfl (fun Kc hK => ?_) (AllReadyH.cons rfl (fun Kc hK => ?_) (AllReadyH.cons rfl (fun Kc hK => ?_) AllReadyH.nil)))
      · go_simp
        try dsimp only
        refine hK.out _ _ ?_ (fun hHeld => ?_)
        · (try dsimp only); exact (D1.out.alloc (.cells #[.int .i64 1, .int .i64 3, .int .i64 5, .int .i64 6, .int .i64 15, .int .i64 16] 2))
        clear hK Kc
        try simp only [Act.put, List.setIfInBounds_toArray, List.set_cons_zero, List.set_cons_succ, List.getElem_toArray, List.getElem_cons_succ, List.getElem_cons_zero]
        have D2 : Hid (Dr b B a len cap w0 (x1.alloc (.cells #[.int .i64 1, .int .i64 3, .int .i64 5, .int .i64 6, .int .i64 15, .int .i64 16] 2))) := D1.out.alloc (.cells #[.int .i64 1, .int .i64 3, .int .i64 5, .int .i64 6, .int .i64 15, .int .i64 16] 2)
        have P2 : Hid ((x1.alloc (.cells #[.int .i64 1, .int .i64 3, .int .i64 5, .int .i64 6, .int .i64 15, .int .i64 16] 2)).heap[P]? = some (.cells #[.int .i64 0, .int .i64 0, .int .i64 0, .slice none 0 0] 25 (0, 0))) := blk P1.out (all_alloc x1 (.cells #[.int .i64 1, .int .i64 3, .int .i64 5, .int .i64 6, .int .i64 15, .int .i64 16] 2))
        have N2 : Hid ((x1.alloc (.cells #[.int .i64 1, .int .i64 3, .int .i64 5, .int .i64 6, .int .i64 15, .int .i64 16] 2)).heap[x1.heap.size]? = some (.cells #[.int .i64 1, .int .i64 3, .int .i64 5, .int .i64 6, .int .i64 15, .int .i64 16] 2 (0, 0))) := heap_alloc_new x1 (.cells #[.int .i64 1, .int .i64 3, .int .i64 5, .int .i64 6, .int .i64 15, .int .i64 16] 2)
        have LgT : P < x1.heap.size := (Array.getElem?_eq_some_iff.1 P1.out).1
        clear hHeld
        have hHeld := D2.out
        generalize x1.alloc (.cells #[.int .i64 1, .int .i64 3, .int .i64 5, .int .i64 6, .int .i64 15, .int .i64 16] 2) = x2 at D2 P2 N2 hHeld ⊢
        generalize x1.heap.size = gT at N2 LgT ⊢
        have T2 := N2
        refine yieldH (i := 3) (v := ?_) rfl (by kernel_rfl) (by kernel_rfl) (by kernel_rfl) (fun _ _ _ h => h) (by rfl) ?_ (by assumption) ?_; rotate_left
        · intro w hSw; (try dsimp only at hSw); go_simp; (try with_reducible rfl)
        try simp only [Act.put, List.setIfInBounds_toArray, List.set_cons_zero, List.set_cons_succ, List.getElem_toArray, List.getElem_cons_succ, List.getElem_cons_zero]
        refine wpAnyH_ready (rs := [4, 6, 8]) (by kernel_rfl) (by simp) ?_
        refine (AllReadyH.cons rfl (fun Kc hK => ?_) (AllReadyH.cons rfl (fun Kc hK => ?_) (AllReadyH.cons rfl (fun Kc hK => ?_) AllReadyH.nil)))
        · have lc := tab6_at T2.out r1 hs1
          go_simp
          try dsimp only
          refine hK.out _ _ ?_ (fun hHeld => ?_)
          · (try dsimp only); exact D2.out
          clear hK Kc
          try simp only [Act.put, List.setIfInBounds_toArray, List.set_cons_zero, List.set_cons_succ, List.getElem_toArray, List.getElem_cons_succ, List.getElem_cons_zero]
          refine wpAnyH_ready (rs := [6, 8]) (by kernel_rfl) (by simp) ?_
          refine (AllReadyH.cons rfl (fun Kc hK => ?_) (AllReadyH.cons rfl (fun Kc hK => ?_) AllReadyH.nil))
          · go_simp
            go_at_call 39; refine (n_D D2.out 14 (by omega)).mono ?_; rintro e x3 ⟨r2, rfl, hr3, hD3, ho3⟩
            try dsimp only
            refine hK.out _ _ ?_ (fun hHeld => ?_)
            · (try dsimp only); exact hD3
            clear hK Kc
            try simp only [Act.put, List.setIfInBounds_toArray, List.set_cons_zero, List.set_cons_succ, List.getElem_toArray, List.getElem_cons_succ, List.getElem_cons_zero]
            have D3 : Hid (Dr b B a len cap w0 x3) := hD3
            have P3 : Hid (x3.heap[P]? = some (.cells #[.int .i64 0, .int .i64 0, .int .i64 0, .slice none 0 0] 25 (0, 0))) := (ho3.block P (by omega)).trans P2.out
            have T3 : Hid (x3.heap[gT]? = some (.cells #[.int .i64 1, .int .i64 3, .int .i64 5, .int .i64 6, .int .i64 15, .int .i64 16] 2 (0, 0))) := (ho3.block gT (by omega)).trans T2.out
            clear ho3 hr3
            refine yieldH (i := 7) (v := ?_) rfl (by kernel_rfl) (by kernel_rfl) (by kernel_rfl) (fun _ _ _ h => h) (by rfl) ?_ (by assumption) ?_; rotate_left
            · intro w hSw; (try dsimp only at hSw); go_simp; (try with_reducible rfl)
            try simp only [Act.put, List.setIfInBounds_toArray, List.set_cons_zero, List.set_cons_succ, List.getElem_toArray, List.getElem_cons_succ, List.getElem_cons_zero]
            refine wpAnyH_ready (rs := [8]) (by kernel_rfl) (by simp) ?_
            refine (AllReadyH.cons rfl (fun Kc hK => ?_) AllReadyH.nil)
            go_simp
            try dsimp only
            refine hK.out _ _ ?_ (fun hHeld => ?_)
            · (try dsimp only); exact (D3.out.alloc (.cells #[.int .i64 0, .int .i64 0, .int .i64 0, .slice none 0 0] 25))
            clear hK Kc
            try simp only [Act.put, List.setIfInBounds_toArray, List.set_cons_zero, List.set_cons_succ, List.getElem_toArray, List.getElem_cons_succ, List.getElem_cons_zero]
            have D4 : Hid (Dr b B a len cap w0 (x3.alloc (.cells #[.int .i64 0, .int .i64 0, .int .i64 0, .slice none 0 0] 25))) := D3.out.alloc (.cells #[.int .i64 0, .int .i64 0, .int .i64 0, .slice none 0 0] 25)
            have P4 : Hid ((x3.alloc (.cells #[.int .i64 0, .int .i64 0, .int .i64 0, .slice none 0 0] 25)).heap[P]? = some (.cells #[.int .i64 0, .int .i64 0, .int .i64 0, .slice none 0 0] 25 (0, 0))) := blk P3.out (all_alloc x3 (.cells #[.int .i64 0, .int .i64 0, .int .i64 0, .slice none 0 0] 25))
            have N4 : Hid ((x3.alloc (.cells #[.int .i64 0, .int .i64 0, .int .i64 0, .slice none 0 0] 25)).heap[x3.heap.size]? = some (.cells #[.int .i64 0, .int .i64 0, .int .i64 0, .slice none 0 0] 25 (0, 0))) := heap_alloc_new x3 (.cells #[.int .i64 0, .int .i64 0, .int .i64 0, .slice none 0 0] 25)
            have LV : P < x3.heap.size := (Array.getElem?_eq_some_iff.1 P3.out).1
            have T4 : Hid ((x3.alloc (.cells #[.int .i64 0, .int .i64 0, .int .i64 0, .slice none 0 0] 25)).heap[gT]? = some (.cells #[.int .i64 1, .int .i64 3, .int .i64 5, .int .i64 6, .int .i64 15, .int .i64 16] 2 (0, 0))) := blk T3.out (all_alloc x3 (.cells #[.int .i64 0, .int .i64 0, .int .i64 0, .slice none 0 0] 25))
            clear hHeld
            have hHeld := D4.out
            generalize x3.alloc (.cells #[.int .i64 0, .int .i64 0, .int .i64 0, .slice none 0 0] 25) = x4 at D4 P4 N4 T4 hHeld ⊢
            generalize x3.heap.size = V at N4 LV ⊢
            have V4 := N4
            refine wpAnyH_ready (rs := [9]) (by kernel_rfl) (by simp) ?_
            refine (AllReadyH.cons rfl (fun Kc hK => ?_) AllReadyH.nil)
            have u0 := cellW V4.out 0 _ rfl x4 (Below.refl _ _)
            have u1 := cellW V4.out 1 _ rfl x4 (Below.refl _ _)
            have u2 := cellW V4.out 2 _ rfl x4 (Below.refl _ _)
            have u3 := cellW V4.out 3 _ rfl x4 (Below.refl _ _)
            have uf0 := frozenW V4.out 0 x4 (Below.refl _ _)
            have uf1 := frozenW V4.out 1 x4 (Below.refl _ _)
            have uf2 := frozenW V4.out 2 x4 (Below.refl _ _)
            have uf3 := frozenW V4.out 3 x4 (Below.refl _ _)
            go_simp
            try dsimp only
            refine hK.out _ _ ?_ (fun hHeld => ?_)
            · (try dsimp only); exact (Dr.set (Dr.set (Dr.set (Dr.set D4.out (by omega) (by omega) _ _) (by omega) (by omega) _ _) (by omega) (by omega) _ _) (by omega) (by omega) _ _)
            clear hK Kc
            try simp only [Act.put, List.setIfInBounds_toArray, List.set_cons_zero, List.set_cons_succ, List.getElem_toArray, List.getElem_cons_succ, List.getElem_cons_zero]
            refine wpAnyH_done (by kernel_rfl) ?_ _
            go_wp2
            go_meet
            exact ⟨V, rfl, QAsk.mk (y := ⟨_, _, _, []⟩) ⟨hHeld, (Joins.block_setCell (i := 3) (Joins.block_setCell (i := 2) (Joins.block_setCell (i := 1) (Joins.block_setCell (i := 0) V4.out _) _) _) _), ((Below.heap_setCell _ _ _ _ (by simp only; omega)).trans ((Below.heap_setCell _ _ _ _ (by simp only; omega)).trans ((Below.heap_setCell _ _ _ _ (by simp only; omega)).trans ((Below.heap_setCell _ _ _ _ (by simp only; omega)).trans P4.out)))), OwnI.nil _ _, hbP, hwP, LV⟩ (by simp)⟩
          · go_simp
            try dsimp only
            refine hK.out _ _ ?_ (fun hHeld => ?_)
            · (try dsimp only); exact (D2.out.alloc (.cells #[.int .i64 0, .int .i64 0, .int .i64 0, .slice none 0 0] 25))
            clear hK Kc
            try simp only [Act.put, List.setIfInBounds_toArray, List.set_cons_zero, List.set_cons_succ, List.getElem_toArray, List.getElem_cons_succ, List.getElem_cons_zero]
            have D3 : Hid (Dr b B a len cap w0 (x2.alloc (.cells #[.int .i64 0, .int .i64 0, .int .i64 0, .slice none 0 0] 25))) := D2.out.alloc (.cells #[.int .i64 0, .int .i64 0, .int .i64 0, .slice none 0 0] 25)
            have P3 : Hid ((x2.alloc (.cells #[.int .i64 0, .int .i64 0, .int .i64 0, .slice none 0 0] 25)).heap[P]? = some (.cells #[.int .i64 0, .int .i64 0, .int .i64 0, .slice none 0 0] 25 (0, 0))) := blk P2.out (all_alloc x2 (.cells #[.int .i64 0, .int .i64 0, .int .i64 0, .slice none 0 0] 25))
            have N3 : Hid ((x2.alloc (.cells #[.int .i64 0, .int .i64 0, .int .i64 0, .slice none 0 0] 25)).heap[x2.heap.size]? = some (.cells #[.int .i64 0, .int .i64 0, .int .i64 0, .slice none 0 0] 25 (0, 0))) := heap_alloc_new x2 (.cells #[.int .i64 0, .int .i64 0, .int .i64 0, .slice none 0 0] 25)
            have LV : P < x2.heap.size := (Array.getElem?_eq_some_iff.1 P2.out).1
            have T3 : Hid ((x2.alloc (.cells #[.int .i64 0, .int .i64 0, .int .i64 0, .slice none 0 0] 25)).heap[gT]? = some (.cells #[.int .i64 1, .int .i64 3, .int .i64 5, .int .i64 6, .int .i64 15, .int .i64 16] 2 (0, 0))) := blk T2.out (all_alloc x2 (.cells #[.int .i64 0, .int .i64 0, .int .i64 0, .slice none 0 0] 25))
            clear hHeld
            have hHeld := D3.out
            generalize x2.alloc (.cells #[.int .i64 0, .int .i64 0, .int .i64 0, .slice none 0 0] 25) = x3 at D3 P3 N3 T3 hHeld ⊢
            generalize x2.heap.size = V at N3 LV ⊢
            have V3 := N3
            refine wpAnyH_ready (rs := [6]) (by kernel_rfl) (by simp) ?_
            refine (AllReadyH.cons rfl (fun Kc hK => ?_) AllReadyH.nil)
            go_simp
            go_at_call 39; refine (n_D D3.out 14 (by omega)).mono ?_; rintro e x4 ⟨r2, rfl, hr4, hD4, ho4⟩
            try dsimp only
            refine hK.out _ _ ?_ (fun hHeld => ?_)
            · (try dsimp only); exact hD4
            clear hK Kc
            try simp only [Act.put, List.setIfInBounds_toArray, List.set_cons_zero, List.set_cons_succ, List.getElem_toArray, List.getElem_cons_succ, List.getElem_cons_zero]
            have D4 : Hid (Dr b B a len cap w0 x4) := hD4
            have P4 : Hid (x4.heap[P]? = some (.cells #[.int .i64 0, .int .i64 0, .int .i64 0, .slice none 0 0] 25 (0, 0))) := (ho4.block P (by omega)).trans P3.out
            have T4 : Hid (x4.heap[gT]? = some (.cells #[.int .i64 1, .int .i64 3, .int .i64 5, .int .i64 6, .int .i64 15, .int .i64 16] 2 (0, 0))) := (ho4.block gT (by omega)).trans T3.out
            have V4 : Hid (x4.heap[V]? = some (.cells #[.int .i64 0, .int .i64 0, .int .i64 0, .slice none 0 0] 25 (0, 0))) := (ho4.block V (by omega)).trans V3.out
            clear ho4 hr4
            refine yieldH (i := 7) (v := ?_) rfl (by kernel_rfl) (by kernel_rfl) (by kernel_rfl) (fun _ _ _ h => h) (by rfl) ?_ (by assumption) ?_; rotate_left
            · intro w hSw; (try dsimp only at hSw); go_simp; (try with_reducible rfl)
            try simp only [Act.put, List.setIfInBounds_toArray, List.set_cons_zero, List.set_cons_succ, List.getElem_toArray, List.getElem_cons_succ, List.getElem_cons_zero]
            refine wpAnyH_ready (rs := [9]) (by kernel_rfl) (by simp) ?_
            refine (AllReadyH.cons rfl (fun Kc hK => ?_) AllReadyH.nil)
            have u0 := cellW V4.out 0 _ rfl x4 (Below.refl _ _)
            have u1 := cellW V4.out 1 _ rfl x4 (Below.refl _ _)
            have u2 := cellW V4.out 2 _ rfl x4 (Below.refl _ _)
            have u3 := cellW V4.out 3 _ rfl x4 (Below.refl _ _)
            have uf0 := frozenW V4.out 0 x4 (Below.refl _ _)
            have uf1 := frozenW V4.out 1 x4 (Below.refl _ _)
            have uf2 := frozenW V4.out 2 x4 (Below.refl _ _)
            have uf3 := frozenW V4.out 3 x4 (Below.refl _ _)
            go_simp
            try dsimp only
            refine hK.out _ _ ?_ (fun hHeld => ?_)
            · (try dsimp only); exact (Dr.set (Dr.set (Dr.set (Dr.set D4.out (by omega) (by omega) _ _) (by omega) (by omega) _ _) (by omega) (by omega) _ _) (by omega) (by omega) _ _)
            clear hK Kc
            try simp only [Act.put, List.setIfInBounds_toArray, List.set_cons_zero, List.set_cons_succ, List.getElem_toArray, List.getElem_cons_succ, List.getElem_cons_zero]
            refine wpAnyH_done (by kernel_rfl) ?_ _
            go_wp2
            go_meet
            exact ⟨V, rfl, QAsk.mk (y := ⟨_, _, _, []⟩) ⟨hHeld, (Joins.block_setCell (i := 3) (Joins.block_setCell (i := 2) (Joins.block_setCell (i := 1) (Joins.block_setCell (i := 0) V4.out _) _) _) _), ((Below.heap_setCell _ _ _ _ (by simp only; omega)).trans ((Below.heap_setCell _ _ _ _ (by simp only; omega)).trans ((Below.heap_setCell _ _ _ _ (by simp only; omega)).trans ((Below.heap_setCell _ _ _ _ (by simp only; omega)).trans P4.out)))), OwnI.nil _ _, hbP, hwP, LV⟩ (by simp)⟩
        · go_simp
          go_at_call 39; refine (n_D D2.out 14 (by omega)).mono ?_; rintro e x3 ⟨r2, rfl, hr3, hD3, ho3⟩
          try dsimp only
          refine hK.out _ _ ?_ (fun hHeld => ?_)
          · (try dsimp only); exact hD3
          clear hK Kc
          try simp only [Act.put, List.setIfInBounds_toArray, List.set_cons_zero, List.set_cons_succ, List.getElem_toArray, List.getElem_cons_succ, List.getElem_cons_zero]
          have D3 : Hid (Dr b B a len cap w0 x3) := hD3
          have P3 : Hid (x3.heap[P]? = some (.cells #[.int .i64 0, .int .i64 0, .int .i64 0, .slice none 0 0] 25 (0, 0))) := (ho3.block P (by omega)).trans P2.out
          have T3 : Hid (x3.heap[gT]? = some (.cells #[.int .i64 1, .int .i64 3, .int .i64 5, .int .i64 6, .int .i64 15, .int .i64 16] 2 (0, 0))) := (ho3.block gT (by omega)).trans T2.out
          clear ho3 hr3
          refine wpAnyH_ready (rs := [4, 8]) (by kernel_rfl) (by simp) ?_
          refine (AllReadyH.cons rfl (fun Kc hK => ?_) (AllReadyH.cons rfl (fun Kc hK => ?_) AllReadyH.nil))
          · have lc := tab6_at T3.out r1 hs1
            go_simp
            try dsimp only
            refine hK.out _ _ ?_ (fun hHeld => ?_)
            · (try dsimp only); exact D3.out
            clear hK Kc
            try simp only [Act.put, List.setIfInBounds_toArray, List.set_cons_zero, List.set_cons_succ, List.getElem_toArray, List.getElem_cons_succ, List.getElem_cons_zero]
            refine yieldH (i := 7) (v := ?_) rfl (by kernel_rfl) (by kernel_rfl) (by kernel_rfl) (fun _ _ _ h => h) (by rfl) ?_ (by assumption) ?_; rotate_left
            · intro w hSw; (try dsimp only at hSw); go_simp; (try with_reducible rfl)
            try simp only [Act.put, List.setIfInBounds_toArray, List.set_cons_zero, List.set_cons_succ, List.getElem_toArray, List.getElem_cons_succ, List.getElem_cons_zero]
            refine wpAnyH_ready (rs := [8]) (by kernel_rfl) (by simp) ?_
            refine (AllReadyH.cons rfl (fun Kc hK => ?_) AllReadyH.nil)
            go_simp
            try dsimp only
            refine hK.out _ _ ?_ (fun hHeld => ?_)
            · (try dsimp only); exact (D3.out.alloc (.cells #[.int .i64 0, .int .i64 0, .int .i64 0, .slice none 0 0] 25))
            clear hK Kc
            try simp only [Act.put, List.setIfInBounds_toArray, List.set_cons_zero, List.set_cons_succ, List.getElem_toArray, List.getElem_cons_succ, List.getElem_cons_zero]
            have D4 : Hid (Dr b B a len cap w0 (x3.alloc (.cells #[.int .i64 0, .int .i64 0, .int .i64 0, .slice none 0 0] 25))) := D3.out.alloc (.cells #[.int .i64 0, .int .i64 0, .int .i64 0, .slice none 0 0] 25)
            have P4 : Hid ((x3.alloc (.cells #[.int .i64 0, .int .i64 0, .int .i64 0, .slice none 0 0] 25)).heap[P]? = some (.cells #[.int .i64 0, .int .i64 0, .int .i64 0, .slice none 0 0] 25 (0, 0))) := blk P3.out (all_alloc x3 (.cells #[.int .i64 0, .int .i64 0, .int .i64 0, .slice none 0 0] 25))
            have N4 : Hid ((x3.alloc (.cells #[.int .i64 0, .int .i64 0, .int .i64 0, .slice none 0 0] 25)).heap[x3.heap.size]? = some (.cells #[.int .i64 0, .int .i64 0, .int .i64 0, .slice none 0 0] 25 (0, 0))) := heap_alloc_new x3 (.cells #[.int .i64 0, .int .i64 0, .int .i64 0, .slice none 0 0] 25)
            have LV : P < x3.heap.size := (Array.getElem?_eq_some_iff.1 P3.out).1
            have T4 : Hid ((x3.alloc (.cells #[.int .i64 0, .int .i64 0, .int .i64 0, .slice none 0 0] 25)).heap[gT]? = some (.cells #[.int .i64 1, .int .i64 3, .int .i64 5, .int .i64 6, .int .i64 15, .int .i64 16] 2 (0, 0))) := blk T3.out (all_alloc x3 (.cells #[.int .i64 0, .int .i64 0, .int .i64 0, .slice none 0 0] 25))
            clear hHeld
            have hHeld := D4.out
            generalize x3.alloc (.cells #[.int .i64 0, .int .i64 0, .int .i64 0, .slice none 0 0] 25) = x4 at D4 P4 N4 T4 hHeld ⊢
            generalize x3.heap.size = V at N4 LV ⊢
            have V4 := N4
            refine wpAnyH_ready (rs := [9]) (by kernel_rfl) (by simp) ?_
            refine (AllReadyH.cons rfl (fun Kc hK => ?_) AllReadyH.nil)
            have u0 := cellW V4.out 0 _ rfl x4 (Below.refl _ _)
            have u1 := cellW V4.out 1 _ rfl x4 (Below.refl _ _)
            have u2 := cellW V4.out 2 _ rfl x4 (Below.refl _ _)
            have u3 := cellW V4.out 3 _ rfl x4 (Below.refl _ _)
            have uf0 := frozenW V4.out 0 x4 (Below.refl _ _)
            have uf1 := frozenW V4.out 1 x4 (Below.refl _ _)
            have uf2 := frozenW V4.out 2 x4 (Below.refl _ _)
            have uf3 := frozenW V4.out 3 x4 (Below.refl _ _)
            go_simp
            try dsimp only
            refine hK.out _ _ ?_ (fun hHeld => ?_)
            · (try dsimp only); exact (Dr.set (Dr.set (Dr.set (Dr.set D4.out (by omega) (by omega) _ _) (by omega) (by omega) _ _) (by omega) (by omega) _ _) (by omega) (by omega) _ _)
            clear hK Kc
            try simp only [Act.put, List.setIfInBounds_toArray, List.set_cons_zero, List.set_cons_succ, List.getElem_toArray, List.getElem_cons_succ, List.getElem_cons_zero]
            refine wpAnyH_done (by kernel_rfl) ?_ _
            go_wp2
            go_meet
            exact ⟨V, rfl, QAsk.mk (y := ⟨_, _, _, []⟩) ⟨hHeld, (Joins.block_setCell (i := 3) (Joins.block_setCell (i := 2) (Joins.block_setCell (i := 1) (Joins.block_setCell (i := 0) V4.out _) _) _) _), ((Below.heap_setCell _ _ _ _ (by simp only; omega)).trans ((Below.heap_setCell _ _ _ _ (by simp only; omega)).trans ((Below.heap_setCell _ _ _ _ (by simp only; omega)).trans ((Below.heap_setCell _ _ _ _ (by simp only; omega)).trans P4.out)))), OwnI.nil _ _, hbP, hwP, LV⟩ (by simp)⟩
          · go_simp
            try dsimp only
            refine hK.out _ _ ?_ (fun hHeld => ?_)
            · (try dsimp only); exact (D3.out.alloc (.cells #[.int .i64 0, .int .i64 0, .int .i64 0, .slice none 0 0] 25))
            clear hK Kc
            try simp only [Act.put, List.setIfInBounds_toArray, List.set_cons_zero, List.set_cons_succ, List.getElem_toArray, List.getElem_cons_succ, List.getElem_cons_zero]
            have D4 : Hid (Dr b B a len cap w0 (x3.alloc (.cells #[.int .i64 0, .int .i64 0, .int .i64 0, .slice none 0 0] 25))) := D3.out.alloc (.cells #[.int .i64 0, .int .i64 0, .int .i64 0, .slice none 0 0] 25)
            have P4 : Hid ((x3.alloc (.cells #[.int .i64 0, .int .i64 0, .int .i64 0, .slice none 0 0] 25)).heap[P]? = some (.cells #[.int .i64 0, .int .i64 0, .int .i64 0, .slice none 0 0] 25 (0, 0))) := blk P3.out (all_alloc x3 (.cells #[.int .i64 0, .int .i64 0, .int .i64 0, .slice none 0 0] 25))
            have N4 : Hid ((x3.alloc (.cells #[.int .i64 0, .int .i64 0, .int .i64 0, .slice none 0 0] 25)).heap[x3.heap.size]? = some (.cells #[.int .i64 0, .int .i64 0, .int .i64 0, .slice none 0 0] 25 (0, 0))) := heap_alloc_new x3 (.cells #[.int .i64 0, .int .i64 0, .int .i64 0, .slice none 0 0] 25)
            have LV : P < x3.heap.size := (Array.getElem?_eq_some_iff.1 P3.out).1
            have T4 : Hid ((x3.alloc (.cells #[.int .i64 0, .int .i64 0, .int .i64 0, .slice none 0 0] 25)).heap[gT]? = some (.cells #[.int .i64 1, .int .i64 3, .int .i64 5, .int .i64 6, .int .i64 15, .int .i64 16] 2 (0, 0))) := blk T3.out (all_alloc x3 (.cells #[.int .i64 0, .int .i64 0, .int .i64 0, .slice none 0 0] 25))
            clear hHeld
            have hHeld := D4.out
            generalize x3.alloc (.cells #[.int .i64 0, .int .i64 0, .int .i64 0, .slice none 0 0] 25) = x4 at D4 P4 N4 T4 hHeld ⊢
            generalize x3.heap.size = V at N4 LV ⊢
            have V4 := N4
            refine wpAnyH_ready (rs := [4]) (by kernel_rfl) (by simp) ?_
            refine (AllReadyH.cons rfl (fun Kc hK => ?_) AllReadyH.nil)
            have lc := tab6_at T4.out r1 hs1
            go_simp
            try dsimp only
            refine hK.out _ _ ?_ (fun hHeld => ?_)
            · (try dsimp only); exact D4.out
            clear hK Kc
            try simp only [Act.put, List.setIfInBounds_toArray, List.set_cons_zero, List.set_cons_succ, List.getElem_toArray, List.getElem_cons_succ, List.getElem_cons_zero]
            refine yieldH (i := 7) (v := ?_) rfl (by kernel_rfl) (by kernel_rfl) (by kernel_rfl) (fun _ _ _ h => h) (by rfl) ?_ (by assumption) ?_; rotate_left
            · intro w hSw; (try dsimp only at hSw); go_simp; (try with_reducible rfl)
            try simp only [Act.put, List.setIfInBounds_toArray, List.set_cons_zero, List.set_cons_succ, List.getElem_toArray, List.getElem_cons_succ, List.getElem_cons_zero]
            refine wpAnyH_ready (rs := [9]) (by kernel_rfl) (by simp) ?_
            refine (AllReadyH.cons rfl (fun Kc hK => ?_) AllReadyH.nil)
            have u0 := cellW V4.out 0 _ rfl x4 (Below.refl _ _)
            have u1 := cellW V4.out 1 _ rfl x4 (Below.refl _ _)
            have u2 := cellW V4.out 2 _ rfl x4 (Below.refl _ _)
            have u3 := cellW V4.out 3 _ rfl x4 (Below.refl _ _)
            have uf0 := frozenW V4.out 0 x4 (Below.refl _ _)
            have uf1 := frozenW V4.out 1 x4 (Below.refl _ _)
            have uf2 := frozenW V4.out 2 x4 (Below.refl _ _)
            have uf3 := frozenW V4.out 3 x4 (Below.refl _ _)
            go_simp
            try dsimp only
            refine hK.out _ _ ?_ (fun hHeld => ?_)
            · (try dsimp only); exact (Dr.set (Dr.set (Dr.set (Dr.set D4.out (by omega) (by omega) _ _) (by omega) (by omega) _ _) (by omega) (by omega) _ _) (by omega) (by omega) _ _)
            clear hK Kc
            try simp only [Act.put, List.setIfInBounds_toArray, List.set_cons_zero, List.set_cons_succ, List.getElem_toArray, List.getElem_cons_succ, List.getElem_cons_zero]
            refine wpAnyH_done (by kernel_rfl) ?_ _
            go_wp2
            go_meet
            exact ⟨V, rfl, QAsk.mk (y := ⟨_, _, _, []⟩) ⟨hHeld, (Joins.block_setCell (i := 3) (Joins.block_setCell (i := 2) (Joins.block_setCell (i := 1) (Joins.block_setCell (i := 0) V4.out _) _) _) _), ((Below.heap_setCell _ _ _ _ (by simp only; omega)).trans ((Below.heap_setCell _ _ _ _ (by simp only; omega)).trans ((Below.heap_setCell _ _ _ _ (by simp only; omega)).trans ((Below.heap_setCell _ _ _ _ (by simp only; omega)).trans P4.out)))), OwnI.nil _ _, hbP, hwP, LV⟩ (by simp)⟩
        · go_simp
          try dsimp only
          refine hK.out _ _ ?_ (fun hHeld => ?_)
          · (try dsimp only); exact (D2.out.alloc (.cells #[.int .i64 0, .int .i64 0, .int .i64 0, .slice none 0 0] 25))
          clear hK Kc
          try simp only [Act.put, List.setIfInBounds_toArray, List.set_cons_zero, List.set_cons_succ, List.getElem_toArray, List.getElem_cons_succ, List.getElem_cons_zero]
          have D3 : Hid (Dr b B a len cap w0 (x2.alloc (.cells #[.int .i64 0, .int .i64 0, .int .i64 0, .slice none 0 0] 25))) := D2.out.alloc (.cells #[.int .i64 0, .int .i64 0, .int .i64 0, .slice none 0 0] 25)
          have P3 : Hid ((x2.alloc (.cells #[.int .i64 0, .int .i64 0, .int .i64 0, .slice none 0 0] 25)).heap[P]? = some (.cells #[.int .i64 0, .int .i64 0, .int .i64 0, .slice none 0 0] 25 (0, 0))) := blk P2.out (all_alloc x2 (.cells #[.int .i64 0, .int .i64 0, .int .i64 0, .slice none 0 0] 25))
          have N3 : Hid ((x2.alloc (.cells #[.int .i64 0, .int .i64 0, .int .i64 0, .slice none 0 0] 25)).heap[x2.heap.size]? = some (.cells #[.int .i64 0, .int .i64 0, .int .i64 0, .slice none 0 0] 25 (0, 0))) := heap_alloc_new x2 (.cells #[.int .i64 0, .int .i64 0, .int .i64 0, .slice none 0 0] 25)
          have LV : P < x2.heap.size := (Array.getElem?_eq_some_iff.1 P2.out).1
          have T3 : Hid ((x2.alloc (.cells #[.int .i64 0, .int .i64 0, .int .i64 0, .slice none 0 0] 25)).heap[gT]? = some (.cells #[.int .i64 1, .int .i64 3, .int .i64 5, .int .i64 6, .int .i64 15, .int .i64 16] 2 (0, 0))) := blk T2.out (all_alloc x2 (.cells #[.int .i64 0, .int .i64 0, .int .i64 0, .slice none 0 0] 25))
          clear hHeld
          have hHeld := D3.out
          generalize x2.alloc (.cells #[.int .i64 0, .int .i64 0, .int .i64 0, .slice none 0 0] 25) = x3 at D3 P3 N3 T3 hHeld ⊢
          generalize x2.heap.size = V at N3 LV ⊢
          have V3 := N3
          refine wpAnyH_ready (rs := [4, 6]) (by kernel_rfl) (by simp) ?_
          refine (AllReadyH.cons rfl (fun Kc hK => ?_) (AllReadyH.cons rfl (fun Kc hK => ?_) AllReadyH.nil))
          · have lc := tab6_at T3.out r1 hs1
            go_simp
            try dsimp only
            refine hK.out _ _ ?_ (fun hHeld => ?_)
            · (try dsimp only); exact D3.out
            clear hK Kc
            try simp only [Act.put, List.setIfInBounds_toArray, List.set_cons_zero, List.set_cons_succ, List.getElem_toArray, List.getElem_cons_succ, List.getElem_cons_zero]
            refine wpAnyH_ready (rs := [6]) (by kernel_rfl) (by simp) ?_
            refine (AllReadyH.cons rfl (fun Kc hK => ?_) AllReadyH.nil)
            go_simp
            go_at_call 39; refine (n_D D3.out 14 (by omega)).mono ?_; rintro e x4 ⟨r2, rfl, hr4, hD4, ho4⟩
            try dsimp only
            refine hK.out _ _ ?_ (fun hHeld => ?_)
            · (try dsimp only); exact hD4
            clear hK Kc
            try simp only [Act.put, List.setIfInBounds_toArray, List.set_cons_zero, List.set_cons_succ, List.getElem_toArray, List.getElem_cons_succ, List.getElem_cons_zero]
            have D4 : Hid (Dr b B a len cap w0 x4) := hD4
            have P4 : Hid (x4.heap[P]? = some (.cells #[.int .i64 0, .int .i64 0, .int .i64 0, .slice none 0 0] 25 (0, 0))) := (ho4.block P (by omega)).trans P3.out
            have T4 : Hid (x4.heap[gT]? = some (.cells #[.int .i64 1, .int .i64 3, .int .i64 5, .int .i64 6, .int .i64 15, .int .i64 16] 2 (0, 0))) := (ho4.block gT (by omega)).trans T3.out
            have V4 : Hid (x4.heap[V]? = some (.cells #[.int .i64 0, .int .i64 0, .int .i64 0, .slice none 0 0] 25 (0, 0))) := (ho4.block V (by omega)).trans V3.out
            clear ho4 hr4
            refine yieldH (i := 7) (v := ?_) rfl (by kernel_rfl) (by kernel_rfl) (by kernel_rfl) (fun _ _ _ h => h) (by rfl) ?_ (by assumption) ?_; rotate_left
            · intro w hSw; (try dsimp only at hSw); go_simp; (try with_reducible rfl)
            try simp only [Act.put, List.setIfInBounds_toArray, List.set_cons_zero, List.set_cons_succ, List.getElem_toArray, List.getElem_cons_succ, List.getElem_cons_zero]
            refine wpAnyH_ready (rs := [9]) (by kernel_rfl) (by simp) ?_
            refine (AllReadyH.cons rfl (fun Kc hK => ?_) AllReadyH.nil)
            have u0 := cellW V4.out 0 _ rfl x4 (Below.refl _ _)
            have u1 := cellW V4.out 1 _ rfl x4 (Below.refl _ _)
            have u2 := cellW V4.out 2 _ rfl x4 (Below.refl _ _)
            have u3 := cellW V4.out 3 _ rfl x4 (Below.refl _ _)
            have uf0 := frozenW V4.out 0 x4 (Below.refl _ _)
            have uf1 := frozenW V4.out 1 x4 (Below.refl _ _)
            have uf2 := frozenW V4.out 2 x4 (Below.refl _ _)
            have uf3 := frozenW V4.out 3 x4 (Below.refl _ _)
            go_simp
            try dsimp only
            refine hK.out _ _ ?_ (fun hHeld => ?_)
            · (try dsimp only); exact (Dr.set (Dr.set (Dr.set (Dr.set D4.out (by omega) (by omega) _ _) (by omega) (by omega) _ _) (by omega) (by omega) _ _) (by omega) (by omega) _ _)
            clear hK Kc
            try simp only [Act.put, List.setIfInBounds_toArray, List.set_cons_zero, List.set_cons_succ, List.getElem_toArray, List.getElem_cons_succ, List.getElem_cons_zero]
            refine wpAnyH_done (by kernel_rfl) ?_ _
            go_wp2
            go_meet
            exact ⟨V, rfl, QAsk.mk (y := ⟨_, _, _, []⟩) ⟨hHeld, (Joins.block_setCell (i := 3) (Joins.block_setCell (i := 2) (Joins.block_setCell (i := 1) (Joins.block_setCell (i := 0) V4.out _) _) _) _), ((Below.heap_setCell _ _ _ _ (by simp only; omega)).trans ((Below.heap_setCell _ _ _ _ (by simp only; omega)).trans ((Below.heap_setCell _ _ _ _ (by simp only; omega)).trans ((Below.heap_setCell _ _ _ _ (by simp only; omega)).trans P4.out)))), OwnI.nil _ _, hbP, hwP, LV⟩ (by simp)⟩
          · go_simp
            go_at_call 39; refine (n_D D3.out 14 (by omega)).mono ?_; rintro e x4 ⟨r2, rfl, hr4, hD4, ho4⟩
            try dsimp only
            refine hK.out _ _ ?_ (fun hHeld => ?_)
            · (try dsimp only); exact hD4
            clear hK Kc
            try simp only [Act.put, List.setIfInBounds_toArray, List.set_cons_zero, List.set_cons_succ, List.getElem_toArray, List.getElem_cons_succ, List.getElem_cons_zero]
            have D4 : Hid (Dr b B a len cap w0 x4) := hD4
            have P4 : Hid (x4.heap[P]? = some (.cells #[.int .i64 0, .int .i64 0, .int .i64 0, .slice none 0 0] 25 (0, 0))) := (ho4.block P (by omega)).trans P3.out
            have T4 : Hid (x4.heap[gT]? = some (.cells #[.int .i64 1, .int .i64 3, .int .i64 5, .int .i64 6, .int .i64 15, .int .i64 16] 2 (0, 0))) := (ho4.block gT (by omega)).trans T3.out
            have V4 : Hid (x4.heap[V]? = some (.cells #[.int .i64 0, .int .i64 0, .int .i64 0, .slice none 0 0] 25 (0, 0))) := (ho4.block V (by omega)).trans V3.out
            clear ho4 hr4
            refine wpAnyH_ready (rs := [4]) (by kernel_rfl) (by simp) ?_
            refine (AllReadyH.cons rfl (fun Kc hK => ?_) AllReadyH.nil)
            have lc := tab6_at T4.out r1 hs1
            go_simp
            try dsimp only
            refine hK.out _ _ ?_ (fun hHeld => ?_)
            · (try dsimp only); exact D4.out
            clear hK Kc
            try simp only [Act.put, List.setIfInBounds_toArray, List.set_cons_zero, List.set_cons_succ, List.getElem_toArray, List.getElem_cons_succ, List.getElem_cons_zero]
            refine yieldH (i := 7) (v := ?_) rfl (by kernel_rfl) (by kernel_rfl) (by kernel_rfl) (fun _ _ _ h => h) (by rfl) ?_ (by assumption) ?_; rotate_left
            · intro w hSw; (try dsimp only at hSw); go_simp; (try with_reducible rfl)
            try simp only [Act.put, List.setIfInBounds_toArray, List.set_cons_zero, List.set_cons_succ, List.getElem_toArray, List.getElem_cons_succ, List.getElem_cons_zero]
            refine wpAnyH_ready (rs := [9]) (by kernel_rfl) (by simp) ?_
            refine (AllReadyH.cons rfl (fun Kc hK => ?_) AllReadyH.nil)
            have u0 := cellW V4.out 0 _ rfl x4 (Below.refl _ _)
            have u1 := cellW V4.out 1 _ rfl x4 (Below.refl _ _)
            have u2 := cellW V4.out 2 _ rfl x4 (Below.refl _ _)
            have u3 := cellW V4.out 3 _ rfl x4 (Below.refl _ _)
            have uf0 := frozenW V4.out 0 x4 (Below.refl _ _)
            have uf1 := frozenW V4.out 1 x4 (Below.refl _ _)
            have uf2 := frozenW V4.out 2 x4 (Below.refl _ _)
            have uf3 := frozenW V4.out 3 x4 (Below.refl _ _)
            go_simp
            try dsimp only
            refine hK.out _ _ ?_ (fun hHeld => ?_)
            · (try dsimp only); exact (Dr.set (Dr.set (Dr.set (Dr.set D4.out (by omega) (by omega) _ _) (by omega) (by omega) _ _) (by omega) (by omega) _ _) (by omega) (by omega) _ _)
            clear hK Kc
            try simp only [Act.put, List.setIfInBounds_toArray, List.set_cons_zero, List.set_cons_succ, List.getElem_toArray, List.getElem_cons_succ, List.getElem_cons_zero]
            refine wpAnyH_done (by kernel_rfl) ?_ _
            go_wp2
            go_meet
            exact ⟨V, rfl, QAsk.mk (y := ⟨_, _, _, []⟩) ⟨hHeld, (Joins.block_setCell (i := 3) (Joins.block_setCell (i := 2) (Joins.block_setCell (i := 1) (Joins.block_setCell (i := 0) V4.out _) _) _) _), ((Below.heap_setCell _ _ _ _ (by simp only; omega)).trans ((Below.heap_setCell _ _ _ _ (by simp only; omega)).trans ((Below.heap_setCell _ _ _ _ (by simp only; omega)).trans ((Below.heap_setCell _ _ _ _ (by simp only; omega)).trans P4.out)))), OwnI.nil _ _, hbP, hwP, LV⟩ (by simp)⟩
      · go_simp
        go_at_call 39; refine (n_D D1.out 14 (by omega)).mono ?_; rintro e x2 ⟨r2, rfl, hr2, hD2, ho2⟩
        try dsimp only
        refine hK.out _ _ ?_ (fun hHeld => ?_)
        · (try dsimp only); exact hD2
        clear hK Kc
        try simp only [Act.put, List.setIfInBounds_toArray, List.set_cons_zero, List.set_cons_succ, List.getElem_toArray, List.getElem_cons_succ, List.getElem_cons_zero]
        have D2 : Hid (Dr b B a len cap w0 x2) := hD2
        have P2 : Hid (x2.heap[P]? = some (.cells #[.int .i64 0, .int .i64 0, .int .i64 0, .slice none 0 0] 25 (0, 0))) := (ho2.block P (by omega)).trans P1.out
        clear ho2 hr2
        refine wpAnyH_ready (rs := [0, 8]) (by kernel_rfl) (by simp) ?_
        refine (AllReadyH.cons rfl (fun Kc hK => ?_) (AllReadyH.cons rfl (fun Kc hK => ?_) AllReadyH.nil))
        · go_simp
          try dsimp only
          refine hK.out _ _ ?_ (fun hHeld => ?_)
          · (try dsimp only); exact (D2.out.alloc (.cells #[.int .i64 1, .int .i64 3, .int .i64 5, .int .i64 6, .int .i64 15, .int .i64 16] 2))
          clear hK Kc
          try simp only [Act.put, List.setIfInBounds_toArray, List.set_cons_zero, List.set_cons_succ, List.getElem_toArray, List.getElem_cons_succ, List.getElem_cons_zero]
          have D3 : Hid (Dr b B a len cap w0 (x2.alloc (.cells #[.int .i64 1, .int .i64 3, .int .i64 5, .int .i64 6, .int .i64 15, .int .i64 16] 2))) := D2.out.alloc (.cells #[.int .i64 1, .int .i64 3, .int .i64 5, .int .i64 6, .int .i64 15, .int .i64 16] 2)
          have P3 : Hid ((x2.alloc (.cells #[.int .i64 1, .int .i64 3, .int .i64 5, .int .i64 6, .int .i64 15, .int .i64 16] 2)).heap[P]? = some (.cells #[.int .i64 0, .int .i64 0, .int .i64 0, .slice none 0 0] 25 (0, 0))) := blk P2.out (all_alloc x2 (.cells #[.int .i64 1, .int .i64 3, .int .i64 5, .int .i64 6, .int .i64 15, .int .i64 16] 2))
          have N3 : Hid ((x2.alloc (.cells #[.int .i64 1, .int .i64 3, .int .i64 5, .int .i64 6, .int .i64 15, .int .i64 16] 2)).heap[x2.heap.size]? = some (.cells #[.int .i64 1, .int .i64 3, .int .i64 5, .int .i64 6, .int .i64 15, .int .i64 16] 2 (0, 0))) := heap_alloc_new x2 (.cells #[.int .i64 1, .int .i64 3, .int .i64 5, .int .i64 6, .int .i64 15, .int .i64 16] 2)
          have LgT : P < x2.heap.size := (Array.getElem?_eq_some_iff.1 P2.out).1
          clear hHeld
          have hHeld := D3.out
          generalize x2.alloc (.cells #[.int .i64 1, .int .i64 3, .int .i64 5, .int .i64 6, .int .i64 15, .int .i64 16] 2) = x3 at D3 P3 N3 hHeld ⊢
          generalize x2.heap.size = gT at N3 LgT ⊢
          have T3 := N3
          refine yieldH (i := 3) (v := ?_) rfl (by kernel_rfl) (by kernel_rfl) (by kernel_rfl) (fun _ _ _ h => h) (by rfl) ?_ (by assumption) ?_; rotate_left
          · intro w hSw; (try dsimp only at hSw); go_simp; (try with_reducible rfl)
          try simp only [Act.put, List.setIfInBounds_toArray, List.set_cons_zero, List.set_cons_succ, List.getElem_toArray, List.getElem_cons_succ, List.getElem_cons_zero]
          refine wpAnyH_ready (rs := [4, 8]) (by kernel_rfl) (by simp) ?_
          refine (AllReadyH.cons rfl (fun Kc hK => ?_) (AllReadyH.cons rfl (fun Kc hK => ?_) AllReadyH.nil))
          · have lc := tab6_at T3.out r1 hs1
            go_simp
            try dsimp only
            refine hK.out _ _ ?_ (fun hHeld => ?_)
            · (try dsimp only); exact D3.out
            clear hK Kc
            try simp only [Act.put, List.setIfInBounds_toArray, List.set_cons_zero, List.set_cons_succ, List.getElem_toArray, List.getElem_cons_succ, List.getElem_cons_zero]
            refine yieldH (i := 7) (v := ?_) rfl (by kernel_rfl) (by kernel_rfl) (by kernel_rfl) (fun _ _ _ h => h) (by rfl) ?_ (by assumption) ?_; rotate_left
            · intro w hSw; (try dsimp only at hSw); go_simp; (try with_reducible rfl)
            try simp only [Act.put, List.setIfInBounds_toArray, List.set_cons_zero, List.set_cons_succ, List.getElem_toArray, List.getElem_cons_succ, List.getElem_cons_zero]
            refine wpAnyH_ready (rs := [8]) (by kernel_rfl) (by simp) ?_
            refine (AllReadyH.cons rfl (fun Kc hK => ?_) AllReadyH.nil)
            go_simp
            try dsimp only
            refine hK.out _ _ ?_ (fun hHeld => ?_)
            · (try dsimp only); exact (D3.out.alloc (.cells #[.int .i64 0, .int .i64 0, .int .i64 0, .slice none 0 0] 25))
            clear hK Kc
            try simp only [Act.put, List.setIfInBounds_toArray, List.set_cons_zero, List.set_cons_succ, List.getElem_toArray, List.getElem_cons_succ, List.getElem_cons_zero]
            have D4 : Hid (Dr b B a len cap w0 (x3.alloc (.cells #[.int .i64 0, .int .i64 0, .int .i64 0, .slice none 0 0] 25))) := D3.out.alloc (.cells #[.int .i64 0, .int .i64 0, .int .i64 0, .slice none 0 0] 25)
            have P4 : Hid ((x3.alloc (.cells #[.int .i64 0, .int .i64 0, .int .i64 0, .slice none 0 0] 25)).heap[P]? = some (.cells #[.int .i64 0, .int .i64 0, .int .i64 0, .slice none 0 0] 25 (0, 0))) := blk P3.out (all_alloc x3 (.cells #[.int .i64 0, .int .i64 0, .int .i64 0, .slice none 0 0] 25))
            have N4 : Hid ((x3.alloc (.cells #[.int .i64 0, .int .i64 0, .int .i64 0, .slice none 0 0] 25)).heap[x3.heap.size]? = some (.cells #[.int .i64 0, .int .i64 0, .int .i64 0, .slice none 0 0] 25 (0, 0))) := heap_alloc_new x3 (.cells #[.int .i64 0, .int .i64 0, .int .i64 0, .slice none 0 0] 25)
            have LV : P < x3.heap.size := (Array.getElem?_eq_some_iff.1 P3.out).1
            have T4 : Hid ((x3.alloc (.cells #[.int .i64 0, .int .i64 0, .int .i64 0, .slice none 0 0] 25)).heap[gT]? = some (.cells #[.int .i64 1, .int .i64 3, .int .i64 5, .int .i64 6, .int .i64 15, .int .i64 16] 2 (0, 0))) := blk T3.out (all_alloc x3 (.cells #[.int .i64 0, .int .i64 0, .int .i64 0, .slice none 0 0] 25))
            clear hHeld
            have hHeld := D4.out
            generalize x3.alloc (.cells #[.int .i64 0, .int .i64 0, .int .i64 0, .slice none 0 0] 25) = x4 at D4 P4 N4 T4 hHeld ⊢
            generalize x3.heap.size = V at N4 LV ⊢
            have V4 := N4
            refine wpAnyH_ready (rs := [9]) (by kernel_rfl) (by simp) ?_
            refine (AllReadyH.cons rfl (fun Kc hK => ?_) AllReadyH.nil)
            have u0 := cellW V4.out 0 _ rfl x4 (Below.refl _ _)
            have u1 := cellW V4.out 1 _ rfl x4 (Below.refl _ _)
            have u2 := cellW V4.out 2 _ rfl x4 (Below.refl _ _)
            have u3 := cellW V4.out 3 _ rfl x4 (Below.refl _ _)
            have uf0 := frozenW V4.out 0 x4 (Below.refl _ _)
            have uf1 := frozenW V4.out 1 x4 (Below.refl _ _)
            have uf2 := frozenW V4.out 2 x4 (Below.refl _ _)
            have uf3 := frozenW V4.out 3 x4 (Below.refl _ _)
            go_simp
            try dsimp only
            refine hK.out _ _ ?_ (fun hHeld => ?_)
            · (try dsimp only); exact (Dr.set (Dr.set (Dr.set (Dr.set D4.out (by omega) (by omega) _ _) (by omega) (by omega) _ _) (by omega) (by omega) _ _) (by omega) (by omega) _ _)
            clear hK Kc
            try simp only [Act.put, List.setIfInBounds_toArray, List.set_cons_zero, List.set_cons_succ, List.getElem_toArray, List.getElem_cons_succ, List.getElem_cons_zero]
            refine wpAnyH_done (by kernel_rfl) ?_ _
            go_wp2
            go_meet
            exact ⟨V, rfl, QAsk.mk (y := ⟨_, _, _, []⟩) ⟨hHeld, (Joins.block_setCell (i := 3) (Joins.block_setCell (i := 2) (Joins.block_setCell (i := 1) (Joins.block_setCell (i := 0) V4.out _) _) _) _), ((Below.heap_setCell _ _ _ _ (by simp only; omega)).trans ((Below.heap_setCell _ _ _ _ (by simp only; omega)).trans ((Below.heap_setCell _ _ _ _ (by simp only; omega)).trans ((Below.heap_setCell _ _ _ _ (by simp only; omega)).trans P4.out)))), OwnI.nil _ _, hbP, hwP, LV⟩ (by simp)⟩
          · go_simp
            try dsimp only
            refine hK.out _ _ ?_ (fun hHeld => ?_)
            · (try dsimp only); exact (D3.out.alloc (.cells #[.int .i64 0, .int .i64 0, .int .i64 0, .slice none 0 0] 25))
            clear hK Kc
            try simp only [Act.put, List.setIfInBounds_toArray, List.set_cons_zero, List.set_cons_succ, List.getElem_toArray, List.getElem_cons_succ, List.getElem_cons_zero]
            have D4 : Hid (Dr b B a len cap w0 (x3.alloc (.cells #[.int .i64 0, .int .i64 0, .int .i64 0, .slice none 0 0] 25))) := D3.out.alloc (.cells #[.int .i64 0, .int .i64 0, .int .i64 0, .slice none 0 0] 25)
            have P4 : Hid ((x3.alloc (.cells #[.int .i64 0, .int .i64 0, .int .i64 0, .slice none 0 0] 25)).heap[P]? = some (.cells #[.int .i64 0, .int .i64 0, .int .i64 0, .slice none 0 0] 25 (0, 0))) := blk P3.out (all_alloc x3 (.cells #[.int .i64 0, .int .i64 0, .int .i64 0, .slice none 0 0] 25))
            have N4 : Hid ((x3.alloc (.cells #[.int .i64 0, .int .i64 0, .int .i64 0, .slice none 0 0] 25)).heap[x3.heap.size]? = some (.cells #[.int .i64 0, .int .i64 0, .int .i64 0, .slice none 0 0] 25 (0, 0))) := heap_alloc_new x3 (.cells #[.int .i64 0, .int .i64 0, .int .i64 0, .slice none 0 0] 25)
            have LV : P < x3.heap.size := (Array.getElem?_eq_some_iff.1 P3.out).1
            have T4 : Hid ((x3.alloc (.cells #[.int .i64 0, .int .i64 0, .int .i64 0, .slice none 0 0] 25)).heap[gT]? = some (.cells #[.int .i64 1, .int .i64 3, .int .i64 5, .int .i64 6, .int .i64 15, .int .i64 16] 2 (0, 0))) := blk T3.out (all_alloc x3 (.cells #[.int .i64 0, .int .i64 0, .int .i64 0, .slice none 0 0] 25))
            clear hHeld
            have hHeld := D4.out
            generalize x3.alloc (.cells #[.int .i64 0, .int .i64 0, .int .i64 0, .slice none 0 0] 25) = x4 at D4 P4 N4 T4 hHeld ⊢
            generalize x3.heap.size = V at N4 LV ⊢
            have V4 := N4
            refine wpAnyH_ready (rs := [4]) (by kernel_rfl) (by simp) ?_
            refine (AllReadyH.cons rfl (fun Kc hK => ?_) AllReadyH.nil)
            have lc := tab6_at T4.out r1 hs1
            go_simp
            try dsimp only
            refine hK.out _ _ ?_ (fun hHeld => ?_)
            · (try dsimp only); exact D4.out
            clear hK Kc
            try simp only [Act.put, List.setIfInBounds_toArray, List.set_cons_zero, List.set_cons_succ, List.getElem_toArray, List.getElem_cons_succ, List.getElem_cons_zero]
            refine yieldH (i := 7) (v := ?_) rfl (by kernel_rfl) (by kernel_rfl) (by kernel_rfl) (fun _ _ _ h => h) (by rfl) ?_ (by assumption) ?_; rotate_left
            · intro w hSw; (try dsimp only at hSw); go_simp; (try with_reducible rfl)
            try simp only [Act.put, List.setIfInBounds_toArray, List.set_cons_zero, List.set_cons_succ, List.getElem_toArray, List.getElem_cons_succ, List.getElem_cons_zero]
            refine wpAnyH_ready (rs := [9]) (by kernel_rfl) (by simp) ?_
            refine (AllReadyH.cons rfl (fun Kc hK => ?_) AllReadyH.nil)
            have u0 := cellW V4.out 0 _ rfl x4 (Below.refl _ _)
            have u1 := cellW V4.out 1 _ rfl x4 (Below.refl _ _)
            have u2 := cellW V4.out 2 _ rfl x4 (Below.refl _ _)
            have u3 := cellW V4.out 3 _ rfl x4 (Below.refl _ _)
            have uf0 := frozenW V4.out 0 x4 (Below.refl _ _)
            have uf1 := frozenW V4.out 1 x4 (Below.refl _ _)
            have uf2 := frozenW V4.out 2 x4 (Below.refl _ _)
            have uf3 := frozenW V4.out 3 x4 (Below.refl _ _)
            go_simp
            try dsimp only
            refine hK.out _ _ ?_ (fun hHeld => ?_)
            · (try dsimp only); exact (Dr.set (Dr.set (Dr.set (Dr.set D4.out (by omega) (by omega) _ _) (by omega) (by omega) _ _) (by omega) (by omega) _ _) (by omega) (by omega) _ _)
            clear hK Kc
            try simp only [Act.put, List.setIfInBounds_toArray, List.set_cons_zero, List.set_cons_succ, List.getElem_toArray, List.getElem_cons_succ, List.getElem_cons_zero]
            refine wpAnyH_done (by kernel_rfl) ?_ _
            go_wp2
            go_meet
            exact ⟨V, rfl, QAsk.mk (y := ⟨_, _, _, []⟩) ⟨hHeld, (Joins.block_setCell (i := 3) (Joins.block_setCell (i := 2) (Joins.block_setCell (i := 1) (Joins.block_setCell (i := 0) V4.out _) _) _) _), ((Below.heap_setCell _ _ _ _ (by simp only; omega)).trans ((Below.heap_setCell _ _ _ _ (by simp only; omega)).trans ((Below.heap_setCell _ _ _ _ (by simp only; omega)).trans ((Below.heap_setCell _ _ _ _ (by simp only; omega)).trans P4.out)))), OwnI.nil _ _, hbP, hwP, LV⟩ (by simp)⟩
        · go_simp
          try dsimp only
          refine hK.out _ _ ?_ (fun hHeld => ?_)
          · (try dsimp only); exact (D2.out.alloc (.cells #[.int .i64 0, .int .i64 0, .int .i64 0, .slice none 0 0] 25))
          clear hK Kc
          try simp only [Act.put, List.setIfInBounds_toArray, List.set_cons_zero, List.set_cons_succ, List.getElem_toArray, List.getElem_cons_succ, List.getElem_cons_zero]
          have D3 : Hid (Dr b B a len cap w0 (x2.alloc (.cells #[.int .i64 0, .int .i64 0, .int .i64 0, .slice none 0 0] 25))) := D2.out.alloc (.cells #[.int .i64 0, .int .i64 0, .int .i64 0, .slice none 0 0] 25)
          have P3 : Hid ((x2.alloc (.cells #[.int .i64 0, .int .i64 0, .int .i64 0, .slice none 0 0] 25)).heap[P]? = some (.cells #[.int .i64 0, .int .i64 0, .int .i64 0, .slice none 0 0] 25 (0, 0))) := blk P2.out (all_alloc x2 (.cells #[.int .i64 0, .int .i64 0, .int .i64 0, .slice none 0 0] 25))
          have N3 : Hid ((x2.alloc (.cells #[.int .i64 0, .int .i64 0, .int .i64 0, .slice none 0 0] 25)).heap[x2.heap.size]? = some (.cells #[.int .i64 0, .int .i64 0, .int .i64 0, .slice none 0 0] 25 (0, 0))) := heap_alloc_new x2 (.cells #[.int .i64 0, .int .i64 0, .int .i64 0, .slice none 0 0] 25)
          have LV : P < x2.heap.size := (Array.getElem?_eq_some_iff.1 P2.out).1
          clear hHeld
          have hHeld := D3.out
          generalize x2.alloc (.cells #[.int .i64 0, .int .i64 0, .int .i64 0, .slice none 0 0] 25) = x3 at D3 P3 N3 hHeld ⊢
          generalize x2.heap.size = V at N3 LV ⊢
          have V3 := N3
          refine wpAnyH_ready (rs := [0]) (by kernel_rfl) (by simp) ?_
          refine (AllReadyH.cons rfl (fun Kc hK => ?_) AllReadyH.nil)
          go_simp
          try dsimp only
          refine hK.out _ _ ?_ (fun hHeld => ?_)
          · (try dsimp only); exact (D3.out.alloc (.cells #[.int .i64 1, .int .i64 3, .int .i64 5, .int .i64 6, .int .i64 15, .int .i64 16] 2))
          clear hK Kc
          try simp only [Act.put, List.setIfInBounds_toArray, List.set_cons_zero, List.set_cons_succ, List.getElem_toArray, List.getElem_cons_succ, List.getElem_cons_zero]
          have D4 : Hid (Dr b B a len cap w0 (x3.alloc (.cells #[.int .i64 1, .int .i64 3, .int .i64 5, .int .i64 6, .int .i64 15, .int .i64 16] 2))) := D3.out.alloc (.cells #[.int .i64 1, .int .i64 3, .int .i64 5, .int .i64 6, .int .i64 15, .int .i64 16] 2)
          have P4 : Hid ((x3.alloc (.cells #[.int .i64 1, .int .i64 3, .int .i64 5, .int .i64 6, .int .i64 15, .int .i64 16] 2)).heap[P]? = some (.cells #[.int .i64 0, .int .i64 0, .int .i64 0, .slice none 0 0] 25 (0, 0))) := blk P3.out (all_alloc x3 (.cells #[.int .i64 1, .int .i64 3, .int .i64 5, .int .i64 6, .int .i64 15, .int .i64 16] 2))
          have N4 : Hid ((x3.alloc (.cells #[.int .i64 1, .int .i64 3, .int .i64 5, .int .i64 6, .int .i64 15, .int .i64 16] 2)).heap[x3.heap.size]? = some (.cells #[.int .i64 1, .int .i64 3, .int .i64 5, .int .i64 6, .int .i64 15, .int .i64 16] 2 (0, 0))) := heap_alloc_new x3 (.cells #[.int .i64 1, .int .i64 3, .int .i64 5, .int .i64 6, .int .i64 15, .int .i64 16] 2)
          have LgT : P < x3.heap.size := (Array.getElem?_eq_some_iff.1 P3.out).1
          have V4 : Hid ((x3.alloc (.cells #[.int .i64 1, .int .i64 3, .int .i64 5, .int .i64 6, .int .i64 15, .int .i64 16] 2)).heap[V]? = some (.cells #[.int .i64 0, .int .i64 0, .int .i64 0, .slice none 0 0] 25 (0, 0))) := blk V3.out (all_alloc x3 (.cells #[.int .i64 1, .int .i64 3, .int .i64 5, .int .i64 6, .int .i64 15, .int .i64 16] 2))
          clear hHeld
          have hHeld := D4.out
          generalize x3.alloc (.cells #[.int .i64 1, .int .i64 3, .int .i64 5, .int .i64 6, .int .i64 15, .int .i64 16] 2) = x4 at D4 P4 N4 V4 hHeld ⊢
          generalize x3.heap.size = gT at N4 LgT ⊢
          have T4 := N4
          refine yieldH (i := 3) (v := ?_) rfl (by kernel_rfl) (by kernel_rfl) (by kernel_rfl) (fun _ _ _ h => h) (by rfl) ?_ (by assumption) ?_; rotate_left
          · intro w hSw; (try dsimp only at hSw); go_simp; (try with_reducible rfl)
          try simp only [Act.put, List.setIfInBounds_toArray, List.set_cons_zero, List.set_cons_succ, List.getElem_toArray, List.getElem_cons_succ, List.getElem_cons_zero]
          refine wpAnyH_ready (rs := [4]) (by kernel_rfl) (by simp) ?_
          refine (AllReadyH.cons rfl (fun Kc hK => ?_) AllReadyH.nil)
          have lc := tab6_at T4.out r1 hs1
          go_simp
          try dsimp only
          refine hK.out _ _ ?_ (fun hHeld => ?_)
          · (try dsimp only); exact D4.out
          clear hK Kc
          try simp only [Act.put, List.setIfInBounds_toArray, List.set_cons_zero, List.set_cons_succ, List.getElem_toArray, List.getElem_cons_succ, List.getElem_cons_zero]
          refine yieldH (i := 7) (v := ?_) rfl (by kernel_rfl) (by kernel_rfl) (by kernel_rfl) (fun _ _ _ h => h) (by rfl) ?_ (by assumption) ?_; rotate_left
          · intro w hSw; (try dsimp only at hSw); go_simp; (try with_reducible rfl)
          try simp only [Act.put, List.setIfInBounds_toArray, List.set_cons_zero, List.set_cons_succ, List.getElem_toArray, List.getElem_cons_succ, List.getElem_cons_zero]
          refine wpAnyH_ready (rs := [9]) (by kernel_rfl) (by simp) ?_
          refine (AllReadyH.cons rfl (fun Kc hK => ?_) AllReadyH.nil)
          have u0 := cellW V4.out 0 _ rfl x4 (Below.refl _ _)
          have u1 := cellW V4.out 1 _ rfl x4 (Below.refl _ _)
          have u2 := cellW V4.out 2 _ rfl x4 (Below.refl _ _)
          have u3 := cellW V4.out 3 _ rfl x4 (Below.refl _ _)
          have uf0 := frozenW V4.out 0 x4 (Below.refl _ _)
          have uf1 := frozenW V4.out 1 x4 (Below.refl _ _)
          have uf2 := frozenW V4.out 2 x4 (Below.refl _ _)
          have uf3 := frozenW V4.out 3 x4 (Below.refl _ _)
          go_simp
          try dsimp only
          refine hK.out _ _ ?_ (fun hHeld => ?_)
          · (try dsimp only); exact (Dr.set (Dr.set (Dr.set (Dr.set D4.out (by omega) (by omega) _ _) (by omega) (by omega) _ _) (by omega) (by omega) _ _) (by omega) (by omega) _ _)
          clear hK Kc
          try simp only [Act.put, List.setIfInBounds_toArray, List.set_cons_zero, List.set_cons_succ, List.getElem_toArray, List.getElem_cons_succ, List.getElem_cons_zero]
          refine wpAnyH_done (by kernel_rfl) ?_ _
          go_wp2
          go_meet
          exact ⟨V, rfl, QAsk.mk (y := ⟨_, _, _, []⟩) ⟨hHeld, (Joins.block_setCell (i := 3) (Joins.block_setCell (i := 2) (Joins.block_setCell (i := 1) (Joins.block_setCell (i := 0) V4.out _) _) _) _), ((Below.heap_setCell _ _ _ _ (by simp only; omega)).trans ((Below.heap_setCell _ _ _ _ (by simp only; omega)).trans ((Below.heap_setCell _ _ _ _ (by simp only; omega)).trans ((Below.heap_setCell _ _ _ _ (by simp only; omega)).trans P4.out)))), OwnI.nil _ _, hbP, hwP, LV⟩ (by simp)⟩
      · go_simp
        try dsimp only
        refine hK.out _ _ ?_ (fun hHeld => ?_)
        · (try dsimp only); exact (D1.out.alloc (.cells #[.int .i64 0, .int .i64 0, .int .i64 0, .slice none 0 0] 25))
        clear hK Kc
        try simp only [Act.put, List.setIfInBounds_toArray, List.set_cons_zero, List.set_cons_succ, List.getElem_toArray, List.getElem_cons_succ, List.getElem_cons_zero]
        have D2 : Hid (Dr b B a len cap w0 (x1.alloc (.cells #[.int .i64 0, .int .i64 0, .int .i64 0, .slice none 0 0] 25))) := D1.out.alloc (.cells #[.int .i64 0, .int .i64 0, .int .i64 0, .slice none 0 0] 25)
        have P2 : Hid ((x1.alloc (.cells #[.int .i64 0, .int .i64 0, .int .i64 0, .slice none 0 0] 25)).heap[P]? = some (.cells #[.int .i64 0, .int .i64 0, .int .i64 0, .slice none 0 0] 25 (0, 0))) := blk P1.out (all_alloc x1 (.cells #[.int .i64 0, .int .i64 0, .int .i64 0, .slice none 0 0] 25))
        have N2 : Hid ((x1.alloc (.cells #[.int .i64 0, .int .i64 0, .int .i64 0, .slice none 0 0] 25)).heap[x1.heap.size]? = some (.cells #[.int .i64 0, .int .i64 0, .int .i64 0, .slice none 0 0] 25 (0, 0))) := heap_alloc_new x1 (.cells #[.int .i64 0, .int .i64 0, .int .i64 0, .slice none 0 0] 25)
        have LV : P < x1.heap.size := (Array.getElem?_eq_some_iff.1 P1.out).1
        clear hHeld
        have hHeld := D2.out
        generalize x1.alloc (.cells #[.int .i64 0, .int .i64 0, .int .i64 0, .slice none 0 0] 25) = x2 at D2 P2 N2 hHeld ⊢
        generalize x1.heap.size = V at N2 LV ⊢
        have V2 := N2
        refine wpAnyH_ready (rs := [0, 6]) (by kernel_rfl) (by simp) ?_
        refine (AllReadyH.cons rfl (fun Kc hK => ?_) (AllReadyH.cons rfl (fun Kc hK => ?_) AllReadyH.nil))
        · go_simp
          try dsimp only
          refine hK.out _ _ ?_ (fun hHeld => ?_)
          · (try dsimp only); exact (D2.out.alloc (.cells #[.int .i64 1, .int .i64 3, .int .i64 5, .int .i64 6, .int .i64 15, .int .i64 16] 2))
          clear hK Kc
          try simp only [Act.put, List.setIfInBounds_toArray, List.set_cons_zero, List.set_cons_succ, List.getElem_toArray, List.getElem_cons_succ, List.getElem_cons_zero]
          have D3 : Hid (Dr b B a len cap w0 (x2.alloc (.cells #[.int .i64 1, .int .i64 3, .int .i64 5, .int .i64 6, .int .i64 15, .int .i64 16] 2))) := D2.out.alloc (.cells #[.int .i64 1, .int .i64 3, .int .i64 5, .int .i64 6, .int .i64 15, .int .i64 16] 2)
          have P3 : Hid ((x2.alloc (.cells #[.int .i64 1, .int .i64 3, .int .i64 5, .int .i64 6, .int .i64 15, .int .i64 16] 2)).heap[P]? = some (.cells #[.int .i64 0, .int .i64 0, .int .i64 0, .slice none 0 0] 25 (0, 0))) := blk P2.out (all_alloc x2 (.cells #[.int .i64 1, .int .i64 3, .int .i64 5, .int .i64 6, .int .i64 15, .int .i64 16] 2))
          have N3 : Hid ((x2.alloc (.cells #[.int .i64 1, .int .i64 3, .int .i64 5, .int .i64 6, .int .i64 15, .int .i64 16] 2)).heap[x2.heap.size]? = some (.cells #[.int .i64 1, .int .i64 3, .int .i64 5, .int .i64 6, .int .i64 15, .int .i64 16] 2 (0, 0))) := heap_alloc_new x2 (.cells #[.int .i64 1, .int .i64 3, .int .i64 5, .int .i64 6, .int .i64 15, .int .i64 16] 2)
          have LgT : P < x2.heap.size := (Array.getElem?_eq_some_iff.1 P2.out).1
          have V3 : Hid ((x2.alloc (.cells #[.int .i64 1, .int .i64 3, .int .i64 5, .int .i64 6, .int .i64 15, .int .i64 16] 2)).heap[V]? = some (.cells #[.int .i64 0, .int .i64 0, .int .i64 0, .slice none 0 0] 25 (0, 0))) := blk V2.out (all_alloc x2 (.cells #[.int .i64 1, .int .i64 3, .int .i64 5, .int .i64 6, .int .i64 15, .int .i64 16] 2))
          clear hHeld
          have hHeld := D3.out
          generalize x2.alloc (.cells #[.int .i64 1, .int .i64 3, .int .i64 5, .int .i64 6, .int .i64 15, .int .i64 16] 2) = x3 at D3 P3 N3 V3 hHeld ⊢
          generalize x2.heap.size = gT at N3 LgT ⊢
          have T3 := N3
          refine yieldH (i := 3) (v := ?_) rfl (by kernel_rfl) (by kernel_rfl) (by kernel_rfl) (fun _ _ _ h => h) (by rfl) ?_ (by assumption) ?_; rotate_left
          · intro w hSw; (try dsimp only at hSw); go_simp; (try with_reducible rfl)
          try simp only [Act.put, List.setIfInBounds_toArray, List.set_cons_zero, List.set_cons_succ, List.getElem_toArray, List.getElem_cons_succ, List.getElem_cons_zero]
          refine wpAnyH_ready (rs := [4, 6]) (by kernel_rfl) (by simp) ?_
          refine (AllReadyH.cons rfl (fun Kc hK => ?_) (AllReadyH.cons rfl (fun Kc hK => ?_) AllReadyH.nil))
          · have lc := tab6_at T3.out r1 hs1
            go_simp
            try dsimp only
            refine hK.out _ _ ?_ (fun hHeld => ?_)
            · (try dsimp only); exact D3.out
            clear hK Kc
            try simp only [Act.put, List.setIfInBounds_toArray, List.set_cons_zero, List.set_cons_succ, List.getElem_toArray, List.getElem_cons_succ, List.getElem_cons_zero]
            refine wpAnyH_ready (rs := [6]) (by kernel_rfl) (by simp) ?_
            refine (AllReadyH.cons rfl (fun Kc hK => ?_) AllReadyH.nil)
            go_simp
            go_at_call 39; refine (n_D D3.out 14 (by omega)).mono ?_; rintro e x4 ⟨r2, rfl, hr4, hD4, ho4⟩
            try dsimp only
            refine hK.out _ _ ?_ (fun hHeld => ?_)
            · (try dsimp only); exact hD4
            clear hK Kc
            try simp only [Act.put, List.setIfInBounds_toArray, List.set_cons_zero, List.set_cons_succ, List.getElem_toArray, List.getElem_cons_succ, List.getElem_cons_zero]
            have D4 : Hid (Dr b B a len cap w0 x4) := hD4
            have P4 : Hid (x4.heap[P]? = some (.cells #[.int .i64 0, .int .i64 0, .int .i64 0, .slice none 0 0] 25 (0, 0))) := (ho4.block P (by omega)).trans P3.out
            have T4 : Hid (x4.heap[gT]? = some (.cells #[.int .i64 1, .int .i64 3, .int .i64 5, .int .i64 6, .int .i64 15, .int .i64 16] 2 (0, 0))) := (ho4.block gT (by omega)).trans T3.out
            have V4 : Hid (x4.heap[V]? = some (.cells #[.int .i64 0, .int .i64 0, .int .i64 0, .slice none 0 0] 25 (0, 0))) := (ho4.block V (by omega)).trans V3.out
            clear ho4 hr4
            refine yieldH (i := 7) (v := ?_) rfl (by kernel_rfl) (by kernel_rfl) (by kernel_rfl) (fun _ _ _ h => h) (by rfl) ?_ (by assumption) ?_; rotate_left
            · intro w hSw; (try dsimp only at hSw); go_simp; (try with_reducible rfl)
            try simp only [Act.put, List.setIfInBounds_toArray, List.set_cons_zero, List.set_cons_succ, List.getElem_toArray, List.getElem_cons_succ, List.getElem_cons_zero]
            refine wpAnyH_ready (rs := [9]) (by kernel_rfl) (by simp) ?_
            refine (AllReadyH.cons rfl (fun Kc hK => ?_) AllReadyH.nil)
            have u0 := cellW V4.out 0 _ rfl x4 (Below.refl _ _)
            have u1 := cellW V4.out 1 _ rfl x4 (Below.refl _ _)
            have u2 := cellW V4.out 2 _ rfl x4 (Below.refl _ _)
            have u3 := cellW V4.out 3 _ rfl x4 (Below.refl _ _)
            have uf0 := frozenW V4.out 0 x4 (Below.refl _ _)
            have uf1 := frozenW V4.out 1 x4 (Below.refl _ _)
            have uf2 := frozenW V4.out 2 x4 (Below.refl _ _)
            have uf3 := frozenW V4.out 3 x4 (Below.refl _ _)
            go_simp
            try dsimp only
            refine hK.out _ _ ?_ (fun hHeld => ?_)
            · (try dsimp only); exact (Dr.set (Dr.set (Dr.set (Dr.set D4.out (by omega) (by omega) _ _) (by omega) (by omega) _ _) (by omega) (by omega) _ _) (by omega) (by omega) _ _)
            clear hK Kc
            try simp only [Act.put, List.setIfInBounds_toArray, List.set_cons_zero, List.set_cons_succ, List.getElem_toArray, List.getElem_cons_succ, List.getElem_cons_zero]
            refine wpAnyH_done (by kernel_rfl) ?_ _
            go_wp2
            go_meet
            exact ⟨V, rfl, QAsk.mk (y := ⟨_, _, _, []⟩) ⟨hHeld, (Joins.block_setCell (i := 3) (Joins.block_setCell (i := 2) (Joins.block_setCell (i := 1) (Joins.block_setCell (i := 0) V4.out _) _) _) _), ((Below.heap_setCell _ _ _ _ (by simp only; omega)).trans ((Below.heap_setCell _ _ _ _ (by simp only; omega)).trans ((Below.heap_setCell _ _ _ _ (by simp only; omega)).trans ((Below.heap_setCell _ _ _ _ (by simp only; omega)).trans P4.out)))), OwnI.nil _ _, hbP, hwP, LV⟩ (by simp)⟩
          · go_simp
            go_at_call 39; refine (n_D D3.out 14 (by omega)).mono ?_; rintro e x4 ⟨r2, rfl, hr4, hD4, ho4⟩
            try dsimp only
            refine hK.out _ _ ?_ (fun hHeld => ?_)
            · (try dsimp only); exact hD4
            clear hK Kc
            try simp only [Act.put, List.setIfInBounds_toArray, List.set_cons_zero, List.set_cons_succ, List.getElem_toArray, List.getElem_cons_succ, List.getElem_cons_zero]
            have D4 : Hid (Dr b B a len cap w0 x4) := hD4
            have P4 : Hid (x4.heap[P]? = some (.cells #[.int .i64 0, .int .i64 0, .int .i64 0, .slice none 0 0] 25 (0, 0))) := (ho4.block P (by omega)).trans P3.out
            have T4 : Hid (x4.heap[gT]? = some (.cells #[.int .i64 1, .int .i64 3, .int .i64 5, .int .i64 6, .int .i64 15, .int .i64 16] 2 (0, 0))) := (ho4.block gT (by omega)).trans T3.out
            have V4 : Hid (x4.heap[V]? = some (.cells #[.int .i64 0, .int .i64 0, .int .i64 0, .slice none 0 0] 25 (0, 0))) := (ho4.block V (by omega)).trans V3.out
            clear ho4 hr4
            refine wpAnyH_ready (rs := [4]) (by kernel_rfl) (by simp) ?_
            refine (AllReadyH.cons rfl (fun Kc hK => ?_) AllReadyH.nil)
            have lc := tab6_at T4.out r1 hs1
            go_simp
            try dsimp only
            refine hK.out _ _ ?_ (fun hHeld => ?_)
            · (try dsimp only); exact D4.out
            clear hK Kc
            try simp only [Act.put, List.setIfInBounds_toArray, List.set_cons_zero, List.set_cons_succ, List.getElem_toArray, List.getElem_cons_succ, List.getElem_cons_zero]
            refine yieldH (i := 7) (v := ?_) rfl (by kernel_rfl) (by kernel_rfl) (by kernel_rfl) (fun _ _ _ h => h) (by rfl) ?_ (by assumption) ?_; rotate_left
            · intro w hSw; (try dsimp only at hSw); go_simp; (try with_reducible rfl)
            try simp only [Act.put, List.setIfInBounds_toArray, List.set_cons_zero, List.set_cons_succ, List.getElem_toArray, List.getElem_cons_succ, List.getElem_cons_zero]
            refine wpAnyH_ready (rs := [9]) (by kernel_rfl) (by simp) ?_
            refine (AllReadyH.cons rfl (fun Kc hK => ?_) AllReadyH.nil)
            have u0 := cellW V4.out 0 _ rfl x4 (Below.refl _ _)
            have u1 := cellW V4.out 1 _ rfl x4 (Below.refl _ _)
            have u2 := cellW V4.out 2 _ rfl x4 (Below.refl _ _)
            have u3 := cellW V4.out 3 _ rfl x4 (Below.refl _ _)
            have uf0 := frozenW V4.out 0 x4 (Below.refl _ _)
            have uf1 := frozenW V4.out 1 x4 (Below.refl _ _)
            have uf2 := frozenW V4.out 2 x4 (Below.refl _ _)
            have uf3 := frozenW V4.out 3 x4 (Below.refl _ _)
            go_simp
            try dsimp only
            refine hK.out _ _ ?_ (fun hHeld => ?_)
            · (try dsimp only); exact (Dr.set (Dr.set (Dr.set (Dr.set D4.out (by omega) (by omega) _ _) (by omega) (by omega) _ _) (by omega) (by omega) _ _) (by omega) (by omega) _ _)
            clear hK Kc
            try simp only [Act.put, List.setIfInBounds_toArray, List.set_cons_zero, List.set_cons_succ, List.getElem_toArray, List.getElem_cons_succ, List.getElem_cons_zero]
            refine wpAnyH_done (by kernel_rfl) ?_ _
            go_wp2
            go_meet
            exact ⟨V, rfl, QAsk.mk (y := ⟨_, _, _, []⟩) ⟨hHeld, (Joins.block_setCell (i := 3) (Joins.block_setCell (i := 2) (Joins.block_setCell (i := 1) (Joins.block_setCell (i := 0) V4.out _) _) _) _), ((Below.heap_setCell _ _ _ _ (by simp only; omega)).trans ((Below.heap_setCell _ _ _ _ (by simp only; omega)).trans ((Below.heap_setCell _ _ _ _ (by simp only; omega)).trans ((Below.heap_setCell _ _ _ _ (by simp only; omega)).trans P4.out)))), OwnI.nil _ _, hbP, hwP, LV⟩ (by simp)⟩
        · go_simp
          go_at_call 39; refine (n_D D2.out 14 (by omega)).mono ?_; rintro e x3 ⟨r2, rfl, hr3, hD3, ho3⟩
          try dsimp only
          refine hK.out _ _ ?_ (fun hHeld => ?_)
          · (try dsimp only); exact hD3
          clear hK Kc
          try simp only [Act.put, List.setIfInBounds_toArray, List.set_cons_zero, List.set_cons_succ, List.getElem_toArray, List.getElem_cons_succ, List.getElem_cons_zero]
          have D3 : Hid (Dr b B a len cap w0 x3) := hD3
          have P3 : Hid (x3.heap[P]? = some (.cells #[.int .i64 0, .int .i64 0, .int .i64 0, .slice none 0 0] 25 (0, 0))) := (ho3.block P (by omega)).trans P2.out
          have V3 : Hid (x3.heap[V]? = some (.cells #[.int .i64 0, .int .i64 0, .int .i64 0, .slice none 0 0] 25 (0, 0))) := (ho3.block V (by omega)).trans V2.out
          clear ho3 hr3
          refine wpAnyH_ready (rs := [0]) (by kernel_rfl) (by simp) ?_
          refine (AllReadyH.cons rfl (fun Kc hK => ?_) AllReadyH.nil)
          go_simp
          try dsimp only
          refine hK.out _ _ ?_ (fun hHeld => ?_)
          · (try dsimp only); exact (D3.out.alloc (.cells #[.int .i64 1, .int .i64 3, .int .i64 5, .int .i64 6, .int .i64 15, .int .i64 16] 2))
          clear hK Kc
          try simp only [Act.put, List.setIfInBounds_toArray, List.set_cons_zero, List.set_cons_succ, List.getElem_toArray, List.getElem_cons_succ, List.getElem_cons_zero]
          have D4 : Hid (Dr b B a len cap w0 (x3.alloc (.cells #[.int .i64 1, .int .i64 3, .int .i64 5, .int .i64 6, .int .i64 15, .int .i64 16] 2))) := D3.out.alloc (.cells #[.int .i64 1, .int .i64 3, .int .i64 5, .int .i64 6, .int .i64 15, .int .i64 16] 2)
          have P4 : Hid ((x3.alloc (.cells #[.int .i64 1, .int .i64 3, .int .i64 5, .int .i64 6, .int .i64 15, .int .i64 16] 2)).heap[P]? = some (.cells #[.int .i64 0, .int .i64 0, .int .i64 0, .slice none 0 0] 25 (0, 0))) := blk P3.out (all_alloc x3 (.cells #[.int .i64 1, .int .i64 3, .int .i64 5, .int .i64 6, .int .i64 15, .int .i64 16] 2))
          have N4 : Hid ((x3.alloc (.cells #[.int .i64 1, .int .i64 3, .int .i64 5, .int .i64 6, .int .i64 15, .int .i64 16] 2)).heap[x3.heap.size]? = some (.cells #[.int .i64 1, .int .i64 3, .int .i64 5, .int .i64 6, .int .i64 15, .int .i64 16] 2 (0, 0))) := heap_alloc_new x3 (.cells #[.int .i64 1, .int .i64 3, .int .i64 5, .int .i64 6, .int .i64 15, .int .i64 16] 2)
          have LgT : P < x3.heap.size := (Array.getElem?_eq_some_iff.1 P3.out).1
          have V4 : Hid ((x3.alloc (.cells #[.int .i64 1, .int .i64 3, .int .i64 5, .int .i64 6, .int .i64 15, .int .i64 16] 2)).heap[V]? = some (.cells #[.int .i64 0, .int .i64 0, .int .i64 0, .slice none 0 0] 25 (0, 0))) := blk V3.out (all_alloc x3 (.cells #[.int .i64 1, .int .i64 3, .int .i64 5, .int .i64 6, .int .i64 15, .int .i64 16] 2))
          clear hHeld
          have hHeld := D4.out
          generalize x3.alloc (.cells #[.int .i64 1, .int .i64 3, .int .i64 5, .int .i64 6, .int .i64 15, .int .i64 16] 2) = x4 at D4 P4 N4 V4 hHeld ⊢
          generalize x3.heap.size = gT at N4 LgT ⊢
          have T4 := N4
          refine yieldH (i := 3) (v := ?_) rfl (by kernel_rfl) (by kernel_rfl) (by kernel_rfl) (fun _ _ _ h => h) (by rfl) ?_ (by assumption) ?_; rotate_left
          · intro w hSw; (try dsimp only at hSw); go_simp; (try with_reducible rfl)
          try simp only [Act.put, List.setIfInBounds_toArray, List.set_cons_zero, List.set_cons_succ, List.getElem_toArray, List.getElem_cons_succ, List.getElem_cons_zero]
          refine wpAnyH_ready (rs := [4]) (by kernel_rfl) (by simp) ?_
          refine (AllReadyH.cons rfl (fun Kc hK => ?_) AllReadyH.nil)
          have lc := tab6_at T4.out r1 hs1
          go_simp
          try dsimp only
          refine hK.out _ _ ?_ (fun hHeld => ?_)
          · (try dsimp only); exact D4.out
          clear hK Kc
          try simp only [Act.put, List.setIfInBounds_toArray, List.set_cons_zero, List.set_cons_succ, List.getElem_toArray, List.getElem_cons_succ, List.getElem_cons_zero]
          refine yieldH (i := 7) (v := ?_) rfl (by kernel_rfl) (by kernel_rfl) (by kernel_rfl) (fun _ _ _ h => h) (by rfl) ?_ (by assumption) ?_; rotate_left
          · intro w hSw; (try dsimp only at hSw); go_simp; (try with_reducible rfl)
          try simp only [Act.put, List.setIfInBounds_toArray, List.set_cons_zero, List.set_cons_succ, List.getElem_toArray, List.getElem_cons_succ, List.getElem_cons_zero]
          refine wpAnyH_ready (rs := [9]) (by kernel_rfl) (by simp) ?_
          refine (AllReadyH.cons rfl (fun Kc hK => ?_) AllReadyH.nil)
          have u0 := cellW V4.out 0 _ rfl x4 (Below.refl _ _)
          have u1 := cellW V4.out 1 _ rfl x4 (Below.refl _ _)
          have u2 := cellW V4.out 2 _ rfl x4 (Below.refl _ _)
          have u3 := cellW V4.out 3 _ rfl x4 (Below.refl _ _)
          have uf0 := frozenW V4.out 0 x4 (Below.refl _ _)
          have uf1 := frozenW V4.out 1 x4 (Below.refl _ _)
          have uf2 := frozenW V4.out 2 x4 (Below.refl _ _)
          have uf3 := frozenW V4.out 3 x4 (Below.refl _ _)
          go_simp
          try dsimp only
          refine hK.out _ _ ?_ (fun hHeld => ?_)
          · (try dsimp only); exact (Dr.set (Dr.set (Dr.set (Dr.set D4.out (by omega) (by omega) _ _) (by omega) (by omega) _ _) (by omega) (by omega) _ _) (by omega) (by omega) _ _)
          clear hK Kc
          try simp only [Act.put, List.setIfInBounds_toArray, List.set_cons_zero, List.set_cons_succ, List.getElem_toArray, List.getElem_cons_succ, List.getElem_cons_zero]
          refine wpAnyH_done (by kernel_rfl) ?_ _
          go_wp2
          go_meet
          exact ⟨V, rfl, QAsk.mk (y := ⟨_, _, _, []⟩) ⟨hHeld, (Joins.block_setCell (i := 3) (Joins.block_setCell (i := 2) (Joins.block_setCell (i := 1) (Joins.block_setCell (i := 0) V4.out _) _) _) _), ((Below.heap_setCell _ _ _ _ (by simp only; omega)).trans ((Below.heap_setCell _ _ _ _ (by simp only; omega)).trans ((Below.heap_setCell _ _ _ _ (by simp only; omega)).trans ((Below.heap_setCell _ _ _ _ (by simp only; omega)).trans P4.out)))), OwnI.nil _ _, hbP, hwP, LV⟩ (by simp)⟩
    · go_simp
      try dsimp only
      refine hK.out _ _ ?_ (fun hHeld => ?_)
      · (try dsimp only); exact (D0.out.alloc (.cells #[.int .i64 0, .int .i64 0, .int .i64 0, .slice none 0 0] 25))
      clear hK Kc
      try simp only [Act.put, List.setIfInBounds_toArray, List.set_cons_zero, List.set_cons_succ, List.getElem_toArray, List.getElem_cons_succ, List.getElem_cons_zero]
      have D1 : Hid (Dr b B a len cap w0 (x0.alloc (.cells #[.int .i64 0, .int .i64 0, .int .i64 0, .slice none 0 0] 25))) := D0.out.alloc (.cells #[.int .i64 0, .int .i64 0, .int .i64 0, .slice none 0 0] 25)
      have P1 : Hid ((x0.alloc (.cells #[.int .i64 0, .int .i64 0, .int .i64 0, .slice none 0 0] 25)).heap[P]? = some (.cells #[.int .i64 0, .int .i64 0, .int .i64 0, .slice none 0 0] 25 (0, 0))) := blk P0.out (all_alloc x0 (.cells #[.int .i64 0, .int .i64 0, .int .i64 0, .slice none 0 0] 25))
      have N1 : Hid ((x0.alloc (.cells #[.int .i64 0, .int .i64 0, .int .i64 0, .slice none 0 0] 25)).heap[x0.heap.size]? = some (.cells #[.int .i64 0, .int .i64 0, .int .i64 0, .slice none 0 0] 25 (0, 0))) := heap_alloc_new x0 (.cells #[.int .i64 0, .int .i64 0, .int .i64 0, .slice none 0 0] 25)
      have LV : P < x0.heap.size := (Array.getElem?_eq_some_iff.1 P0.out).1
      clear hHeld
      have hHeld := D1.out
      generalize x0.alloc (.cells #[.int .i64 0, .int .i64 0, .int .i64 0, .slice none 0 0] 25) = x1 at D1 P1 N1 hHeld ⊢
      generalize x0.heap.size = V at N1 LV ⊢
      have V1 := N1
      refine wpAnyH_ready (rs := [0, 2]) (by kernel_rfl) (by simp) ?_
      refine (AllReadyH.cons rfl (fun Kc hK => ?_) (AllReadyH.cons rfl (fun Kc hK => ?_) AllReadyH.nil))
      · go_simp
        try dsimp only
        refine hK.out _ _ ?_ (fun hHeld => ?_)
        · (try dsimp only); exact (D1.out.alloc (.cells #[.int .i64 1, .int .i64 3, .int .i64 5, .int .i64 6, .int .i64 15, .int .i64 16] 2))
        clear hK Kc
        try simp only [Act.put, List.setIfInBounds_toArray, List.set_cons_zero, List.set_cons_succ, List.getElem_toArray, List.getElem_cons_succ, List.getElem_cons_zero]
        have D2 : Hid (Dr b B a len cap w0 (x1.alloc (.cells #[.int .i64 1, .int .i64 3, .int .i64 5, .int .i64 6, .int .i64 15, .int .i64 16] 2))) := D1.out.alloc (.cells #[.int .i64 1, .int .i64 3, .int .i64 5, .int .i64 6, .int .i64 15, .int .i64 16] 2)
        have P2 : Hid ((x1.alloc (.cells #[.int .i64 1, .int .i64 3, .int .i64 5, .int .i64 6, .int .i64 15, .int .i64 16] 2)).heap[P]? = some (.cells #[.int .i64 0, .int .i64 0, .int .i64 0, .slice none 0 0] 25 (0, 0))) := blk P1.out (all_alloc x1 (.cells #[.int .i64 1, .int .i64 3, .int .i64 5, .int .i64 6, .int .i64 15, .int .i64 16] 2))
        have N2 : Hid ((x1.alloc (.cells #[.int .i64 1, .int .i64 3, .int .i64 5, .int .i64 6, .int .i64 15, .int .i64 16] 2)).heap[x1.heap.size]? = some (.cells #[.int .i64 1, .int .i64 3, .int .i64 5, .int .i64 6, .int .i64 15, .int .i64 16] 2 (0, 0))) := heap_alloc_new x1 (.cells #[.int .i64 1, .int .i64 3, .int .i64 5, .int .i64 6, .int .i64 15, .int .i64 16] 2)
        have LgT : P < x1.heap.size := (Array.getElem?_eq_some_iff.1 P1.out).1
        have V2 : Hid ((x1.alloc (.cells #[.int .i64 1, .int .i64 3, .int .i64 5, .int .i64 6, .int .i64 15, .int .i64 16] 2)).heap[V]? = some (.cells #[.int .i64 0, .int .i64 0, .int .i64 0, .slice none 0 0] 25 (0, 0))) := blk V1.out (all_alloc x1 (.cells #[.int .i64 1, .int .i64 3, .int .i64 5, .int .i64 6, .int .i64 15, .int .i64 16] 2))
        clear hHeld
        have hHeld := D2.out
        generalize x1.alloc (.cells #[.int .i64 1, .int .i64 3, .int .i64 5, .int .i64 6, .int .i64 15, .int .i64 16] 2) = x2 at D2 P2 N2 V2 hHeld ⊢
        generalize x1.heap.size = gT at N2 LgT ⊢
        have T2 := N2
        refine wpAnyH_ready (rs := [2]) (by kernel_rfl) (by simp) ?_
        refine (AllReadyH.cons rfl (fun Kc hK => ?_) AllReadyH.nil)
        go_simp
        go_at_call 39; refine (n_D D2.out 6 (by omega)).mono ?_; rintro e x3 ⟨r1, rfl, hr3, hD3, ho3⟩
        try dsimp only
        refine hK.out _ _ ?_ (fun hHeld => ?_)
        · (try dsimp only); exact hD3
        clear hK Kc
        try simp only [Act.put, List.setIfInBounds_toArray, List.set_cons_zero, List.set_cons_succ, List.getElem_toArray, List.getElem_cons_succ, List.getElem_cons_zero]
        have D3 : Hid (Dr b B a len cap w0 x3) := hD3
        have P3 : Hid (x3.heap[P]? = some (.cells #[.int .i64 0, .int .i64 0, .int .i64 0, .slice none 0 0] 25 (0, 0))) := (ho3.block P (by omega)).trans P2.out
        have T3 : Hid (x3.heap[gT]? = some (.cells #[.int .i64 1, .int .i64 3, .int .i64 5, .int .i64 6, .int .i64 15, .int .i64 16] 2 (0, 0))) := (ho3.block gT (by omega)).trans T2.out
        have V3 : Hid (x3.heap[V]? = some (.cells #[.int .i64 0, .int .i64 0, .int .i64 0, .slice none 0 0] 25 (0, 0))) := (ho3.block V (by omega)).trans V2.out
        have hs1 : r1 < 6 := by omega
        have hi1 : (r1 : Int) < 6 := by omega
        clear ho3 hr3
        refine yieldH (i := 3) (v := ?_) rfl (by kernel_rfl) (by kernel_rfl) (by kernel_rfl) (fun _ _ _ h => h) (by rfl) ?_ (by assumption) ?_; rotate_left
        · intro w hSw; (try dsimp only at hSw); go_simp; (try with_reducible rfl)
        try simp only [Act.put, List.setIfInBounds_toArray, List.set_cons_zero, List.set_cons_succ, List.getElem_toArray, List.getElem_cons_succ, List.getElem_cons_zero]
        refine wpAnyH_ready (rs := [4, 6]) (by kernel_rfl) (by simp) ?_
        refine (AllReadyH.cons rfl (fun Kc hK => ?_) (AllReadyH.cons rfl (fun Kc hK => ?_) AllReadyH.nil))
        · have lc := tab6_at T3.out r1 hs1
          go_simp
          try dsimp only
          refine hK.out _ _ ?_ (fun hHeld => ?_)
          · (try dsimp only); exact D3.out
          clear hK Kc
          try simp only [Act.put, List.setIfInBounds_toArray, List.set_cons_zero, List.set_cons_succ, List.getElem_toArray, List.getElem_cons_succ, List.getElem_cons_zero]
          refine wpAnyH_ready (rs := [6]) (by kernel_rfl) (by simp) ?_
          refine (AllReadyH.cons rfl (fun Kc hK => ?_) AllReadyH.nil)
          go_simp
          go_at_call 39; refine (n_D D3.out 14 (by omega)).mono ?_; rintro e x4 ⟨r2, rfl, hr4, hD4, ho4⟩
          try dsimp only
          refine hK.out _ _ ?_ (fun hHeld => ?_)
          · (try dsimp only); exact hD4
          clear hK Kc
          try simp only [Act.put, List.setIfInBounds_toArray, List.set_cons_zero, List.set_cons_succ, List.getElem_toArray, List.getElem_cons_succ, List.getElem_cons_zero]
          have D4 : Hid (Dr b B a len cap w0 x4) := hD4
          have P4 : Hid (x4.heap[P]? = some (.cells #[.int .i64 0, .int .i64 0, .int .i64 0, .slice none 0 0] 25 (0, 0))) := (ho4.block P (by omega)).trans P3.out
          have T4 : Hid (x4.heap[gT]? = some (.cells #[.int .i64 1, .int .i64 3, .int .i64 5, .int .i64 6, .int .i64 15, .int .i64 16] 2 (0, 0))) := (ho4.block gT (by omega)).trans T3.out
          have V4 : Hid (x4.heap[V]? = some (.cells #[.int .i64 0, .int .i64 0, .int .i64 0, .slice none 0 0] 25 (0, 0))) := (ho4.block V (by omega)).trans V3.out
          clear ho4 hr4
          refine yieldH (i := 7) (v := ?_) rfl (by kernel_rfl) (by kernel_rfl) (by kernel_rfl) (fun _ _ _ h => h) (by rfl) ?_ (by assumption) ?_; rotate_left
          · intro w hSw; (try dsimp only at hSw); go_simp; (try with_reducible rfl)
          try simp only [Act.put, List.setIfInBounds_toArray, List.set_cons_zero, List.set_cons_succ, List.getElem_toArray, List.getElem_cons_succ, List.getElem_cons_zero]
          refine wpAnyH_ready (rs := [9]) (by kernel_rfl) (by simp) ?_
          refine (AllReadyH.cons rfl (fun Kc hK => ?_) AllReadyH.nil)
          have u0 := cellW V4.out 0 _ rfl x4 (Below.refl _ _)
          have u1 := cellW V4.out 1 _ rfl x4 (Below.refl _ _)
          have u2 := cellW V4.out 2 _ rfl x4 (Below.refl _ _)
          have u3 := cellW V4.out 3 _ rfl x4 (Below.refl _ _)
          have uf0 := frozenW V4.out 0 x4 (Below.refl _ _)
          have uf1 := frozenW V4.out 1 x4 (Below.refl _ _)
          have uf2 := frozenW V4.out 2 x4 (Below.refl _ _)
          have uf3 := frozenW V4.out 3 x4 (Below.refl _ _)
          go_simp
          try dsimp only
          refine hK.out _ _ ?_ (fun hHeld => ?_)
          · (try dsimp only); exact (Dr.set (Dr.set (Dr.set (Dr.set D4.out (by omega) (by omega) _ _) (by omega) (by omega) _ _) (by omega) (by omega) _ _) (by omega) (by omega) _ _)
          clear hK Kc
          try simp only [Act.put, List.setIfInBounds_toArray, List.set_cons_zero, List.set_cons_succ, List.getElem_toArray, List.getElem_cons_succ, List.getElem_cons_zero]
          refine wpAnyH_done (by kernel_rfl) ?_ _
          go_wp2
          go_meet
          exact ⟨V, rfl, QAsk.mk (y := ⟨_, _, _, []⟩) ⟨hHeld, (Joins.block_setCell (i := 3) (Joins.block_setCell (i := 2) (Joins.block_setCell (i := 1) (Joins.block_setCell (i := 0) V4.out _) _) _) _), ((Below.heap_setCell _ _ _ _ (by simp only; omega)).trans ((Below.heap_setCell _ _ _ _ (by simp only; omega)).trans ((Below.heap_setCell _ _ _ _ (by simp only; omega)).trans ((Below.heap_setCell _ _ _ _ (by simp only; omega)).trans P4.out)))), OwnI.nil _ _, hbP, hwP, LV⟩ (by simp)⟩
        · go_simp
          go_at_call 39; refine (n_D D3.out 14 (by omega)).mono ?_; rintro e x4 ⟨r2, rfl, hr4, hD4, ho4⟩
          try dsimp only
          refine hK.out _ _ ?_ (fun hHeld => ?_)
          · (try dsimp only); exact hD4
          clear hK Kc
          try simp only [Act.put, List.setIfInBounds_toArray, List.set_cons_zero, List.set_cons_succ, List.getElem_toArray, List.getElem_cons_succ, List.getElem_cons_zero]
          have D4 : Hid (Dr b B a len cap w0 x4) := hD4
          have P4 : Hid (x4.heap[P]? = some (.cells #[.int .i64 0, .int .i64 0, .int .i64 0, .slice none 0 0] 25 (0, 0))) := (ho4.block P (by omega)).trans P3.out
          have T4 : Hid (x4.heap[gT]? = some (.cells #[.int .i64 1, .int .i64 3, .int .i64 5, .int .i64 6, .int .i64 15, .int .i64 16] 2 (0, 0))) := (ho4.block gT (by omega)).trans T3.out
          have V4 : Hid (x4.heap[V]? = some (.cells #[.int .i64 0, .int .i64 0, .int .i64 0, .slice none 0 0] 25 (0, 0))) := (ho4.block V (by omega)).trans V3.out
          clear ho4 hr4
          refine wpAnyH_ready (rs := [4]) (by kernel_rfl) (by simp) ?_
          refine (AllReadyH.cons rfl (fun Kc hK => ?_) AllReadyH.nil)
          have lc := tab6_at T4.out r1 hs1
          go_simp
          try dsimp only
          refine hK.out _ _ ?_ (fun hHeld => ?_)
          · (try dsimp only); exact D4.out
          clear hK Kc
          try simp only [Act.put, List.setIfInBounds_toArray, List.set_cons_zero, List.set_cons_succ, List.getElem_toArray, List.getElem_cons_succ, List.getElem_cons_zero]
          refine yieldH (i := 7) (v := ?_) rfl (by kernel_rfl) (by kernel_rfl) (by kernel_rfl) (fun _ _ _ h => h) (by rfl) ?_ (by assumption) ?_; rotate_left
          · intro w hSw; (try dsimp only at hSw); go_simp; (try with_reducible rfl)
          try simp only [Act.put, List.setIfInBounds_toArray, List.set_cons_zero, List.set_cons_succ, List.getElem_toArray, List.getElem_cons_succ, List.getElem_cons_zero]
          refine wpAnyH_ready (rs := [9]) (by kernel_rfl) (by simp) ?_
          refine (AllReadyH.cons rfl (fun Kc hK => ?_) AllReadyH.nil)
          have u0 := cellW V4.out 0 _ rfl x4 (Below.refl _ _)
          have u1 := cellW V4.out 1 _ rfl x4 (Below.refl _ _)
          have u2 := cellW V4.out 2 _ rfl x4 (Below.refl _ _)
          have u3 := cellW V4.out 3 _ rfl x4 (Below.refl _ _)
          have uf0 := frozenW V4.out 0 x4 (Below.refl _ _)
          have uf1 := frozenW V4.out 1 x4 (Below.refl _ _)
          have uf2 := frozenW V4.out 2 x4 (Below.refl _ _)
          have uf3 := frozenW V4.out 3 x4 (Below.refl _ _)
          go_simp
          try dsimp only
          refine hK.out _ _ ?_ (fun hHeld => ?_)
          · (try dsimp only); exact (Dr.set (Dr.set (Dr.set (Dr.set D4.out (by omega) (by omega) _ _) (by omega) (by omega) _ _) (by omega) (by omega) _ _) (by omega) (by omega) _ _)
          clear hK Kc
          try simp only [Act.put, List.setIfInBounds_toArray, List.set_cons_zero, List.set_cons_succ, List.getElem_toArray, List.getElem_cons_succ, List.getElem_cons_zero]
          refine wpAnyH_done (by kernel_rfl) ?_ _
          go_wp2
          go_meet
          exact ⟨V, rfl, QAsk.mk (y := ⟨_, _, _, []⟩) ⟨hHeld, (Joins.block_setCell (i := 3) (Joins.block_setCell (i := 2) (Joins.block_setCell (i := 1) (Joins.block_setCell (i := 0) V4.out _) _) _) _), ((Below.heap_setCell _ _ _ _ (by simp only; omega)).trans ((Below.heap_setCell _ _ _ _ (by simp only; omega)).trans ((Below.heap_setCell _ _ _ _ (by simp only; omega)).trans ((Below.heap_setCell _ _ _ _ (by simp only; omega)).trans P4.out)))), OwnI.nil _ _, hbP, hwP, LV⟩ (by simp)⟩
      · go_simp
        go_at_call 39; refine (n_D D1.out 6 (by omega)).mono ?_; rintro e x2 ⟨r1, rfl, hr2, hD2, ho2⟩
        try dsimp only
        refine hK.out _ _ ?_ (fun hHeld => ?_)
        · (try dsimp only); exact hD2
        clear hK Kc
        try simp only [Act.put, List.setIfInBounds_toArray, List.set_cons_zero, List.set_cons_succ, List.getElem_toArray, List.getElem_cons_succ, List.getElem_cons_zero]
        have D2 : Hid (Dr b B a len cap w0 x2) := hD2
        have P2 : Hid (x2.heap[P]? = some (.cells #[.int .i64 0, .int .i64 0, .int .i64 0, .slice none 0 0] 25 (0, 0))) := (ho2.block P (by omega)).trans P1.out
        have V2 : Hid (x2.heap[V]? = some (.cells #[.int .i64 0, .int .i64 0, .int .i64 0, .slice none 0 0] 25 (0, 0))) := (ho2.block V (by omega)).trans V1.out
        have hs1 : r1 < 6 := by omega
        have hi1 : (r1 : Int) < 6 := by omega
        clear ho2 hr2
        refine wpAnyH_ready (rs := [0, 6]) (by kernel_rfl) (by simp) ?_
        refine (AllReadyH.cons rfl (fun Kc hK => ?_) (AllReadyH.cons rfl (fun Kc hK => ?_) AllReadyH.nil))
        · go_simp
          try dsimp only
          refine hK.out _ _ ?_ (fun hHeld => ?_)
          · (try dsimp only); exact (D2.out.alloc (.cells #[.int .i64 1, .int .i64 3, .int .i64 5, .int .i64 6, .int .i64 15, .int .i64 16] 2))
          clear hK Kc
          try simp only [Act.put, List.setIfInBounds_toArray, List.set_cons_zero, List.set_cons_succ, List.getElem_toArray, List.getElem_cons_succ, List.getElem_cons_zero]
          have D3 : Hid (Dr b B a len cap w0 (x2.alloc (.cells #[.int .i64 1, .int .i64 3, .int .i64 5, .int .i64 6, .int .i64 15, .int .i64 16] 2))) := D2.out.alloc (.cells #[.int .i64 1, .int .i64 3, .int .i64 5, .int .i64 6, .int .i64 15, .int .i64 16] 2)
          have P3 : Hid ((x2.alloc (.cells #[.int .i64 1, .int .i64 3, .int .i64 5, .int .i64 6, .int .i64 15, .int .i64 16] 2)).heap[P]? = some (.cells #[.int .i64 0, .int .i64 0, .int .i64 0, .slice none 0 0] 25 (0, 0))) := blk P2.out (all_alloc x2 (.cells #[.int .i64 1, .int .i64 3, .int .i64 5, .int .i64 6, .int .i64 15, .int .i64 16] 2))
          have N3 : Hid ((x2.alloc (.cells #[.int .i64 1, .int .i64 3, .int .i64 5, .int .i64 6, .int .i64 15, .int .i64 16] 2)).heap[x2.heap.size]? = some (.cells #[.int .i64 1, .int .i64 3, .int .i64 5, .int .i64 6, .int .i64 15, .int .i64 16] 2 (0, 0))) := heap_alloc_new x2 (.cells #[.int .i64 1, .int .i64 3, .int .i64 5, .int .i64 6, .int .i64 15, .int .i64 16] 2)
          have LgT : P < x2.heap.size := (Array.getElem?_eq_some_iff.1 P2.out).1
          have V3 : Hid ((x2.alloc (.cells #[.int .i64 1, .int .i64 3, .int .i64 5, .int .i64 6, .int .i64 15, .int .i64 16] 2)).heap[V]? = some (.cells #[.int .i64 0, .int .i64 0, .int .i64 0, .slice none 0 0] 25 (0, 0))) := blk V2.out (all_alloc x2 (.cells #[.int .i64 1, .int .i64 3, .int .i64 5, .int .i64 6, .int .i64 15, .int .i64 16] 2))
          clear hHeld
          have hHeld := D3.out
          generalize x2.alloc (.cells #[.int .i64 1, .int .i64 3, .int .i64 5, .int .i64 6, .int .i64 15, .int .i64 16] 2) = x3 at D3 P3 N3 V3 hHeld ⊢
          generalize x2.heap.size = gT at N3 LgT ⊢
          have T3 := N3
          refine yieldH (i := 3) (v := ?_) rfl (by kernel_rfl) (by kernel_rfl) (by kernel_rfl) (fun _ _ _ h => h) (by rfl) ?_ (by assumption) ?_; rotate_left
          · intro w hSw; (try dsimp only at hSw); go_simp; (try with_reducible rfl)
          try simp only [Act.put, List.setIfInBounds_toArray, List.set_cons_zero, List.set_cons_succ, List.getElem_toArray, List.getElem_cons_succ, List.getElem_cons_zero]
          refine wpAnyH_ready (rs := [4, 6]) (by kernel_rfl) (by simp) ?_
          refine (AllReadyH.cons rfl (fun Kc hK => ?_) (AllReadyH.cons rfl (fun Kc hK => ?_) AllReadyH.nil))
          · have lc := tab6_at T3.out r1 hs1
            go_simp
            try dsimp only
            refine hK.out _ _ ?_ (fun hHeld => ?_)
            · (try dsimp only); exact D3.out
            clear hK Kc
            try simp only [Act.put, List.setIfInBounds_toArray, List.set_cons_zero, List.set_cons_succ, List.getElem_toArray, List.getElem_cons_succ, List.getElem_cons_zero]
            refine wpAnyH_ready (rs := [6]) (by kernel_rfl) (by simp) ?_
            refine (AllReadyH.cons rfl (fun Kc hK => ?_) AllReadyH.nil)
            go_simp
            go_at_call 39; refine (n_D D3.out 14 (by omega)).mono ?_; rintro e x4 ⟨r2, rfl, hr4, hD4, ho4⟩
            try dsimp only
            refine hK.out _ _ ?_ (fun hHeld => ?_)
            · (try dsimp only); exact hD4
            clear hK Kc
            try simp only [Act.put, List.setIfInBounds_toArray, List.set_cons_zero, List.set_cons_succ, List.getElem_toArray, List.getElem_cons_succ, List.getElem_cons_zero]
            have D4 : Hid (Dr b B a len cap w0 x4) := hD4
            have P4 : Hid (x4.heap[P]? = some (.cells #[.int .i64 0, .int .i64 0, .int .i64 0, .slice none 0 0] 25 (0, 0))) := (ho4.block P (by omega)).trans P3.out
            have T4 : Hid (x4.heap[gT]? = some (.cells #[.int .i64 1, .int .i64 3, .int .i64 5, .int .i64 6, .int .i64 15, .int .i64 16] 2 (0, 0))) := (ho4.block gT (by omega)).trans T3.out
            have V4 : Hid (x4.heap[V]? = some (.cells #[.int .i64 0, .int .i64 0, .int .i64 0, .slice none 0 0] 25 (0, 0))) := (ho4.block V (by omega)).trans V3.out
            clear ho4 hr4
            refine yieldH (i := 7) (v := ?_) rfl (by kernel_rfl) (by kernel_rfl) (by kernel_rfl) (fun _ _ _ h => h) (by rfl) ?_ (by assumption) ?_; rotate_left
            · intro w hSw; (try dsimp only at hSw); go_simp; (try with_reducible rfl)
            try simp only [Act.put, List.setIfInBounds_toArray, List.set_cons_zero, List.set_cons_succ, List.getElem_toArray, List.getElem_cons_succ, List.getElem_cons_zero]
            refine wpAnyH_ready (rs := [9]) (by kernel_rfl) (by simp) ?_
            refine (AllReadyH.cons rfl (fun Kc hK => ?_) AllReadyH.nil)
            have u0 := cellW V4.out 0 _ rfl x4 (Below.refl _ _)
            have u1 := cellW V4.out 1 _ rfl x4 (Below.refl _ _)
            have u2 := cellW V4.out 2 _ rfl x4 (Below.refl _ _)
            have u3 := cellW V4.out 3 _ rfl x4 (Below.refl _ _)
            have uf0 := frozenW V4.out 0 x4 (Below.refl _ _)
            have uf1 := frozenW V4.out 1 x4 (Below.refl _ _)
            have uf2 := frozenW V4.out 2 x4 (Below.refl _ _)
            have uf3 := frozenW V4.out 3 x4 (Below.refl _ _)
            go_simp
            try dsimp only
            refine hK.out _ _ ?_ (fun hHeld => ?_)
            · (try dsimp only); exact (Dr.set (Dr.set (Dr.set (Dr.set D4.out (by omega) (by omega) _ _) (by omega) (by omega) _ _) (by omega) (by omega) _ _) (by omega) (by omega) _ _)
            clear hK Kc
            try simp only [Act.put, List.setIfInBounds_toArray, List.set_cons_zero, List.set_cons_succ, List.getElem_toArray, List.getElem_cons_succ, List.getElem_cons_zero]
            refine wpAnyH_done (by kernel_rfl) ?_ _
            go_wp2
            go_meet
            exact ⟨V, rfl, QAsk.mk (y := ⟨_, _, _, []⟩) ⟨hHeld, (Joins.block_setCell (i := 3) (Joins.block_setCell (i := 2) (Joins.block_setCell (i := 1) (Joins.block_setCell (i := 0) V4.out _) _) _) _), ((Below.heap_setCell _ _ _ _ (by simp only; omega)).trans ((Below.heap_setCell _ _ _ _ (by simp only; omega)).trans ((Below.heap_setCell _ _ _ _ (by simp only; omega)).trans ((Below.heap_setCell _ _ _ _ (by simp only; omega)).trans P4.out)))), OwnI.nil _ _, hbP, hwP, LV⟩ (by simp)⟩
          · go_simp
            go_at_call 39; refine (n_D D3.out 14 (by omega)).mono ?_; rintro e x4 ⟨r2, rfl, hr4, hD4, ho4⟩
            try dsimp only
            refine hK.out _ _ ?_ (fun hHeld => ?_)
            · (try dsimp only); exact hD4
            clear hK Kc
            try simp only [Act.put, List.setIfInBounds_toArray, List.set_cons_zero, List.set_cons_succ, List.getElem_toArray, List.getElem_cons_succ, List.getElem_cons_zero]
            have D4 : Hid (Dr b B a len cap w0 x4) := hD4
            have P4 : Hid (x4.heap[P]? = some (.cells #[.int .i64 0, .int .i64 0, .int .i64 0, .slice none 0 0] 25 (0, 0))) := (ho4.block P (by omega)).trans P3.out
            have T4 : Hid (x4.heap[gT]? = some (.cells #[.int .i64 1, .int .i64 3, .int .i64 5, .int .i64 6, .int .i64 15, .int .i64 16] 2 (0, 0))) := (ho4.block gT (by omega)).trans T3.out
            have V4 : Hid (x4.heap[V]? = some (.cells #[.int .i64 0, .int .i64 0, .int .i64 0, .slice none 0 0] 25 (0, 0))) := (ho4.block V (by omega)).trans V3.out
            clear ho4 hr4
            refine wpAnyH_ready (rs := [4]) (by kernel_rfl) (by simp) ?_
            refine (AllReadyH.cons rfl (fun Kc hK => ?_) AllReadyH.nil)
            have lc := tab6_at T4.out r1 hs1
            go_simp
            try dsimp only
            refine hK.out _ _ ?_ (fun hHeld => ?_)
            · (try dsimp only); exact D4.out
            clear hK Kc
            try simp only [Act.put, List.setIfInBounds_toArray, List.set_cons_zero, List.set_cons_succ, List.getElem_toArray, List.getElem_cons_succ, List.getElem_cons_zero]
            refine yieldH (i := 7) (v := ?_) rfl (by kernel_rfl) (by kernel_rfl) (by kernel_rfl) (fun _ _ _ h => h) (by rfl) ?_ (by assumption) ?_; rotate_left
            · intro w hSw; (try dsimp only at hSw); go_simp; (try with_reducible rfl)
            try simp only [Act.put, List.setIfInBounds_toArray, List.set_cons_zero, List.set_cons_succ, List.getElem_toArray, List.getElem_cons_succ, List.getElem_cons_zero]
            refine wpAnyH_ready (rs := [9]) (by kernel_rfl) (by simp) ?_
            refine (AllReadyH.cons rfl (fun Kc hK => ?_) AllReadyH.nil)
            have u0 := cellW V4.out 0 _ rfl x4 (Below.refl _ _)
            have u1 := cellW V4.out 1 _ rfl x4 (Below.refl _ _)
            have u2 := cellW V4.out 2 _ rfl x4 (Below.refl _ _)
            have u3 := cellW V4.out 3 _ rfl x4 (Below.refl _ _)
            have uf0 := frozenW V4.out 0 x4 (Below.refl _ _)
            have uf1 := frozenW V4.out 1 x4 (Below.refl _ _)
            have uf2 := frozenW V4.out 2 x4 (Below.refl _ _)
            have uf3 := frozenW V4.out 3 x4 (Below.refl _ _)
            go_simp
            try dsimp only
            refine hK.out _ _ ?_ (fun hHeld => ?_)
            · (try dsimp only); exact (Dr.set (Dr.set (Dr.set (Dr.set D4.out (by omega) (by omega) _ _) (by omega) (by omega) _ _) (by omega) (by omega) _ _) (by omega) (by omega) _ _)
            clear hK Kc
            try simp only [Act.put, List.setIfInBounds_toArray, List.set_cons_zero, List.set_cons_succ, List.getElem_toArray, List.getElem_cons_succ, List.getElem_cons_zero]
            refine wpAnyH_done (by kernel_rfl) ?_ _
            go_wp2
            go_meet
            exact ⟨V, rfl, QAsk.mk (y := ⟨_, _, _, []⟩) ⟨hHeld, (Joins.block_setCell (i := 3) (Joins.block_setCell (i := 2) (Joins.block_setCell (i := 1) (Joins.block_setCell (i := 0) V4.out _) _) _) _), ((Below.heap_setCell _ _ _ _ (by simp only; omega)).trans ((Below.heap_setCell _ _ _ _ (by simp only; omega)).trans ((Below.heap_setCell _ _ _ _ (by simp only; omega)).trans ((Below.heap_setCell _ _ _ _ (by simp only; omega)).trans P4.out)))), OwnI.nil _ _, hbP, hwP, LV⟩ (by simp)⟩
        · go_simp
          go_at_call 39; refine (n_D D2.out 14 (by omega)).mono ?_; rintro e x3 ⟨r2, rfl, hr3, hD3, ho3⟩
          try dsimp only
          refine hK.out _ _ ?_ (fun hHeld => ?_)
          · (try dsimp only); exact hD3
          clear hK Kc
          try simp only [Act.put, List.setIfInBounds_toArray, List.set_cons_zero, List.set_cons_succ, List.getElem_toArray, List.getElem_cons_succ, List.getElem_cons_zero]
          have D3 : Hid (Dr b B a len cap w0 x3) := hD3
          have P3 : Hid (x3.heap[P]? = some (.cells #[.int .i64 0, .int .i64 0, .int .i64 0, .slice none 0 0] 25 (0, 0))) := (ho3.block P (by omega)).trans P2.out
          have V3 : Hid (x3.heap[V]? = some (.cells #[.int .i64 0, .int .i64 0, .int .i64 0, .slice none 0 0] 25 (0, 0))) := (ho3.block V (by omega)).trans V2.out
          clear ho3 hr3
          refine wpAnyH_ready (rs := [0]) (by kernel_rfl) (by simp) ?_
          refine (AllReadyH.cons rfl (fun Kc hK => ?_) AllReadyH.nil)
          go_simp
          try dsimp only
          refine hK.out _ _ ?_ (fun hHeld => ?_)
          · (try dsimp only); exact (D3.out.alloc (.cells #[.int .i64 1, .int .i64 3, .int .i64 5, .int .i64 6, .int .i64 15, .int .i64 16] 2))
          clear hK Kc
          try simp only [Act.put, List.setIfInBounds_toArray, List.set_cons_zero, List.set_cons_succ, List.getElem_toArray, List.getElem_cons_succ, List.getElem_cons_zero]
          have D4 : Hid (Dr b B a len cap w0 (x3.alloc (.cells #[.int .i64 1, .int .i64 3, .int .i64 5, .int .i64 6, .int .i64 15, .int .i64 16] 2))) := D3.out.alloc (.cells #[.int .i64 1, .int .i64 3, .int .i64 5, .int .i64 6, .int .i64 15, .int .i64 16] 2)
          have P4 : Hid ((x3.alloc (.cells #[.int .i64 1, .int .i64 3, .int .i64 5, .int .i64 6, .int .i64 15, .int .i64 16] 2)).heap[P]? = some (.cells #[.int .i64 0, .int .i64 0, .int .i64 0, .slice none 0 0] 25 (0, 0))) := blk P3.out (all_alloc x3 (.cells #[.int .i64 1, .int .i64 3, .int .i64 5, .int .i64 6, .int .i64 15, .int .i64 16] 2))
          have N4 : Hid ((x3.alloc (.cells #[.int .i64 1, .int .i64 3, .int .i64 5, .int .i64 6, .int .i64 15, .int .i64 16] 2)).heap[x3.heap.size]? = some (.cells #[.int .i64 1, .int .i64 3, .int .i64 5, .int .i64 6, .int .i64 15, .int .i64 16] 2 (0, 0))) := heap_alloc_new x3 (.cells #[.int .i64 1, .int .i64 3, .int .i64 5, .int .i64 6, .int .i64 15, .int .i64 16] 2)
          have LgT : P < x3.heap.size := (Array.getElem?_eq_some_iff.1 P3.out).1
          have V4 : Hid ((x3.alloc (.cells #[.int .i64 1, .int .i64 3, .int .i64 5, .int .i64 6, .int .i64 15, .int .i64 16] 2)).heap[V]? = some (.cells #[.int .i64 0, .int .i64 0, .int .i64 0, .slice none 0 0] 25 (0, 0))) := blk V3.out (all_alloc x3 (.cells #[.int .i64 1, .int .i64 3, .int .i64 5, .int .i64 6, .int .i64 15, .int .i64 16] 2))
          clear hHeld
          have hHeld := D4.out
          generalize x3.alloc (.cells #[.int .i64 1, .int .i64 3, .int .i64 5, .int .i64 6, .int .i64 15, .int .i64 16] 2) = x4 at D4 P4 N4 V4 hHeld ⊢
          generalize x3.heap.size = gT at N4 LgT ⊢
          have T4 := N4
          refine yieldH (i := 3) (v := ?_) rfl (by kernel_rfl) (by kernel_rfl) (by kernel_rfl) (fun _ _ _ h => h) (by rfl) ?_ (by assumption) ?_; rotate_left
          · intro w hSw; (try dsimp only at hSw); go_simp; (try with_reducible rfl)
          try simp only [Act.put, List.setIfInBounds_toArray, List.set_cons_zero, List.set_cons_succ, List.getElem_toArray, List.getElem_cons_succ, List.getElem_cons_zero]
          refine wpAnyH_ready (rs := [4]) (by kernel_rfl) (by simp) ?_
          refine (AllReadyH.cons rfl (fun Kc hK => ?_) AllReadyH.nil)
          have lc := tab6_at T4.out r1 hs1
          go_simp
          try dsimp only
          refine hK.out _ _ ?_ (fun hHeld => ?_)
          · (try dsimp only); exact D4.out
          clear hK Kc
          try simp only [Act.put, List.setIfInBounds_toArray, List.set_cons_zero, List.set_cons_succ, List.getElem_toArray, List.getElem_cons_succ, List.getElem_cons_zero]
          refine yieldH (i := 7) (v := ?_) rfl (by kernel_rfl) (by kernel_rfl) (by kernel_rfl) (fun _ _ _ h => h) (by rfl) ?_ (by assumption) ?_; rotate_left
          · intro w hSw; (try dsimp only at hSw); go_simp; (try with_reducible rfl)
          try simp only [Act.put, List.setIfInBounds_toArray, List.set_cons_zero, List.set_cons_succ, List.getElem_toArray, List.getElem_cons_succ, List.getElem_cons_zero]
          refine wpAnyH_ready (rs := [9]) (by kernel_rfl) (by simp) ?_
          refine (AllReadyH.cons rfl (fun Kc hK => ?_) AllReadyH.nil)
          have u0 := cellW V4.out 0 _ rfl x4 (Below.refl _ _)
          have u1 := cellW V4.out 1 _ rfl x4 (Below.refl _ _)
          have u2 := cellW V4.out 2 _ rfl x4 (Below.refl _ _)
          have u3 := cellW V4.out 3 _ rfl x4 (Below.refl _ _)
          have uf0 := frozenW V4.out 0 x4 (Below.refl _ _)
          have uf1 := frozenW V4.out 1 x4 (Below.refl _ _)
          have uf2 := frozenW V4.out 2 x4 (Below.refl _ _)
          have uf3 := frozenW V4.out 3 x4 (Below.refl _ _)
          go_simp
          try dsimp only
          refine hK.out _ _ ?_ (fun hHeld => ?_)
          · (try dsimp only); exact (Dr.set (Dr.set (Dr.set (Dr.set D4.out (by omega) (by omega) _ _) (by omega) (by omega) _ _) (by omega) (by omega) _ _) (by omega) (by omega) _ _)
          clear hK Kc
          try simp only [Act.put, List.setIfInBounds_toArray, List.set_cons_zero, List.set_cons_succ, List.getElem_toArray, List.getElem_cons_succ, List.getElem_cons_zero]
          refine wpAnyH_done (by kernel_rfl) ?_ _
          go_wp2
          go_meet
          exact ⟨V, rfl, QAsk.mk (y := ⟨_, _, _, []⟩) ⟨hHeld, (Joins.block_setCell (i := 3) (Joins.block_setCell (i := 2) (Joins.block_setCell (i := 1) (Joins.block_setCell (i := 0) V4.out _) _) _) _), ((Below.heap_setCell _ _ _ _ (by simp only; omega)).trans ((Below.heap_setCell _ _ _ _ (by simp only; omega)).trans ((Below.heap_setCell _ _ _ _ (by simp only; omega)).trans ((Below.heap_setCell _ _ _ _ (by simp only; omega)).trans P4.out)))), OwnI.nil _ _, hbP, hwP, LV⟩ (by simp)⟩
  case rest =>
    obtain ⟨V, rfl, y, p, c, HV, hn⟩ := hcut
    rename World => X
    obtain ⟨c0, c1, c2, c3, cf⟩ := HV.out.cellV
    clear HD hP0
    go_upto_block 0 with fail
    have hbX : b < X.heap.size := HV.out.dr.lt
    go_cut [] (fun wx => QAsk b B a len cap w0 P V 12 wx)
    case first =>
      by_cases k1 : y.c = 1
      · have t1 : (y.c == 1) = true := by simpa using k1
        clear k1
        go_wp2_with (go_at_call 39; refine (n_D HV.out.dr 12 (by omega)).mono ?_; rintro e9 w9 ⟨r9, rfl, hr9, hD9, ho9⟩; have HV9 : Hid _ := HV.out.grb hD9 ho9.grb; obtain ⟨d0, d1, d2, d3, df⟩ := HV9.out.cellV)
        go_meet
        exact QAsk.mk (HV9.out.setM _) (by show y.vs.length ≤ 12; omega)
      have t1 : (y.c == 1) = false := by simpa using k1
      by_cases k3 : y.c = 3
      · have t3 : (y.c == 3) = true := by simpa using k3
        clear k1 k3
        go_wp2_with (go_at_call 39; refine (n_D HV.out.dr 6 (by omega)).mono ?_; rintro e9 w9 ⟨r9, rfl, hr9, hD9, ho9⟩; have HV9 : Hid _ := HV.out.grb hD9 ho9.grb; obtain ⟨d0, d1, d2, d3, df⟩ := HV9.out.cellV)
        go_meet
        exact QAsk.mk (HV9.out.setM _) (by show y.vs.length ≤ 12; omega)
      have t3 : (y.c == 3) = false := by simpa using k3
      by_cases k5 : y.c = 5
      · have t5 : (y.c == 5) = true := by simpa using k5
        clear k1 k3 k5
        go_wp2_with (go_at_call 39; refine (n_D HV.out.dr 2 (by omega)).mono ?_; rintro e9 w9 ⟨r9, rfl, hr9, hD9, ho9⟩; have HV9 : Hid _ := HV.out.grb hD9 ho9.grb; obtain ⟨d0, d1, d2, d3, df⟩ := HV9.out.cellV; have hv9 : V < w9.heap.size := HV9.out.base)
        go_meet
        have hOw : OwnI (w9.alloc (.cells #[.int .i64 (r9 : Int)] 2)) (V + 1) (.slice (some ⟨w9.heap.size, 0, none⟩) 1 1) [(r9 : Int)] := own_oneV rfl hv9
        have key := (HV9.out.below (all_alloc w9 (.cells #[.int .i64 (r9 : Int)] 2))).setW [(r9 : Int)] _ hOw
        rw [World.setCell_alloc_past _ _ _ _ hv9] at key
        exact QAsk.mk key (by simp)
      have t5 : (y.c == 5) = false := by simpa using k5
      by_cases k6 : y.c = 6
      · have t6 : (y.c == 6) = true := by simpa using k6
        clear k1 k3 k5 k6
        go_wp2_with (go_at_call 39; refine (n_D HV.out.dr 900 (by omega)).mono ?_; rintro e9 w9 ⟨r9, rfl, hr9, hD9, ho9⟩; have HV9 : Hid _ := HV.out.grb hD9 ho9.grb; obtain ⟨d0, d1, d2, d3, df⟩ := HV9.out.cellV; have hv9 : V < w9.heap.size := HV9.out.base)
        go_meet
        have hOw : OwnI (w9.alloc (.cells #[.int .i64 (r9 : Int)] 2)) (V + 1) (.slice (some ⟨w9.heap.size, 0, none⟩) 1 1) [(r9 : Int)] := own_oneV rfl hv9
        have key := (HV9.out.below (all_alloc w9 (.cells #[.int .i64 (r9 : Int)] 2))).setW [(r9 : Int)] _ hOw
        rw [World.setCell_alloc_past _ _ _ _ hv9] at key
        exact QAsk.mk key (by simp)
      have t6 : (y.c == 6) = false := by simpa using k6
      have hn0 : y.vs.length = 0 := by omega
      by_cases k15 : y.c = 15
      · have t15 : (y.c == 15) = true := by simpa using k15
        clear k1 k3 k5 k6 k15
        go_wp2_with (go_at_call 39; refine (n_D HV.out.dr 10 (by omega)).mono ?_; rintro e9 w9 ⟨r9, rfl, hr9, hD9, ho9⟩; have HV9 : Hid _ := HV.out.grb hD9 ho9.grb; obtain ⟨d0, d1, d2, d3, df⟩ := HV9.out.cellV; have hv9 : V < w9.heap.size := HV9.out.base; have hs9 : r9 < 10 := (by omega))
        go_loopw [4] (fun i wr => ∃ (y : Ak) (p : Option Addr) (c : Nat), i = .int .i64 (y.vs.length : Int) ∧ y.m = 1 + (r9 : Int) ∧ y.vs.length ≤ 1 + r9 ∧ Hid (QV b B a len cap w0 P V y (.slice p y.vs.length c) wr)) (fun i _ => 1 + r9 - (intOf i).toNat)
        case atStart => exact ⟨{ y with m := 1 + (r9 : Int) }, p, c, by rw [hn0]; rfl, rfl, by show y.vs.length ≤ 1 + r9; omega, HV9.out.setM _⟩
        case round =>
          clear HV9 d0 d1 d2 d3 df hD9 ho9
          obtain ⟨y, p, c, rfl, hm, hle, HV⟩ := hrel
          obtain ⟨d0, d1, d2, d3, df⟩ := HV.out.cellV
          rw [hm] at d2
          by_cases hlt : y.vs.length < 1 + r9
          · have hlt' : (y.vs.length : Int) < 1 + (r9 : Int) := by omega
            go_upto_region 21 with fail
            have hDD : Dr b B a len cap w0 wr.drew := HV.out.dr.below (Below.drew (Below.refl _ _))
            have HVD : Hid (QV b B a len cap w0 P V y (.slice p y.vs.length c) wr.drew) := HV.out.below (Below.drew (Below.refl _ _))
            go_region_law (first
              | (have _ := hOA; refine step_append_IQ rfl (.tmp 70) (.tmp 73) rfl (V + 1) (.slice p y.vs.length c) y.vs rfl hOA.out.row w9.heap.size n9 rfl (cellW (heap_alloc_new w9 (.cells #[.int .i64 (n9 : Int)] 2)) 0 _ rfl _ (Below.refl _ _)) (by omega) hOA.out.base ?_; intro v10 w10 hO10 hgr10; obtain ⟨hB10, HV10⟩ := hOA.out.grown hgr10 hO10; obtain ⟨p10, cap10, rfl⟩ := hO10.shape; have z10 := (hB10.cell (p := ⟨V, 3, none⟩) (by show V < V + 1; omega)).trans u3; have f10 := (hB10.frozen (p := ⟨V, 3, none⟩) (by show V < V + 1; omega)).trans (uf 3))
              | (go_simp; go_at_call 39; refine (n_D hDD 2 (by omega)).mono ?_; rintro e9 w9 ⟨n9, rfl, hr9, hD9, ho9⟩; have HV9 : Hid _ := HVD.out.grb hD9 ho9.grb; obtain ⟨_, _, _, z3, zf⟩ := HV9.out.cellV; have hOA : Hid _ := HV9.out.below (all_alloc w9 (.cells #[.int .i64 (n9 : Int)] 2)); obtain ⟨_, _, _, u3, uf⟩ := hOA.out.cellV))
            all_goals
              go_wp2
              go_roundw
              case rel =>
                have hz : (y.vs ++ [(n9 : Int)]).length = y.vs.length + 1 := by simp
                rw [hz] at HV10
                exact ⟨{ y with vs := y.vs ++ [(n9 : Int)] }, p10, cap10, by show Value.int .i64 _ = .int .i64 ((y.vs ++ [(n9 : Int)]).length : Int); rw [hz]; go_num, hm, by show (y.vs ++ [(n9 : Int)]).length ≤ 1 + r9; omega, by show QV _ _ _ _ _ _ _ _ _ (.slice p10 (y.vs ++ [(n9 : Int)]).length cap10) _; rw [hz]; exact HV10⟩
              case measure => simp [intOf]; omega
          · have hlt' : ¬ (y.vs.length : Int) < 1 + (r9 : Int) := by omega
            go_wp2
            go_meet
            exact QAsk.mk HV.out (by omega)
      · have t15 : (y.c == 15) = false := by simpa using k15
        clear k1 k3 k5 k6 k15
        go_wp2_with (go_at_call 39; refine (n_D HV.out.dr 3 (by omega)).mono ?_; rintro e9 w9 ⟨r9, rfl, hr9, hD9, ho9⟩; have HV9 : Hid _ := HV.out.grb hD9 ho9.grb; obtain ⟨d0, d1, d2, d3, df⟩ := HV9.out.cellV; have hv9 : V < w9.heap.size := HV9.out.base; have hs9 : r9 < 3 := (by omega))
        go_loopw [5] (fun i wr => ∃ (y : Ak) (p : Option Addr) (c : Nat), i = .int .i64 (y.vs.length : Int) ∧ y.m = 1 + (r9 : Int) ∧ y.vs.length ≤ 1 + r9 ∧ Hid (QV b B a len cap w0 P V y (.slice p y.vs.length c) wr)) (fun i _ => 1 + r9 - (intOf i).toNat)
        case atStart => exact ⟨{ y with m := 1 + (r9 : Int) }, p, c, by rw [hn0]; rfl, rfl, by show y.vs.length ≤ 1 + r9; omega, HV9.out.setM _⟩
        case round =>
          clear HV9 d0 d1 d2 d3 df hD9 ho9
          obtain ⟨y, p, c, rfl, hm, hle, HV⟩ := hrel
          obtain ⟨d0, d1, d2, d3, df⟩ := HV.out.cellV
          rw [hm] at d2
          by_cases hlt : y.vs.length < 1 + r9
          · have hlt' : (y.vs.length : Int) < 1 + (r9 : Int) := by omega
            go_upto_region 7 with fail
            have hDD : Dr b B a len cap w0 wr.drew := HV.out.dr.below (Below.drew (Below.refl _ _))
            have HVD : Hid (QV b B a len cap w0 P V y (.slice p y.vs.length c) wr.drew) := HV.out.below (Below.drew (Below.refl _ _))
            go_region_law (first
              | (have _ := hOA; refine step_append_IQ rfl (.tmp 27) (.tmp 30) rfl (V + 1) (.slice p y.vs.length c) y.vs rfl hOA.out.row w9.heap.size n9 rfl (cellW (heap_alloc_new w9 (.cells #[.int .i64 (n9 : Int)] 2)) 0 _ rfl _ (Below.refl _ _)) (by omega) hOA.out.base ?_; intro v10 w10 hO10 hgr10; obtain ⟨hB10, HV10⟩ := hOA.out.grown hgr10 hO10; obtain ⟨p10, cap10, rfl⟩ := hO10.shape; have z10 := (hB10.cell (p := ⟨V, 3, none⟩) (by show V < V + 1; omega)).trans u3; have f10 := (hB10.frozen (p := ⟨V, 3, none⟩) (by show V < V + 1; omega)).trans (uf 3))
              | (go_simp; go_at_call 39; refine (n_D hDD 900 (by omega)).mono ?_; rintro e9 w9 ⟨n9, rfl, hr9, hD9, ho9⟩; have HV9 : Hid _ := HVD.out.grb hD9 ho9.grb; obtain ⟨_, _, _, z3, zf⟩ := HV9.out.cellV; have hOA : Hid _ := HV9.out.below (all_alloc w9 (.cells #[.int .i64 (n9 : Int)] 2)); obtain ⟨_, _, _, u3, uf⟩ := hOA.out.cellV))
            all_goals
              go_wp2
              go_roundw
              case rel =>
                have hz : (y.vs ++ [(n9 : Int)]).length = y.vs.length + 1 := by simp
                rw [hz] at HV10
                exact ⟨{ y with vs := y.vs ++ [(n9 : Int)] }, p10, cap10, by show Value.int .i64 _ = .int .i64 ((y.vs ++ [(n9 : Int)]).length : Int); rw [hz]; go_num, hm, by show (y.vs ++ [(n9 : Int)]).length ≤ 1 + r9; omega, by show QV _ _ _ _ _ _ _ _ _ (.slice p10 (y.vs ++ [(n9 : Int)]).length cap10) _; rw [hz]; exact HV10⟩
              case measure => simp [intOf]; omega
          · have hlt' : ¬ (y.vs.length : Int) < 1 + (r9 : Int) := by omega
            go_wp2
            go_meet
            exact QAsk.mk HV.out (by omega)
    case rest =>
      clear HV hn c0 c1 c2 c3 cf hbX
      obtain ⟨y, p, c, HV, hn⟩ := hcut
      rename World => X2
      go_upto_if 77 with (go_at_call 42; refine (one_D HV.out.dr 12 (by omega)).mono ?_; rintro e7 w7 ⟨o7, rfl, hD7, ho7⟩; have HV7 : Hid _ := HV.out.grb hD7 ho7.grb)
      clear HV hD7 ho7
      go_cut [] (fun wx => QAsk b B a len cap w0 P V 13 wx)
      case first =>
        cases o7 with
        | false =>
          go_wp2
          go_meet
          exact QAsk.mk HV7.out (by omega)
        | true =>
          go_upto_block 5 with (go_at_call 39; refine (n_D HV7.out.dr 4 (by omega)).mono ?_; rintro e8 w8 ⟨r8, rfl, hr8, hD8, ho8⟩; have hs8 : r8 < 4 := (by omega); have HV8 : Hid _ := HV7.out.grb hD8 ho8.grb)
          clear HV7 hD8 ho8 hr8
          obtain ⟨c0, c1, c2, c3, cf⟩ := HV8.out.cellV
          by_cases k0 : r8 = 0
          · subst k0
            have HC : Hid _ := HV8.out.below (all_alloc w8 (.cells #[.int .i64 0, .int .i64 4, .int .i64 8, .int .i64 9, .int .i64 16, .int .i64 17, .int .i64 64, .int .i64 65] 2))
            go_wp2_with (go_at_call 39; refine (n_D HC.out.dr 8 (by omega)).mono ?_; rintro e9 w9 ⟨r9, rfl, hr9, hD9, ho9⟩; have hs9 : r9 < 8 := (by omega); have hi9 : (r9 : Int) < 8 := (by omega); have HV9 : Hid _ := HC.out.grb hD9 ho9.grb; obtain ⟨d0, d1, d2, d3, df⟩ := HV9.out.cellV; have lc : w9.cell? ⟨w8.heap.size, r9, none⟩ = some (.int .i64 (tab8.getD r9 0)) := (by rw [ho9.cellO (by have := HV8.out.dr.lt; omega)]; exact tab8_cell r9 hs9 w8))
            go_meet
            exact QAsk.mk (HV9.out.setM _) (by show y.vs.length ≤ 13; omega)
          have t0 : ((r8 : Int) == 0) = false := by simp; omega
          by_cases k1 : r8 = 1
          · subst k1
            have HC : Hid _ := HV8.out.below (all_alloc w8 (.cells #[.int .i64 (-1), .int .i64 65535, .int .i64 65536] 2))
            go_wp2_with (go_at_call 39; refine (n_D HC.out.dr 3 (by omega)).mono ?_; rintro e9 w9 ⟨r9, rfl, hr9, hD9, ho9⟩; have hs9 : r9 < 3 := (by omega); have hi9 : (r9 : Int) < 3 := (by omega); have HV9 : Hid _ := HC.out.grb hD9 ho9.grb; obtain ⟨d0, d1, d2, d3, df⟩ := HV9.out.cellV; have lc : w9.cell? ⟨w8.heap.size, r9, none⟩ = some (.int .i64 (tab3.getD r9 0)) := (by rw [ho9.cellO (by have := HV8.out.dr.lt; omega)]; exact tab3_cell r9 hs9 w8))
            go_meet
            exact QAsk.mk (HV9.out.setA _) (by show y.vs.length ≤ 13; omega)
          have t1 : ((r8 : Int) == 1) = false := by simp; omega
          by_cases k2 : r8 = 2
          · subst k2
            have hDD : Dr b B a len cap w0 w8.drew := HV8.out.dr.below (Below.drew (Below.refl _ _))
            have HVD : Hid (QV b B a len cap w0 P V y (.slice p y.vs.length c) w8.drew) := HV8.out.below (Below.drew (Below.refl _ _))
            go_upto_region 30 with fail
            go_region_law (first
              | (have _ := hOA; refine step_append_IQ rfl (.tmp 102) (.tmp 105) rfl (V + 1) (.slice p y.vs.length c) y.vs rfl hOA.out.row w9.heap.size n9 rfl (cellW (heap_alloc_new w9 (.cells #[.int .i64 (n9 : Int)] 2)) 0 _ rfl _ (Below.refl _ _)) (by omega) hOA.out.base ?_; intro v10 w10 hO10 hgr10; obtain ⟨hB10, HV10⟩ := hOA.out.grown hgr10 hO10; obtain ⟨p10, cap10, rfl⟩ := hO10.shape; have z10 := (hB10.cell (p := ⟨V, 3, none⟩) (by show V < V + 1; omega)).trans u3; have f10 := (hB10.frozen (p := ⟨V, 3, none⟩) (by show V < V + 1; omega)).trans (uf 3))
              | (go_simp; go_at_call 39; refine (n_D hDD 3 (by omega)).mono ?_; rintro e9 w9 ⟨n9, rfl, hr9, hD9, ho9⟩; have HV9 : Hid _ := HVD.out.grb hD9 ho9.grb; obtain ⟨_, _, _, z3, zf⟩ := HV9.out.cellV; have hOA : Hid _ := HV9.out.below (all_alloc w9 (.cells #[.int .i64 (n9 : Int)] 2)); obtain ⟨_, _, _, u3, uf⟩ := hOA.out.cellV))
            all_goals (go_wp2; go_meet)
            all_goals (have hz : (y.vs ++ [(n9 : Int)]).length = y.vs.length + 1 := by simp
                       have h11 := QAsk.mk (n := 13) HV10 (by show (y.vs ++ [(n9 : Int)]).length ≤ 13; omega)
                       rw [hz] at h11
                       exact h11)
          have t2 : ((r8 : Int) == 2) = false := by simp; omega
          go_wp2_with (go_at_call 39; refine (n_D HV8.out.dr 20 (by omega)).mono ?_; rintro e9 w9 ⟨r9, rfl, hr9, hD9, ho9⟩; have HV9 : Hid _ := HV8.out.grb hD9 ho9.grb; obtain ⟨d0, d1, d2, d3, df⟩ := HV9.out.cellV)
          go_meet
          exact QAsk.mk (HV9.out.setC r9) (by show y.vs.length ≤ 13; omega)
      case rest =>
        clear HV7 hn
        obtain ⟨y, p, c, HV, hn⟩ := hcut
        rename World => X3
        obtain ⟨c0, c1, c2, c3, cf⟩ := HV.out.cellV
        obtain ⟨k0, k1, k2, k3, kf⟩ := HV.out.cellP
        have q1 := HV.out.bP
        have q2 := HV.out.wP
        have q3 := HV.out.PV
        have q4 : ¬ P = V := by omega
        have q5 : ¬ V = P := by omega
        go_wp2
        exact bodyPost_ret (v := .agg #[.int .i64 y.c, .int .i64 y.a, .int .i64 y.m, .slice p y.vs.length c]) (by simp [results, Try.results33, go_sem, k0, k1, k2, k3, q4, q5]) rfl (PAsk.mk HV.out (by omega) (by
          repeat (refine Dr.set ?_ (by omega) (by omega) _ _)
          exact HV.out.dr) (fun g h1 h2 => by
          have hne : g ≠ P := by omega
          repeat (rw [Below.heap_setCell _ _ _ _ hne])))
end Go.Proofs.Ytfpibedloodjlaa
