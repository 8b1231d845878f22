/- THE DRAW of a path. Written by mkdp1.py. -/
import Derived.Test.YtineecongiplgaaQpDrawPQ
import Derived.Test.YtineecongiplgaaQpPaSs
import Derived.Test.YtineecongiplgaaQpPaN
import Derived.Test.YtineecongiplgaaQpPaSh
import Derived.Deep.DeepCutAuto
namespace Go.Proofs.Ytineecongiplgaa
open Go.RowKit
set_option linter.unusedVariables false
set_option linter.unusedSimpArgs false

theorem Dr.base {b B : Nat} {a : Option Addr} {len cap : Nat} {w0 w : World} (h : Dr b B a len cap w0 w) : Dr b B a len cap w w := ⟨h.src, h.rb, Grb.refl _ _, h.lt, h.le⟩
theorem Dr.join {b B : Nat} {a : Option Addr} {len cap : Nat} {w0 w w' : World} (h : Dr b B a len cap w0 w) (k : Dr b B a len cap w w') : Dr b B a len cap w0 w' := ⟨k.src, k.rb, h.grb.trans k.grb, k.lt, k.le⟩
theorem field_pout (c0 c1 c2 c3 : Value) (w : World) : (Instr.field 28 (.agg #[c0, c1, c2, c3]) 0).run Try.prog w = .ok (.agg #[c0, c1]) w := by kernel_rfl
set_option maxRecDepth 100000 in
set_option maxHeartbeats 6400000 in
theorem l08Path_D {b B : Nat} {a : Option Addr} {len cap : Nat} {w0 w : World} (h : Dr b B a len cap w0 w) :
    Calls Try.prog 43 #[.pointer (some ⟨b, 0, none⟩)] w (PPath b B a len cap w0) := by
  have HA : Hid (Dr b B a len cap w0 (w.alloc (.cells #[.slice none 0 0, .slice none 0 0] 26))) := h.alloc (.cells #[.slice none 0 0, .slice none 0 0] 26)
  have hP0 : Hid _ := heap_alloc_new w (.cells #[.slice none 0 0, .slice none 0 0] 26)
  have hbP : b < w.heap.size := h.lt
  have hwP : w0.heap.size ≤ w.heap.size := h.size
  have hA1 : w.heap.size + 1 ≤ (w.alloc (.cells #[.slice none 0 0, .slice none 0 0] 26)).heap.size := by simp
  clear h
  have hfld := field_pout
  go_enter Try.func43, Try.ntmps43
  go_upto_region 1 with fail
  generalize w.alloc (.cells #[.slice none 0 0, .slice none 0 0] 26) = A at HA hP0 hA1 ⊢
  go_upto_region 2 with (first
    | (go_at_call 40; refine (l08Hops_D HA.out.base).mono ?_; rintro e w1 ⟨v, zs, rfl, hO1, hl1, hD1⟩; obtain ⟨pv, cv, rfl⟩ := hO1.shape)
    | (go_at_call 16; refine (specPathNew_any zs _ _ _ (by omega) hO1).mono ?_; rintro e w2 ⟨u1, u2, rfl, own2, hb2⟩; obtain ⟨p1, c1, rfl⟩ := own2.c.shape; obtain ⟨p2, c2, rfl⟩ := own2.r.shape))
  have hpl := newP_len zs
  generalize (newP zs).t = T0 at own2 hpl ⊢
  have hs1 := hD1.size
  have hb3 := all_alloc w2 (.cells #[.slice p1 T0.cs.length c1, .slice p2 T0.rs.length c2] 26)
  have K0 : Hid (QP b B a len cap w0 w.heap.size w2.heap.size T0 (.slice p1 T0.cs.length c1) (.slice p2 T0.rs.length c2) (w2.alloc (.cells #[.slice p1 T0.cs.length c1, .slice p2 T0.rs.length c2] 26))) :=
    ⟨(((HA.out.join hD1).below hb2).below hb3), heap_alloc_new w2 (.cells #[.slice p1 T0.cs.length c1, .slice p2 T0.rs.length c2] 26), blk (blk ((hD1.grb.block w.heap.size (by omega) (by omega)).trans hP0.out) hb2) hb3, OwnT.leT (own2.below hb3) (by omega), fun k hk => by have := hk.elim (fun e => OwnI.lt own2.c k e) (fun e => OwnI.lt own2.r k e); omega, hbP, hwP, by have := hb2.size; omega⟩
  obtain ⟨V, hV⟩ : ∃ V, w2.heap.size = V := ⟨_, rfl⟩
  rw [hV] at K0 ⊢
  generalize w2.alloc (.cells #[.slice p1 T0.cs.length c1, .slice p2 T0.rs.length c2] 26) = W at K0 ⊢
  clear hV hb3 hb2 own2 hD1 hO1 hl1 hs1 HA hP0 hA1
  go_wp2_with (go_at_call 45; refine (n_D K0.out.dr 4 (by omega)).mono ?_; rintro e w3 ⟨r4, rfl, hr4, hD3, ho3⟩; have K1 : Hid (QP b B a len cap w0 w.heap.size V T0 _ _ w3) := K0.out.only hD3 ho3; clear hD3 ho3)
  go_loopw [4] (fun i wr => ∃ (m : Nat) (t : Tb) (p1 p2 : Option Addr) (c1 c2 : Nat), i = .int .i64 m ∧ m ≤ 4 ∧ t.cs.length ≤ 6 ∧ t.rs.length ≤ 6 ∧ Hid (QP b B a len cap w0 w.heap.size V t (.slice p1 t.cs.length c1) (.slice p2 t.rs.length c2) wr)) (fun i _ => (intOf i).toNat)
  case atStart => exact ⟨r4, T0, _, _, _, _, rfl, by omega, by omega, by omega, K1⟩
  case round =>
    obtain ⟨m, t, p1, p2, c1, c2, rfl, hm4, hl1, hl2, K⟩ := hrel
    by_cases hm0 : 0 < m
    · have hm0' : (0 : Int) < (m : Int) := by omega
      have I1 : Hid (∀ k, ((Value.slice p1 t.cs.length c1).ownBlock = some k ∨ (Value.slice p2 t.rs.length c2).ownBlock = some k) → k < wr.heap.size) := fun k hk => hk.elim (fun e => (OwnI.lt K.out.own.c k e).2) (fun e => (OwnI.lt K.out.own.r k e).2)
      have hVw : V < wr.heap.size := (Array.getElem?_eq_some_iff.1 K.out.boxV).1
      have hPV : w.heap.size < V := K.out.PV
      go_upto_region 5 with fail
      refine wp_region_held_drew (S := (fun w' => w'.heap[V]? = some (.cells #[.slice p1 t.cs.length c1, .slice p2 t.rs.length c2] 26 (0, 0)))) (by kernel_rfl) ?_ (fun hHeld => ?_)
      · (try dsimp only); exact K.out.boxV
      replace K : Hid (QP b B a len cap w0 w.heap.size V t (.slice p1 t.cs.length c1) (.slice p2 t.rs.length c2) (World.drew wr)) := K.out.below (Below.drew (Below.refl _ _))
      have hz0 : wr.heap.size ≤ (World.drew wr).heap.size := Nat.le_refl _
      generalize World.drew wr = W0 at K hHeld hz0 ⊢
      refine yieldH (i := 0) (v := ?_) rfl (by kernel_rfl) (by kernel_rfl) (by kernel_rfl) (fun _ _ _ h => h) (by rfl) ?_ (by assumption) ?_; rotate_left
      · intro w' hSw; (try dsimp only at hSw); have q0 := cellW hSw 0 _ rfl w' (Below.refl _ _); have q1 := cellW hSw 1 _ rfl w' (Below.refl _ _); go_simp; (try with_reducible rfl)
      try simp only [Act.put, List.setIfInBounds_toArray, List.set_cons_zero, List.set_cons_succ, List.getElem_toArray, List.getElem_cons_succ, List.getElem_cons_zero]
      refine yieldH (i := 1) (v := ?_) rfl (by kernel_rfl) (by kernel_rfl) (by kernel_rfl) (fun _ _ _ h => h) (by rfl) ?_ (by assumption) ?_; rotate_left
      · intro w' hSw; (try dsimp only at hSw); go_simp; (try with_reducible rfl)
      try simp only [Act.put, List.setIfInBounds_toArray, List.set_cons_zero, List.set_cons_succ, List.getElem_toArray, List.getElem_cons_succ, List.getElem_cons_zero]
      refine wpAnyH_ready (rs := [2, 5]) (by kernel_rfl) (by simp) ?_
      refine (AllReadyH.cons rfl (fun Kc hK => ?_) (AllReadyH.cons rfl (fun Kc hK => ?_) AllReadyH.nil))
      · go_simp
        go_at_call 45; refine (n_D K.out.dr 8 (by omega)).mono ?_; rintro e2 W1 ⟨r8, rfl, hr8, hD2, ho2⟩
        have hw8 := wrap1 r8 (by omega)
        (try dsimp only)
        refine hK.out _ _ ?_ (fun hHeld => ?_)
        · (try dsimp only); exact (K.out.only hD2 ho2).boxV
        clear hK Kc
        try simp only [Act.put, List.setIfInBounds_toArray, List.set_cons_zero, List.set_cons_succ, List.getElem_toArray, List.getElem_cons_succ, List.getElem_cons_zero]
        replace K : Hid (QP b B a len cap w0 w.heap.size V t _ _ W1) := K.out.only hD2 ho2
        have hz1 : W0.heap.size ≤ W1.heap.size := by rw [ho2.size]; exact Nat.le_refl _
        clear hD2 ho2
        refine yieldH (i := 3) (v := ?_) rfl (by kernel_rfl) (by kernel_rfl) (by kernel_rfl) (fun _ _ _ h => h) (by rfl) ?_ (by assumption) ?_; rotate_left
        · intro w' hSw; (try dsimp only at hSw); go_simp; (try with_reducible rfl)
        try simp only [Act.put, List.setIfInBounds_toArray, List.set_cons_zero, List.set_cons_succ, List.getElem_toArray, List.getElem_cons_succ, List.getElem_cons_zero]
        refine wpAnyH_ready (rs := [4, 5]) (by kernel_rfl) (by simp) ?_
        refine (AllReadyH.cons rfl (fun Kc hK => ?_) (AllReadyH.cons rfl (fun Kc hK => ?_) AllReadyH.nil))
        · go_simp
          go_at_call 18; refine (specPathStep_any t (1 + (r8 : Int)) _ _ _ _ (by omega) (by omega) K.out.own).mono ?_; rintro e4 W2 ⟨u1, u2, rfl, own5, hb⟩; obtain ⟨x1, y1, rfl⟩ := own5.c.shape; obtain ⟨x2, y2, rfl⟩ := own5.r.shape
          (try dsimp only)
          refine hK.out _ _ ?_ (fun hHeld => ?_)
          · (try dsimp only); exact (K.out.below hb).boxV
          clear hK Kc
          try simp only [Act.put, List.setIfInBounds_toArray, List.set_cons_zero, List.set_cons_succ, List.getElem_toArray, List.getElem_cons_succ, List.getElem_cons_zero]
          replace K : Hid (QP b B a len cap w0 w.heap.size V t _ _ W2) := K.out.below hb
          have o5 : Hid (OwnT W2 W1.heap.size _ _ _) := own5
          have hz2 : W1.heap.size ≤ W2.heap.size := hb.size
          have I5 : Hid (∀ k, ((Value.slice x1 (stepP t (1 + (r8 : Int))).t.cs.length y1).ownBlock = some k ∨ (Value.slice x2 (stepP t (1 + (r8 : Int))).t.rs.length y2).ownBlock = some k) → W1.heap.size ≤ k ∧ k < W2.heap.size) := fun k hk => hk.elim (fun e => OwnI.lt own5.c k e) (fun e => OwnI.lt own5.r k e)
          clear own5 hb
          refine wpAnyH_ready (rs := [5]) (by kernel_rfl) (by simp) ?_
          refine (AllReadyH.cons rfl (fun Kc hK => ?_) AllReadyH.nil)
          go_simp
          (try dsimp only)
          refine hK.out _ _ ?_ (fun hHeld => ?_)
          · (try dsimp only); exact (K.out.below (all_alloc W2 (.cells #[.slice none 0 0, .slice none 0 0, .int .i64 0, .int .i64 0] 28))).boxV
          clear hK Kc
          try simp only [Act.put, List.setIfInBounds_toArray, List.set_cons_zero, List.set_cons_succ, List.getElem_toArray, List.getElem_cons_succ, List.getElem_cons_zero]
          replace K : Hid (QP b B a len cap w0 w.heap.size V t _ _ _) := K.out.below (all_alloc W2 (.cells #[.slice none 0 0, .slice none 0 0, .int .i64 0, .int .i64 0] 28))
          have bY : Hid _ := heap_alloc_new W2 (.cells #[.slice none 0 0, .slice none 0 0, .int .i64 0, .int .i64 0] 28)
          have hz3 : W2.heap.size < (W2.alloc (.cells #[.slice none 0 0, .slice none 0 0, .int .i64 0, .int .i64 0] 28)).heap.size := by simp
          replace o5 : Hid (OwnT _ _ _ _ _) := o5.out.below (all_alloc W2 (.cells #[.slice none 0 0, .slice none 0 0, .int .i64 0, .int .i64 0] 28))
          generalize W2.alloc (.cells #[.slice none 0 0, .slice none 0 0, .int .i64 0, .int .i64 0] 28) = W3 at K bY hz3 hHeld o5 ⊢
          refine wpAnyH_ready (rs := [6]) (by kernel_rfl) (by simp) ?_
          refine (AllReadyH.cons rfl (fun Kc hK => ?_) AllReadyH.nil)
          have hsl := stepP_len t (1 + (r8 : Int))
          generalize (stepP t (1 + (r8 : Int))).t = T at o5 I5 hsl ⊢
          generalize (stepP t (1 + (r8 : Int))).a = TA at ⊢
          generalize (stepP t (1 + (r8 : Int))).c = TC at ⊢
          have v0 := cellW bY.out 0 _ rfl _ (Below.refl _ _); have v1 := cellW bY.out 1 _ rfl _ (Below.refl _ _); have v2 := cellW bY.out 2 _ rfl _ (Below.refl _ _); have v3 := cellW bY.out 3 _ rfl _ (Below.refl _ _)
          have f0 := frozenW bY.out 0 _ (Below.refl _ _); have f1 := frozenW bY.out 1 _ (Below.refl _ _); have f2 := frozenW bY.out 2 _ (Below.refl _ _); have f3 := frozenW bY.out 3 _ (Below.refl _ _)
          obtain ⟨Y, hY⟩ : ∃ Y, Hid (W2.heap.size = Y) := ⟨_, show _ = _ from rfl⟩
          have hn1 : ∀ k, ((Value.slice p1 t.cs.length c1).ownBlock = some k ∨ (Value.slice p2 t.rs.length c2).ownBlock = some k) → k ≠ W2.heap.size := fun k hk => by have := I1.out k hk; omega
          have hn5 : ∀ k, ((Value.slice x1 T.cs.length y1).ownBlock = some k ∨ (Value.slice x2 T.rs.length y2).ownBlock = some k) → k ≠ W2.heap.size := fun k hk => by have := I5.out k hk; omega
          have K6 : Hid (QP b B a len cap w0 w.heap.size V t (.slice p1 t.cs.length c1) (.slice p2 t.rs.length c2) ((((W3.setCell ⟨W2.heap.size, 0, none⟩ (.slice x1 T.cs.length y1)).setCell ⟨W2.heap.size, 1, none⟩ (.slice x2 T.rs.length y2)).setCell ⟨W2.heap.size, 2, none⟩ (.int .i64 TA)).setCell ⟨W2.heap.size, 3, none⟩ (.int .i64 TC))) := (((K.out.farK (by omega) (by omega) hn1 _ _).farK (by omega) (by omega) hn1 _ _).farK (by omega) (by omega) hn1 _ _).farK (by omega) (by omega) hn1 _ _
          have o6 : Hid (OwnT ((((W3.setCell ⟨W2.heap.size, 0, none⟩ (.slice x1 T.cs.length y1)).setCell ⟨W2.heap.size, 1, none⟩ (.slice x2 T.rs.length y2)).setCell ⟨W2.heap.size, 2, none⟩ (.int .i64 TA)).setCell ⟨W2.heap.size, 3, none⟩ (.int .i64 TC)) _ (.slice x1 T.cs.length y1) (.slice x2 T.rs.length y2) T) := (((OwnT.farK o5.out hn5 _ _).farK hn5 _ _).farK hn5 _ _).farK hn5 _ _
          have bY6 : Hid (((((W3.setCell ⟨W2.heap.size, 0, none⟩ (.slice x1 T.cs.length y1)).setCell ⟨W2.heap.size, 1, none⟩ (.slice x2 T.rs.length y2)).setCell ⟨W2.heap.size, 2, none⟩ (.int .i64 TA)).setCell ⟨W2.heap.size, 3, none⟩ (.int .i64 TC)).heap[W2.heap.size]? = some (.cells #[.slice x1 T.cs.length y1, .slice x2 T.rs.length y2, .int .i64 TA, .int .i64 TC] 28 (0, 0))) := cells4 bY.out _ _ _ _
          have hs6 : W3.heap.size ≤ ((((W3.setCell ⟨W2.heap.size, 0, none⟩ (.slice x1 T.cs.length y1)).setCell ⟨W2.heap.size, 1, none⟩ (.slice x2 T.rs.length y2)).setCell ⟨W2.heap.size, 2, none⟩ (.int .i64 TA)).setCell ⟨W2.heap.size, 3, none⟩ (.int .i64 TC)).heap.size := by simp [World.setCell]
          go_simp
          (try dsimp only)
          refine hK.out _ _ ?_ (fun hHeld => ?_)
          · (try dsimp only); exact K6.out.boxV
          clear hK Kc
          try simp only [Act.put, List.setIfInBounds_toArray, List.set_cons_zero, List.set_cons_succ, List.getElem_toArray, List.getElem_cons_succ, List.getElem_cons_zero]
          refine wpAnyH_done (by kernel_rfl) ?_ _
          clear v0 v1 v2 v3 f0 f1 f2 f3 bY o5 K hHeld hY
          generalize ((((W3.setCell ⟨W2.heap.size, 0, none⟩ (.slice x1 T.cs.length y1)).setCell ⟨W2.heap.size, 1, none⟩ (.slice x2 T.rs.length y2)).setCell ⟨W2.heap.size, 2, none⟩ (.int .i64 TA)).setCell ⟨W2.heap.size, 3, none⟩ (.int .i64 TC)) = W9 at K6 o6 bY6 hs6 ⊢
          have oV : Hid (OwnT W9 (w.heap.size + 1) (.slice x1 T.cs.length y1) (.slice x2 T.rs.length y2) T) := OwnT.leT o6.out (by have := K6.out.PV; omega)
          have nV : ∀ k, ((Value.slice x1 T.cs.length y1).ownBlock = some k ∨ (Value.slice x2 T.rs.length y2).ownBlock = some k) → k ≠ V := fun k hk => by have := I5.out k hk; omega
          have KS : Hid (QP b B a len cap w0 w.heap.size V T _ _ _) := K6.out.store oV.out nV
          have a0 := cellW bY6.out 0 _ rfl W9 (Below.refl _ _); have a1 := cellW bY6.out 1 _ rfl W9 (Below.refl _ _); have a3 := cellW bY6.out 3 _ rfl W9 (Below.refl _ _)
          have b0 := cellW K6.out.boxV 0 _ rfl W9 (Below.refl _ _); have b1 := cellW K6.out.boxV 1 _ rfl W9 (Below.refl _ _); have f0 := frozenW K6.out.boxV 0 W9 (Below.refl _ _); have f1 := frozenW K6.out.boxV 1 W9 (Below.refl _ _)
          by_cases hc0 : TC = 0
          · have e0 : (TC == 0) = true := by simp [hc0]
            clear hc0
            go_wp2
            go_roundw
            case rel => exact ⟨m - 1, T, _, _, _, _, by go_num, by omega, by omega, by omega, KS⟩
            case measure => simp [intOf]; omega
          · have e0 : (TC == 0) = false := by simp [hc0]
            clear hc0
            go_wp2
            go_roundw
            case rel => exact ⟨m - 1, t, _, _, _, _, by go_num, by omega, hl1, hl2, K6⟩
            case measure => simp [intOf]; omega
        · go_simp
          (try dsimp only)
          refine hK.out _ _ ?_ (fun hHeld => ?_)
          · (try dsimp only); exact (K.out.below (all_alloc W1 (.cells #[.slice none 0 0, .slice none 0 0, .int .i64 0, .int .i64 0] 28))).boxV
          clear hK Kc
          try simp only [Act.put, List.setIfInBounds_toArray, List.set_cons_zero, List.set_cons_succ, List.getElem_toArray, List.getElem_cons_succ, List.getElem_cons_zero]
          replace K : Hid (QP b B a len cap w0 w.heap.size V t _ _ _) := K.out.below (all_alloc W1 (.cells #[.slice none 0 0, .slice none 0 0, .int .i64 0, .int .i64 0] 28))
          have bY : Hid _ := heap_alloc_new W1 (.cells #[.slice none 0 0, .slice none 0 0, .int .i64 0, .int .i64 0] 28)
          have hz2 : W1.heap.size < (W1.alloc (.cells #[.slice none 0 0, .slice none 0 0, .int .i64 0, .int .i64 0] 28)).heap.size := by simp
          generalize W1.alloc (.cells #[.slice none 0 0, .slice none 0 0, .int .i64 0, .int .i64 0] 28) = W2 at K bY hz2 hHeld ⊢
          refine wpAnyH_ready (rs := [4]) (by kernel_rfl) (by simp) ?_
          refine (AllReadyH.cons rfl (fun Kc hK => ?_) AllReadyH.nil)
          go_simp
          go_at_call 18; refine (specPathStep_any t (1 + (r8 : Int)) _ _ _ _ (by omega) (by omega) K.out.own).mono ?_; rintro e4 W3 ⟨u1, u2, rfl, own5, hb⟩; obtain ⟨x1, y1, rfl⟩ := own5.c.shape; obtain ⟨x2, y2, rfl⟩ := own5.r.shape
          (try dsimp only)
          refine hK.out _ _ ?_ (fun hHeld => ?_)
          · (try dsimp only); exact (K.out.below hb).boxV
          clear hK Kc
          try simp only [Act.put, List.setIfInBounds_toArray, List.set_cons_zero, List.set_cons_succ, List.getElem_toArray, List.getElem_cons_succ, List.getElem_cons_zero]
          replace K : Hid (QP b B a len cap w0 w.heap.size V t _ _ W3) := K.out.below hb
          have o5 : Hid (OwnT W3 W2.heap.size _ _ _) := own5
          have hz3 : W2.heap.size ≤ W3.heap.size := hb.size
          have I5 : Hid (∀ k, ((Value.slice x1 (stepP t (1 + (r8 : Int))).t.cs.length y1).ownBlock = some k ∨ (Value.slice x2 (stepP t (1 + (r8 : Int))).t.rs.length y2).ownBlock = some k) → W2.heap.size ≤ k ∧ k < W3.heap.size) := fun k hk => hk.elim (fun e => OwnI.lt own5.c k e) (fun e => OwnI.lt own5.r k e)
          replace bY : Hid _ := blk bY.out hb
          clear own5 hb
          refine wpAnyH_ready (rs := [6]) (by kernel_rfl) (by simp) ?_
          refine (AllReadyH.cons rfl (fun Kc hK => ?_) AllReadyH.nil)
          have hsl := stepP_len t (1 + (r8 : Int))
          generalize (stepP t (1 + (r8 : Int))).t = T at o5 I5 hsl ⊢
          generalize (stepP t (1 + (r8 : Int))).a = TA at ⊢
          generalize (stepP t (1 + (r8 : Int))).c = TC at ⊢
          have v0 := cellW bY.out 0 _ rfl _ (Below.refl _ _); have v1 := cellW bY.out 1 _ rfl _ (Below.refl _ _); have v2 := cellW bY.out 2 _ rfl _ (Below.refl _ _); have v3 := cellW bY.out 3 _ rfl _ (Below.refl _ _)
          have f0 := frozenW bY.out 0 _ (Below.refl _ _); have f1 := frozenW bY.out 1 _ (Below.refl _ _); have f2 := frozenW bY.out 2 _ (Below.refl _ _); have f3 := frozenW bY.out 3 _ (Below.refl _ _)
          obtain ⟨Y, hY⟩ : ∃ Y, Hid (W1.heap.size = Y) := ⟨_, show _ = _ from rfl⟩
          have hn1 : ∀ k, ((Value.slice p1 t.cs.length c1).ownBlock = some k ∨ (Value.slice p2 t.rs.length c2).ownBlock = some k) → k ≠ W1.heap.size := fun k hk => by have := I1.out k hk; omega
          have hn5 : ∀ k, ((Value.slice x1 T.cs.length y1).ownBlock = some k ∨ (Value.slice x2 T.rs.length y2).ownBlock = some k) → k ≠ W1.heap.size := fun k hk => by have := I5.out k hk; omega
          have K6 : Hid (QP b B a len cap w0 w.heap.size V t (.slice p1 t.cs.length c1) (.slice p2 t.rs.length c2) ((((W3.setCell ⟨W1.heap.size, 0, none⟩ (.slice x1 T.cs.length y1)).setCell ⟨W1.heap.size, 1, none⟩ (.slice x2 T.rs.length y2)).setCell ⟨W1.heap.size, 2, none⟩ (.int .i64 TA)).setCell ⟨W1.heap.size, 3, none⟩ (.int .i64 TC))) := (((K.out.farK (by omega) (by omega) hn1 _ _).farK (by omega) (by omega) hn1 _ _).farK (by omega) (by omega) hn1 _ _).farK (by omega) (by omega) hn1 _ _
          have o6 : Hid (OwnT ((((W3.setCell ⟨W1.heap.size, 0, none⟩ (.slice x1 T.cs.length y1)).setCell ⟨W1.heap.size, 1, none⟩ (.slice x2 T.rs.length y2)).setCell ⟨W1.heap.size, 2, none⟩ (.int .i64 TA)).setCell ⟨W1.heap.size, 3, none⟩ (.int .i64 TC)) _ (.slice x1 T.cs.length y1) (.slice x2 T.rs.length y2) T) := (((OwnT.farK o5.out hn5 _ _).farK hn5 _ _).farK hn5 _ _).farK hn5 _ _
          have bY6 : Hid (((((W3.setCell ⟨W1.heap.size, 0, none⟩ (.slice x1 T.cs.length y1)).setCell ⟨W1.heap.size, 1, none⟩ (.slice x2 T.rs.length y2)).setCell ⟨W1.heap.size, 2, none⟩ (.int .i64 TA)).setCell ⟨W1.heap.size, 3, none⟩ (.int .i64 TC)).heap[W1.heap.size]? = some (.cells #[.slice x1 T.cs.length y1, .slice x2 T.rs.length y2, .int .i64 TA, .int .i64 TC] 28 (0, 0))) := cells4 bY.out _ _ _ _
          have hs6 : W3.heap.size ≤ ((((W3.setCell ⟨W1.heap.size, 0, none⟩ (.slice x1 T.cs.length y1)).setCell ⟨W1.heap.size, 1, none⟩ (.slice x2 T.rs.length y2)).setCell ⟨W1.heap.size, 2, none⟩ (.int .i64 TA)).setCell ⟨W1.heap.size, 3, none⟩ (.int .i64 TC)).heap.size := by simp [World.setCell]
          go_simp
          (try dsimp only)
          refine hK.out _ _ ?_ (fun hHeld => ?_)
          · (try dsimp only); exact K6.out.boxV
          clear hK Kc
          try simp only [Act.put, List.setIfInBounds_toArray, List.set_cons_zero, List.set_cons_succ, List.getElem_toArray, List.getElem_cons_succ, List.getElem_cons_zero]
          refine wpAnyH_done (by kernel_rfl) ?_ _
          clear v0 v1 v2 v3 f0 f1 f2 f3 bY o5 K hHeld hY
          generalize ((((W3.setCell ⟨W1.heap.size, 0, none⟩ (.slice x1 T.cs.length y1)).setCell ⟨W1.heap.size, 1, none⟩ (.slice x2 T.rs.length y2)).setCell ⟨W1.heap.size, 2, none⟩ (.int .i64 TA)).setCell ⟨W1.heap.size, 3, none⟩ (.int .i64 TC)) = W9 at K6 o6 bY6 hs6 ⊢
          have oV : Hid (OwnT W9 (w.heap.size + 1) (.slice x1 T.cs.length y1) (.slice x2 T.rs.length y2) T) := OwnT.leT o6.out (by have := K6.out.PV; omega)
          have nV : ∀ k, ((Value.slice x1 T.cs.length y1).ownBlock = some k ∨ (Value.slice x2 T.rs.length y2).ownBlock = some k) → k ≠ V := fun k hk => by have := I5.out k hk; omega
          have KS : Hid (QP b B a len cap w0 w.heap.size V T _ _ _) := K6.out.store oV.out nV
          have a0 := cellW bY6.out 0 _ rfl W9 (Below.refl _ _); have a1 := cellW bY6.out 1 _ rfl W9 (Below.refl _ _); have a3 := cellW bY6.out 3 _ rfl W9 (Below.refl _ _)
          have b0 := cellW K6.out.boxV 0 _ rfl W9 (Below.refl _ _); have b1 := cellW K6.out.boxV 1 _ rfl W9 (Below.refl _ _); have f0 := frozenW K6.out.boxV 0 W9 (Below.refl _ _); have f1 := frozenW K6.out.boxV 1 W9 (Below.refl _ _)
          by_cases hc0 : TC = 0
          · have e0 : (TC == 0) = true := by simp [hc0]
            clear hc0
            go_wp2
            go_roundw
            case rel => exact ⟨m - 1, T, _, _, _, _, by go_num, by omega, by omega, by omega, KS⟩
            case measure => simp [intOf]; omega
          · have e0 : (TC == 0) = false := by simp [hc0]
            clear hc0
            go_wp2
            go_roundw
            case rel => exact ⟨m - 1, t, _, _, _, _, by go_num, by omega, hl1, hl2, K6⟩
            case measure => simp [intOf]; omega
      · go_simp
        (try dsimp only)
        refine hK.out _ _ ?_ (fun hHeld => ?_)
        · (try dsimp only); exact (K.out.below (all_alloc W0 (.cells #[.slice none 0 0, .slice none 0 0, .int .i64 0, .int .i64 0] 28))).boxV
        clear hK Kc
        try simp only [Act.put, List.setIfInBounds_toArray, List.set_cons_zero, List.set_cons_succ, List.getElem_toArray, List.getElem_cons_succ, List.getElem_cons_zero]
        replace K : Hid (QP b B a len cap w0 w.heap.size V t _ _ _) := K.out.below (all_alloc W0 (.cells #[.slice none 0 0, .slice none 0 0, .int .i64 0, .int .i64 0] 28))
        have bY : Hid _ := heap_alloc_new W0 (.cells #[.slice none 0 0, .slice none 0 0, .int .i64 0, .int .i64 0] 28)
        have hz1 : W0.heap.size < (W0.alloc (.cells #[.slice none 0 0, .slice none 0 0, .int .i64 0, .int .i64 0] 28)).heap.size := by simp
        generalize W0.alloc (.cells #[.slice none 0 0, .slice none 0 0, .int .i64 0, .int .i64 0] 28) = W1 at K bY hz1 hHeld ⊢
        refine wpAnyH_ready (rs := [2]) (by kernel_rfl) (by simp) ?_
        refine (AllReadyH.cons rfl (fun Kc hK => ?_) AllReadyH.nil)
        go_simp
        go_at_call 45; refine (n_D K.out.dr 8 (by omega)).mono ?_; rintro e2 W2 ⟨r8, rfl, hr8, hD2, ho2⟩
        have hw8 := wrap1 r8 (by omega)
        (try dsimp only)
        refine hK.out _ _ ?_ (fun hHeld => ?_)
        · (try dsimp only); exact (K.out.only hD2 ho2).boxV
        clear hK Kc
        try simp only [Act.put, List.setIfInBounds_toArray, List.set_cons_zero, List.set_cons_succ, List.getElem_toArray, List.getElem_cons_succ, List.getElem_cons_zero]
        replace K : Hid (QP b B a len cap w0 w.heap.size V t _ _ W2) := K.out.only hD2 ho2
        have hz2 : W1.heap.size ≤ W2.heap.size := by rw [ho2.size]; exact Nat.le_refl _
        replace bY : Hid _ := (ho2.block _ (by have := K.out.bP; have := K.out.PV; omega)).trans bY.out
        clear hD2 ho2
        refine yieldH (i := 3) (v := ?_) rfl (by kernel_rfl) (by kernel_rfl) (by kernel_rfl) (fun _ _ _ h => h) (by rfl) ?_ (by assumption) ?_; rotate_left
        · intro w' hSw; (try dsimp only at hSw); go_simp; (try with_reducible rfl)
        try simp only [Act.put, List.setIfInBounds_toArray, List.set_cons_zero, List.set_cons_succ, List.getElem_toArray, List.getElem_cons_succ, List.getElem_cons_zero]
        refine wpAnyH_ready (rs := [4]) (by kernel_rfl) (by simp) ?_
        refine (AllReadyH.cons rfl (fun Kc hK => ?_) AllReadyH.nil)
        go_simp
        go_at_call 18; refine (specPathStep_any t (1 + (r8 : Int)) _ _ _ _ (by omega) (by omega) K.out.own).mono ?_; rintro e4 W3 ⟨u1, u2, rfl, own5, hb⟩; obtain ⟨x1, y1, rfl⟩ := own5.c.shape; obtain ⟨x2, y2, rfl⟩ := own5.r.shape
        (try dsimp only)
        refine hK.out _ _ ?_ (fun hHeld => ?_)
        · (try dsimp only); exact (K.out.below hb).boxV
        clear hK Kc
        try simp only [Act.put, List.setIfInBounds_toArray, List.set_cons_zero, List.set_cons_succ, List.getElem_toArray, List.getElem_cons_succ, List.getElem_cons_zero]
        replace K : Hid (QP b B a len cap w0 w.heap.size V t _ _ W3) := K.out.below hb
        have o5 : Hid (OwnT W3 W2.heap.size _ _ _) := own5
        have hz3 : W2.heap.size ≤ W3.heap.size := hb.size
        have I5 : Hid (∀ k, ((Value.slice x1 (stepP t (1 + (r8 : Int))).t.cs.length y1).ownBlock = some k ∨ (Value.slice x2 (stepP t (1 + (r8 : Int))).t.rs.length y2).ownBlock = some k) → W2.heap.size ≤ k ∧ k < W3.heap.size) := fun k hk => hk.elim (fun e => OwnI.lt own5.c k e) (fun e => OwnI.lt own5.r k e)
        replace bY : Hid _ := blk bY.out hb
        clear own5 hb
        refine wpAnyH_ready (rs := [6]) (by kernel_rfl) (by simp) ?_
        refine (AllReadyH.cons rfl (fun Kc hK => ?_) AllReadyH.nil)
        have hsl := stepP_len t (1 + (r8 : Int))
        generalize (stepP t (1 + (r8 : Int))).t = T at o5 I5 hsl ⊢
        generalize (stepP t (1 + (r8 : Int))).a = TA at ⊢
        generalize (stepP t (1 + (r8 : Int))).c = TC at ⊢
        have v0 := cellW bY.out 0 _ rfl _ (Below.refl _ _); have v1 := cellW bY.out 1 _ rfl _ (Below.refl _ _); have v2 := cellW bY.out 2 _ rfl _ (Below.refl _ _); have v3 := cellW bY.out 3 _ rfl _ (Below.refl _ _)
        have f0 := frozenW bY.out 0 _ (Below.refl _ _); have f1 := frozenW bY.out 1 _ (Below.refl _ _); have f2 := frozenW bY.out 2 _ (Below.refl _ _); have f3 := frozenW bY.out 3 _ (Below.refl _ _)
        obtain ⟨Y, hY⟩ : ∃ Y, Hid (W0.heap.size = Y) := ⟨_, show _ = _ from rfl⟩
        have hn1 : ∀ k, ((Value.slice p1 t.cs.length c1).ownBlock = some k ∨ (Value.slice p2 t.rs.length c2).ownBlock = some k) → k ≠ W0.heap.size := fun k hk => by have := I1.out k hk; omega
        have hn5 : ∀ k, ((Value.slice x1 T.cs.length y1).ownBlock = some k ∨ (Value.slice x2 T.rs.length y2).ownBlock = some k) → k ≠ W0.heap.size := fun k hk => by have := I5.out k hk; omega
        have K6 : Hid (QP b B a len cap w0 w.heap.size V t (.slice p1 t.cs.length c1) (.slice p2 t.rs.length c2) ((((W3.setCell ⟨W0.heap.size, 0, none⟩ (.slice x1 T.cs.length y1)).setCell ⟨W0.heap.size, 1, none⟩ (.slice x2 T.rs.length y2)).setCell ⟨W0.heap.size, 2, none⟩ (.int .i64 TA)).setCell ⟨W0.heap.size, 3, none⟩ (.int .i64 TC))) := (((K.out.farK (by omega) (by omega) hn1 _ _).farK (by omega) (by omega) hn1 _ _).farK (by omega) (by omega) hn1 _ _).farK (by omega) (by omega) hn1 _ _
        have o6 : Hid (OwnT ((((W3.setCell ⟨W0.heap.size, 0, none⟩ (.slice x1 T.cs.length y1)).setCell ⟨W0.heap.size, 1, none⟩ (.slice x2 T.rs.length y2)).setCell ⟨W0.heap.size, 2, none⟩ (.int .i64 TA)).setCell ⟨W0.heap.size, 3, none⟩ (.int .i64 TC)) _ (.slice x1 T.cs.length y1) (.slice x2 T.rs.length y2) T) := (((OwnT.farK o5.out hn5 _ _).farK hn5 _ _).farK hn5 _ _).farK hn5 _ _
        have bY6 : Hid (((((W3.setCell ⟨W0.heap.size, 0, none⟩ (.slice x1 T.cs.length y1)).setCell ⟨W0.heap.size, 1, none⟩ (.slice x2 T.rs.length y2)).setCell ⟨W0.heap.size, 2, none⟩ (.int .i64 TA)).setCell ⟨W0.heap.size, 3, none⟩ (.int .i64 TC)).heap[W0.heap.size]? = some (.cells #[.slice x1 T.cs.length y1, .slice x2 T.rs.length y2, .int .i64 TA, .int .i64 TC] 28 (0, 0))) := cells4 bY.out _ _ _ _
        have hs6 : W3.heap.size ≤ ((((W3.setCell ⟨W0.heap.size, 0, none⟩ (.slice x1 T.cs.length y1)).setCell ⟨W0.heap.size, 1, none⟩ (.slice x2 T.rs.length y2)).setCell ⟨W0.heap.size, 2, none⟩ (.int .i64 TA)).setCell ⟨W0.heap.size, 3, none⟩ (.int .i64 TC)).heap.size := by simp [World.setCell]
        go_simp
        (try dsimp only)
        refine hK.out _ _ ?_ (fun hHeld => ?_)
        · (try dsimp only); exact K6.out.boxV
        clear hK Kc
        try simp only [Act.put, List.setIfInBounds_toArray, List.set_cons_zero, List.set_cons_succ, List.getElem_toArray, List.getElem_cons_succ, List.getElem_cons_zero]
        refine wpAnyH_done (by kernel_rfl) ?_ _
        clear v0 v1 v2 v3 f0 f1 f2 f3 bY o5 K hHeld hY
        generalize ((((W3.setCell ⟨W0.heap.size, 0, none⟩ (.slice x1 T.cs.length y1)).setCell ⟨W0.heap.size, 1, none⟩ (.slice x2 T.rs.length y2)).setCell ⟨W0.heap.size, 2, none⟩ (.int .i64 TA)).setCell ⟨W0.heap.size, 3, none⟩ (.int .i64 TC)) = W9 at K6 o6 bY6 hs6 ⊢
        have oV : Hid (OwnT W9 (w.heap.size + 1) (.slice x1 T.cs.length y1) (.slice x2 T.rs.length y2) T) := OwnT.leT o6.out (by have := K6.out.PV; omega)
        have nV : ∀ k, ((Value.slice x1 T.cs.length y1).ownBlock = some k ∨ (Value.slice x2 T.rs.length y2).ownBlock = some k) → k ≠ V := fun k hk => by have := I5.out k hk; omega
        have KS : Hid (QP b B a len cap w0 w.heap.size V T _ _ _) := K6.out.store oV.out nV
        have a0 := cellW bY6.out 0 _ rfl W9 (Below.refl _ _); have a1 := cellW bY6.out 1 _ rfl W9 (Below.refl _ _); have a3 := cellW bY6.out 3 _ rfl W9 (Below.refl _ _)
        have b0 := cellW K6.out.boxV 0 _ rfl W9 (Below.refl _ _); have b1 := cellW K6.out.boxV 1 _ rfl W9 (Below.refl _ _); have f0 := frozenW K6.out.boxV 0 W9 (Below.refl _ _); have f1 := frozenW K6.out.boxV 1 W9 (Below.refl _ _)
        by_cases hc0 : TC = 0
        · have e0 : (TC == 0) = true := by simp [hc0]
          clear hc0
          go_wp2
          go_roundw
          case rel => exact ⟨m - 1, T, _, _, _, _, by go_num, by omega, by omega, by omega, KS⟩
          case measure => simp [intOf]; omega
        · have e0 : (TC == 0) = false := by simp [hc0]
          clear hc0
          go_wp2
          go_roundw
          case rel => exact ⟨m - 1, t, _, _, _, _, by go_num, by omega, hl1, hl2, K6⟩
          case measure => simp [intOf]; omega
    · have hm0' : ¬ (0 : Int) < (m : Int) := by omega
      go_upto_region 9 with (go_at_call 44; refine (one_D K.out.dr 15 (by omega)).mono ?_; rintro e w2 ⟨r2, rfl, hD2, ho2⟩; replace K : Hid (QP b B a len cap w0 w.heap.size V t (.slice p1 t.cs.length c1) (.slice p2 t.rs.length c2) w2) := K.out.only hD2 ho2; clear hD2 ho2; have y0 := cellW K.out.boxV 0 _ rfl _ (Below.refl _ _); have y1 := cellW K.out.boxV 1 _ rfl _ (Below.refl _ _); have z0 := cellW K.out.boxP 0 _ rfl _ (Below.refl _ _); have z1 := cellW K.out.boxP 1 _ rfl _ (Below.refl _ _); have g0 := frozenW K.out.boxP 0 _ (Below.refl _ _); have g1 := frozenW K.out.boxP 1 _ (Below.refl _ _); cases r2)
      · exact bodyPost_ret (v := .agg #[.slice p1 t.cs.length c1, .slice p2 t.rs.length c2]) (by simp [results, Try.results43, go_sem, z0, z1]; try rfl) rfl (QP.back (t := t) K.out (by omega) (by omega) _ _)
      · clear y0 y1 z0 z1 g0 g1
        refine wp_region_held_drew (S := (fun _ => True)) (by kernel_rfl) trivial (fun hHeld => ?_)
        replace K : Hid (QP b B a len cap w0 w.heap.size V t (.slice p1 t.cs.length c1) (.slice p2 t.rs.length c2) (World.drew w2)) := K.out.below (Below.drew (Below.refl _ _))
        generalize World.drew w2 = W0 at K ⊢
        refine yieldH (i := 0) (v := ?_) rfl (by kernel_rfl) (by decide +kernel) (by decide +kernel) (fun _ _ _ h => h) (by rfl) ?_ (by trivial) ?_; rotate_left
        · intro w' hSw; (try dsimp only at hSw); go_simp; (try with_reducible rfl)
        try simp only [Act.put, List.setIfInBounds_toArray, List.set_cons_zero, List.set_cons_succ, List.getElem_toArray, List.getElem_cons_succ, List.getElem_cons_zero]
        refine yieldH (i := 2) (v := ?_) rfl (by kernel_rfl) (by decide +kernel) (by decide +kernel) (fun _ _ _ h => h) (by rfl) ?_ (by trivial) ?_; rotate_left
        · intro w' hSw; (try dsimp only at hSw); go_simp; (try with_reducible rfl)
        try simp only [Act.put, List.setIfInBounds_toArray, List.set_cons_zero, List.set_cons_succ, List.getElem_toArray, List.getElem_cons_succ, List.getElem_cons_zero]
        refine wpAnyH_ready (rs := [1, 3]) (by kernel_rfl) (by simp) ?_
        refine (AllReadyH.cons rfl (fun Kc hK => ?_) (AllReadyH.cons rfl (fun Kc hK => ?_) AllReadyH.nil))
        · have c1' := cellW K.out.boxV 1 _ rfl W0 (Below.refl _ _)
          go_simp
          (try dsimp only)
          refine hK.out _ _ ?_ (fun hHeld => ?_)
          · trivial
          clear hK Kc
          try simp only [Act.put, List.setIfInBounds_toArray, List.set_cons_zero, List.set_cons_succ, List.getElem_toArray, List.getElem_cons_succ, List.getElem_cons_zero]
          clear c1'
          refine wpAnyH_ready (rs := [3]) (by kernel_rfl) (by simp) ?_
          refine (AllReadyH.cons rfl (fun Kc hK => ?_) AllReadyH.nil)
          go_simp
          go_at_call 45; refine (n_D K.out.dr 10 (by omega)).mono ?_; rintro e3 W1 ⟨r10, rfl, hr10, hD3, ho3⟩
          (try dsimp only)
          refine hK.out _ _ ?_ (fun hHeld => ?_)
          · trivial
          clear hK Kc
          try simp only [Act.put, List.setIfInBounds_toArray, List.set_cons_zero, List.set_cons_succ, List.getElem_toArray, List.getElem_cons_succ, List.getElem_cons_zero]
          replace K : Hid (QP b B a len cap w0 w.heap.size V t _ _ W1) := K.out.only hD3 ho3
          clear hD3 ho3
          refine wpAnyH_ready (rs := [4]) (by kernel_rfl) (by simp) ?_
          refine (AllReadyH.cons rfl (fun Kc hK => ?_) AllReadyH.nil)
          go_simp
          (try dsimp only)
          refine hK.out _ _ ?_ (fun hHeld => ?_)
          · trivial
          clear hK Kc
          try simp only [Act.put, List.setIfInBounds_toArray, List.set_cons_zero, List.set_cons_succ, List.getElem_toArray, List.getElem_cons_succ, List.getElem_cons_zero]
          replace K : Hid (QP b B a len cap w0 w.heap.size V t _ _ _) := K.out.below (all_alloc W1 (.cells #[.int .i64 r10] 2))
          have rB : Hid _ := heap_alloc_new W1 (.cells #[.int .i64 r10] 2)
          generalize W1.alloc (.cells #[.int .i64 r10] 2) = W2 at K rB ⊢
          refine wpAnyH_ready (rs := [5]) (by kernel_rfl) (by simp) ?_
          refine (AllReadyH.cons rfl (fun Kc hK => ?_) AllReadyH.nil)
          have hcell : W2.cell? ⟨W1.heap.size, 0, none⟩ = some (.int .i64 r10) := cellW rB.out 0 _ rfl _ (Below.refl _ _)
          have hVl : V < W2.heap.size := (Array.getElem?_eq_some_iff.1 K.out.boxV).1
          obtain ⟨v', w9, hrun, hown, hgr, hloc⟩ := app_oneK W2 23 (w.heap.size + 1) (.slice p2 t.rs.length c2) t.rs K.out.own.r W1.heap.size r10 hcell (by omega) (by have := K.out.PV; omega)
          obtain ⟨R, hR⟩ : ∃ R, t.rs ++ [(r10 : Int)] = R := ⟨_, rfl⟩
          have hRl : R.length ≤ 7 := by rw [← hR, List.length_append, List.length_singleton]; omega
          rw [hR] at hown
          clear hR
          obtain ⟨p', c', rfl⟩ := hown.shape
          have KF : Hid (QP b B a len cap w0 w.heap.size V ⟨t.cs, R⟩ (.slice p1 t.cs.length c1) (.slice p' R.length c') (w9.setCell ⟨V, 1, none⟩ (.slice p' R.length c'))) := K.out.grownR hgr hown hloc
          have hbV : w9.heap[V]? = some (.cells #[.slice p1 t.cs.length c1, .slice p2 t.rs.length c2] 26 (0, 0)) := (hgr.block V hVl (fun e => K.out.nv V (.inr e.symm) rfl)).trans K.out.boxV
          unfold Oper.wp; simp [execOp, resolve, invoke, builtin, Act.eval, hrun, Result.andThen]
          (try dsimp only)
          refine hK.out _ _ ?_ (fun hHeld => ?_)
          · trivial
          clear hK Kc
          try simp only [Act.put, List.setIfInBounds_toArray, List.set_cons_zero, List.set_cons_succ, List.getElem_toArray, List.getElem_cons_succ, List.getElem_cons_zero]
          clear hrun hown hgr hloc hcell rB K
          have q1 := cellW hbV 1 _ rfl w9 (Below.refl _ _); have f1 := frozenW hbV 1 w9 (Below.refl _ _)
          refine yieldH (i := 6) (v := ?_) rfl (by kernel_rfl) (by decide +kernel) (by decide +kernel) (fun _ _ _ h => h) (by rfl) ?_ (by trivial) ?_; rotate_left
          · intro w' hSw; (try dsimp only at hSw); go_simp; (try with_reducible rfl)
          try simp only [Act.put, List.setIfInBounds_toArray, List.set_cons_zero, List.set_cons_succ, List.getElem_toArray, List.getElem_cons_succ, List.getElem_cons_zero]
          refine wpAnyH_ready (rs := [7]) (by kernel_rfl) (by simp) ?_
          refine AllReadyH.cons rfl (fun Kc hK => ?_) AllReadyH.nil
          go_simp
          (try dsimp only)
          refine hK.out _ _ ?_ (fun hHeld => ?_)
          · trivial
          clear hK Kc
          try simp only [Act.put, List.setIfInBounds_toArray, List.set_cons_zero, List.set_cons_succ, List.getElem_toArray, List.getElem_cons_succ, List.getElem_cons_zero]
          refine wpAnyH_done (by kernel_rfl) ?_ _
          clear q1 f1 hbV
          generalize w9.setCell ⟨V, 1, none⟩ (.slice p' R.length c') = w10 at KF ⊢
          have y0 := cellW KF.out.boxV 0 _ rfl _ (Below.refl _ _); have y1 := cellW KF.out.boxV 1 _ rfl _ (Below.refl _ _)
          have z0 := cellW KF.out.boxP 0 _ rfl _ (Below.refl _ _); have z1 := cellW KF.out.boxP 1 _ rfl _ (Below.refl _ _); have g0 := frozenW KF.out.boxP 0 _ (Below.refl _ _); have g1 := frozenW KF.out.boxP 1 _ (Below.refl _ _)
          go_wp2
          exact bodyPost_ret (v := .agg #[.slice p1 t.cs.length c1, .slice p' R.length c']) (by simp [results, Try.results43, go_sem, z0, z1]; try rfl) rfl (QP.back (t := ⟨t.cs, R⟩) KF.out (by (try simp only); omega) (by (try simp only); omega) _ _)
        · go_simp
          go_at_call 45; refine (n_D K.out.dr 10 (by omega)).mono ?_; rintro e3 W1 ⟨r10, rfl, hr10, hD3, ho3⟩
          (try dsimp only)
          refine hK.out _ _ ?_ (fun hHeld => ?_)
          · trivial
          clear hK Kc
          try simp only [Act.put, List.setIfInBounds_toArray, List.set_cons_zero, List.set_cons_succ, List.getElem_toArray, List.getElem_cons_succ, List.getElem_cons_zero]
          replace K : Hid (QP b B a len cap w0 w.heap.size V t _ _ W1) := K.out.only hD3 ho3
          clear hD3 ho3
          refine wpAnyH_ready (rs := [1, 4]) (by kernel_rfl) (by simp) ?_
          refine (AllReadyH.cons rfl (fun Kc hK => ?_) (AllReadyH.cons rfl (fun Kc hK => ?_) AllReadyH.nil))
          · have c1' := cellW K.out.boxV 1 _ rfl W1 (Below.refl _ _)
            go_simp
            (try dsimp only)
            refine hK.out _ _ ?_ (fun hHeld => ?_)
            · trivial
            clear hK Kc
            try simp only [Act.put, List.setIfInBounds_toArray, List.set_cons_zero, List.set_cons_succ, List.getElem_toArray, List.getElem_cons_succ, List.getElem_cons_zero]
            clear c1'
            refine wpAnyH_ready (rs := [4]) (by kernel_rfl) (by simp) ?_
            refine (AllReadyH.cons rfl (fun Kc hK => ?_) AllReadyH.nil)
            go_simp
            (try dsimp only)
            refine hK.out _ _ ?_ (fun hHeld => ?_)
            · trivial
            clear hK Kc
            try simp only [Act.put, List.setIfInBounds_toArray, List.set_cons_zero, List.set_cons_succ, List.getElem_toArray, List.getElem_cons_succ, List.getElem_cons_zero]
            replace K : Hid (QP b B a len cap w0 w.heap.size V t _ _ _) := K.out.below (all_alloc W1 (.cells #[.int .i64 r10] 2))
            have rB : Hid _ := heap_alloc_new W1 (.cells #[.int .i64 r10] 2)
            generalize W1.alloc (.cells #[.int .i64 r10] 2) = W2 at K rB ⊢
            refine wpAnyH_ready (rs := [5]) (by kernel_rfl) (by simp) ?_
            refine (AllReadyH.cons rfl (fun Kc hK => ?_) AllReadyH.nil)
            have hcell : W2.cell? ⟨W1.heap.size, 0, none⟩ = some (.int .i64 r10) := cellW rB.out 0 _ rfl _ (Below.refl _ _)
            have hVl : V < W2.heap.size := (Array.getElem?_eq_some_iff.1 K.out.boxV).1
            obtain ⟨v', w9, hrun, hown, hgr, hloc⟩ := app_oneK W2 23 (w.heap.size + 1) (.slice p2 t.rs.length c2) t.rs K.out.own.r W1.heap.size r10 hcell (by omega) (by have := K.out.PV; omega)
            obtain ⟨R, hR⟩ : ∃ R, t.rs ++ [(r10 : Int)] = R := ⟨_, rfl⟩
            have hRl : R.length ≤ 7 := by rw [← hR, List.length_append, List.length_singleton]; omega
            rw [hR] at hown
            clear hR
            obtain ⟨p', c', rfl⟩ := hown.shape
            have KF : Hid (QP b B a len cap w0 w.heap.size V ⟨t.cs, R⟩ (.slice p1 t.cs.length c1) (.slice p' R.length c') (w9.setCell ⟨V, 1, none⟩ (.slice p' R.length c'))) := K.out.grownR hgr hown hloc
            have hbV : w9.heap[V]? = some (.cells #[.slice p1 t.cs.length c1, .slice p2 t.rs.length c2] 26 (0, 0)) := (hgr.block V hVl (fun e => K.out.nv V (.inr e.symm) rfl)).trans K.out.boxV
            unfold Oper.wp; simp [execOp, resolve, invoke, builtin, Act.eval, hrun, Result.andThen]
            (try dsimp only)
            refine hK.out _ _ ?_ (fun hHeld => ?_)
            · trivial
            clear hK Kc
            try simp only [Act.put, List.setIfInBounds_toArray, List.set_cons_zero, List.set_cons_succ, List.getElem_toArray, List.getElem_cons_succ, List.getElem_cons_zero]
            clear hrun hown hgr hloc hcell rB K
            have q1 := cellW hbV 1 _ rfl w9 (Below.refl _ _); have f1 := frozenW hbV 1 w9 (Below.refl _ _)
            refine yieldH (i := 6) (v := ?_) rfl (by kernel_rfl) (by decide +kernel) (by decide +kernel) (fun _ _ _ h => h) (by rfl) ?_ (by trivial) ?_; rotate_left
            · intro w' hSw; (try dsimp only at hSw); go_simp; (try with_reducible rfl)
            try simp only [Act.put, List.setIfInBounds_toArray, List.set_cons_zero, List.set_cons_succ, List.getElem_toArray, List.getElem_cons_succ, List.getElem_cons_zero]
            refine wpAnyH_ready (rs := [7]) (by kernel_rfl) (by simp) ?_
            refine AllReadyH.cons rfl (fun Kc hK => ?_) AllReadyH.nil
            go_simp
            (try dsimp only)
            refine hK.out _ _ ?_ (fun hHeld => ?_)
            · trivial
            clear hK Kc
            try simp only [Act.put, List.setIfInBounds_toArray, List.set_cons_zero, List.set_cons_succ, List.getElem_toArray, List.getElem_cons_succ, List.getElem_cons_zero]
            refine wpAnyH_done (by kernel_rfl) ?_ _
            clear q1 f1 hbV
            generalize w9.setCell ⟨V, 1, none⟩ (.slice p' R.length c') = w10 at KF ⊢
            have y0 := cellW KF.out.boxV 0 _ rfl _ (Below.refl _ _); have y1 := cellW KF.out.boxV 1 _ rfl _ (Below.refl _ _)
            have z0 := cellW KF.out.boxP 0 _ rfl _ (Below.refl _ _); have z1 := cellW KF.out.boxP 1 _ rfl _ (Below.refl _ _); have g0 := frozenW KF.out.boxP 0 _ (Below.refl _ _); have g1 := frozenW KF.out.boxP 1 _ (Below.refl _ _)
            go_wp2
            exact bodyPost_ret (v := .agg #[.slice p1 t.cs.length c1, .slice p' R.length c']) (by simp [results, Try.results43, go_sem, z0, z1]; try rfl) rfl (QP.back (t := ⟨t.cs, R⟩) KF.out (by (try simp only); omega) (by (try simp only); omega) _ _)
          · go_simp
            (try dsimp only)
            refine hK.out _ _ ?_ (fun hHeld => ?_)
            · trivial
            clear hK Kc
            try simp only [Act.put, List.setIfInBounds_toArray, List.set_cons_zero, List.set_cons_succ, List.getElem_toArray, List.getElem_cons_succ, List.getElem_cons_zero]
            replace K : Hid (QP b B a len cap w0 w.heap.size V t _ _ _) := K.out.below (all_alloc W1 (.cells #[.int .i64 r10] 2))
            have rB : Hid _ := heap_alloc_new W1 (.cells #[.int .i64 r10] 2)
            generalize W1.alloc (.cells #[.int .i64 r10] 2) = W2 at K rB ⊢
            refine wpAnyH_ready (rs := [1]) (by kernel_rfl) (by simp) ?_
            refine (AllReadyH.cons rfl (fun Kc hK => ?_) AllReadyH.nil)
            have c1' := cellW K.out.boxV 1 _ rfl W2 (Below.refl _ _)
            go_simp
            (try dsimp only)
            refine hK.out _ _ ?_ (fun hHeld => ?_)
            · trivial
            clear hK Kc
            try simp only [Act.put, List.setIfInBounds_toArray, List.set_cons_zero, List.set_cons_succ, List.getElem_toArray, List.getElem_cons_succ, List.getElem_cons_zero]
            clear c1'
            refine wpAnyH_ready (rs := [5]) (by kernel_rfl) (by simp) ?_
            refine (AllReadyH.cons rfl (fun Kc hK => ?_) AllReadyH.nil)
            have hcell : W2.cell? ⟨W1.heap.size, 0, none⟩ = some (.int .i64 r10) := cellW rB.out 0 _ rfl _ (Below.refl _ _)
            have hVl : V < W2.heap.size := (Array.getElem?_eq_some_iff.1 K.out.boxV).1
            obtain ⟨v', w9, hrun, hown, hgr, hloc⟩ := app_oneK W2 23 (w.heap.size + 1) (.slice p2 t.rs.length c2) t.rs K.out.own.r W1.heap.size r10 hcell (by omega) (by have := K.out.PV; omega)
            obtain ⟨R, hR⟩ : ∃ R, t.rs ++ [(r10 : Int)] = R := ⟨_, rfl⟩
            have hRl : R.length ≤ 7 := by rw [← hR, List.length_append, List.length_singleton]; omega
            rw [hR] at hown
            clear hR
            obtain ⟨p', c', rfl⟩ := hown.shape
            have KF : Hid (QP b B a len cap w0 w.heap.size V ⟨t.cs, R⟩ (.slice p1 t.cs.length c1) (.slice p' R.length c') (w9.setCell ⟨V, 1, none⟩ (.slice p' R.length c'))) := K.out.grownR hgr hown hloc
            have hbV : w9.heap[V]? = some (.cells #[.slice p1 t.cs.length c1, .slice p2 t.rs.length c2] 26 (0, 0)) := (hgr.block V hVl (fun e => K.out.nv V (.inr e.symm) rfl)).trans K.out.boxV
            unfold Oper.wp; simp [execOp, resolve, invoke, builtin, Act.eval, hrun, Result.andThen]
            (try dsimp only)
            refine hK.out _ _ ?_ (fun hHeld => ?_)
            · trivial
            clear hK Kc
            try simp only [Act.put, List.setIfInBounds_toArray, List.set_cons_zero, List.set_cons_succ, List.getElem_toArray, List.getElem_cons_succ, List.getElem_cons_zero]
            clear hrun hown hgr hloc hcell rB K
            have q1 := cellW hbV 1 _ rfl w9 (Below.refl _ _); have f1 := frozenW hbV 1 w9 (Below.refl _ _)
            refine yieldH (i := 6) (v := ?_) rfl (by kernel_rfl) (by decide +kernel) (by decide +kernel) (fun _ _ _ h => h) (by rfl) ?_ (by trivial) ?_; rotate_left
            · intro w' hSw; (try dsimp only at hSw); go_simp; (try with_reducible rfl)
            try simp only [Act.put, List.setIfInBounds_toArray, List.set_cons_zero, List.set_cons_succ, List.getElem_toArray, List.getElem_cons_succ, List.getElem_cons_zero]
            refine wpAnyH_ready (rs := [7]) (by kernel_rfl) (by simp) ?_
            refine AllReadyH.cons rfl (fun Kc hK => ?_) AllReadyH.nil
            go_simp
            (try dsimp only)
            refine hK.out _ _ ?_ (fun hHeld => ?_)
            · trivial
            clear hK Kc
            try simp only [Act.put, List.setIfInBounds_toArray, List.set_cons_zero, List.set_cons_succ, List.getElem_toArray, List.getElem_cons_succ, List.getElem_cons_zero]
            refine wpAnyH_done (by kernel_rfl) ?_ _
            clear q1 f1 hbV
            generalize w9.setCell ⟨V, 1, none⟩ (.slice p' R.length c') = w10 at KF ⊢
            have y0 := cellW KF.out.boxV 0 _ rfl _ (Below.refl _ _); have y1 := cellW KF.out.boxV 1 _ rfl _ (Below.refl _ _)
            have z0 := cellW KF.out.boxP 0 _ rfl _ (Below.refl _ _); have z1 := cellW KF.out.boxP 1 _ rfl _ (Below.refl _ _); have g0 := frozenW KF.out.boxP 0 _ (Below.refl _ _); have g1 := frozenW KF.out.boxP 1 _ (Below.refl _ _)
            go_wp2
            exact bodyPost_ret (v := .agg #[.slice p1 t.cs.length c1, .slice p' R.length c']) (by simp [results, Try.results43, go_sem, z0, z1]; try rfl) rfl (QP.back (t := ⟨t.cs, R⟩) KF.out (by (try simp only); omega) (by (try simp only); omega) _ _)
end Go.Proofs.Ytineecongiplgaa
