/- A STATION COPIED: the model's. Written by mkcpl.py. -/
import Derived.Test.YtggdjiijcoklgaaQCopyS
namespace Go.Proofs.Ytggdjiijcoklgaa
open Go.RowKit
set_option linter.unusedVariables false
set_option linter.unusedSimpArgs false

/-- numbers put behind an empty row -/
theorem app_emptyI (w : World) (ty : TypeId) (G : Nat) (hG : w.heap[G]? = some (.cells #[] 2 (0, 0))) (b : Nat) (u : Value) (zs : List Int) (hs : OwnI w b u zs) (hl : zs.length ≤ 100000) :
    ∃ p c w', (Builtin.append_ #[24, 24] ty #[.slice (some ⟨G, 0, none⟩) 0 0, u]).run Try.prog w = .ok (.slice p zs.length c) w' ∧ OwnI w' G (.slice p zs.length c) zs ∧ Below w.heap.size w w' := by
  obtain ⟨G', c, w', h1, _, h3, h4⟩ := app_empty w ty G hG b u zs hs hl
  exact ⟨_, c, w', h1, h3 G (Nat.le_refl _), h4⟩
/-- texts put behind an empty row -/
theorem app_emptyT (w : World) (ty : TypeId) (G : Nat) (hG : w.heap[G]? = some (.cells #[] 9 (0, 0))) (b : Nat) (u : Value) (ss : List ByteArray) (hs : OwnT4 w b u ss) (hl : ss.length ≤ 100000) :
    ∃ p c w', (Builtin.append_ #[26, 26] ty #[.slice (some ⟨G, 0, none⟩) 0 0, u]).run Try.prog w = .ok (.slice p ss.length c) w' ∧ OwnT4 w' G (.slice p ss.length c) ss ∧ w.grownBy w' (some G) := by
  obtain ⟨i0, hi, hz0, hz1, hz2⟩ := info_parts infoT4
  have hlt := (Array.getElem?_eq_some_iff.1 hG).1
  have hown : OwnT4 w G (.slice (some ⟨G, 0, none⟩) 0 0) [] := ⟨by simp, .inr ⟨G, 0, #[], rfl, Nat.le_refl _, hG, Nat.le_refl _, by unfold maxLen; omega, rfl, rfl⟩⟩
  rcases hs.2 with ⟨rfl, h0⟩ | ⟨g, cap, cur, rfl, _⟩
  · obtain rfl : ss = [] := List.eq_nil_of_length_eq_zero h0
    exact ⟨_, _, _, run_append_owned_none w G _ _ 9 i0 1 Try.underlying26 hi _ 0 [] hown, hown, grown_reflI _ _⟩
  · have hnews : ∀ j x, (ss.map Value.string)[j]? = some x → w.cell? ((⟨g, 0, none⟩ : Addr).add j) = some x := by
      intro j x hj
      rw [List.getElem?_map] at hj
      cases hz : ss[j]? with
      | none => rw [hz] at hj; cases hj
      | some z =>
        rw [hz] at hj
        cases hj
        obtain ⟨hlt2, hzj⟩ := List.getElem?_eq_some_iff.1 hz
        obtain ⟨g', e, _, _, hq, _⟩ := hs.cell j hlt2
        cases e
        rw [hzj] at hq
        rw [show (⟨g, 0, none⟩ : Addr).add j = ⟨g, j, none⟩ by unfold Addr.add; split <;> simp_all]
        exact hq
    obtain ⟨v', w', hrun, r1, r2, _⟩ := run_append_own (P := Try.prog) w G 26 ty 9 i0 (.string ⟨#[]⟩) 1 16 Try.underlying26 hi hz0 hz1 hz2 rfl (by decide) _ 0 [] hown ⟨g, 0, none⟩ ss.length cap (ss.map Value.string) (by simp) hnews
      (by intro x hx; simp at hx; obtain ⟨y, _, rfl⟩ := hx; rfl) (by unfold maxLen; omega) (by omega) (by omega)
    have ho : OwnT4 w' G v' ss := by
      unfold OwnT4
      simpa using r1
    obtain ⟨p, c, rfl⟩ := ho.shape
    exact ⟨p, c, w', hrun, ho, r2⟩
set_option maxRecDepth 100000 in
set_option maxHeartbeats 6400000 in
theorem l06Copy_any (s : Stn) (B : Nat) (v1 v2 v3 v4 : Value) (w : World) (hs : s.small) (h : OwnStn w B v1 v2 v3 v4 s) :
    Calls Try.prog 38 #[.agg #[.int .i64 s.ad, .int .i64 s.bo, .int .i64 s.st, .int .i64 s.s.g, .int .i64 s.s.o, .int .i64 s.s.b, .int .i64 s.s.h, .int .i64 s.t.g, .int .i64 s.t.o, .int .i64 s.t.b, .int .i64 s.t.h, .int .i64 s.qu, .int .i64 s.tr, .int .i64 s.he, .int .i64 s.po, v1, v2, v3, v4]] w fun x w' => ∃ u1 u2 u3 u4, x = .returned (.agg #[.int .i64 s.ad, .int .i64 s.bo, .int .i64 s.st, .int .i64 s.s.g, .int .i64 s.s.o, .int .i64 s.s.b, .int .i64 s.s.h, .int .i64 s.t.g, .int .i64 s.t.o, .int .i64 s.t.b, .int .i64 s.t.h, .int .i64 s.qu, .int .i64 s.tr, .int .i64 s.he, .int .i64 s.po, u1, u2, u3, u4]) ∧ OwnStn w' w.heap.size u1 u2 u3 u4 s ∧ Below w.heap.size w w' := by
  obtain ⟨l1, h1, l2, h2, l3, h3, l4, h4, _, _, o1, o2, o3, o4, _⟩ := h.all
  have Q1 : Hid (∀ W, Below w.heap.size w W → OwnI W l1 v1 s.kn) := fun W hW => o1.1.below hW
  have Q2 : Hid (∀ W, Below w.heap.size w W → OwnI W l2 v2 s.ws) := fun W hW => o2.1.below hW
  have Q3 : Hid (∀ W, Below w.heap.size w W → ∀ k (hk : k < s.gs.length), ∃ g c u, v3 = .slice (some ⟨g, 0, none⟩) s.gs.length c ∧ W.cell? ⟨g, k * 2, none⟩ = some (.int .i64 s.gs[k].1) ∧ W.cell? ⟨g, k * 2 + 1, none⟩ = some u ∧ OwnI W l3 u s.gs[k].2) := fun W hW => ownG_cells (o3.g.below hW)
  have Q3l : Hid (∀ g c, v3 = .slice (some ⟨g, 0, none⟩) s.gs.length c → g < w.heap.size) := fun g c e => (o3.g.lt g (by rw [e]; rfl)).2
  have Q4 : Hid (∀ W, Below w.heap.size w W → OwnT4 W l4 v4 s.os) := fun W hW => o4.1.below hW
  obtain ⟨p1, c1, e1⟩ := o1.1.shape
  obtain ⟨p2, c2, e2⟩ := o2.1.shape
  obtain ⟨p3, c3, e3⟩ := o3.g.shape
  obtain ⟨p4, c4, e4⟩ := o4.1.shape
  subst e1; subst e2; subst e3; subst e4
  have k1 := hs.kn
  have k2 := hs.ws
  have k3 := hs.gs
  have k4 := hs.os
  have HGW : Hid _ := hs.gw
  clear h o1 o2 o3 o4 hs
  go_enter Try.func38, Try.ntmps38
  go_upto_region 1 with fail
  have hX : Hid _ := blk (heap_alloc_new w (.cells #[.int .i64 s.ad, .int .i64 s.bo, .int .i64 s.st, .int .i64 s.s.g, .int .i64 s.s.o, .int .i64 s.s.b, .int .i64 s.s.h, .int .i64 s.t.g, .int .i64 s.t.o, .int .i64 s.t.b, .int .i64 s.t.h, .int .i64 s.qu, .int .i64 s.tr, .int .i64 s.he, .int .i64 s.po, .slice p1 s.kn.length c1, .slice p2 s.ws.length c2, .slice p3 s.gs.length c3, .slice p4 s.os.length c4] 33)) (all_alloc _ (.cells #[.int .i64 0, .int .i64 0, .int .i64 0, .int .i64 0, .int .i64 0, .int .i64 0, .int .i64 0, .int .i64 0, .int .i64 0, .int .i64 0, .int .i64 0, .int .i64 0, .int .i64 0, .int .i64 0, .int .i64 0, .slice none 0 0, .slice none 0 0, .slice none 0 0, .slice none 0 0] 33))
  have hY : Hid _ := heap_alloc_new (w.alloc (.cells #[.int .i64 s.ad, .int .i64 s.bo, .int .i64 s.st, .int .i64 s.s.g, .int .i64 s.s.o, .int .i64 s.s.b, .int .i64 s.s.h, .int .i64 s.t.g, .int .i64 s.t.o, .int .i64 s.t.b, .int .i64 s.t.h, .int .i64 s.qu, .int .i64 s.tr, .int .i64 s.he, .int .i64 s.po, .slice p1 s.kn.length c1, .slice p2 s.ws.length c2, .slice p3 s.gs.length c3, .slice p4 s.os.length c4] 33)) (.cells #[.int .i64 0, .int .i64 0, .int .i64 0, .int .i64 0, .int .i64 0, .int .i64 0, .int .i64 0, .int .i64 0, .int .i64 0, .int .i64 0, .int .i64 0, .int .i64 0, .int .i64 0, .int .i64 0, .int .i64 0, .slice none 0 0, .slice none 0 0, .slice none 0 0, .slice none 0 0] 33)
  have hA : Below w.heap.size w ((w.alloc (.cells #[.int .i64 s.ad, .int .i64 s.bo, .int .i64 s.st, .int .i64 s.s.g, .int .i64 s.s.o, .int .i64 s.s.b, .int .i64 s.s.h, .int .i64 s.t.g, .int .i64 s.t.o, .int .i64 s.t.b, .int .i64 s.t.h, .int .i64 s.qu, .int .i64 s.tr, .int .i64 s.he, .int .i64 s.po, .slice p1 s.kn.length c1, .slice p2 s.ws.length c2, .slice p3 s.gs.length c3, .slice p4 s.os.length c4] 33)).alloc (.cells #[.int .i64 0, .int .i64 0, .int .i64 0, .int .i64 0, .int .i64 0, .int .i64 0, .int .i64 0, .int .i64 0, .int .i64 0, .int .i64 0, .int .i64 0, .int .i64 0, .int .i64 0, .int .i64 0, .int .i64 0, .slice none 0 0, .slice none 0 0, .slice none 0 0, .slice none 0 0] 33)) := keepB (all_alloc w _) (Nat.le_refl _) (all_alloc _ _)
  have e3 : ((w.alloc (.cells #[.int .i64 s.ad, .int .i64 s.bo, .int .i64 s.st, .int .i64 s.s.g, .int .i64 s.s.o, .int .i64 s.s.b, .int .i64 s.s.h, .int .i64 s.t.g, .int .i64 s.t.o, .int .i64 s.t.b, .int .i64 s.t.h, .int .i64 s.qu, .int .i64 s.tr, .int .i64 s.he, .int .i64 s.po, .slice p1 s.kn.length c1, .slice p2 s.ws.length c2, .slice p3 s.gs.length c3, .slice p4 s.os.length c4] 33)).alloc (.cells #[.int .i64 0, .int .i64 0, .int .i64 0, .int .i64 0, .int .i64 0, .int .i64 0, .int .i64 0, .int .i64 0, .int .i64 0, .int .i64 0, .int .i64 0, .int .i64 0, .int .i64 0, .int .i64 0, .int .i64 0, .slice none 0 0, .slice none 0 0, .slice none 0 0, .slice none 0 0] 33)).heap.size = w.heap.size + 1 + 1 := by simp
  rw [show (w.alloc (.cells #[.int .i64 s.ad, .int .i64 s.bo, .int .i64 s.st, .int .i64 s.s.g, .int .i64 s.s.o, .int .i64 s.s.b, .int .i64 s.s.h, .int .i64 s.t.g, .int .i64 s.t.o, .int .i64 s.t.b, .int .i64 s.t.h, .int .i64 s.qu, .int .i64 s.tr, .int .i64 s.he, .int .i64 s.po, .slice p1 s.kn.length c1, .slice p2 s.ws.length c2, .slice p3 s.gs.length c3, .slice p4 s.os.length c4] 33)).heap.size = w.heap.size + 1 by simp] at hY
  generalize (w.alloc (.cells #[.int .i64 s.ad, .int .i64 s.bo, .int .i64 s.st, .int .i64 s.s.g, .int .i64 s.s.o, .int .i64 s.s.b, .int .i64 s.s.h, .int .i64 s.t.g, .int .i64 s.t.o, .int .i64 s.t.b, .int .i64 s.t.h, .int .i64 s.qu, .int .i64 s.tr, .int .i64 s.he, .int .i64 s.po, .slice p1 s.kn.length c1, .slice p2 s.ws.length c2, .slice p3 s.gs.length c3, .slice p4 s.os.length c4] 33)).alloc (.cells #[.int .i64 0, .int .i64 0, .int .i64 0, .int .i64 0, .int .i64 0, .int .i64 0, .int .i64 0, .int .i64 0, .int .i64 0, .int .i64 0, .int .i64 0, .int .i64 0, .int .i64 0, .int .i64 0, .int .i64 0, .slice none 0 0, .slice none 0 0, .slice none 0 0, .slice none 0 0] 33) = A1 at hX hY hA e3 ⊢
  have e3' : w.heap.size + 1 + 1 ≤ A1.heap.size := by omega
  clear e3
  have hb0 := all_alloc A1 (.cells #[] 2)
  have hAE := keepB hA (Nat.le_refl _) hb0
  obtain ⟨q1, d1, w1, hrun1, own1, hgr1⟩ := app_emptyI (A1.alloc (.cells #[] 2)) 24 A1.heap.size (heap_alloc_new A1 _) l1 _ _ (Q1.out _ hAE) (by omega)
  have hb1 := keepB hb0 (Nat.le_refl _) hgr1
  have own1' : Hid (OwnI w1 A1.heap.size _ s.kn) := own1
  clear own1
  have hX0 : Hid _ := blk hX.out hb0
  have x15 := cellW hX0.out 15 _ rfl _ (Below.refl _ _)
  have hZ1 : Hid _ := blk hX.out hb1
  have z15 := cellW hZ1.out 15 _ rfl w1 (Below.refl _ _)
  have f15 := frozenW hZ1.out 15 w1 (Below.refl _ _)
  go_upto_region 2 with (at_builtin; refine wpList_plain rfl fun K hK => ?_; unfold Oper.wp; simp [execOp, resolve, invoke, builtin, Act.eval, hrun1, Result.andThen]; refine hK _ _ ?_)
  have hs1 : A1.heap.size ≤ w1.heap.size := hb1.size
  have hXn : Hid (_ = some (Obj.cells #[.int .i64 s.ad, .int .i64 s.bo, .int .i64 s.st, .int .i64 s.s.g, .int .i64 s.s.o, .int .i64 s.s.b, .int .i64 s.s.h, .int .i64 s.t.g, .int .i64 s.t.o, .int .i64 s.t.b, .int .i64 s.t.h, .int .i64 s.qu, .int .i64 s.tr, .int .i64 s.he, .int .i64 s.po, .slice q1 s.kn.length d1, .slice p2 s.ws.length c2, .slice p3 s.gs.length c3, .slice p4 s.os.length c4] 33 (0, 0))) := blk_set (blk hX.out hb1) 15 (.slice q1 s.kn.length d1)
  have hYn : Hid (_ = some (Obj.cells #[.int .i64 0, .int .i64 0, .int .i64 0, .int .i64 0, .int .i64 0, .int .i64 0, .int .i64 0, .int .i64 0, .int .i64 0, .int .i64 0, .int .i64 0, .int .i64 0, .int .i64 0, .int .i64 0, .int .i64 0, .slice none 0 0, .slice none 0 0, .slice none 0 0, .slice none 0 0] 33 (0, 0))) := blk_far (a := ⟨w.heap.size, 15, none⟩) (blk hY.out hb1) (by simp only; omega) (.slice q1 s.kn.length d1)
  have hAn : Below w.heap.size w (w1.setCell ⟨w.heap.size, 15, none⟩ (.slice q1 s.kn.length d1)) := (keepB hA (Nat.le_refl _) hb1).setCell (by simp only; omega) _
  have hq : (w1.setCell ⟨w.heap.size, 15, none⟩ (.slice q1 s.kn.length d1)).heap.size = w1.heap.size := by simp [World.setCell]
  have hi1 : Hid (OwnIB w1 A1.heap.size w1.heap.size (.slice q1 s.kn.length d1) s.kn) := own1'.out.ib
  obtain ⟨L1, eL1⟩ : ∃ L, A1.heap.size = L := ⟨_, rfl⟩
  obtain ⟨U1, eU1⟩ : ∃ U, w1.heap.size = U := ⟨_, rfl⟩
  have o1_1 : Hid (OwnIB (w1.setCell ⟨w.heap.size, 15, none⟩ (.slice q1 s.kn.length d1)) L1 U1 (.slice q1 s.kn.length d1) s.kn) := (show OwnIB w1 L1 U1 (.slice q1 s.kn.length d1) s.kn by rw [← eL1, ← eU1]; exact hi1.out).same (Same.far (by simp only; omega) _)
  have hge1 : w.heap.size + 1 + 1 ≤ w1.heap.size := by omega
  have hu1 : U1 ≤ w1.heap.size := by omega
  rw [← hq] at hge1 hu1
  clear hq
  generalize (w1.setCell ⟨w.heap.size, 15, none⟩ (.slice q1 s.kn.length d1)) = A2 at hXn hYn hAn hge1 hu1 o1_1 ⊢
  replace hX := hXn
  replace hY := hYn
  replace hA := hAn
  clear hXn hYn hAn z15 f15 x15 hZ1 hX0 hAE hb0 hrun1
  have hb0 := all_alloc A2 (.cells #[] 2)
  have hAE := keepB hA (Nat.le_refl _) hb0
  obtain ⟨q2, d2, w2, hrun2, own2, hgr2⟩ := app_emptyI (A2.alloc (.cells #[] 2)) 24 A2.heap.size (heap_alloc_new A2 _) l2 _ _ (Q2.out _ hAE) (by omega)
  have hb2 := keepB hb0 (Nat.le_refl _) hgr2
  have own2' : Hid (OwnI w2 A2.heap.size _ s.ws) := own2
  clear own2
  have hX0 : Hid _ := blk hX.out hb0
  have x16 := cellW hX0.out 16 _ rfl _ (Below.refl _ _)
  have hZ2 : Hid _ := blk hX.out hb2
  have z16 := cellW hZ2.out 16 _ rfl w2 (Below.refl _ _)
  have f16 := frozenW hZ2.out 16 w2 (Below.refl _ _)
  go_upto_region 3 with (at_builtin; refine wpList_plain rfl fun K hK => ?_; unfold Oper.wp; simp [execOp, resolve, invoke, builtin, Act.eval, hrun2, Result.andThen]; refine hK _ _ ?_)
  have hs2 : A2.heap.size ≤ w2.heap.size := hb2.size
  have hXn : Hid (_ = some (Obj.cells #[.int .i64 s.ad, .int .i64 s.bo, .int .i64 s.st, .int .i64 s.s.g, .int .i64 s.s.o, .int .i64 s.s.b, .int .i64 s.s.h, .int .i64 s.t.g, .int .i64 s.t.o, .int .i64 s.t.b, .int .i64 s.t.h, .int .i64 s.qu, .int .i64 s.tr, .int .i64 s.he, .int .i64 s.po, .slice q1 s.kn.length d1, .slice q2 s.ws.length d2, .slice p3 s.gs.length c3, .slice p4 s.os.length c4] 33 (0, 0))) := blk_set (blk hX.out hb2) 16 (.slice q2 s.ws.length d2)
  have hYn : Hid (_ = some (Obj.cells #[.int .i64 0, .int .i64 0, .int .i64 0, .int .i64 0, .int .i64 0, .int .i64 0, .int .i64 0, .int .i64 0, .int .i64 0, .int .i64 0, .int .i64 0, .int .i64 0, .int .i64 0, .int .i64 0, .int .i64 0, .slice none 0 0, .slice none 0 0, .slice none 0 0, .slice none 0 0] 33 (0, 0))) := blk_far (a := ⟨w.heap.size, 16, none⟩) (blk hY.out hb2) (by simp only; omega) (.slice q2 s.ws.length d2)
  have hAn : Below w.heap.size w (w2.setCell ⟨w.heap.size, 16, none⟩ (.slice q2 s.ws.length d2)) := (keepB hA (Nat.le_refl _) hb2).setCell (by simp only; omega) _
  have hq : (w2.setCell ⟨w.heap.size, 16, none⟩ (.slice q2 s.ws.length d2)).heap.size = w2.heap.size := by simp [World.setCell]
  have hi2 : Hid (OwnIB w2 A2.heap.size w2.heap.size (.slice q2 s.ws.length d2) s.ws) := own2'.out.ib
  have o1_2 : Hid (OwnIB (w2.setCell ⟨w.heap.size, 16, none⟩ (.slice q2 s.ws.length d2)) L1 U1 (.slice q1 s.kn.length d1) s.kn) := o1_1.out.same (Same.trans (Same.below hb2 (by omega)) (Same.far (by simp only; omega) _))
  obtain ⟨L2, eL2⟩ : ∃ L, A2.heap.size = L := ⟨_, rfl⟩
  obtain ⟨U2, eU2⟩ : ∃ U, w2.heap.size = U := ⟨_, rfl⟩
  have o2_2 : Hid (OwnIB (w2.setCell ⟨w.heap.size, 16, none⟩ (.slice q2 s.ws.length d2)) L2 U2 (.slice q2 s.ws.length d2) s.ws) := (show OwnIB w2 L2 U2 (.slice q2 s.ws.length d2) s.ws by rw [← eL2, ← eU2]; exact hi2.out).same (Same.far (by simp only; omega) _)
  have hge2 : w.heap.size + 1 + 1 ≤ w2.heap.size := by omega
  have hu2 : U1 ≤ w2.heap.size ∧ U2 ≤ w2.heap.size := by refine ⟨by omega, by omega⟩
  rw [← hq] at hge2 hu2
  clear hq
  generalize (w2.setCell ⟨w.heap.size, 16, none⟩ (.slice q2 s.ws.length d2)) = A3 at hXn hYn hAn hge2 hu2 o1_2 o2_2 ⊢
  replace hX := hXn
  replace hY := hYn
  replace hA := hAn
  clear hXn hYn hAn z16 f16 x16 hZ2 hX0 hAE hb0 hrun2
  have hb0 := all_alloc A3 (.cells #[] 9)
  have hAE := keepB hA (Nat.le_refl _) hb0
  obtain ⟨q4, d4, w3, hrun3, own4, hgr3⟩ := app_emptyT (A3.alloc (.cells #[] 9)) 26 A3.heap.size (heap_alloc_new A3 _) l4 _ _ (Q4.out _ hAE) (by omega)
  have hb3 : Below A3.heap.size A3 w3 := hb0.grown hgr3 (by simp) (fun k e => by cases e; exact Nat.le_refl _)
  have own4' : Hid (OwnT4 w3 A3.heap.size _ s.os) := own4
  clear own4
  have hX0 : Hid _ := blk hX.out hb0
  have x18 := cellW hX0.out 18 _ rfl _ (Below.refl _ _)
  have hZ3 : Hid _ := blk hX.out hb3
  have z18 := cellW hZ3.out 18 _ rfl w3 (Below.refl _ _)
  have f18 := frozenW hZ3.out 18 w3 (Below.refl _ _)
  go_upto_region 4 with (at_builtin; refine wpList_plain rfl fun K hK => ?_; unfold Oper.wp; simp [execOp, resolve, invoke, builtin, Act.eval, hrun3, Result.andThen]; refine hK _ _ ?_)
  have hs3 : A3.heap.size ≤ w3.heap.size := hb3.size
  have hXn : Hid (_ = some (Obj.cells #[.int .i64 s.ad, .int .i64 s.bo, .int .i64 s.st, .int .i64 s.s.g, .int .i64 s.s.o, .int .i64 s.s.b, .int .i64 s.s.h, .int .i64 s.t.g, .int .i64 s.t.o, .int .i64 s.t.b, .int .i64 s.t.h, .int .i64 s.qu, .int .i64 s.tr, .int .i64 s.he, .int .i64 s.po, .slice q1 s.kn.length d1, .slice q2 s.ws.length d2, .slice p3 s.gs.length c3, .slice q4 s.os.length d4] 33 (0, 0))) := blk_set (blk hX.out hb3) 18 (.slice q4 s.os.length d4)
  have hYn : Hid (_ = some (Obj.cells #[.int .i64 0, .int .i64 0, .int .i64 0, .int .i64 0, .int .i64 0, .int .i64 0, .int .i64 0, .int .i64 0, .int .i64 0, .int .i64 0, .int .i64 0, .int .i64 0, .int .i64 0, .int .i64 0, .int .i64 0, .slice none 0 0, .slice none 0 0, .slice none 0 0, .slice none 0 0] 33 (0, 0))) := blk_far (a := ⟨w.heap.size, 18, none⟩) (blk hY.out hb3) (by simp only; omega) (.slice q4 s.os.length d4)
  have hAn : Below w.heap.size w (w3.setCell ⟨w.heap.size, 18, none⟩ (.slice q4 s.os.length d4)) := (keepB hA (Nat.le_refl _) hb3).setCell (by simp only; omega) _
  have hq : (w3.setCell ⟨w.heap.size, 18, none⟩ (.slice q4 s.os.length d4)).heap.size = w3.heap.size := by simp [World.setCell]
  have hi4 : Hid (OwnTB w3 A3.heap.size w3.heap.size (.slice q4 s.os.length d4) s.os) := own4'.out.tb
  have o1_3 : Hid (OwnIB (w3.setCell ⟨w.heap.size, 18, none⟩ (.slice q4 s.os.length d4)) L1 U1 (.slice q1 s.kn.length d1) s.kn) := o1_2.out.same (Same.trans (Same.below hb3 (by omega)) (Same.far (by simp only; omega) _))
  have o2_3 : Hid (OwnIB (w3.setCell ⟨w.heap.size, 18, none⟩ (.slice q4 s.os.length d4)) L2 U2 (.slice q2 s.ws.length d2) s.ws) := o2_2.out.same (Same.trans (Same.below hb3 (by omega)) (Same.far (by simp only; omega) _))
  obtain ⟨L4, eL4⟩ : ∃ L, A3.heap.size = L := ⟨_, rfl⟩
  obtain ⟨U4, eU4⟩ : ∃ U, w3.heap.size = U := ⟨_, rfl⟩
  have o4_3 : Hid (OwnTB (w3.setCell ⟨w.heap.size, 18, none⟩ (.slice q4 s.os.length d4)) L4 U4 (.slice q4 s.os.length d4) s.os) := (show OwnTB w3 L4 U4 (.slice q4 s.os.length d4) s.os by rw [← eL4, ← eU4]; exact hi4.out).same (Same.far (by simp only; omega) _)
  have hge3 : w.heap.size + 1 + 1 ≤ w3.heap.size := by omega
  have hu3 : U1 ≤ w3.heap.size ∧ U2 ≤ w3.heap.size ∧ U4 ≤ w3.heap.size := by refine ⟨by omega, by omega, by omega⟩
  rw [← hq] at hge3 hu3
  clear hq
  generalize (w3.setCell ⟨w.heap.size, 18, none⟩ (.slice q4 s.os.length d4)) = A4 at hXn hYn hAn hge3 hu3 o1_3 o2_3 o4_3 ⊢
  replace hX := hXn
  replace hY := hYn
  replace hA := hAn
  clear hXn hYn hAn z18 f18 x18 hZ3 hX0 hAE hb0 hrun3
  have hord : w.heap.size + 1 + 1 ≤ L1 ∧ L1 ≤ U1 ∧ U1 ≤ L2 ∧ L2 ≤ U2 ∧ U2 ≤ L4 ∧ L4 ≤ U4 ∧ U4 ≤ A4.heap.size := by refine ⟨by omega, by omega, by omega, by omega, by omega, by omega, by omega⟩
  clear eL1 eU1 eL2 eU2 eL4 eU4
  go_upto_region 6 with fail
  have hb5 := all_alloc A4 (.cells #[] 118)
  have own5 : Hid (OwnG (A4.alloc (.cells #[] 118)) A4.heap.size (.slice (some ⟨A4.heap.size, 0, none⟩) 0 0) (s.gs.take 0)) := (show OwnG _ _ _ _ from ⟨[], rfl, World.ownsRow_made A4 #[] 0 (Nat.le_refl _) (by decide) rfl, fun k h => by simp at h, fun i j a h => by simp at h, fun i a h => by simp at h⟩)
  have x17 : Hid _ := cellW hX.out 17 _ rfl
  generalize A4.alloc (.cells #[] 118) = A5 at hb5 own5 ⊢
  · go_loopw [3, 4] (fun x i wr => ∃ k : Nat, k ≤ s.gs.length ∧ i = .int .i64 k ∧ Hid (OwnG wr A4.heap.size x (s.gs.take k)) ∧ Below A4.heap.size A4 wr) (fun _ i _ => s.gs.length - (intOf i).toNat)
    case atStart => exact ⟨0, Nat.zero_le _, rfl, (show OwnG _ _ _ _ from own5.out), hb5⟩
    case round =>
      obtain ⟨k, hk, rfl, HW, hbel⟩ := hrel
      obtain ⟨pv, cv, hv⟩ := HW.out.shape
      have hlk : (s.gs.take k).length = k := by rw [List.length_take]; omega
      rw [hlk] at hv
      subst hv
      have c17 := x17.out wr hbel
      have hbw := keepB hA (Nat.le_refl _) hbel
      by_cases hlt : k < s.gs.length
      · obtain ⟨g, c', u, e', q1, q2, hou⟩ := Q3.out wr hbw k hlt
        have hgl := Q3l.out g c' e'
        cases e'
        have hwd := HGW.out s.gs[k] (List.getElem_mem hlt)
        have HTK : Hid (s.gs.take (k + 1) = s.gs.take k ++ [(s.gs[k].1, s.gs[k].2)]) := List.take_succ_eq_append_getElem hlt
        have HOU : Hid (∀ W, Below wr.heap.size wr W → OwnI W l3 u s.gs[k].2) := fun W hW => hou.below hW
        obtain ⟨pu, cu, rfl⟩ := hou.shape
        clear hou
        generalize s.gs[k].1 = z at q1 HTK
        generalize s.gs[k].2 = ws at q2 HTK HOU hwd
        generalize hnw : ws.length = nw at q2 HOU hwd
        go_upto_region 8 with fail
        have hR : Below wr.heap.size wr wr.drew := Below.drew (Below.refl _ _)
        have HWd : Hid (OwnG wr.drew A4.heap.size (.slice pv k cv) (s.gs.take k)) := HW.out.below hR
        have hsw := hbel.size
        have hgw : g < wr.heap.size := by omega
        have S0 : ∀ W, Below wr.heap.size wr W → W.cell? ⟨w.heap.size, 17, none⟩ = some (.slice (some ⟨g, 0, none⟩) s.gs.length c3) ∧ W.cell? ⟨g, k * 2, none⟩ = some (.int .i64 z) ∧ W.cell? ⟨g, k * 2 + 1, none⟩ = some (.slice pu nw cu) := fun W hW => ⟨x17.out W (keepB hbel (Nat.le_refl _) hW), (hW.cell (p := ⟨g, k * 2, none⟩) hgw).trans q1, (hW.cell (p := ⟨g, k * 2 + 1, none⟩) hgw).trans q2⟩
        refine wp_region_held_drew (S := fun w' => w'.cell? ⟨w.heap.size, 17, none⟩ = some (.slice (some ⟨g, 0, none⟩) s.gs.length c3) ∧ w'.cell? ⟨g, k * 2, none⟩ = some (.int .i64 z) ∧ w'.cell? ⟨g, k * 2 + 1, none⟩ = some (.slice pu nw cu)) (by kernel_rfl) ?_ (fun hHeld => ?_)
        · (try dsimp only); exact S0 _ hR
        first
          | (refine yieldH (i := 0) (v := ?_) rfl (by kernel_rfl) (by kernel_rfl) (by kernel_rfl) (fun _ _ _ h => h) (by rfl) ?_ (by assumption) ?_; rotate_left; (intro w hSw; (try dsimp only at hSw); obtain ⟨hS1, hS2, hS3⟩ := hSw; go_simp; (try with_reducible rfl)); try simp only [Act.put, List.setIfInBounds_toArray, List.set_cons_zero, List.set_cons_succ, List.getElem_toArray, List.getElem_cons_succ, List.getElem_cons_zero])
          | fail
        first
          | (refine yieldH (i := 1) (v := ?_) rfl (by kernel_rfl) (by kernel_rfl) (by kernel_rfl) (fun _ _ _ h => h) (by rfl) ?_ (by assumption) ?_; rotate_left; (intro w hSw; (try dsimp only at hSw); obtain ⟨hS1, hS2, hS3⟩ := hSw; go_simp; (try with_reducible rfl)); try simp only [Act.put, List.setIfInBounds_toArray, List.set_cons_zero, List.set_cons_succ, List.getElem_toArray, List.getElem_cons_succ, List.getElem_cons_zero])
          | fail
        first
          | (refine yieldH (i := 2) (v := ?_) rfl (by kernel_rfl) (by kernel_rfl) (by kernel_rfl) (fun _ _ _ h => h) (by rfl) ?_ (by assumption) ?_; rotate_left; (intro w hSw; (try dsimp only at hSw); obtain ⟨hS1, hS2, hS3⟩ := hSw; go_simp; (try with_reducible rfl)); try simp only [Act.put, List.setIfInBounds_toArray, List.set_cons_zero, List.set_cons_succ, List.getElem_toArray, List.getElem_cons_succ, List.getElem_cons_zero])
          | fail
        first
          | (refine yieldH (i := 3) (v := ?_) rfl (by kernel_rfl) (by kernel_rfl) (by kernel_rfl) (fun _ _ _ h => h) (by rfl) ?_ (by assumption) ?_; rotate_left; (intro w hSw; (try dsimp only at hSw); obtain ⟨hS1, hS2, hS3⟩ := hSw; go_simp; (try with_reducible rfl)); try simp only [Act.put, List.setIfInBounds_toArray, List.set_cons_zero, List.set_cons_succ, List.getElem_toArray, List.getElem_cons_succ, List.getElem_cons_zero])
          | fail
        first
          | (refine yieldH (i := 4) (v := ?_) rfl (by kernel_rfl) (by kernel_rfl) (by kernel_rfl) (fun _ _ _ h => h) (by rfl) ?_ (by assumption) ?_; rotate_left; (intro w hSw; (try dsimp only at hSw); obtain ⟨hS1, hS2, hS3⟩ := hSw; go_simp; (try with_reducible rfl)); try simp only [Act.put, List.setIfInBounds_toArray, List.set_cons_zero, List.set_cons_succ, List.getElem_toArray, List.getElem_cons_succ, List.getElem_cons_zero])
          | fail
        first
          | (refine yieldH (i := 5) (v := ?_) rfl (by kernel_rfl) (by kernel_rfl) (by kernel_rfl) (fun _ _ _ h => h) (by rfl) ?_ (by assumption) ?_; rotate_left; (intro w hSw; (try dsimp only at hSw); obtain ⟨hS1, hS2, hS3⟩ := hSw; go_simp; (try with_reducible rfl)); try simp only [Act.put, List.setIfInBounds_toArray, List.set_cons_zero, List.set_cons_succ, List.getElem_toArray, List.getElem_cons_succ, List.getElem_cons_zero])
          | fail
        first
          | (refine yieldH (i := 6) (v := ?_) rfl (by kernel_rfl) (by kernel_rfl) (by kernel_rfl) (fun _ _ _ h => h) (by rfl) ?_ (by assumption) ?_; rotate_left; (intro w hSw; (try dsimp only at hSw); obtain ⟨hS1, hS2, hS3⟩ := hSw; go_simp; (try with_reducible rfl)); try simp only [Act.put, List.setIfInBounds_toArray, List.set_cons_zero, List.set_cons_succ, List.getElem_toArray, List.getElem_cons_succ, List.getElem_cons_zero])
          | fail
        first
          | (refine yieldH (i := 8) (v := ?_) rfl (by kernel_rfl) (by kernel_rfl) (by kernel_rfl) (fun _ _ _ h => h) (by rfl) ?_ (by assumption) ?_; rotate_left; (intro w hSw; (try dsimp only at hSw); obtain ⟨hS1, hS2, hS3⟩ := hSw; go_simp; (try with_reducible rfl)); try simp only [Act.put, List.setIfInBounds_toArray, List.set_cons_zero, List.set_cons_succ, List.getElem_toArray, List.getElem_cons_succ, List.getElem_cons_zero])
          | fail
        first
          | (refine yieldH (i := 9) (v := ?_) rfl (by kernel_rfl) (by kernel_rfl) (by kernel_rfl) (fun _ _ _ h => h) (by rfl) ?_ (by assumption) ?_; rotate_left; (intro w hSw; (try dsimp only at hSw); obtain ⟨hS1, hS2, hS3⟩ := hSw; go_simp; (try with_reducible rfl)); try simp only [Act.put, List.setIfInBounds_toArray, List.set_cons_zero, List.set_cons_succ, List.getElem_toArray, List.getElem_cons_succ, List.getElem_cons_zero])
          | fail
        first
          | (refine yieldH (i := 10) (v := ?_) rfl (by kernel_rfl) (by kernel_rfl) (by kernel_rfl) (fun _ _ _ h => h) (by rfl) ?_ (by assumption) ?_; rotate_left; (intro w hSw; (try dsimp only at hSw); obtain ⟨hS1, hS2, hS3⟩ := hSw; go_simp; (try with_reducible rfl)); try simp only [Act.put, List.setIfInBounds_toArray, List.set_cons_zero, List.set_cons_succ, List.getElem_toArray, List.getElem_cons_succ, List.getElem_cons_zero])
          | fail
        first
          | (refine yieldH (i := 11) (v := ?_) rfl (by kernel_rfl) (by kernel_rfl) (by kernel_rfl) (fun _ _ _ h => h) (by rfl) ?_ (by assumption) ?_; rotate_left; (intro w hSw; (try dsimp only at hSw); obtain ⟨hS1, hS2, hS3⟩ := hSw; go_simp; (try with_reducible rfl)); try simp only [Act.put, List.setIfInBounds_toArray, List.set_cons_zero, List.set_cons_succ, List.getElem_toArray, List.getElem_cons_succ, List.getElem_cons_zero])
          | fail
        first
          | (refine yieldH (i := 12) (v := ?_) rfl (by kernel_rfl) (by kernel_rfl) (by kernel_rfl) (fun _ _ _ h => h) (by rfl) ?_ (by assumption) ?_; rotate_left; (intro w hSw; (try dsimp only at hSw); obtain ⟨hS1, hS2, hS3⟩ := hSw; go_simp; (try with_reducible rfl)); try simp only [Act.put, List.setIfInBounds_toArray, List.set_cons_zero, List.set_cons_succ, List.getElem_toArray, List.getElem_cons_succ, List.getElem_cons_zero])
          | fail
        first
          | (refine yieldH (i := 13) (v := ?_) rfl (by kernel_rfl) (by kernel_rfl) (by kernel_rfl) (fun _ _ _ h => h) (by rfl) ?_ (by assumption) ?_; rotate_left; (intro w hSw; (try dsimp only at hSw); obtain ⟨hS1, hS2, hS3⟩ := hSw; go_simp; (try with_reducible rfl)); try simp only [Act.put, List.setIfInBounds_toArray, List.set_cons_zero, List.set_cons_succ, List.getElem_toArray, List.getElem_cons_succ, List.getElem_cons_zero])
          | fail
        have hb7 : Below wr.drew.heap.size wr.drew (wr.alloc (.cells #[] 2)).drew := all_alloc wr.drew (.cells #[] 2)
        have r7 := keepB hR (Nat.le_refl _) hb7
        refine wpAnyH_ready (rs := [7]) (by kernel_rfl) (by simp) ?_
        refine AllReadyH.cons rfl (fun K hK => ?_) AllReadyH.nil
        go_simp
        refine hK.out _ _ ?_ (fun hHeld => ?_)
        · (try dsimp only); exact S0 _ r7
        clear hK K
        try simp only [Act.put, List.setIfInBounds_toArray, List.set_cons_zero, List.set_cons_succ, List.getElem_toArray, List.getElem_cons_succ, List.getElem_cons_zero]
        obtain ⟨pq, cq, w14, hrun14, own14, hb14⟩ := app_emptyI (wr.alloc (.cells #[] 2)).drew 24 wr.heap.size (heap_alloc_new wr _) l3 (.slice pu ws.length cu) ws (by rw [hnw]; exact HOU.out _ r7) (by omega)
        rw [hnw] at hrun14
        have own14' : Hid (OwnI w14 wr.heap.size (.slice pq nw cq) ws) := (by rw [hnw] at own14; exact own14 : OwnI w14 wr.heap.size (.slice pq nw cq) ws)
        clear own14
        have r14 := keepB r7 (Nat.le_refl _) hb14
        refine wpAnyH_ready (rs := [14]) (by kernel_rfl) (by simp) ?_
        refine AllReadyH.cons rfl (fun K hK => ?_) AllReadyH.nil
        rw [if_pos (by rfl)]
        unfold Oper.wp
        simp [Region.wanted, execOp, resolve, invoke, builtin, Act.eval, hrun14, Result.andThen]
        refine hK.out _ _ ?_ (fun hHeld => ?_)
        · (try dsimp only); exact S0 _ r14
        clear hK K
        try simp only [Act.put, List.setIfInBounds_toArray, List.set_cons_zero, List.set_cons_succ, List.getElem_toArray, List.getElem_cons_succ, List.getElem_cons_zero]
        first
          | (refine yieldH (i := 15) (v := ?_) rfl (by kernel_rfl) (by kernel_rfl) (by kernel_rfl) (fun _ _ _ h => h) (by rfl) ?_ (by assumption) ?_; rotate_left; (intro w hSw; (try dsimp only at hSw); obtain ⟨hS1, hS2, hS3⟩ := hSw; go_simp; (try with_reducible rfl)); try simp only [Act.put, List.setIfInBounds_toArray, List.set_cons_zero, List.set_cons_succ, List.getElem_toArray, List.getElem_cons_succ, List.getElem_cons_zero])
          | fail
        have hb16 := all_alloc w14 (.cells #[.int .i64 z, .slice pq nw cq] 118)
        have hL : Hid _ := heap_alloc_new w14 (.cells #[.int .i64 z, .slice pq nw cq] 118)
        have r16 := keepB r14 (Nat.le_refl _) hb16
        have r16d := keepB (keepB hb7 (Nat.le_refl _) hb14) (Nat.le_refl _) hb16
        refine wpAnyH_ready (rs := [16]) (by kernel_rfl) (by simp) ?_
        refine AllReadyH.cons rfl (fun K hK => ?_) AllReadyH.nil
        go_simp
        refine hK.out _ _ ?_ (fun hHeld => ?_)
        · (try dsimp only); exact S0 _ r16
        clear hK K
        try simp only [Act.put, List.setIfInBounds_toArray, List.set_cons_zero, List.set_cons_succ, List.getElem_toArray, List.getElem_cons_succ, List.getElem_cons_zero]
        obtain ⟨v17, w17, hrun17, hG17, hgr17⟩ := app_glob (w0 := wr.drew) (w14.alloc (.cells #[.int .i64 z, .slice pq nw cq] 118)) 31 A4.heap.size (.slice pv k cv) (s.gs.take k) HWd.out r16d hsw w14.heap.size z (.slice pq nw cq) ws (cellW hL.out 0 _ rfl _ (Below.refl _ _)) (cellW hL.out 1 _ rfl _ (Below.refl _ _)) rfl (own14'.out.below hb16) (by rw [hlk]; omega)
        have HG17 : Hid (OwnG w17 A4.heap.size v17 (s.gs.take k ++ [(z, ws)])) := hG17
        obtain ⟨p17, c17', e17⟩ := hG17.shape
        rw [List.length_append, hlk, List.length_singleton] at e17
        subst e17
        have hvge : ∀ b, (Value.slice pv k cv).ownBlock = some b → A4.heap.size ≤ b := fun b e => (HWd.out.lt b e).1
        have S17 : w17.cell? ⟨w.heap.size, 17, none⟩ = some (.slice (some ⟨g, 0, none⟩) s.gs.length c3) ∧ w17.cell? ⟨g, k * 2, none⟩ = some (.int .i64 z) ∧ w17.cell? ⟨g, k * 2 + 1, none⟩ = some (.slice pu nw cu) := ⟨hgr17.cell (S0 _ r16).1 (fun e => by have := hvge _ e.symm; simp only at this; omega), hgr17.cell (S0 _ r16).2.1 (fun e => by have := hvge _ e.symm; simp only at this; omega), hgr17.cell (S0 _ r16).2.2 (fun e => by have := hvge _ e.symm; simp only at this; omega)⟩
        have hB17 : Below A4.heap.size A4 w17 := (keepB hbel (Nat.le_refl _) r16).grown hgr17 (Nat.le_trans hsw r16.size) hvge
        clear hG17 hgr17
        refine wpAnyH_ready (rs := [17]) (by kernel_rfl) (by simp) ?_
        refine AllReadyH.cons rfl (fun K hK => ?_) AllReadyH.nil
        rw [if_pos (by rfl)]
        unfold Oper.wp
        simp [Region.wanted, execOp, resolve, invoke, builtin, Act.eval, hrun17, Result.andThen]
        refine hK.out _ _ ?_ (fun hHeld => ?_)
        · (try dsimp only); exact S17
        clear hK K
        try simp only [Act.put, List.setIfInBounds_toArray, List.set_cons_zero, List.set_cons_succ, List.getElem_toArray, List.getElem_cons_succ, List.getElem_cons_zero]
        first
          | (refine yieldH (i := 18) (v := ?_) rfl (by kernel_rfl) (by kernel_rfl) (by kernel_rfl) (fun _ _ _ h => h) (by rfl) ?_ (by assumption) ?_; rotate_left; (intro w hSw; (try dsimp only at hSw); obtain ⟨hS1, hS2, hS3⟩ := hSw; go_simp; (try with_reducible rfl)); try simp only [Act.put, List.setIfInBounds_toArray, List.set_cons_zero, List.set_cons_succ, List.getElem_toArray, List.getElem_cons_succ, List.getElem_cons_zero])
          | fail
        refine wpAnyH_done (by kernel_rfl) ?_ _
        go_wp2
        go_roundw
        case rel => exact ⟨k + 1, by omega, by go_num, (show OwnG _ _ _ _ by rw [HTK.out]; exact HG17.out), hB17⟩
        case measure => simp [intOf]; omega
      · obtain rfl : k = s.gs.length := by omega
        have HF : Hid (OwnG wr A4.heap.size (.slice pv s.gs.length cv) s.gs) := (by have := HW.out; rwa [List.take_length] at this : OwnG wr A4.heap.size (.slice pv s.gs.length cv) s.gs)
        have hXr : Hid _ := blk hX.out hbel
        have hYr : Hid _ := blk hY.out hbel
        have z17 := cellW hXr.out 17 _ rfl wr (Below.refl _ _)
        have f17 := frozenW hXr.out 17 wr (Below.refl _ _)
        have hsw := hbel.size
        go_upto_region 10 with fail
        have hXn : Hid (_ = some (Obj.cells #[.int .i64 s.ad, .int .i64 s.bo, .int .i64 s.st, .int .i64 s.s.g, .int .i64 s.s.o, .int .i64 s.s.b, .int .i64 s.s.h, .int .i64 s.t.g, .int .i64 s.t.o, .int .i64 s.t.b, .int .i64 s.t.h, .int .i64 s.qu, .int .i64 s.tr, .int .i64 s.he, .int .i64 s.po, .slice q1 s.kn.length d1, .slice q2 s.ws.length d2, .slice pv s.gs.length cv, .slice q4 s.os.length d4] 33 (0, 0))) := blk_set hXr.out 17 (.slice pv s.gs.length cv)
        have hYn : Hid (_ = some (Obj.cells #[.int .i64 0, .int .i64 0, .int .i64 0, .int .i64 0, .int .i64 0, .int .i64 0, .int .i64 0, .int .i64 0, .int .i64 0, .int .i64 0, .int .i64 0, .int .i64 0, .int .i64 0, .int .i64 0, .int .i64 0, .slice none 0 0, .slice none 0 0, .slice none 0 0, .slice none 0 0] 33 (0, 0))) := blk_far (a := ⟨w.heap.size, 17, none⟩) hYr.out (by simp only; omega) (.slice pv s.gs.length cv)
        have hAn : Below w.heap.size w (wr.setCell ⟨w.heap.size, 17, none⟩ (.slice pv s.gs.length cv)) := hbw.setCell (by simp only; omega) _
        have hqn : (wr.setCell ⟨w.heap.size, 17, none⟩ (.slice pv s.gs.length cv)).heap.size = wr.heap.size := by simp [World.setCell]
        have far := fun (lo hi : Nat) (hlo : w.heap.size < lo) => Same.far (w := wr) (lo := lo) (hi := hi) (a := ⟨w.heap.size, 17, none⟩) (.inl hlo) (.slice pv s.gs.length cv)
        have n1 := (o1_3.out.same (Same.below hbel (by omega))).same (far _ _ (by omega))
        have n2 := (o2_3.out.same (Same.below hbel (by omega))).same (far _ _ (by omega))
        have n4 := (o4_3.out.same (Same.below hbel (by omega))).same (far _ _ (by omega))
        have n3 := HF.out.gb.same (far _ _ (by omega))
        have N1 : Hid (OwnIB _ L1 U1 _ s.kn) := n1
        have N2 : Hid (OwnIB _ L2 U2 _ s.ws) := n2
        have N4 : Hid (OwnTB _ L4 U4 _ s.os) := n4
        have N3 : Hid (OwnGB _ A4.heap.size wr.heap.size _ s.gs) := n3
        clear n1 n2 n3 n4 far HF HW
        generalize wr.setCell ⟨w.heap.size, 17, none⟩ (.slice pv s.gs.length cv) = WZ at hXn hYn hAn hqn N1 N2 N3 N4 ⊢
        go_wp2_with (refine wpList_load_row rfl 33 (.tmp 1) rfl w.heap.size rfl _ _ _ _ hXn.out Try.underlying33 rfl (by kernel_rfl) ?_; refine wpList_store_row rfl 33 (.tmp 2) (.tmp 48) rfl (w.heap.size + 1) #[.int .i64 s.ad, .int .i64 s.bo, .int .i64 s.st, .int .i64 s.s.g, .int .i64 s.s.o, .int .i64 s.s.b, .int .i64 s.s.h, .int .i64 s.t.g, .int .i64 s.t.o, .int .i64 s.t.b, .int .i64 s.t.h, .int .i64 s.qu, .int .i64 s.tr, .int .i64 s.he, .int .i64 s.po, .slice q1 s.kn.length d1, .slice q2 s.ws.length d2, .slice pv s.gs.length cv, .slice q4 s.os.length d4] rfl rfl _ _ hYn.out (by kernel_rfl) rfl (by simp [Value.oneCell']) ?_)
        go_wp2
        have hYf := setRow_heap _ (w.heap.size + 1) _ #[.int .i64 s.ad, .int .i64 s.bo, .int .i64 s.st, .int .i64 s.s.g, .int .i64 s.s.o, .int .i64 s.s.b, .int .i64 s.s.h, .int .i64 s.t.g, .int .i64 s.t.o, .int .i64 s.t.b, .int .i64 s.t.h, .int .i64 s.qu, .int .i64 s.tr, .int .i64 s.he, .int .i64 s.po, .slice q1 s.kn.length d1, .slice q2 s.ws.length d2, .slice pv s.gs.length cv, .slice q4 s.os.length d4] _ _ hYn.out
        have hAf : Below w.heap.size w _ := Below.setRow hAn (g := w.heap.size + 1) (by omega) #[.int .i64 s.ad, .int .i64 s.bo, .int .i64 s.st, .int .i64 s.s.g, .int .i64 s.s.o, .int .i64 s.s.b, .int .i64 s.s.h, .int .i64 s.t.g, .int .i64 s.t.o, .int .i64 s.t.b, .int .i64 s.t.h, .int .i64 s.qu, .int .i64 s.tr, .int .i64 s.he, .int .i64 s.po, .slice q1 s.kn.length d1, .slice q2 s.ws.length d2, .slice pv s.gs.length cv, .slice q4 s.os.length d4]
        refine bodyPost_ret (v := .agg #[.int .i64 s.ad, .int .i64 s.bo, .int .i64 s.st, .int .i64 s.s.g, .int .i64 s.s.o, .int .i64 s.s.b, .int .i64 s.s.h, .int .i64 s.t.g, .int .i64 s.t.o, .int .i64 s.t.b, .int .i64 s.t.h, .int .i64 s.qu, .int .i64 s.tr, .int .i64 s.he, .int .i64 s.po, .slice q1 s.kn.length d1, .slice q2 s.ws.length d2, .slice pv s.gs.length cv, .slice q4 s.os.length d4]) (results_cell_row Try.results38 _ _ (w.heap.size + 1) _ _ _ _ rfl hYf Try.underlying33 rfl (by kernel_rfl)) rfl ⟨_, _, _, _, rfl, ⟨⟨L1, U1, L2, U2, A4.heap.size, wr.heap.size, L4, U4, ?_, ?_, N1.out.same (Same.setRow (by omega) _), N2.out.same (Same.setRow (by omega) _), N3.out.same (Same.setRow (by omega) _), N4.out.same (Same.setRow (by omega) _), by omega, by omega, by omega, by omega, by omega, by omega⟩⟩, hAf⟩
        · omega
        · rw [setRow_size]
          omega
end Go.Proofs.Ytggdjiijcoklgaa
