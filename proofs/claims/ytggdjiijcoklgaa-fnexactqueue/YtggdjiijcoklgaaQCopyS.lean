/- A STATION COPIED: the program's. Written by mkcps.py. -/
import Derived.Test.YtggdjiijcoklgaaQCopyH
import Derived.Laws.Tables
namespace Go.Proofs.Ytggdjiijcoklgaa
open Go.RowKit
set_option linter.unusedVariables false
set_option linter.unusedSimpArgs false

/-- a station whose lists are short -/
structure Stn.small (s : Stn) : Prop where
  kn : s.kn.length ≤ 1000
  ws : s.ws.length ≤ 1000
  gs : s.gs.length ≤ 1000
  gw : ∀ g ∈ s.gs, g.2.length ≤ 1000
  os : s.os.length ≤ 1000
  ob : ∀ b ∈ s.os, b.size ≤ 1000
set_option maxRecDepth 100000 in
set_option maxHeartbeats 6400000 in
theorem copyStation_any (s : Stn) (B : Nat) (v1 v2 v3 v4 : Value) (w : World) (hs : s.small) (h : OwnStn w B v1 v2 v3 v4 s) :
    Calls Try.prog 44 #[.agg #[.int .i64 s.ad, .int .i64 s.bo, .int .i64 s.st, .int .i64 s.s.g, .int .i64 s.s.o, .int .i64 s.s.b, .int .i64 s.s.h, .int .i64 s.t.g, .int .i64 s.t.o, .int .i64 s.t.b, .int .i64 s.t.h, .int .i64 s.qu, .int .i64 s.tr, .int .i64 s.he, .int .i64 s.po, v1, v2, v3, v4]] w fun x w' => ∃ u1 u2 u3 u4, x = .returned (.agg #[.int .i64 s.ad, .int .i64 s.bo, .int .i64 s.st, .int .i64 s.s.g, .int .i64 s.s.o, .int .i64 s.s.b, .int .i64 s.s.h, .int .i64 s.t.g, .int .i64 s.t.o, .int .i64 s.t.b, .int .i64 s.t.h, .int .i64 s.qu, .int .i64 s.tr, .int .i64 s.he, .int .i64 s.po, u1, u2, u3, u4]) ∧ OwnStn w' w.heap.size u1 u2 u3 u4 s ∧ Below w.heap.size w w' := by
  obtain ⟨l1, h1, l2, h2, l3, h3, l4, h4, _, _, o1, o2, o3, o4, _⟩ := h.all
  have H1 : Hid (∀ W, Below w.heap.size w W → Calls Try.prog 94 #[v1] W fun e w' => ∃ v, e = .returned v ∧ OwnI w' W.heap.size v s.kn ∧ Below W.heap.size W w') := fun W hW => copyNums_any l1 v1 s.kn W (by have := hs.kn; omega) (o1.1.below hW)
  have H2 : Hid (∀ W, Below w.heap.size w W → Calls Try.prog 94 #[v2] W fun e w' => ∃ v, e = .returned v ∧ OwnI w' W.heap.size v s.ws ∧ Below W.heap.size W w') := fun W hW => copyNums_any l2 v2 s.ws W (by have := hs.ws; omega) (o2.1.below hW)
  have H3 : Hid (∀ W, Below w.heap.size w W → Calls Try.prog 95 #[v3] W fun e w' => ∃ v, e = .returned v ∧ OwnG w' W.heap.size v s.gs ∧ Below W.heap.size W w') := fun W hW => copyGlobs_any l3 v3 s.gs W hs.gs hs.gw (o3.g.below hW)
  have H4 : Hid (∀ W, Below w.heap.size w W → Calls Try.prog 96 #[v4] W fun e w' => ∃ v, e = .returned v ∧ OwnT4 w' W.heap.size v s.os ∧ Below W.heap.size W w') := fun W hW => copyTexts_any v4 s.os W hs.os hs.ob (o4.1.row.below hW)
  obtain ⟨p1, c1, e1⟩ := o1.1.shape
  obtain ⟨p2, c2, e2⟩ := o2.1.shape
  obtain ⟨p3, c3, e3⟩ := o3.g.shape
  obtain ⟨p4, c4, e4⟩ := o4.1.shape
  subst e1; subst e2; subst e3; subst e4
  clear h o1 o2 o3 o4 hs
  go_enter Try.func44, Try.ntmps44
  go_upto_region 1 with fail
  have hX : Hid _ := blk (heap_alloc_new w (.cells #[.int .i64 s.ad, .int .i64 s.bo, .int .i64 s.st, .int .i64 s.s.g, .int .i64 s.s.o, .int .i64 s.s.b, .int .i64 s.s.h, .int .i64 s.t.g, .int .i64 s.t.o, .int .i64 s.t.b, .int .i64 s.t.h, .int .i64 s.qu, .int .i64 s.tr, .int .i64 s.he, .int .i64 s.po, .slice p1 s.kn.length c1, .slice p2 s.ws.length c2, .slice p3 s.gs.length c3, .slice p4 s.os.length c4] 33)) (all_alloc _ (.cells #[.int .i64 0, .int .i64 0, .int .i64 0, .int .i64 0, .int .i64 0, .int .i64 0, .int .i64 0, .int .i64 0, .int .i64 0, .int .i64 0, .int .i64 0, .int .i64 0, .int .i64 0, .int .i64 0, .int .i64 0, .slice none 0 0, .slice none 0 0, .slice none 0 0, .slice none 0 0] 33))
  have hY : Hid _ := heap_alloc_new (w.alloc (.cells #[.int .i64 s.ad, .int .i64 s.bo, .int .i64 s.st, .int .i64 s.s.g, .int .i64 s.s.o, .int .i64 s.s.b, .int .i64 s.s.h, .int .i64 s.t.g, .int .i64 s.t.o, .int .i64 s.t.b, .int .i64 s.t.h, .int .i64 s.qu, .int .i64 s.tr, .int .i64 s.he, .int .i64 s.po, .slice p1 s.kn.length c1, .slice p2 s.ws.length c2, .slice p3 s.gs.length c3, .slice p4 s.os.length c4] 33)) (.cells #[.int .i64 0, .int .i64 0, .int .i64 0, .int .i64 0, .int .i64 0, .int .i64 0, .int .i64 0, .int .i64 0, .int .i64 0, .int .i64 0, .int .i64 0, .int .i64 0, .int .i64 0, .int .i64 0, .int .i64 0, .slice none 0 0, .slice none 0 0, .slice none 0 0, .slice none 0 0] 33)
  have hA : Below w.heap.size w ((w.alloc (.cells #[.int .i64 s.ad, .int .i64 s.bo, .int .i64 s.st, .int .i64 s.s.g, .int .i64 s.s.o, .int .i64 s.s.b, .int .i64 s.s.h, .int .i64 s.t.g, .int .i64 s.t.o, .int .i64 s.t.b, .int .i64 s.t.h, .int .i64 s.qu, .int .i64 s.tr, .int .i64 s.he, .int .i64 s.po, .slice p1 s.kn.length c1, .slice p2 s.ws.length c2, .slice p3 s.gs.length c3, .slice p4 s.os.length c4] 33)).alloc (.cells #[.int .i64 0, .int .i64 0, .int .i64 0, .int .i64 0, .int .i64 0, .int .i64 0, .int .i64 0, .int .i64 0, .int .i64 0, .int .i64 0, .int .i64 0, .int .i64 0, .int .i64 0, .int .i64 0, .int .i64 0, .slice none 0 0, .slice none 0 0, .slice none 0 0, .slice none 0 0] 33)) := keepB (all_alloc w _) (Nat.le_refl _) (all_alloc _ _)
  have e3 : ((w.alloc (.cells #[.int .i64 s.ad, .int .i64 s.bo, .int .i64 s.st, .int .i64 s.s.g, .int .i64 s.s.o, .int .i64 s.s.b, .int .i64 s.s.h, .int .i64 s.t.g, .int .i64 s.t.o, .int .i64 s.t.b, .int .i64 s.t.h, .int .i64 s.qu, .int .i64 s.tr, .int .i64 s.he, .int .i64 s.po, .slice p1 s.kn.length c1, .slice p2 s.ws.length c2, .slice p3 s.gs.length c3, .slice p4 s.os.length c4] 33)).alloc (.cells #[.int .i64 0, .int .i64 0, .int .i64 0, .int .i64 0, .int .i64 0, .int .i64 0, .int .i64 0, .int .i64 0, .int .i64 0, .int .i64 0, .int .i64 0, .int .i64 0, .int .i64 0, .int .i64 0, .int .i64 0, .slice none 0 0, .slice none 0 0, .slice none 0 0, .slice none 0 0] 33)).heap.size = w.heap.size + 1 + 1 := by simp
  rw [show (w.alloc (.cells #[.int .i64 s.ad, .int .i64 s.bo, .int .i64 s.st, .int .i64 s.s.g, .int .i64 s.s.o, .int .i64 s.s.b, .int .i64 s.s.h, .int .i64 s.t.g, .int .i64 s.t.o, .int .i64 s.t.b, .int .i64 s.t.h, .int .i64 s.qu, .int .i64 s.tr, .int .i64 s.he, .int .i64 s.po, .slice p1 s.kn.length c1, .slice p2 s.ws.length c2, .slice p3 s.gs.length c3, .slice p4 s.os.length c4] 33)).heap.size = w.heap.size + 1 by simp] at hY
  generalize (w.alloc (.cells #[.int .i64 s.ad, .int .i64 s.bo, .int .i64 s.st, .int .i64 s.s.g, .int .i64 s.s.o, .int .i64 s.s.b, .int .i64 s.s.h, .int .i64 s.t.g, .int .i64 s.t.o, .int .i64 s.t.b, .int .i64 s.t.h, .int .i64 s.qu, .int .i64 s.tr, .int .i64 s.he, .int .i64 s.po, .slice p1 s.kn.length c1, .slice p2 s.ws.length c2, .slice p3 s.gs.length c3, .slice p4 s.os.length c4] 33)).alloc (.cells #[.int .i64 0, .int .i64 0, .int .i64 0, .int .i64 0, .int .i64 0, .int .i64 0, .int .i64 0, .int .i64 0, .int .i64 0, .int .i64 0, .int .i64 0, .int .i64 0, .int .i64 0, .int .i64 0, .int .i64 0, .slice none 0 0, .slice none 0 0, .slice none 0 0, .slice none 0 0] 33) = A1 at hX hY hA e3 ⊢
  have x15 := cellW hX.out 15 _ rfl A1 (Below.refl _ _)
  go_upto_region 2 with (go_at_call 94; refine (H1.out _ hA).mono ?_; rintro e w1 ⟨v, rfl, own1, hb1⟩; obtain ⟨q1, d1, rfl⟩ := own1.shape; have hZ1 : Hid _ := blk hX.out hb1; have z15 := cellW hZ1.out 15 _ rfl w1 (Below.refl _ _); have f15 := frozenW hZ1.out 15 w1 (Below.refl _ _))
  have hs1 : A1.heap.size ≤ w1.heap.size := hb1.size
  have hXn : Hid (_ = some (Obj.cells #[.int .i64 s.ad, .int .i64 s.bo, .int .i64 s.st, .int .i64 s.s.g, .int .i64 s.s.o, .int .i64 s.s.b, .int .i64 s.s.h, .int .i64 s.t.g, .int .i64 s.t.o, .int .i64 s.t.b, .int .i64 s.t.h, .int .i64 s.qu, .int .i64 s.tr, .int .i64 s.he, .int .i64 s.po, .slice q1 s.kn.length d1, .slice p2 s.ws.length c2, .slice p3 s.gs.length c3, .slice p4 s.os.length c4] 33 (0, 0))) := blk_set (blk hX.out hb1) 15 (.slice q1 s.kn.length d1)
  have hYn : Hid (_ = some (Obj.cells #[.int .i64 0, .int .i64 0, .int .i64 0, .int .i64 0, .int .i64 0, .int .i64 0, .int .i64 0, .int .i64 0, .int .i64 0, .int .i64 0, .int .i64 0, .int .i64 0, .int .i64 0, .int .i64 0, .int .i64 0, .slice none 0 0, .slice none 0 0, .slice none 0 0, .slice none 0 0] 33 (0, 0))) := blk_far (a := ⟨w.heap.size, 15, none⟩) (blk hY.out hb1) (by simp only; omega) (.slice q1 s.kn.length d1)
  have hAn : Below w.heap.size w (w1.setCell ⟨w.heap.size, 15, none⟩ (.slice q1 s.kn.length d1)) := (keepB hA (Nat.le_refl _) hb1).setCell (by simp only; omega) _
  have hq : (w1.setCell ⟨w.heap.size, 15, none⟩ (.slice q1 s.kn.length d1)).heap.size = w1.heap.size := by simp [World.setCell]
  have hi1 : Hid (OwnIB w1 A1.heap.size w1.heap.size (.slice q1 s.kn.length d1) s.kn) := own1.ib
  obtain ⟨L1, eL1⟩ : ∃ L, A1.heap.size = L := ⟨_, rfl⟩
  obtain ⟨U1, eU1⟩ : ∃ U, w1.heap.size = U := ⟨_, rfl⟩
  have o1_1 : Hid (OwnIB (w1.setCell ⟨w.heap.size, 15, none⟩ (.slice q1 s.kn.length d1)) L1 U1 (.slice q1 s.kn.length d1) s.kn) := (show OwnIB w1 L1 U1 (.slice q1 s.kn.length d1) s.kn by rw [← eL1, ← eU1]; exact hi1.out).same (Same.far (by simp only; omega) _)
  have hge1 : w.heap.size + 1 + 1 ≤ w1.heap.size := by omega
  have hu1 : U1 ≤ w1.heap.size := by omega
  rw [← hq] at hge1 hu1
  clear hq
  generalize (w1.setCell ⟨w.heap.size, 15, none⟩ (.slice q1 s.kn.length d1)) = A2 at hXn hYn hAn hge1 hu1 o1_1 ⊢
  replace hX := hXn
  replace hY := hYn
  replace hA := hAn
  clear hXn hYn hAn z15 f15 x15 hZ1
  have x16 := cellW hX.out 16 _ rfl A2 (Below.refl _ _)
  go_upto_region 3 with (go_at_call 94; refine (H2.out _ hA).mono ?_; rintro e w2 ⟨v, rfl, own2, hb2⟩; obtain ⟨q2, d2, rfl⟩ := own2.shape; have hZ2 : Hid _ := blk hX.out hb2; have z16 := cellW hZ2.out 16 _ rfl w2 (Below.refl _ _); have f16 := frozenW hZ2.out 16 w2 (Below.refl _ _))
  have hs2 : A2.heap.size ≤ w2.heap.size := hb2.size
  have hXn : Hid (_ = some (Obj.cells #[.int .i64 s.ad, .int .i64 s.bo, .int .i64 s.st, .int .i64 s.s.g, .int .i64 s.s.o, .int .i64 s.s.b, .int .i64 s.s.h, .int .i64 s.t.g, .int .i64 s.t.o, .int .i64 s.t.b, .int .i64 s.t.h, .int .i64 s.qu, .int .i64 s.tr, .int .i64 s.he, .int .i64 s.po, .slice q1 s.kn.length d1, .slice q2 s.ws.length d2, .slice p3 s.gs.length c3, .slice p4 s.os.length c4] 33 (0, 0))) := blk_set (blk hX.out hb2) 16 (.slice q2 s.ws.length d2)
  have hYn : Hid (_ = some (Obj.cells #[.int .i64 0, .int .i64 0, .int .i64 0, .int .i64 0, .int .i64 0, .int .i64 0, .int .i64 0, .int .i64 0, .int .i64 0, .int .i64 0, .int .i64 0, .int .i64 0, .int .i64 0, .int .i64 0, .int .i64 0, .slice none 0 0, .slice none 0 0, .slice none 0 0, .slice none 0 0] 33 (0, 0))) := blk_far (a := ⟨w.heap.size, 16, none⟩) (blk hY.out hb2) (by simp only; omega) (.slice q2 s.ws.length d2)
  have hAn : Below w.heap.size w (w2.setCell ⟨w.heap.size, 16, none⟩ (.slice q2 s.ws.length d2)) := (keepB hA (Nat.le_refl _) hb2).setCell (by simp only; omega) _
  have hq : (w2.setCell ⟨w.heap.size, 16, none⟩ (.slice q2 s.ws.length d2)).heap.size = w2.heap.size := by simp [World.setCell]
  have hi2 : Hid (OwnIB w2 A2.heap.size w2.heap.size (.slice q2 s.ws.length d2) s.ws) := own2.ib
  have o1_2 : Hid (OwnIB (w2.setCell ⟨w.heap.size, 16, none⟩ (.slice q2 s.ws.length d2)) L1 U1 (.slice q1 s.kn.length d1) s.kn) := o1_1.out.same (Same.trans (Same.below hb2 (by omega)) (Same.far (by simp only; omega) _))
  obtain ⟨L2, eL2⟩ : ∃ L, A2.heap.size = L := ⟨_, rfl⟩
  obtain ⟨U2, eU2⟩ : ∃ U, w2.heap.size = U := ⟨_, rfl⟩
  have o2_2 : Hid (OwnIB (w2.setCell ⟨w.heap.size, 16, none⟩ (.slice q2 s.ws.length d2)) L2 U2 (.slice q2 s.ws.length d2) s.ws) := (show OwnIB w2 L2 U2 (.slice q2 s.ws.length d2) s.ws by rw [← eL2, ← eU2]; exact hi2.out).same (Same.far (by simp only; omega) _)
  have hge2 : w.heap.size + 1 + 1 ≤ w2.heap.size := by omega
  have hu2 : U1 ≤ w2.heap.size ∧ U2 ≤ w2.heap.size := by refine ⟨by omega, by omega⟩
  rw [← hq] at hge2 hu2
  clear hq
  generalize (w2.setCell ⟨w.heap.size, 16, none⟩ (.slice q2 s.ws.length d2)) = A3 at hXn hYn hAn hge2 hu2 o1_2 o2_2 ⊢
  replace hX := hXn
  replace hY := hYn
  replace hA := hAn
  clear hXn hYn hAn z16 f16 x16 hZ2
  have x17 := cellW hX.out 17 _ rfl A3 (Below.refl _ _)
  go_upto_region 4 with (go_at_call 95; refine (H3.out _ hA).mono ?_; rintro e w3 ⟨v, rfl, own3, hb3⟩; obtain ⟨q3, d3, rfl⟩ := own3.shape; have hZ3 : Hid _ := blk hX.out hb3; have z17 := cellW hZ3.out 17 _ rfl w3 (Below.refl _ _); have f17 := frozenW hZ3.out 17 w3 (Below.refl _ _))
  have hs3 : A3.heap.size ≤ w3.heap.size := hb3.size
  have hXn : Hid (_ = some (Obj.cells #[.int .i64 s.ad, .int .i64 s.bo, .int .i64 s.st, .int .i64 s.s.g, .int .i64 s.s.o, .int .i64 s.s.b, .int .i64 s.s.h, .int .i64 s.t.g, .int .i64 s.t.o, .int .i64 s.t.b, .int .i64 s.t.h, .int .i64 s.qu, .int .i64 s.tr, .int .i64 s.he, .int .i64 s.po, .slice q1 s.kn.length d1, .slice q2 s.ws.length d2, .slice q3 s.gs.length d3, .slice p4 s.os.length c4] 33 (0, 0))) := blk_set (blk hX.out hb3) 17 (.slice q3 s.gs.length d3)
  have hYn : Hid (_ = some (Obj.cells #[.int .i64 0, .int .i64 0, .int .i64 0, .int .i64 0, .int .i64 0, .int .i64 0, .int .i64 0, .int .i64 0, .int .i64 0, .int .i64 0, .int .i64 0, .int .i64 0, .int .i64 0, .int .i64 0, .int .i64 0, .slice none 0 0, .slice none 0 0, .slice none 0 0, .slice none 0 0] 33 (0, 0))) := blk_far (a := ⟨w.heap.size, 17, none⟩) (blk hY.out hb3) (by simp only; omega) (.slice q3 s.gs.length d3)
  have hAn : Below w.heap.size w (w3.setCell ⟨w.heap.size, 17, none⟩ (.slice q3 s.gs.length d3)) := (keepB hA (Nat.le_refl _) hb3).setCell (by simp only; omega) _
  have hq : (w3.setCell ⟨w.heap.size, 17, none⟩ (.slice q3 s.gs.length d3)).heap.size = w3.heap.size := by simp [World.setCell]
  have hi3 : Hid (OwnGB w3 A3.heap.size w3.heap.size (.slice q3 s.gs.length d3) s.gs) := own3.gb
  have o1_3 : Hid (OwnIB (w3.setCell ⟨w.heap.size, 17, none⟩ (.slice q3 s.gs.length d3)) L1 U1 (.slice q1 s.kn.length d1) s.kn) := o1_2.out.same (Same.trans (Same.below hb3 (by omega)) (Same.far (by simp only; omega) _))
  have o2_3 : Hid (OwnIB (w3.setCell ⟨w.heap.size, 17, none⟩ (.slice q3 s.gs.length d3)) L2 U2 (.slice q2 s.ws.length d2) s.ws) := o2_2.out.same (Same.trans (Same.below hb3 (by omega)) (Same.far (by simp only; omega) _))
  obtain ⟨L3, eL3⟩ : ∃ L, A3.heap.size = L := ⟨_, rfl⟩
  obtain ⟨U3, eU3⟩ : ∃ U, w3.heap.size = U := ⟨_, rfl⟩
  have o3_3 : Hid (OwnGB (w3.setCell ⟨w.heap.size, 17, none⟩ (.slice q3 s.gs.length d3)) L3 U3 (.slice q3 s.gs.length d3) s.gs) := (show OwnGB w3 L3 U3 (.slice q3 s.gs.length d3) s.gs by rw [← eL3, ← eU3]; exact hi3.out).same (Same.far (by simp only; omega) _)
  have hge3 : w.heap.size + 1 + 1 ≤ w3.heap.size := by omega
  have hu3 : U1 ≤ w3.heap.size ∧ U2 ≤ w3.heap.size ∧ U3 ≤ w3.heap.size := by refine ⟨by omega, by omega, by omega⟩
  rw [← hq] at hge3 hu3
  clear hq
  generalize (w3.setCell ⟨w.heap.size, 17, none⟩ (.slice q3 s.gs.length d3)) = A4 at hXn hYn hAn hge3 hu3 o1_3 o2_3 o3_3 ⊢
  replace hX := hXn
  replace hY := hYn
  replace hA := hAn
  clear hXn hYn hAn z17 f17 x17 hZ3
  have x18 := cellW hX.out 18 _ rfl A4 (Below.refl _ _)
  go_upto_region 5 with (go_at_call 96; refine (H4.out _ hA).mono ?_; rintro e w4 ⟨v, rfl, own4, hb4⟩; obtain ⟨q4, d4, rfl⟩ := own4.shape; have hZ4 : Hid _ := blk hX.out hb4; have z18 := cellW hZ4.out 18 _ rfl w4 (Below.refl _ _); have f18 := frozenW hZ4.out 18 w4 (Below.refl _ _))
  have hs4 : A4.heap.size ≤ w4.heap.size := hb4.size
  have hXn : Hid (_ = some (Obj.cells #[.int .i64 s.ad, .int .i64 s.bo, .int .i64 s.st, .int .i64 s.s.g, .int .i64 s.s.o, .int .i64 s.s.b, .int .i64 s.s.h, .int .i64 s.t.g, .int .i64 s.t.o, .int .i64 s.t.b, .int .i64 s.t.h, .int .i64 s.qu, .int .i64 s.tr, .int .i64 s.he, .int .i64 s.po, .slice q1 s.kn.length d1, .slice q2 s.ws.length d2, .slice q3 s.gs.length d3, .slice q4 s.os.length d4] 33 (0, 0))) := blk_set (blk hX.out hb4) 18 (.slice q4 s.os.length d4)
  have hYn : Hid (_ = some (Obj.cells #[.int .i64 0, .int .i64 0, .int .i64 0, .int .i64 0, .int .i64 0, .int .i64 0, .int .i64 0, .int .i64 0, .int .i64 0, .int .i64 0, .int .i64 0, .int .i64 0, .int .i64 0, .int .i64 0, .int .i64 0, .slice none 0 0, .slice none 0 0, .slice none 0 0, .slice none 0 0] 33 (0, 0))) := blk_far (a := ⟨w.heap.size, 18, none⟩) (blk hY.out hb4) (by simp only; omega) (.slice q4 s.os.length d4)
  have hAn : Below w.heap.size w (w4.setCell ⟨w.heap.size, 18, none⟩ (.slice q4 s.os.length d4)) := (keepB hA (Nat.le_refl _) hb4).setCell (by simp only; omega) _
  have hq : (w4.setCell ⟨w.heap.size, 18, none⟩ (.slice q4 s.os.length d4)).heap.size = w4.heap.size := by simp [World.setCell]
  have hi4 : Hid (OwnTB w4 A4.heap.size w4.heap.size (.slice q4 s.os.length d4) s.os) := own4.tb
  have o1_4 : Hid (OwnIB (w4.setCell ⟨w.heap.size, 18, none⟩ (.slice q4 s.os.length d4)) L1 U1 (.slice q1 s.kn.length d1) s.kn) := o1_3.out.same (Same.trans (Same.below hb4 (by omega)) (Same.far (by simp only; omega) _))
  have o2_4 : Hid (OwnIB (w4.setCell ⟨w.heap.size, 18, none⟩ (.slice q4 s.os.length d4)) L2 U2 (.slice q2 s.ws.length d2) s.ws) := o2_3.out.same (Same.trans (Same.below hb4 (by omega)) (Same.far (by simp only; omega) _))
  have o3_4 : Hid (OwnGB (w4.setCell ⟨w.heap.size, 18, none⟩ (.slice q4 s.os.length d4)) L3 U3 (.slice q3 s.gs.length d3) s.gs) := o3_3.out.same (Same.trans (Same.below hb4 (by omega)) (Same.far (by simp only; omega) _))
  obtain ⟨L4, eL4⟩ : ∃ L, A4.heap.size = L := ⟨_, rfl⟩
  obtain ⟨U4, eU4⟩ : ∃ U, w4.heap.size = U := ⟨_, rfl⟩
  have o4_4 : Hid (OwnTB (w4.setCell ⟨w.heap.size, 18, none⟩ (.slice q4 s.os.length d4)) L4 U4 (.slice q4 s.os.length d4) s.os) := (show OwnTB w4 L4 U4 (.slice q4 s.os.length d4) s.os by rw [← eL4, ← eU4]; exact hi4.out).same (Same.far (by simp only; omega) _)
  have hge4 : w.heap.size + 1 + 1 ≤ w4.heap.size := by omega
  have hu4 : U1 ≤ w4.heap.size ∧ U2 ≤ w4.heap.size ∧ U3 ≤ w4.heap.size ∧ U4 ≤ w4.heap.size := by refine ⟨by omega, by omega, by omega, by omega⟩
  rw [← hq] at hge4 hu4
  clear hq
  generalize (w4.setCell ⟨w.heap.size, 18, none⟩ (.slice q4 s.os.length d4)) = A5 at hXn hYn hAn hge4 hu4 o1_4 o2_4 o3_4 o4_4 ⊢
  replace hX := hXn
  replace hY := hYn
  replace hA := hAn
  clear hXn hYn hAn z18 f18 x18 hZ4
  go_wp2_with (refine wpList_load_row rfl 33 (.tmp 1) rfl w.heap.size rfl _ _ _ _ hX.out Try.underlying33 rfl (by kernel_rfl) ?_; refine wpList_store_row rfl 33 (.tmp 2) (.tmp 19) rfl (w.heap.size + 1) #[.int .i64 s.ad, .int .i64 s.bo, .int .i64 s.st, .int .i64 s.s.g, .int .i64 s.s.o, .int .i64 s.s.b, .int .i64 s.s.h, .int .i64 s.t.g, .int .i64 s.t.o, .int .i64 s.t.b, .int .i64 s.t.h, .int .i64 s.qu, .int .i64 s.tr, .int .i64 s.he, .int .i64 s.po, .slice q1 s.kn.length d1, .slice q2 s.ws.length d2, .slice q3 s.gs.length d3, .slice q4 s.os.length d4] rfl rfl _ _ hY.out (by kernel_rfl) rfl (by simp [Value.oneCell']) ?_)
  go_wp2
  have hYf := setRow_heap _ (w.heap.size + 1) _ #[.int .i64 s.ad, .int .i64 s.bo, .int .i64 s.st, .int .i64 s.s.g, .int .i64 s.s.o, .int .i64 s.s.b, .int .i64 s.s.h, .int .i64 s.t.g, .int .i64 s.t.o, .int .i64 s.t.b, .int .i64 s.t.h, .int .i64 s.qu, .int .i64 s.tr, .int .i64 s.he, .int .i64 s.po, .slice q1 s.kn.length d1, .slice q2 s.ws.length d2, .slice q3 s.gs.length d3, .slice q4 s.os.length d4] _ _ hY.out
  have hAf : Below w.heap.size w _ := Below.setRow hA (g := w.heap.size + 1) (by omega) #[.int .i64 s.ad, .int .i64 s.bo, .int .i64 s.st, .int .i64 s.s.g, .int .i64 s.s.o, .int .i64 s.s.b, .int .i64 s.s.h, .int .i64 s.t.g, .int .i64 s.t.o, .int .i64 s.t.b, .int .i64 s.t.h, .int .i64 s.qu, .int .i64 s.tr, .int .i64 s.he, .int .i64 s.po, .slice q1 s.kn.length d1, .slice q2 s.ws.length d2, .slice q3 s.gs.length d3, .slice q4 s.os.length d4]
  refine bodyPost_ret (v := .agg #[.int .i64 s.ad, .int .i64 s.bo, .int .i64 s.st, .int .i64 s.s.g, .int .i64 s.s.o, .int .i64 s.s.b, .int .i64 s.s.h, .int .i64 s.t.g, .int .i64 s.t.o, .int .i64 s.t.b, .int .i64 s.t.h, .int .i64 s.qu, .int .i64 s.tr, .int .i64 s.he, .int .i64 s.po, .slice q1 s.kn.length d1, .slice q2 s.ws.length d2, .slice q3 s.gs.length d3, .slice q4 s.os.length d4]) (results_cell_row Try.results44 _ _ (w.heap.size + 1) _ _ _ _ rfl hYf Try.underlying33 rfl (by kernel_rfl)) rfl ⟨_, _, _, _, rfl, ⟨⟨L1, U1, L2, U2, L3, U3, L4, U4, ?_, ?_, o1_4.out.same (Same.setRow (by omega) _), o2_4.out.same (Same.setRow (by omega) _), o3_4.out.same (Same.setRow (by omega) _), o4_4.out.same (Same.setRow (by omega) _), by omega, by omega, by omega, by omega, by omega, by omega⟩⟩, hAf⟩
  · omega
  · rw [setRow_size]
    omega
end Go.Proofs.Ytggdjiijcoklgaa
