/- THE LAW'S OWN COPY of a station. Written by mkstnw.py. -/
import Derived.Test.YtggdjiijcoklgaaHTail
import Derived.Test.YtggdjiijcoklgaaHStL
import Derived.Laws.Tables
namespace Go.Proofs.Ytggdjiijcoklgaa
open Go.RowKit
set_option linter.unusedVariables false
set_option linter.unusedSimpArgs false

set_option maxRecDepth 100000 in
set_option maxHeartbeats 6400000 in
theorem toStation_any (s : Stn) (p1 p2 p3 p4 : Option Addr) (c1 c2 c3 c4 : Nat) (w : World) (hl1 : s.kn.length ≤ 1048576) (hl2 : s.ws.length ≤ 1048576) (hl3 : s.gs.length ≤ 1048576) (hlw : ∀ g ∈ s.gs, g.2.length ≤ 1048576) (hl4 : s.os.length ≤ 1048576)
    (i1 : InI w p1 s.kn) (i2 : InI w p2 s.ws) (i3 : InG w p3 s.gs) (i4 : InS w p4 s.os) :
    Calls Try.prog 9 #[.agg #[.int .i64 s.ad, .int .i64 s.bo, .int .i64 s.st, .int .i64 s.s.g, .int .i64 s.s.o, .int .i64 s.s.b, .int .i64 s.s.h, .int .i64 s.t.g, .int .i64 s.t.o, .int .i64 s.t.b, .int .i64 s.t.h, .int .i64 s.qu, .int .i64 s.tr, .int .i64 s.he, .int .i64 s.po, .slice p1 s.kn.length c1, .slice p2 s.ws.length c2, .slice p3 s.gs.length c3, .slice p4 s.os.length c4]] w fun x w' => ∃ v1 v2 v3 v4, x = .returned (.agg #[.int .i64 s.ad, .int .i64 s.bo, .int .i64 s.st, .int .i64 s.s.g, .int .i64 s.s.o, .int .i64 s.s.b, .int .i64 s.s.h, .int .i64 s.t.g, .int .i64 s.t.o, .int .i64 s.t.b, .int .i64 s.t.h, .int .i64 s.qu, .int .i64 s.tr, .int .i64 s.he, .int .i64 s.po, v1, v2, v3, v4]) ∧ OwnStn w' w.heap.size v1 v2 v3 v4 s ∧ Below w.heap.size w w' := by
  have HS : Hid (∀ W : World, Calls Try.prog 39 #[.agg #[.int .i64 s.s.g, .int .i64 s.s.o, .int .i64 s.s.b, .int .i64 s.s.h]] W fun x w' => x = .returned (.agg #[.int .i64 s.s.g, .int .i64 s.s.o, .int .i64 s.s.b, .int .i64 s.s.h]) ∧ Below W.heap.size W w') := fun W => toStamp_any s.s W
  have HT : Hid (∀ W : World, Calls Try.prog 39 #[.agg #[.int .i64 s.t.g, .int .i64 s.t.o, .int .i64 s.t.b, .int .i64 s.t.h]] W fun x w' => x = .returned (.agg #[.int .i64 s.t.g, .int .i64 s.t.o, .int .i64 s.t.b, .int .i64 s.t.h]) ∧ Below W.heap.size W w') := fun W => toStamp_any s.t W
  have H1 : Hid (∀ W, Below w.heap.size w W → Calls Try.prog 22 #[.slice p1 s.kn.length c1] W fun e w' => ∃ v, e = .returned v ∧ OwnI w' W.heap.size v s.kn ∧ Below W.heap.size W w') := fun W hW => toInt64S_any p1 c1 s.kn W hl1 (i1.below hW)
  have H2 : Hid (∀ W, Below w.heap.size w W → Calls Try.prog 22 #[.slice p2 s.ws.length c2] W fun e w' => ∃ v, e = .returned v ∧ OwnI w' W.heap.size v s.ws ∧ Below W.heap.size W w') := fun W hW => toInt64S_any p2 c2 s.ws W hl2 (i2.below hW)
  have H3 : Hid (∀ W, Below w.heap.size w W → Calls Try.prog 40 #[.slice p3 s.gs.length c3] W fun e w' => ∃ v, e = .returned v ∧ OwnG w' W.heap.size v s.gs ∧ Below W.heap.size W w') := fun W hW => toGlobS_any p3 c3 s.gs W hl3 hlw (i3.below hW)
  have H4 : Hid (∀ W, Below w.heap.size w W → Calls Try.prog 41 #[.slice p4 s.os.length c4] W fun e w' => ∃ v, e = .returned v ∧ OwnT4 w' W.heap.size v s.os ∧ Below W.heap.size W w') := fun W hW => toStringS_any p4 c4 s.os W hl4 (i4.below hW)
  clear i1 i2 i3 i4 hl1 hl2 hl3 hlw hl4
  go_enter Try.func9, Try.ntmps9
  go_upto_region 5 with fail
  have hX : Hid _ := blk (blk (heap_alloc_new w (.cells #[.int .i64 s.ad, .int .i64 s.bo, .int .i64 s.st, .int .i64 s.s.g, .int .i64 s.s.o, .int .i64 s.s.b, .int .i64 s.s.h, .int .i64 s.t.g, .int .i64 s.t.o, .int .i64 s.t.b, .int .i64 s.t.h, .int .i64 s.qu, .int .i64 s.tr, .int .i64 s.he, .int .i64 s.po, .slice p1 s.kn.length c1, .slice p2 s.ws.length c2, .slice p3 s.gs.length c3, .slice p4 s.os.length c4] 28)) (all_alloc _ (.cells #[.int .i64 0, .int .i64 0, .int .i64 0, .int .i64 0, .int .i64 0, .int .i64 0, .int .i64 0, .int .i64 0, .int .i64 0, .int .i64 0, .int .i64 0, .int .i64 0, .int .i64 0, .int .i64 0, .int .i64 0, .slice none 0 0, .slice none 0 0, .slice none 0 0, .slice none 0 0] 33))) (all_alloc _ (.cells #[.int .i64 s.ad, .int .i64 s.bo, .int .i64 s.st, .int .i64 0, .int .i64 0, .int .i64 0, .int .i64 0, .int .i64 0, .int .i64 0, .int .i64 0, .int .i64 0, .int .i64 0, .int .i64 0, .int .i64 0, .int .i64 0, .slice none 0 0, .slice none 0 0, .slice none 0 0, .slice none 0 0] 33))
  have hY : Hid _ := blk (heap_alloc_new (w.alloc (.cells #[.int .i64 s.ad, .int .i64 s.bo, .int .i64 s.st, .int .i64 s.s.g, .int .i64 s.s.o, .int .i64 s.s.b, .int .i64 s.s.h, .int .i64 s.t.g, .int .i64 s.t.o, .int .i64 s.t.b, .int .i64 s.t.h, .int .i64 s.qu, .int .i64 s.tr, .int .i64 s.he, .int .i64 s.po, .slice p1 s.kn.length c1, .slice p2 s.ws.length c2, .slice p3 s.gs.length c3, .slice p4 s.os.length c4] 28)) (.cells #[.int .i64 0, .int .i64 0, .int .i64 0, .int .i64 0, .int .i64 0, .int .i64 0, .int .i64 0, .int .i64 0, .int .i64 0, .int .i64 0, .int .i64 0, .int .i64 0, .int .i64 0, .int .i64 0, .int .i64 0, .slice none 0 0, .slice none 0 0, .slice none 0 0, .slice none 0 0] 33)) (all_alloc _ (.cells #[.int .i64 s.ad, .int .i64 s.bo, .int .i64 s.st, .int .i64 0, .int .i64 0, .int .i64 0, .int .i64 0, .int .i64 0, .int .i64 0, .int .i64 0, .int .i64 0, .int .i64 0, .int .i64 0, .int .i64 0, .int .i64 0, .slice none 0 0, .slice none 0 0, .slice none 0 0, .slice none 0 0] 33))
  have hZ : Hid _ := heap_alloc_new ((w.alloc (.cells #[.int .i64 s.ad, .int .i64 s.bo, .int .i64 s.st, .int .i64 s.s.g, .int .i64 s.s.o, .int .i64 s.s.b, .int .i64 s.s.h, .int .i64 s.t.g, .int .i64 s.t.o, .int .i64 s.t.b, .int .i64 s.t.h, .int .i64 s.qu, .int .i64 s.tr, .int .i64 s.he, .int .i64 s.po, .slice p1 s.kn.length c1, .slice p2 s.ws.length c2, .slice p3 s.gs.length c3, .slice p4 s.os.length c4] 28)).alloc (.cells #[.int .i64 0, .int .i64 0, .int .i64 0, .int .i64 0, .int .i64 0, .int .i64 0, .int .i64 0, .int .i64 0, .int .i64 0, .int .i64 0, .int .i64 0, .int .i64 0, .int .i64 0, .int .i64 0, .int .i64 0, .slice none 0 0, .slice none 0 0, .slice none 0 0, .slice none 0 0] 33)) (.cells #[.int .i64 s.ad, .int .i64 s.bo, .int .i64 s.st, .int .i64 0, .int .i64 0, .int .i64 0, .int .i64 0, .int .i64 0, .int .i64 0, .int .i64 0, .int .i64 0, .int .i64 0, .int .i64 0, .int .i64 0, .int .i64 0, .slice none 0 0, .slice none 0 0, .slice none 0 0, .slice none 0 0] 33)
  have hA : Below w.heap.size w (((w.alloc (.cells #[.int .i64 s.ad, .int .i64 s.bo, .int .i64 s.st, .int .i64 s.s.g, .int .i64 s.s.o, .int .i64 s.s.b, .int .i64 s.s.h, .int .i64 s.t.g, .int .i64 s.t.o, .int .i64 s.t.b, .int .i64 s.t.h, .int .i64 s.qu, .int .i64 s.tr, .int .i64 s.he, .int .i64 s.po, .slice p1 s.kn.length c1, .slice p2 s.ws.length c2, .slice p3 s.gs.length c3, .slice p4 s.os.length c4] 28)).alloc (.cells #[.int .i64 0, .int .i64 0, .int .i64 0, .int .i64 0, .int .i64 0, .int .i64 0, .int .i64 0, .int .i64 0, .int .i64 0, .int .i64 0, .int .i64 0, .int .i64 0, .int .i64 0, .int .i64 0, .int .i64 0, .slice none 0 0, .slice none 0 0, .slice none 0 0, .slice none 0 0] 33)).alloc (.cells #[.int .i64 s.ad, .int .i64 s.bo, .int .i64 s.st, .int .i64 0, .int .i64 0, .int .i64 0, .int .i64 0, .int .i64 0, .int .i64 0, .int .i64 0, .int .i64 0, .int .i64 0, .int .i64 0, .int .i64 0, .int .i64 0, .slice none 0 0, .slice none 0 0, .slice none 0 0, .slice none 0 0] 33)) := keepB (keepB (all_alloc w _) (Nat.le_refl _) (all_alloc _ _)) (Nat.le_refl _) (all_alloc _ _)
  have e3 : (((w.alloc (.cells #[.int .i64 s.ad, .int .i64 s.bo, .int .i64 s.st, .int .i64 s.s.g, .int .i64 s.s.o, .int .i64 s.s.b, .int .i64 s.s.h, .int .i64 s.t.g, .int .i64 s.t.o, .int .i64 s.t.b, .int .i64 s.t.h, .int .i64 s.qu, .int .i64 s.tr, .int .i64 s.he, .int .i64 s.po, .slice p1 s.kn.length c1, .slice p2 s.ws.length c2, .slice p3 s.gs.length c3, .slice p4 s.os.length c4] 28)).alloc (.cells #[.int .i64 0, .int .i64 0, .int .i64 0, .int .i64 0, .int .i64 0, .int .i64 0, .int .i64 0, .int .i64 0, .int .i64 0, .int .i64 0, .int .i64 0, .int .i64 0, .int .i64 0, .int .i64 0, .int .i64 0, .slice none 0 0, .slice none 0 0, .slice none 0 0, .slice none 0 0] 33)).alloc (.cells #[.int .i64 s.ad, .int .i64 s.bo, .int .i64 s.st, .int .i64 0, .int .i64 0, .int .i64 0, .int .i64 0, .int .i64 0, .int .i64 0, .int .i64 0, .int .i64 0, .int .i64 0, .int .i64 0, .int .i64 0, .int .i64 0, .slice none 0 0, .slice none 0 0, .slice none 0 0, .slice none 0 0] 33)).heap.size = w.heap.size + 1 + 1 + 1 := by simp
  rw [show (w.alloc (.cells #[.int .i64 s.ad, .int .i64 s.bo, .int .i64 s.st, .int .i64 s.s.g, .int .i64 s.s.o, .int .i64 s.s.b, .int .i64 s.s.h, .int .i64 s.t.g, .int .i64 s.t.o, .int .i64 s.t.b, .int .i64 s.t.h, .int .i64 s.qu, .int .i64 s.tr, .int .i64 s.he, .int .i64 s.po, .slice p1 s.kn.length c1, .slice p2 s.ws.length c2, .slice p3 s.gs.length c3, .slice p4 s.os.length c4] 28)).heap.size = w.heap.size + 1 by simp] at hY
  rw [show ((w.alloc (.cells #[.int .i64 s.ad, .int .i64 s.bo, .int .i64 s.st, .int .i64 s.s.g, .int .i64 s.s.o, .int .i64 s.s.b, .int .i64 s.s.h, .int .i64 s.t.g, .int .i64 s.t.o, .int .i64 s.t.b, .int .i64 s.t.h, .int .i64 s.qu, .int .i64 s.tr, .int .i64 s.he, .int .i64 s.po, .slice p1 s.kn.length c1, .slice p2 s.ws.length c2, .slice p3 s.gs.length c3, .slice p4 s.os.length c4] 28)).alloc (.cells #[.int .i64 0, .int .i64 0, .int .i64 0, .int .i64 0, .int .i64 0, .int .i64 0, .int .i64 0, .int .i64 0, .int .i64 0, .int .i64 0, .int .i64 0, .int .i64 0, .int .i64 0, .int .i64 0, .int .i64 0, .slice none 0 0, .slice none 0 0, .slice none 0 0, .slice none 0 0] 33)).heap.size = w.heap.size + 1 + 1 by simp] at hZ
  generalize ((w.alloc (.cells #[.int .i64 s.ad, .int .i64 s.bo, .int .i64 s.st, .int .i64 s.s.g, .int .i64 s.s.o, .int .i64 s.s.b, .int .i64 s.s.h, .int .i64 s.t.g, .int .i64 s.t.o, .int .i64 s.t.b, .int .i64 s.t.h, .int .i64 s.qu, .int .i64 s.tr, .int .i64 s.he, .int .i64 s.po, .slice p1 s.kn.length c1, .slice p2 s.ws.length c2, .slice p3 s.gs.length c3, .slice p4 s.os.length c4] 28)).alloc (.cells #[.int .i64 0, .int .i64 0, .int .i64 0, .int .i64 0, .int .i64 0, .int .i64 0, .int .i64 0, .int .i64 0, .int .i64 0, .int .i64 0, .int .i64 0, .int .i64 0, .int .i64 0, .int .i64 0, .int .i64 0, .slice none 0 0, .slice none 0 0, .slice none 0 0, .slice none 0 0] 33)).alloc (.cells #[.int .i64 s.ad, .int .i64 s.bo, .int .i64 s.st, .int .i64 0, .int .i64 0, .int .i64 0, .int .i64 0, .int .i64 0, .int .i64 0, .int .i64 0, .int .i64 0, .int .i64 0, .int .i64 0, .int .i64 0, .int .i64 0, .slice none 0 0, .slice none 0 0, .slice none 0 0, .slice none 0 0] 33) = A5 at hX hY hZ hA e3 ⊢
  have x3_5 := cellW hX.out 3 _ rfl A5 (Below.refl _ _)
  have x4_5 := cellW hX.out 4 _ rfl A5 (Below.refl _ _)
  have x5_5 := cellW hX.out 5 _ rfl A5 (Below.refl _ _)
  have x6_5 := cellW hX.out 6 _ rfl A5 (Below.refl _ _)
  go_upto_region 6 with (go_at_call 39; refine (HS.out _).mono ?_; rintro e w5 ⟨rfl, hb5⟩; have hZ5 : Hid _ := blk hZ.out hb5; have z3_5 := cellW hZ5.out 3 _ rfl w5 (Below.refl _ _); have f3_5 := frozenW hZ5.out 3 w5 (Below.refl _ _); have z4_5 := cellW hZ5.out 4 _ rfl w5 (Below.refl _ _); have f4_5 := frozenW hZ5.out 4 w5 (Below.refl _ _); have z5_5 := cellW hZ5.out 5 _ rfl w5 (Below.refl _ _); have f5_5 := frozenW hZ5.out 5 w5 (Below.refl _ _); have z6_5 := cellW hZ5.out 6 _ rfl w5 (Below.refl _ _); have f6_5 := frozenW hZ5.out 6 w5 (Below.refl _ _))
  have hs5 : A5.heap.size ≤ w5.heap.size := hb5.size
  have hX5n : Hid (_ = some (Obj.cells #[.int .i64 s.ad, .int .i64 s.bo, .int .i64 s.st, .int .i64 s.s.g, .int .i64 s.s.o, .int .i64 s.s.b, .int .i64 s.s.h, .int .i64 s.t.g, .int .i64 s.t.o, .int .i64 s.t.b, .int .i64 s.t.h, .int .i64 s.qu, .int .i64 s.tr, .int .i64 s.he, .int .i64 s.po, .slice p1 s.kn.length c1, .slice p2 s.ws.length c2, .slice p3 s.gs.length c3, .slice p4 s.os.length c4] 28 (0, 0))) := (blk_far (a := ⟨w.heap.size + 1 + 1, 6, none⟩) (blk_far (a := ⟨w.heap.size + 1 + 1, 5, none⟩) (blk_far (a := ⟨w.heap.size + 1 + 1, 4, none⟩) (blk_far (a := ⟨w.heap.size + 1 + 1, 3, none⟩) (blk hX.out hb5) (by simp only; omega) (.int .i64 s.s.g)) (by simp only; omega) (.int .i64 s.s.o)) (by simp only; omega) (.int .i64 s.s.b)) (by simp only; omega) (.int .i64 s.s.h))
  have hY5n : Hid (_ = some (Obj.cells #[.int .i64 0, .int .i64 0, .int .i64 0, .int .i64 0, .int .i64 0, .int .i64 0, .int .i64 0, .int .i64 0, .int .i64 0, .int .i64 0, .int .i64 0, .int .i64 0, .int .i64 0, .int .i64 0, .int .i64 0, .slice none 0 0, .slice none 0 0, .slice none 0 0, .slice none 0 0] 33 (0, 0))) := (blk_far (a := ⟨w.heap.size + 1 + 1, 6, none⟩) (blk_far (a := ⟨w.heap.size + 1 + 1, 5, none⟩) (blk_far (a := ⟨w.heap.size + 1 + 1, 4, none⟩) (blk_far (a := ⟨w.heap.size + 1 + 1, 3, none⟩) (blk hY.out hb5) (by simp only; omega) (.int .i64 s.s.g)) (by simp only; omega) (.int .i64 s.s.o)) (by simp only; omega) (.int .i64 s.s.b)) (by simp only; omega) (.int .i64 s.s.h))
  have hZ5n : Hid (_ = some (Obj.cells #[.int .i64 s.ad, .int .i64 s.bo, .int .i64 s.st, .int .i64 s.s.g, .int .i64 s.s.o, .int .i64 s.s.b, .int .i64 s.s.h, .int .i64 0, .int .i64 0, .int .i64 0, .int .i64 0, .int .i64 0, .int .i64 0, .int .i64 0, .int .i64 0, .slice none 0 0, .slice none 0 0, .slice none 0 0, .slice none 0 0] 33 (0, 0))) := (blk_set (blk_set (blk_set (blk_set (blk hZ.out hb5) 3 (.int .i64 s.s.g)) 4 (.int .i64 s.s.o)) 5 (.int .i64 s.s.b)) 6 (.int .i64 s.s.h))
  have hA5n : Below w.heap.size w ((((w5.setCell ⟨w.heap.size + 1 + 1, 3, none⟩ (.int .i64 s.s.g)).setCell ⟨w.heap.size + 1 + 1, 4, none⟩ (.int .i64 s.s.o)).setCell ⟨w.heap.size + 1 + 1, 5, none⟩ (.int .i64 s.s.b)).setCell ⟨w.heap.size + 1 + 1, 6, none⟩ (.int .i64 s.s.h)) := (Below.setCell (Below.setCell (Below.setCell (Below.setCell (keepB hA (Nat.le_refl _) hb5) (by simp only; omega) _) (by simp only; omega) _) (by simp only; omega) _) (by simp only; omega) _)
  have hq5 : ((((w5.setCell ⟨w.heap.size + 1 + 1, 3, none⟩ (.int .i64 s.s.g)).setCell ⟨w.heap.size + 1 + 1, 4, none⟩ (.int .i64 s.s.o)).setCell ⟨w.heap.size + 1 + 1, 5, none⟩ (.int .i64 s.s.b)).setCell ⟨w.heap.size + 1 + 1, 6, none⟩ (.int .i64 s.s.h)).heap.size = w5.heap.size := by simp [World.setCell]
  have hge5 : w.heap.size + 1 + 1 + 1 ≤ w5.heap.size := by omega
  rw [← hq5] at hge5
  clear hq5
  generalize ((((w5.setCell ⟨w.heap.size + 1 + 1, 3, none⟩ (.int .i64 s.s.g)).setCell ⟨w.heap.size + 1 + 1, 4, none⟩ (.int .i64 s.s.o)).setCell ⟨w.heap.size + 1 + 1, 5, none⟩ (.int .i64 s.s.b)).setCell ⟨w.heap.size + 1 + 1, 6, none⟩ (.int .i64 s.s.h)) = A6 at hX5n hY5n hZ5n hA5n hge5 ⊢
  replace hX := hX5n
  replace hY := hY5n
  replace hZ := hZ5n
  replace hA := hA5n
  clear hX5n hY5n hZ5n hA5n
  clear z3_5 f3_5 x3_5 z4_5 f4_5 x4_5 z5_5 f5_5 x5_5 z6_5 f6_5 x6_5 hZ5
  clear e3
  have x7_6 := cellW hX.out 7 _ rfl A6 (Below.refl _ _)
  have x8_6 := cellW hX.out 8 _ rfl A6 (Below.refl _ _)
  have x9_6 := cellW hX.out 9 _ rfl A6 (Below.refl _ _)
  have x10_6 := cellW hX.out 10 _ rfl A6 (Below.refl _ _)
  go_upto_region 7 with (go_at_call 39; refine (HT.out _).mono ?_; rintro e w6 ⟨rfl, hb6⟩; have hZ6 : Hid _ := blk hZ.out hb6; have z7_6 := cellW hZ6.out 7 _ rfl w6 (Below.refl _ _); have f7_6 := frozenW hZ6.out 7 w6 (Below.refl _ _); have z8_6 := cellW hZ6.out 8 _ rfl w6 (Below.refl _ _); have f8_6 := frozenW hZ6.out 8 w6 (Below.refl _ _); have z9_6 := cellW hZ6.out 9 _ rfl w6 (Below.refl _ _); have f9_6 := frozenW hZ6.out 9 w6 (Below.refl _ _); have z10_6 := cellW hZ6.out 10 _ rfl w6 (Below.refl _ _); have f10_6 := frozenW hZ6.out 10 w6 (Below.refl _ _))
  have hs6 : A6.heap.size ≤ w6.heap.size := hb6.size
  have hX6n : Hid (_ = some (Obj.cells #[.int .i64 s.ad, .int .i64 s.bo, .int .i64 s.st, .int .i64 s.s.g, .int .i64 s.s.o, .int .i64 s.s.b, .int .i64 s.s.h, .int .i64 s.t.g, .int .i64 s.t.o, .int .i64 s.t.b, .int .i64 s.t.h, .int .i64 s.qu, .int .i64 s.tr, .int .i64 s.he, .int .i64 s.po, .slice p1 s.kn.length c1, .slice p2 s.ws.length c2, .slice p3 s.gs.length c3, .slice p4 s.os.length c4] 28 (0, 0))) := (blk_far (a := ⟨w.heap.size + 1 + 1, 10, none⟩) (blk_far (a := ⟨w.heap.size + 1 + 1, 9, none⟩) (blk_far (a := ⟨w.heap.size + 1 + 1, 8, none⟩) (blk_far (a := ⟨w.heap.size + 1 + 1, 7, none⟩) (blk hX.out hb6) (by simp only; omega) (.int .i64 s.t.g)) (by simp only; omega) (.int .i64 s.t.o)) (by simp only; omega) (.int .i64 s.t.b)) (by simp only; omega) (.int .i64 s.t.h))
  have hY6n : Hid (_ = some (Obj.cells #[.int .i64 0, .int .i64 0, .int .i64 0, .int .i64 0, .int .i64 0, .int .i64 0, .int .i64 0, .int .i64 0, .int .i64 0, .int .i64 0, .int .i64 0, .int .i64 0, .int .i64 0, .int .i64 0, .int .i64 0, .slice none 0 0, .slice none 0 0, .slice none 0 0, .slice none 0 0] 33 (0, 0))) := (blk_far (a := ⟨w.heap.size + 1 + 1, 10, none⟩) (blk_far (a := ⟨w.heap.size + 1 + 1, 9, none⟩) (blk_far (a := ⟨w.heap.size + 1 + 1, 8, none⟩) (blk_far (a := ⟨w.heap.size + 1 + 1, 7, none⟩) (blk hY.out hb6) (by simp only; omega) (.int .i64 s.t.g)) (by simp only; omega) (.int .i64 s.t.o)) (by simp only; omega) (.int .i64 s.t.b)) (by simp only; omega) (.int .i64 s.t.h))
  have hZ6n : Hid (_ = some (Obj.cells #[.int .i64 s.ad, .int .i64 s.bo, .int .i64 s.st, .int .i64 s.s.g, .int .i64 s.s.o, .int .i64 s.s.b, .int .i64 s.s.h, .int .i64 s.t.g, .int .i64 s.t.o, .int .i64 s.t.b, .int .i64 s.t.h, .int .i64 0, .int .i64 0, .int .i64 0, .int .i64 0, .slice none 0 0, .slice none 0 0, .slice none 0 0, .slice none 0 0] 33 (0, 0))) := (blk_set (blk_set (blk_set (blk_set (blk hZ.out hb6) 7 (.int .i64 s.t.g)) 8 (.int .i64 s.t.o)) 9 (.int .i64 s.t.b)) 10 (.int .i64 s.t.h))
  have hA6n : Below w.heap.size w ((((w6.setCell ⟨w.heap.size + 1 + 1, 7, none⟩ (.int .i64 s.t.g)).setCell ⟨w.heap.size + 1 + 1, 8, none⟩ (.int .i64 s.t.o)).setCell ⟨w.heap.size + 1 + 1, 9, none⟩ (.int .i64 s.t.b)).setCell ⟨w.heap.size + 1 + 1, 10, none⟩ (.int .i64 s.t.h)) := (Below.setCell (Below.setCell (Below.setCell (Below.setCell (keepB hA (Nat.le_refl _) hb6) (by simp only; omega) _) (by simp only; omega) _) (by simp only; omega) _) (by simp only; omega) _)
  have hq6 : ((((w6.setCell ⟨w.heap.size + 1 + 1, 7, none⟩ (.int .i64 s.t.g)).setCell ⟨w.heap.size + 1 + 1, 8, none⟩ (.int .i64 s.t.o)).setCell ⟨w.heap.size + 1 + 1, 9, none⟩ (.int .i64 s.t.b)).setCell ⟨w.heap.size + 1 + 1, 10, none⟩ (.int .i64 s.t.h)).heap.size = w6.heap.size := by simp [World.setCell]
  have hge6 : w.heap.size + 1 + 1 + 1 ≤ w6.heap.size := by omega
  rw [← hq6] at hge6
  clear hq6
  generalize ((((w6.setCell ⟨w.heap.size + 1 + 1, 7, none⟩ (.int .i64 s.t.g)).setCell ⟨w.heap.size + 1 + 1, 8, none⟩ (.int .i64 s.t.o)).setCell ⟨w.heap.size + 1 + 1, 9, none⟩ (.int .i64 s.t.b)).setCell ⟨w.heap.size + 1 + 1, 10, none⟩ (.int .i64 s.t.h)) = A7 at hX6n hY6n hZ6n hA6n hge6 ⊢
  replace hX := hX6n
  replace hY := hY6n
  replace hZ := hZ6n
  replace hA := hA6n
  clear hX6n hY6n hZ6n hA6n
  clear z7_6 f7_6 x7_6 z8_6 f8_6 x8_6 z9_6 f9_6 x9_6 z10_6 f10_6 x10_6 hZ6
  have x11_7 := cellW hX.out 11 _ rfl A7 (Below.refl _ _)
  have z11_7 := cellW hZ.out 11 _ rfl A7 (Below.refl _ _)
  have f11_7 := frozenW hZ.out 11 A7 (Below.refl _ _)
  go_upto_region 8 with fail
  have hX7n : Hid (_ = some (Obj.cells #[.int .i64 s.ad, .int .i64 s.bo, .int .i64 s.st, .int .i64 s.s.g, .int .i64 s.s.o, .int .i64 s.s.b, .int .i64 s.s.h, .int .i64 s.t.g, .int .i64 s.t.o, .int .i64 s.t.b, .int .i64 s.t.h, .int .i64 s.qu, .int .i64 s.tr, .int .i64 s.he, .int .i64 s.po, .slice p1 s.kn.length c1, .slice p2 s.ws.length c2, .slice p3 s.gs.length c3, .slice p4 s.os.length c4] 28 (0, 0))) := (blk_far (a := ⟨w.heap.size + 1 + 1, 11, none⟩) hX.out (by simp only; omega) (.int .i64 s.qu))
  have hY7n : Hid (_ = some (Obj.cells #[.int .i64 0, .int .i64 0, .int .i64 0, .int .i64 0, .int .i64 0, .int .i64 0, .int .i64 0, .int .i64 0, .int .i64 0, .int .i64 0, .int .i64 0, .int .i64 0, .int .i64 0, .int .i64 0, .int .i64 0, .slice none 0 0, .slice none 0 0, .slice none 0 0, .slice none 0 0] 33 (0, 0))) := (blk_far (a := ⟨w.heap.size + 1 + 1, 11, none⟩) hY.out (by simp only; omega) (.int .i64 s.qu))
  have hZ7n : Hid (_ = some (Obj.cells #[.int .i64 s.ad, .int .i64 s.bo, .int .i64 s.st, .int .i64 s.s.g, .int .i64 s.s.o, .int .i64 s.s.b, .int .i64 s.s.h, .int .i64 s.t.g, .int .i64 s.t.o, .int .i64 s.t.b, .int .i64 s.t.h, .int .i64 s.qu, .int .i64 0, .int .i64 0, .int .i64 0, .slice none 0 0, .slice none 0 0, .slice none 0 0, .slice none 0 0] 33 (0, 0))) := (blk_set hZ.out 11 (.int .i64 s.qu))
  have hA7n : Below w.heap.size w (A7.setCell ⟨w.heap.size + 1 + 1, 11, none⟩ (.int .i64 s.qu)) := (Below.setCell hA (by simp only; omega) _)
  have hq7 : (A7.setCell ⟨w.heap.size + 1 + 1, 11, none⟩ (.int .i64 s.qu)).heap.size = A7.heap.size := by simp [World.setCell]
  have hge7 : w.heap.size + 1 + 1 + 1 ≤ A7.heap.size := by omega
  rw [← hq7] at hge7
  clear hq7
  generalize (A7.setCell ⟨w.heap.size + 1 + 1, 11, none⟩ (.int .i64 s.qu)) = A8 at hX7n hY7n hZ7n hA7n hge7 ⊢
  replace hX := hX7n
  replace hY := hY7n
  replace hZ := hZ7n
  replace hA := hA7n
  clear hX7n hY7n hZ7n hA7n
  clear z11_7 f11_7 x11_7
  have x12_8 := cellW hX.out 12 _ rfl A8 (Below.refl _ _)
  have z12_8 := cellW hZ.out 12 _ rfl A8 (Below.refl _ _)
  have f12_8 := frozenW hZ.out 12 A8 (Below.refl _ _)
  go_upto_region 9 with fail
  have hX8n : Hid (_ = some (Obj.cells #[.int .i64 s.ad, .int .i64 s.bo, .int .i64 s.st, .int .i64 s.s.g, .int .i64 s.s.o, .int .i64 s.s.b, .int .i64 s.s.h, .int .i64 s.t.g, .int .i64 s.t.o, .int .i64 s.t.b, .int .i64 s.t.h, .int .i64 s.qu, .int .i64 s.tr, .int .i64 s.he, .int .i64 s.po, .slice p1 s.kn.length c1, .slice p2 s.ws.length c2, .slice p3 s.gs.length c3, .slice p4 s.os.length c4] 28 (0, 0))) := (blk_far (a := ⟨w.heap.size + 1 + 1, 12, none⟩) hX.out (by simp only; omega) (.int .i64 s.tr))
  have hY8n : Hid (_ = some (Obj.cells #[.int .i64 0, .int .i64 0, .int .i64 0, .int .i64 0, .int .i64 0, .int .i64 0, .int .i64 0, .int .i64 0, .int .i64 0, .int .i64 0, .int .i64 0, .int .i64 0, .int .i64 0, .int .i64 0, .int .i64 0, .slice none 0 0, .slice none 0 0, .slice none 0 0, .slice none 0 0] 33 (0, 0))) := (blk_far (a := ⟨w.heap.size + 1 + 1, 12, none⟩) hY.out (by simp only; omega) (.int .i64 s.tr))
  have hZ8n : Hid (_ = some (Obj.cells #[.int .i64 s.ad, .int .i64 s.bo, .int .i64 s.st, .int .i64 s.s.g, .int .i64 s.s.o, .int .i64 s.s.b, .int .i64 s.s.h, .int .i64 s.t.g, .int .i64 s.t.o, .int .i64 s.t.b, .int .i64 s.t.h, .int .i64 s.qu, .int .i64 s.tr, .int .i64 0, .int .i64 0, .slice none 0 0, .slice none 0 0, .slice none 0 0, .slice none 0 0] 33 (0, 0))) := (blk_set hZ.out 12 (.int .i64 s.tr))
  have hA8n : Below w.heap.size w (A8.setCell ⟨w.heap.size + 1 + 1, 12, none⟩ (.int .i64 s.tr)) := (Below.setCell hA (by simp only; omega) _)
  have hq8 : (A8.setCell ⟨w.heap.size + 1 + 1, 12, none⟩ (.int .i64 s.tr)).heap.size = A8.heap.size := by simp [World.setCell]
  have hge8 : w.heap.size + 1 + 1 + 1 ≤ A8.heap.size := by omega
  rw [← hq8] at hge8
  clear hq8
  generalize (A8.setCell ⟨w.heap.size + 1 + 1, 12, none⟩ (.int .i64 s.tr)) = A9 at hX8n hY8n hZ8n hA8n hge8 ⊢
  replace hX := hX8n
  replace hY := hY8n
  replace hZ := hZ8n
  replace hA := hA8n
  clear hX8n hY8n hZ8n hA8n
  clear z12_8 f12_8 x12_8
  have x13_9 := cellW hX.out 13 _ rfl A9 (Below.refl _ _)
  have z13_9 := cellW hZ.out 13 _ rfl A9 (Below.refl _ _)
  have f13_9 := frozenW hZ.out 13 A9 (Below.refl _ _)
  go_upto_region 10 with fail
  have hX9n : Hid (_ = some (Obj.cells #[.int .i64 s.ad, .int .i64 s.bo, .int .i64 s.st, .int .i64 s.s.g, .int .i64 s.s.o, .int .i64 s.s.b, .int .i64 s.s.h, .int .i64 s.t.g, .int .i64 s.t.o, .int .i64 s.t.b, .int .i64 s.t.h, .int .i64 s.qu, .int .i64 s.tr, .int .i64 s.he, .int .i64 s.po, .slice p1 s.kn.length c1, .slice p2 s.ws.length c2, .slice p3 s.gs.length c3, .slice p4 s.os.length c4] 28 (0, 0))) := (blk_far (a := ⟨w.heap.size + 1 + 1, 13, none⟩) hX.out (by simp only; omega) (.int .i64 s.he))
  have hY9n : Hid (_ = some (Obj.cells #[.int .i64 0, .int .i64 0, .int .i64 0, .int .i64 0, .int .i64 0, .int .i64 0, .int .i64 0, .int .i64 0, .int .i64 0, .int .i64 0, .int .i64 0, .int .i64 0, .int .i64 0, .int .i64 0, .int .i64 0, .slice none 0 0, .slice none 0 0, .slice none 0 0, .slice none 0 0] 33 (0, 0))) := (blk_far (a := ⟨w.heap.size + 1 + 1, 13, none⟩) hY.out (by simp only; omega) (.int .i64 s.he))
  have hZ9n : Hid (_ = some (Obj.cells #[.int .i64 s.ad, .int .i64 s.bo, .int .i64 s.st, .int .i64 s.s.g, .int .i64 s.s.o, .int .i64 s.s.b, .int .i64 s.s.h, .int .i64 s.t.g, .int .i64 s.t.o, .int .i64 s.t.b, .int .i64 s.t.h, .int .i64 s.qu, .int .i64 s.tr, .int .i64 s.he, .int .i64 0, .slice none 0 0, .slice none 0 0, .slice none 0 0, .slice none 0 0] 33 (0, 0))) := (blk_set hZ.out 13 (.int .i64 s.he))
  have hA9n : Below w.heap.size w (A9.setCell ⟨w.heap.size + 1 + 1, 13, none⟩ (.int .i64 s.he)) := (Below.setCell hA (by simp only; omega) _)
  have hq9 : (A9.setCell ⟨w.heap.size + 1 + 1, 13, none⟩ (.int .i64 s.he)).heap.size = A9.heap.size := by simp [World.setCell]
  have hge9 : w.heap.size + 1 + 1 + 1 ≤ A9.heap.size := by omega
  rw [← hq9] at hge9
  clear hq9
  generalize (A9.setCell ⟨w.heap.size + 1 + 1, 13, none⟩ (.int .i64 s.he)) = A10 at hX9n hY9n hZ9n hA9n hge9 ⊢
  replace hX := hX9n
  replace hY := hY9n
  replace hZ := hZ9n
  replace hA := hA9n
  clear hX9n hY9n hZ9n hA9n
  clear z13_9 f13_9 x13_9
  have x14_10 := cellW hX.out 14 _ rfl A10 (Below.refl _ _)
  have z14_10 := cellW hZ.out 14 _ rfl A10 (Below.refl _ _)
  have f14_10 := frozenW hZ.out 14 A10 (Below.refl _ _)
  go_upto_region 11 with fail
  have hX10n : Hid (_ = some (Obj.cells #[.int .i64 s.ad, .int .i64 s.bo, .int .i64 s.st, .int .i64 s.s.g, .int .i64 s.s.o, .int .i64 s.s.b, .int .i64 s.s.h, .int .i64 s.t.g, .int .i64 s.t.o, .int .i64 s.t.b, .int .i64 s.t.h, .int .i64 s.qu, .int .i64 s.tr, .int .i64 s.he, .int .i64 s.po, .slice p1 s.kn.length c1, .slice p2 s.ws.length c2, .slice p3 s.gs.length c3, .slice p4 s.os.length c4] 28 (0, 0))) := (blk_far (a := ⟨w.heap.size + 1 + 1, 14, none⟩) hX.out (by simp only; omega) (.int .i64 s.po))
  have hY10n : Hid (_ = some (Obj.cells #[.int .i64 0, .int .i64 0, .int .i64 0, .int .i64 0, .int .i64 0, .int .i64 0, .int .i64 0, .int .i64 0, .int .i64 0, .int .i64 0, .int .i64 0, .int .i64 0, .int .i64 0, .int .i64 0, .int .i64 0, .slice none 0 0, .slice none 0 0, .slice none 0 0, .slice none 0 0] 33 (0, 0))) := (blk_far (a := ⟨w.heap.size + 1 + 1, 14, none⟩) hY.out (by simp only; omega) (.int .i64 s.po))
  have hZ10n : Hid (_ = some (Obj.cells #[.int .i64 s.ad, .int .i64 s.bo, .int .i64 s.st, .int .i64 s.s.g, .int .i64 s.s.o, .int .i64 s.s.b, .int .i64 s.s.h, .int .i64 s.t.g, .int .i64 s.t.o, .int .i64 s.t.b, .int .i64 s.t.h, .int .i64 s.qu, .int .i64 s.tr, .int .i64 s.he, .int .i64 s.po, .slice none 0 0, .slice none 0 0, .slice none 0 0, .slice none 0 0] 33 (0, 0))) := (blk_set hZ.out 14 (.int .i64 s.po))
  have hA10n : Below w.heap.size w (A10.setCell ⟨w.heap.size + 1 + 1, 14, none⟩ (.int .i64 s.po)) := (Below.setCell hA (by simp only; omega) _)
  have hq10 : (A10.setCell ⟨w.heap.size + 1 + 1, 14, none⟩ (.int .i64 s.po)).heap.size = A10.heap.size := by simp [World.setCell]
  have hge10 : w.heap.size + 1 + 1 + 1 ≤ A10.heap.size := by omega
  rw [← hq10] at hge10
  clear hq10
  generalize (A10.setCell ⟨w.heap.size + 1 + 1, 14, none⟩ (.int .i64 s.po)) = A11 at hX10n hY10n hZ10n hA10n hge10 ⊢
  replace hX := hX10n
  replace hY := hY10n
  replace hZ := hZ10n
  replace hA := hA10n
  clear hX10n hY10n hZ10n hA10n
  clear z14_10 f14_10 x14_10
  have x15_11 := cellW hX.out 15 _ rfl A11 (Below.refl _ _)
  go_upto_region 12 with (go_at_call 22; refine (H1.out _ hA).mono ?_; rintro e w11 ⟨v, rfl, own1, hb11⟩; obtain ⟨q1, d1, rfl⟩ := own1.shape; have hZ11 : Hid _ := blk hZ.out hb11; have z15_11 := cellW hZ11.out 15 _ rfl w11 (Below.refl _ _); have f15_11 := frozenW hZ11.out 15 w11 (Below.refl _ _))
  have hs11 : A11.heap.size ≤ w11.heap.size := hb11.size
  have hX11n : Hid (_ = some (Obj.cells #[.int .i64 s.ad, .int .i64 s.bo, .int .i64 s.st, .int .i64 s.s.g, .int .i64 s.s.o, .int .i64 s.s.b, .int .i64 s.s.h, .int .i64 s.t.g, .int .i64 s.t.o, .int .i64 s.t.b, .int .i64 s.t.h, .int .i64 s.qu, .int .i64 s.tr, .int .i64 s.he, .int .i64 s.po, .slice p1 s.kn.length c1, .slice p2 s.ws.length c2, .slice p3 s.gs.length c3, .slice p4 s.os.length c4] 28 (0, 0))) := (blk_far (a := ⟨w.heap.size + 1 + 1, 15, none⟩) (blk hX.out hb11) (by simp only; omega) (.slice q1 s.kn.length d1))
  have hY11n : Hid (_ = some (Obj.cells #[.int .i64 0, .int .i64 0, .int .i64 0, .int .i64 0, .int .i64 0, .int .i64 0, .int .i64 0, .int .i64 0, .int .i64 0, .int .i64 0, .int .i64 0, .int .i64 0, .int .i64 0, .int .i64 0, .int .i64 0, .slice none 0 0, .slice none 0 0, .slice none 0 0, .slice none 0 0] 33 (0, 0))) := (blk_far (a := ⟨w.heap.size + 1 + 1, 15, none⟩) (blk hY.out hb11) (by simp only; omega) (.slice q1 s.kn.length d1))
  have hZ11n : Hid (_ = some (Obj.cells #[.int .i64 s.ad, .int .i64 s.bo, .int .i64 s.st, .int .i64 s.s.g, .int .i64 s.s.o, .int .i64 s.s.b, .int .i64 s.s.h, .int .i64 s.t.g, .int .i64 s.t.o, .int .i64 s.t.b, .int .i64 s.t.h, .int .i64 s.qu, .int .i64 s.tr, .int .i64 s.he, .int .i64 s.po, .slice q1 s.kn.length d1, .slice none 0 0, .slice none 0 0, .slice none 0 0] 33 (0, 0))) := (blk_set (blk hZ.out hb11) 15 (.slice q1 s.kn.length d1))
  have hA11n : Below w.heap.size w (w11.setCell ⟨w.heap.size + 1 + 1, 15, none⟩ (.slice q1 s.kn.length d1)) := (Below.setCell (keepB hA (Nat.le_refl _) hb11) (by simp only; omega) _)
  have hq11 : (w11.setCell ⟨w.heap.size + 1 + 1, 15, none⟩ (.slice q1 s.kn.length d1)).heap.size = w11.heap.size := by simp [World.setCell]
  have hi1 : Hid (OwnIB w11 A11.heap.size w11.heap.size (.slice q1 s.kn.length d1) s.kn) := own1.ib
  obtain ⟨L1, eL1⟩ : ∃ L, A11.heap.size = L := ⟨_, rfl⟩
  obtain ⟨U1, eU1⟩ : ∃ U, w11.heap.size = U := ⟨_, rfl⟩
  have o1_11 : Hid (OwnIB (w11.setCell ⟨w.heap.size + 1 + 1, 15, none⟩ (.slice q1 s.kn.length d1)) L1 U1 (.slice q1 s.kn.length d1) s.kn) := (show OwnIB w11 L1 U1 (.slice q1 s.kn.length d1) s.kn by rw [← eL1, ← eU1]; exact hi1.out).same (Same.far (by simp only; omega) _)
  have hge11 : w.heap.size + 1 + 1 + 1 ≤ w11.heap.size := by omega
  have hu11 : U1 ≤ w11.heap.size := by omega
  rw [← hq11] at hge11 hu11
  clear hq11
  generalize (w11.setCell ⟨w.heap.size + 1 + 1, 15, none⟩ (.slice q1 s.kn.length d1)) = A12 at hX11n hY11n hZ11n hA11n hge11 hu11 o1_11 ⊢
  replace hX := hX11n
  replace hY := hY11n
  replace hZ := hZ11n
  replace hA := hA11n
  clear hX11n hY11n hZ11n hA11n
  clear z15_11 f15_11 x15_11 hZ11
  have x16_12 := cellW hX.out 16 _ rfl A12 (Below.refl _ _)
  go_upto_region 13 with (go_at_call 22; refine (H2.out _ hA).mono ?_; rintro e w12 ⟨v, rfl, own2, hb12⟩; obtain ⟨q2, d2, rfl⟩ := own2.shape; have hZ12 : Hid _ := blk hZ.out hb12; have z16_12 := cellW hZ12.out 16 _ rfl w12 (Below.refl _ _); have f16_12 := frozenW hZ12.out 16 w12 (Below.refl _ _))
  have hs12 : A12.heap.size ≤ w12.heap.size := hb12.size
  have hX12n : Hid (_ = some (Obj.cells #[.int .i64 s.ad, .int .i64 s.bo, .int .i64 s.st, .int .i64 s.s.g, .int .i64 s.s.o, .int .i64 s.s.b, .int .i64 s.s.h, .int .i64 s.t.g, .int .i64 s.t.o, .int .i64 s.t.b, .int .i64 s.t.h, .int .i64 s.qu, .int .i64 s.tr, .int .i64 s.he, .int .i64 s.po, .slice p1 s.kn.length c1, .slice p2 s.ws.length c2, .slice p3 s.gs.length c3, .slice p4 s.os.length c4] 28 (0, 0))) := (blk_far (a := ⟨w.heap.size + 1 + 1, 16, none⟩) (blk hX.out hb12) (by simp only; omega) (.slice q2 s.ws.length d2))
  have hY12n : Hid (_ = some (Obj.cells #[.int .i64 0, .int .i64 0, .int .i64 0, .int .i64 0, .int .i64 0, .int .i64 0, .int .i64 0, .int .i64 0, .int .i64 0, .int .i64 0, .int .i64 0, .int .i64 0, .int .i64 0, .int .i64 0, .int .i64 0, .slice none 0 0, .slice none 0 0, .slice none 0 0, .slice none 0 0] 33 (0, 0))) := (blk_far (a := ⟨w.heap.size + 1 + 1, 16, none⟩) (blk hY.out hb12) (by simp only; omega) (.slice q2 s.ws.length d2))
  have hZ12n : Hid (_ = some (Obj.cells #[.int .i64 s.ad, .int .i64 s.bo, .int .i64 s.st, .int .i64 s.s.g, .int .i64 s.s.o, .int .i64 s.s.b, .int .i64 s.s.h, .int .i64 s.t.g, .int .i64 s.t.o, .int .i64 s.t.b, .int .i64 s.t.h, .int .i64 s.qu, .int .i64 s.tr, .int .i64 s.he, .int .i64 s.po, .slice q1 s.kn.length d1, .slice q2 s.ws.length d2, .slice none 0 0, .slice none 0 0] 33 (0, 0))) := (blk_set (blk hZ.out hb12) 16 (.slice q2 s.ws.length d2))
  have hA12n : Below w.heap.size w (w12.setCell ⟨w.heap.size + 1 + 1, 16, none⟩ (.slice q2 s.ws.length d2)) := (Below.setCell (keepB hA (Nat.le_refl _) hb12) (by simp only; omega) _)
  have hq12 : (w12.setCell ⟨w.heap.size + 1 + 1, 16, none⟩ (.slice q2 s.ws.length d2)).heap.size = w12.heap.size := by simp [World.setCell]
  have hi2 : Hid (OwnIB w12 A12.heap.size w12.heap.size (.slice q2 s.ws.length d2) s.ws) := own2.ib
  have o1_12 : Hid (OwnIB (w12.setCell ⟨w.heap.size + 1 + 1, 16, none⟩ (.slice q2 s.ws.length d2)) L1 U1 (.slice q1 s.kn.length d1) s.kn) := o1_11.out.same (Same.trans (Same.below hb12 (by omega)) (Same.far (by simp only; omega) _))
  obtain ⟨L2, eL2⟩ : ∃ L, A12.heap.size = L := ⟨_, rfl⟩
  obtain ⟨U2, eU2⟩ : ∃ U, w12.heap.size = U := ⟨_, rfl⟩
  have o2_12 : Hid (OwnIB (w12.setCell ⟨w.heap.size + 1 + 1, 16, none⟩ (.slice q2 s.ws.length d2)) L2 U2 (.slice q2 s.ws.length d2) s.ws) := (show OwnIB w12 L2 U2 (.slice q2 s.ws.length d2) s.ws by rw [← eL2, ← eU2]; exact hi2.out).same (Same.far (by simp only; omega) _)
  have hge12 : w.heap.size + 1 + 1 + 1 ≤ w12.heap.size := by omega
  have hu12 : U1 ≤ w12.heap.size ∧ U2 ≤ w12.heap.size := by refine ⟨by omega, by omega⟩
  rw [← hq12] at hge12 hu12
  clear hq12
  generalize (w12.setCell ⟨w.heap.size + 1 + 1, 16, none⟩ (.slice q2 s.ws.length d2)) = A13 at hX12n hY12n hZ12n hA12n hge12 hu12 o1_12 o2_12 ⊢
  replace hX := hX12n
  replace hY := hY12n
  replace hZ := hZ12n
  replace hA := hA12n
  clear hX12n hY12n hZ12n hA12n
  clear z16_12 f16_12 x16_12 hZ12
  have x17_13 := cellW hX.out 17 _ rfl A13 (Below.refl _ _)
  go_upto_region 14 with (go_at_call 40; refine (H3.out _ hA).mono ?_; rintro e w13 ⟨v, rfl, own3, hb13⟩; obtain ⟨q3, d3, rfl⟩ := own3.shape; have hZ13 : Hid _ := blk hZ.out hb13; have z17_13 := cellW hZ13.out 17 _ rfl w13 (Below.refl _ _); have f17_13 := frozenW hZ13.out 17 w13 (Below.refl _ _))
  have hs13 : A13.heap.size ≤ w13.heap.size := hb13.size
  have hX13n : Hid (_ = some (Obj.cells #[.int .i64 s.ad, .int .i64 s.bo, .int .i64 s.st, .int .i64 s.s.g, .int .i64 s.s.o, .int .i64 s.s.b, .int .i64 s.s.h, .int .i64 s.t.g, .int .i64 s.t.o, .int .i64 s.t.b, .int .i64 s.t.h, .int .i64 s.qu, .int .i64 s.tr, .int .i64 s.he, .int .i64 s.po, .slice p1 s.kn.length c1, .slice p2 s.ws.length c2, .slice p3 s.gs.length c3, .slice p4 s.os.length c4] 28 (0, 0))) := (blk_far (a := ⟨w.heap.size + 1 + 1, 17, none⟩) (blk hX.out hb13) (by simp only; omega) (.slice q3 s.gs.length d3))
  have hY13n : Hid (_ = some (Obj.cells #[.int .i64 0, .int .i64 0, .int .i64 0, .int .i64 0, .int .i64 0, .int .i64 0, .int .i64 0, .int .i64 0, .int .i64 0, .int .i64 0, .int .i64 0, .int .i64 0, .int .i64 0, .int .i64 0, .int .i64 0, .slice none 0 0, .slice none 0 0, .slice none 0 0, .slice none 0 0] 33 (0, 0))) := (blk_far (a := ⟨w.heap.size + 1 + 1, 17, none⟩) (blk hY.out hb13) (by simp only; omega) (.slice q3 s.gs.length d3))
  have hZ13n : Hid (_ = some (Obj.cells #[.int .i64 s.ad, .int .i64 s.bo, .int .i64 s.st, .int .i64 s.s.g, .int .i64 s.s.o, .int .i64 s.s.b, .int .i64 s.s.h, .int .i64 s.t.g, .int .i64 s.t.o, .int .i64 s.t.b, .int .i64 s.t.h, .int .i64 s.qu, .int .i64 s.tr, .int .i64 s.he, .int .i64 s.po, .slice q1 s.kn.length d1, .slice q2 s.ws.length d2, .slice q3 s.gs.length d3, .slice none 0 0] 33 (0, 0))) := (blk_set (blk hZ.out hb13) 17 (.slice q3 s.gs.length d3))
  have hA13n : Below w.heap.size w (w13.setCell ⟨w.heap.size + 1 + 1, 17, none⟩ (.slice q3 s.gs.length d3)) := (Below.setCell (keepB hA (Nat.le_refl _) hb13) (by simp only; omega) _)
  have hq13 : (w13.setCell ⟨w.heap.size + 1 + 1, 17, none⟩ (.slice q3 s.gs.length d3)).heap.size = w13.heap.size := by simp [World.setCell]
  have hi3 : Hid (OwnGB w13 A13.heap.size w13.heap.size (.slice q3 s.gs.length d3) s.gs) := own3.gb
  have o1_13 : Hid (OwnIB (w13.setCell ⟨w.heap.size + 1 + 1, 17, none⟩ (.slice q3 s.gs.length d3)) L1 U1 (.slice q1 s.kn.length d1) s.kn) := o1_12.out.same (Same.trans (Same.below hb13 (by omega)) (Same.far (by simp only; omega) _))
  have o2_13 : Hid (OwnIB (w13.setCell ⟨w.heap.size + 1 + 1, 17, none⟩ (.slice q3 s.gs.length d3)) L2 U2 (.slice q2 s.ws.length d2) s.ws) := o2_12.out.same (Same.trans (Same.below hb13 (by omega)) (Same.far (by simp only; omega) _))
  obtain ⟨L3, eL3⟩ : ∃ L, A13.heap.size = L := ⟨_, rfl⟩
  obtain ⟨U3, eU3⟩ : ∃ U, w13.heap.size = U := ⟨_, rfl⟩
  have o3_13 : Hid (OwnGB (w13.setCell ⟨w.heap.size + 1 + 1, 17, none⟩ (.slice q3 s.gs.length d3)) L3 U3 (.slice q3 s.gs.length d3) s.gs) := (show OwnGB w13 L3 U3 (.slice q3 s.gs.length d3) s.gs by rw [← eL3, ← eU3]; exact hi3.out).same (Same.far (by simp only; omega) _)
  have hge13 : w.heap.size + 1 + 1 + 1 ≤ w13.heap.size := by omega
  have hu13 : U1 ≤ w13.heap.size ∧ U2 ≤ w13.heap.size ∧ U3 ≤ w13.heap.size := by refine ⟨by omega, by omega, by omega⟩
  rw [← hq13] at hge13 hu13
  clear hq13
  generalize (w13.setCell ⟨w.heap.size + 1 + 1, 17, none⟩ (.slice q3 s.gs.length d3)) = A14 at hX13n hY13n hZ13n hA13n hge13 hu13 o1_13 o2_13 o3_13 ⊢
  replace hX := hX13n
  replace hY := hY13n
  replace hZ := hZ13n
  replace hA := hA13n
  clear hX13n hY13n hZ13n hA13n
  clear z17_13 f17_13 x17_13 hZ13
  have x18_14 := cellW hX.out 18 _ rfl A14 (Below.refl _ _)
  go_upto_region 15 with (go_at_call 41; refine (H4.out _ hA).mono ?_; rintro e w14 ⟨v, rfl, own4, hb14⟩; obtain ⟨q4, d4, rfl⟩ := own4.shape; have hZ14 : Hid _ := blk hZ.out hb14; have z18_14 := cellW hZ14.out 18 _ rfl w14 (Below.refl _ _); have f18_14 := frozenW hZ14.out 18 w14 (Below.refl _ _))
  have hs14 : A14.heap.size ≤ w14.heap.size := hb14.size
  have hX14n : Hid (_ = some (Obj.cells #[.int .i64 s.ad, .int .i64 s.bo, .int .i64 s.st, .int .i64 s.s.g, .int .i64 s.s.o, .int .i64 s.s.b, .int .i64 s.s.h, .int .i64 s.t.g, .int .i64 s.t.o, .int .i64 s.t.b, .int .i64 s.t.h, .int .i64 s.qu, .int .i64 s.tr, .int .i64 s.he, .int .i64 s.po, .slice p1 s.kn.length c1, .slice p2 s.ws.length c2, .slice p3 s.gs.length c3, .slice p4 s.os.length c4] 28 (0, 0))) := (blk_far (a := ⟨w.heap.size + 1 + 1, 18, none⟩) (blk hX.out hb14) (by simp only; omega) (.slice q4 s.os.length d4))
  have hY14n : Hid (_ = some (Obj.cells #[.int .i64 0, .int .i64 0, .int .i64 0, .int .i64 0, .int .i64 0, .int .i64 0, .int .i64 0, .int .i64 0, .int .i64 0, .int .i64 0, .int .i64 0, .int .i64 0, .int .i64 0, .int .i64 0, .int .i64 0, .slice none 0 0, .slice none 0 0, .slice none 0 0, .slice none 0 0] 33 (0, 0))) := (blk_far (a := ⟨w.heap.size + 1 + 1, 18, none⟩) (blk hY.out hb14) (by simp only; omega) (.slice q4 s.os.length d4))
  have hZ14n : Hid (_ = some (Obj.cells #[.int .i64 s.ad, .int .i64 s.bo, .int .i64 s.st, .int .i64 s.s.g, .int .i64 s.s.o, .int .i64 s.s.b, .int .i64 s.s.h, .int .i64 s.t.g, .int .i64 s.t.o, .int .i64 s.t.b, .int .i64 s.t.h, .int .i64 s.qu, .int .i64 s.tr, .int .i64 s.he, .int .i64 s.po, .slice q1 s.kn.length d1, .slice q2 s.ws.length d2, .slice q3 s.gs.length d3, .slice q4 s.os.length d4] 33 (0, 0))) := (blk_set (blk hZ.out hb14) 18 (.slice q4 s.os.length d4))
  have hA14n : Below w.heap.size w (w14.setCell ⟨w.heap.size + 1 + 1, 18, none⟩ (.slice q4 s.os.length d4)) := (Below.setCell (keepB hA (Nat.le_refl _) hb14) (by simp only; omega) _)
  have hq14 : (w14.setCell ⟨w.heap.size + 1 + 1, 18, none⟩ (.slice q4 s.os.length d4)).heap.size = w14.heap.size := by simp [World.setCell]
  have hi4 : Hid (OwnTB w14 A14.heap.size w14.heap.size (.slice q4 s.os.length d4) s.os) := own4.tb
  have o1_14 : Hid (OwnIB (w14.setCell ⟨w.heap.size + 1 + 1, 18, none⟩ (.slice q4 s.os.length d4)) L1 U1 (.slice q1 s.kn.length d1) s.kn) := o1_13.out.same (Same.trans (Same.below hb14 (by omega)) (Same.far (by simp only; omega) _))
  have o2_14 : Hid (OwnIB (w14.setCell ⟨w.heap.size + 1 + 1, 18, none⟩ (.slice q4 s.os.length d4)) L2 U2 (.slice q2 s.ws.length d2) s.ws) := o2_13.out.same (Same.trans (Same.below hb14 (by omega)) (Same.far (by simp only; omega) _))
  have o3_14 : Hid (OwnGB (w14.setCell ⟨w.heap.size + 1 + 1, 18, none⟩ (.slice q4 s.os.length d4)) L3 U3 (.slice q3 s.gs.length d3) s.gs) := o3_13.out.same (Same.trans (Same.below hb14 (by omega)) (Same.far (by simp only; omega) _))
  obtain ⟨L4, eL4⟩ : ∃ L, A14.heap.size = L := ⟨_, rfl⟩
  obtain ⟨U4, eU4⟩ : ∃ U, w14.heap.size = U := ⟨_, rfl⟩
  have o4_14 : Hid (OwnTB (w14.setCell ⟨w.heap.size + 1 + 1, 18, none⟩ (.slice q4 s.os.length d4)) L4 U4 (.slice q4 s.os.length d4) s.os) := (show OwnTB w14 L4 U4 (.slice q4 s.os.length d4) s.os by rw [← eL4, ← eU4]; exact hi4.out).same (Same.far (by simp only; omega) _)
  have hge14 : w.heap.size + 1 + 1 + 1 ≤ w14.heap.size := by omega
  have hu14 : U1 ≤ w14.heap.size ∧ U2 ≤ w14.heap.size ∧ U3 ≤ w14.heap.size ∧ U4 ≤ w14.heap.size := by refine ⟨by omega, by omega, by omega, by omega⟩
  rw [← hq14] at hge14 hu14
  clear hq14
  generalize (w14.setCell ⟨w.heap.size + 1 + 1, 18, none⟩ (.slice q4 s.os.length d4)) = A15 at hX14n hY14n hZ14n hA14n hge14 hu14 o1_14 o2_14 o3_14 o4_14 ⊢
  replace hX := hX14n
  replace hY := hY14n
  replace hZ := hZ14n
  replace hA := hA14n
  clear hX14n hY14n hZ14n hA14n
  clear z18_14 f18_14 x18_14 hZ14
  go_wp2_with (refine wpList_load_row rfl 33 (.tmp 3) rfl (w.heap.size + 1 + 1) rfl _ _ _ _ hZ.out Try.underlying33 rfl (by kernel_rfl) ?_; refine wpList_store_row rfl 33 (.tmp 2) (.tmp 49) rfl (w.heap.size + 1) #[.int .i64 s.ad, .int .i64 s.bo, .int .i64 s.st, .int .i64 s.s.g, .int .i64 s.s.o, .int .i64 s.s.b, .int .i64 s.s.h, .int .i64 s.t.g, .int .i64 s.t.o, .int .i64 s.t.b, .int .i64 s.t.h, .int .i64 s.qu, .int .i64 s.tr, .int .i64 s.he, .int .i64 s.po, .slice q1 s.kn.length d1, .slice q2 s.ws.length d2, .slice q3 s.gs.length d3, .slice q4 s.os.length d4] rfl rfl _ _ hY.out (by kernel_rfl) rfl (by simp [Value.oneCell']) ?_)
  go_wp2
  have hYf := setRow_heap _ (w.heap.size + 1) _ #[.int .i64 s.ad, .int .i64 s.bo, .int .i64 s.st, .int .i64 s.s.g, .int .i64 s.s.o, .int .i64 s.s.b, .int .i64 s.s.h, .int .i64 s.t.g, .int .i64 s.t.o, .int .i64 s.t.b, .int .i64 s.t.h, .int .i64 s.qu, .int .i64 s.tr, .int .i64 s.he, .int .i64 s.po, .slice q1 s.kn.length d1, .slice q2 s.ws.length d2, .slice q3 s.gs.length d3, .slice q4 s.os.length d4] _ _ hY.out
  have hAf : Below w.heap.size w _ := Below.setRow hA (g := w.heap.size + 1) (by omega) #[.int .i64 s.ad, .int .i64 s.bo, .int .i64 s.st, .int .i64 s.s.g, .int .i64 s.s.o, .int .i64 s.s.b, .int .i64 s.s.h, .int .i64 s.t.g, .int .i64 s.t.o, .int .i64 s.t.b, .int .i64 s.t.h, .int .i64 s.qu, .int .i64 s.tr, .int .i64 s.he, .int .i64 s.po, .slice q1 s.kn.length d1, .slice q2 s.ws.length d2, .slice q3 s.gs.length d3, .slice q4 s.os.length d4]
  have hge := hge14
  refine bodyPost_ret (v := .agg #[.int .i64 s.ad, .int .i64 s.bo, .int .i64 s.st, .int .i64 s.s.g, .int .i64 s.s.o, .int .i64 s.s.b, .int .i64 s.s.h, .int .i64 s.t.g, .int .i64 s.t.o, .int .i64 s.t.b, .int .i64 s.t.h, .int .i64 s.qu, .int .i64 s.tr, .int .i64 s.he, .int .i64 s.po, .slice q1 s.kn.length d1, .slice q2 s.ws.length d2, .slice q3 s.gs.length d3, .slice q4 s.os.length d4]) (results_cell_row Try.results9 _ _ (w.heap.size + 1) _ _ _ _ rfl hYf Try.underlying33 rfl (by kernel_rfl)) rfl ⟨_, _, _, _, rfl, ⟨⟨L1, U1, L2, U2, L3, U3, L4, U4, ?_, ?_, o1_14.out.same (Same.setRow (by omega) _), o2_14.out.same (Same.setRow (by omega) _), o3_14.out.same (Same.setRow (by omega) _), o4_14.out.same (Same.setRow (by omega) _), by omega, by omega, by omega, by omega, by omega, by omega⟩⟩, hAf⟩
  · omega
  · rw [setRow_size]
    omega
end Go.Proofs.Ytggdjiijcoklgaa
