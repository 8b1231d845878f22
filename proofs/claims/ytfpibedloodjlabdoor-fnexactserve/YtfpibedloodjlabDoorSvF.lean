/- A QUESTION SERVED: the program's Serve, way by way. -/
import Derived.Test.YtfpibedloodjlabDoorTab
import Derived.Test.YtfpibedloodjlabDoorWire
namespace Go.Proofs.YtfpibedloodjlabDoor
open Go.RowKit
set_option linter.unusedVariables false
set_option linter.unusedSimpArgs false

set_option maxRecDepth 100000 in
set_option maxHeartbeats 3200000 in
theorem serve_long (t : Tb) (s : ByteArray) (B : Nat) (v1 v2 : Value) (w : World) (hz : s.size ≤ 9223372036854775807) (hl1 : t.cs.length ≤ 10000000) (hl2 : t.rs.length ≤ 10000000) (h : OwnT w B v1 v2 t) (h8 : 8000 < s.size) :
    Calls Tryd.prog 7 #[.agg #[v1, v2], .string s] w fun e w' => ∃ u1 u2, e = .returned (.agg #[u1, u2, .string (ByteArray.empty), .int .i64 2]) ∧ OwnT w' w.heap.size u1 u2 (zeroT) ∧ Below w.heap.size w w' := by
  obtain ⟨p1, c1, rfl⟩ := h.c.shape
  obtain ⟨p2, c2, rfl⟩ := h.r.shape
  have HO : Hid (OwnT _ _ _ _ _) := h
  clear h
  have h8' : (8000 : Int) < s.size := by omega
  clear HO
  have hX : Hid _ := blk (heap_alloc_new w (.cells #[.slice p1 t.cs.length c1, .slice p2 t.rs.length c2] 26)) (all_alloc _ (.cells #[.slice none 0 0, .slice none 0 0, .string ⟨#[]⟩, .int .i64 0] 28))
  have hY : Hid _ := heap_alloc_new (w.alloc (.cells #[.slice p1 t.cs.length c1, .slice p2 t.rs.length c2] 26)) (.cells #[.slice none 0 0, .slice none 0 0, .string ⟨#[]⟩, .int .i64 0] 28)
  have hA0 : Below w.heap.size w ((w.alloc (.cells #[.slice p1 t.cs.length c1, .slice p2 t.rs.length c2] 26)).alloc (.cells #[.slice none 0 0, .slice none 0 0, .string ⟨#[]⟩, .int .i64 0] 28)) := keepB (all_alloc w _) (Nat.le_refl _) (all_alloc _ _)
  have e1 : (w.alloc (.cells #[.slice p1 t.cs.length c1, .slice p2 t.rs.length c2] 26)).heap.size = w.heap.size + 1 := by simp
  have e3 : ((w.alloc (.cells #[.slice p1 t.cs.length c1, .slice p2 t.rs.length c2] 26)).alloc (.cells #[.slice none 0 0, .slice none 0 0, .string ⟨#[]⟩, .int .i64 0] 28)).heap.size = w.heap.size + 1 + 1 := by simp
  rw [e1] at hY
  go_enter Tryd.func7, Tryd.ntmps7
  go_upto_region 1 with fail
  generalize (w.alloc (.cells #[.slice p1 t.cs.length c1, .slice p2 t.rs.length c2] 26)).alloc (.cells #[.slice none 0 0, .slice none 0 0, .string ⟨#[]⟩, .int .i64 0] 28) = A at hX hY hA0 e3 ⊢
  clear e1
  have y0 := cellW hY.out 0 _ rfl A (Below.refl _ _)
  have y1 := cellW hY.out 1 _ rfl A (Below.refl _ _)
  have y2 := cellW hY.out 2 _ rfl A (Below.refl _ _)
  have y3 := cellW hY.out 3 _ rfl A (Below.refl _ _)
  have fy0 := frozenW hY.out 0 A (Below.refl _ _)
  have fy1 := frozenW hY.out 1 A (Below.refl _ _)
  have fy2 := frozenW hY.out 2 A (Below.refl _ _)
  have fy3 := frozenW hY.out 3 A (Below.refl _ _)
  have x0 := cellW hX.out 0 _ rfl A (Below.refl _ _)
  have x1 := cellW hX.out 1 _ rfl A (Below.refl _ _)
  go_wp2
  exact bodyPost_ret (v := .agg #[.slice none 0 0, .slice none 0 0, .string ⟨#[]⟩, .int .i64 2]) (by simp [results, Tryd.results7, go_sem, y0, y1, y2, y3]; try rfl) rfl ⟨_, _, rfl, ⟨OwnI.nil _ _, OwnI.nil _ _, fun a b h => by cases h⟩, by first | exact hA0 | exact ((((hA0.setCell (by simp only; omega) _).setCell (by simp only; omega) _).setCell (by simp only; omega) _).setCell (by simp only; omega) _)⟩
set_option maxRecDepth 100000 in
set_option maxHeartbeats 3200000 in
theorem serve_wrong (t : Tb) (s : ByteArray) (B : Nat) (v1 v2 : Value) (w : World) (hz : s.size ≤ 9223372036854775807) (hl1 : t.cs.length ≤ 10000000) (hl2 : t.rs.length ≤ 10000000) (h : OwnT w B v1 v2 t) (h8 : s.size ≤ 8000) (hT : t.right = false) :
    Calls Tryd.prog 7 #[.agg #[v1, v2], .string s] w fun e w' => ∃ u1 u2, e = .returned (.agg #[u1, u2, .string (ByteArray.empty), .int .i64 1]) ∧ OwnT w' w.heap.size u1 u2 (zeroT) ∧ Below w.heap.size w w' := by
  obtain ⟨p1, c1, rfl⟩ := h.c.shape
  obtain ⟨p2, c2, rfl⟩ := h.r.shape
  have HO : Hid (OwnT _ _ _ _ _) := h
  clear h
  have HR : Hid (∀ W, Below w.heap.size w W → Calls Tryd.prog 17 #[.agg #[.slice p1 t.cs.length c1, .slice p2 t.rs.length c2]] W fun e w' => e = .returned (.bool false) ∧ Below W.heap.size W w') := fun W hW => by
    have := tableRight_any t p1 p2 c1 c2 W hl1 hl2 (HO.out.c.below hW).row (HO.out.r.below hW).row
    rwa [hT] at this
  have h8' : ¬ (8000 : Int) < s.size := by omega
  clear HO
  have hX : Hid _ := blk (heap_alloc_new w (.cells #[.slice p1 t.cs.length c1, .slice p2 t.rs.length c2] 26)) (all_alloc _ (.cells #[.slice none 0 0, .slice none 0 0, .string ⟨#[]⟩, .int .i64 0] 28))
  have hY : Hid _ := heap_alloc_new (w.alloc (.cells #[.slice p1 t.cs.length c1, .slice p2 t.rs.length c2] 26)) (.cells #[.slice none 0 0, .slice none 0 0, .string ⟨#[]⟩, .int .i64 0] 28)
  have hA0 : Below w.heap.size w ((w.alloc (.cells #[.slice p1 t.cs.length c1, .slice p2 t.rs.length c2] 26)).alloc (.cells #[.slice none 0 0, .slice none 0 0, .string ⟨#[]⟩, .int .i64 0] 28)) := keepB (all_alloc w _) (Nat.le_refl _) (all_alloc _ _)
  have e1 : (w.alloc (.cells #[.slice p1 t.cs.length c1, .slice p2 t.rs.length c2] 26)).heap.size = w.heap.size + 1 := by simp
  have e3 : ((w.alloc (.cells #[.slice p1 t.cs.length c1, .slice p2 t.rs.length c2] 26)).alloc (.cells #[.slice none 0 0, .slice none 0 0, .string ⟨#[]⟩, .int .i64 0] 28)).heap.size = w.heap.size + 1 + 1 := by simp
  rw [e1] at hY
  go_enter Tryd.func7, Tryd.ntmps7
  go_upto_region 1 with fail
  generalize (w.alloc (.cells #[.slice p1 t.cs.length c1, .slice p2 t.rs.length c2] 26)).alloc (.cells #[.slice none 0 0, .slice none 0 0, .string ⟨#[]⟩, .int .i64 0] 28) = A at hX hY hA0 e3 ⊢
  clear e1
  have y0 := cellW hY.out 0 _ rfl A (Below.refl _ _)
  have y1 := cellW hY.out 1 _ rfl A (Below.refl _ _)
  have y2 := cellW hY.out 2 _ rfl A (Below.refl _ _)
  have y3 := cellW hY.out 3 _ rfl A (Below.refl _ _)
  have fy0 := frozenW hY.out 0 A (Below.refl _ _)
  have fy1 := frozenW hY.out 1 A (Below.refl _ _)
  have fy2 := frozenW hY.out 2 A (Below.refl _ _)
  have fy3 := frozenW hY.out 3 A (Below.refl _ _)
  have x0 := cellW hX.out 0 _ rfl A (Below.refl _ _)
  have x1 := cellW hX.out 1 _ rfl A (Below.refl _ _)
  go_wp2_with (go_at_call 17; refine (HR.out _ hA0).mono ?_; rintro e w1 ⟨rfl, hb1⟩; have hY1 : Hid _ := blk hY.out hb1; have hB1 := keepB hA0 (Nat.le_refl _) hb1; have z0 := cellW hY1.out 0 _ rfl w1 (Below.refl _ _); have fz0 := frozenW hY1.out 0 w1 (Below.refl _ _); have z1 := cellW hY1.out 1 _ rfl w1 (Below.refl _ _); have fz1 := frozenW hY1.out 1 w1 (Below.refl _ _); have z2 := cellW hY1.out 2 _ rfl w1 (Below.refl _ _); have fz2 := frozenW hY1.out 2 w1 (Below.refl _ _); have z3 := cellW hY1.out 3 _ rfl w1 (Below.refl _ _); have fz3 := frozenW hY1.out 3 w1 (Below.refl _ _))
  exact bodyPost_ret (v := .agg #[.slice none 0 0, .slice none 0 0, .string ⟨#[]⟩, .int .i64 1]) (by simp [results, Tryd.results7, go_sem, z0, z1, z2, z3]; try rfl) rfl ⟨_, _, rfl, ⟨OwnI.nil _ _, OwnI.nil _ _, fun a b h => by cases h⟩, by first | exact hB1 | exact ((((hB1.setCell (by simp only; omega) _).setCell (by simp only; omega) _).setCell (by simp only; omega) _).setCell (by simp only; omega) _)⟩
set_option maxRecDepth 100000 in
set_option maxHeartbeats 3200000 in
theorem serve_empty (t : Tb) (s : ByteArray) (B : Nat) (v1 v2 : Value) (w : World) (hz : s.size ≤ 9223372036854775807) (hl1 : t.cs.length ≤ 10000000) (hl2 : t.rs.length ≤ 10000000) (h : OwnT w B v1 v2 t) (h8 : s.size = 0) (hT : t.right = true) :
    Calls Tryd.prog 7 #[.agg #[v1, v2], .string s] w fun e w' => ∃ u1 u2, e = .returned (.agg #[u1, u2, .string (ByteArray.empty), .int .i64 1]) ∧ OwnT w' w.heap.size u1 u2 (zeroT) ∧ Below w.heap.size w w' := by
  obtain ⟨p1, c1, rfl⟩ := h.c.shape
  obtain ⟨p2, c2, rfl⟩ := h.r.shape
  have HO : Hid (OwnT _ _ _ _ _) := h
  clear h
  have HR : Hid (∀ W, Below w.heap.size w W → Calls Tryd.prog 17 #[.agg #[.slice p1 t.cs.length c1, .slice p2 t.rs.length c2]] W fun e w' => e = .returned (.bool true) ∧ Below W.heap.size W w') := fun W hW => by
    have := tableRight_any t p1 p2 c1 c2 W hl1 hl2 (HO.out.c.below hW).row (HO.out.r.below hW).row
    rwa [hT] at this
  have h8' : ¬ (8000 : Int) < s.size := by omega
  have qE : (s.toList == ([] : List UInt8)) = true := by rw [empty_iff, decide_eq_true h8]
  clear HO
  have hX : Hid _ := blk (heap_alloc_new w (.cells #[.slice p1 t.cs.length c1, .slice p2 t.rs.length c2] 26)) (all_alloc _ (.cells #[.slice none 0 0, .slice none 0 0, .string ⟨#[]⟩, .int .i64 0] 28))
  have hY : Hid _ := heap_alloc_new (w.alloc (.cells #[.slice p1 t.cs.length c1, .slice p2 t.rs.length c2] 26)) (.cells #[.slice none 0 0, .slice none 0 0, .string ⟨#[]⟩, .int .i64 0] 28)
  have hA0 : Below w.heap.size w ((w.alloc (.cells #[.slice p1 t.cs.length c1, .slice p2 t.rs.length c2] 26)).alloc (.cells #[.slice none 0 0, .slice none 0 0, .string ⟨#[]⟩, .int .i64 0] 28)) := keepB (all_alloc w _) (Nat.le_refl _) (all_alloc _ _)
  have e1 : (w.alloc (.cells #[.slice p1 t.cs.length c1, .slice p2 t.rs.length c2] 26)).heap.size = w.heap.size + 1 := by simp
  have e3 : ((w.alloc (.cells #[.slice p1 t.cs.length c1, .slice p2 t.rs.length c2] 26)).alloc (.cells #[.slice none 0 0, .slice none 0 0, .string ⟨#[]⟩, .int .i64 0] 28)).heap.size = w.heap.size + 1 + 1 := by simp
  rw [e1] at hY
  go_enter Tryd.func7, Tryd.ntmps7
  go_upto_region 1 with fail
  generalize (w.alloc (.cells #[.slice p1 t.cs.length c1, .slice p2 t.rs.length c2] 26)).alloc (.cells #[.slice none 0 0, .slice none 0 0, .string ⟨#[]⟩, .int .i64 0] 28) = A at hX hY hA0 e3 ⊢
  clear e1
  have y0 := cellW hY.out 0 _ rfl A (Below.refl _ _)
  have y1 := cellW hY.out 1 _ rfl A (Below.refl _ _)
  have y2 := cellW hY.out 2 _ rfl A (Below.refl _ _)
  have y3 := cellW hY.out 3 _ rfl A (Below.refl _ _)
  have fy0 := frozenW hY.out 0 A (Below.refl _ _)
  have fy1 := frozenW hY.out 1 A (Below.refl _ _)
  have fy2 := frozenW hY.out 2 A (Below.refl _ _)
  have fy3 := frozenW hY.out 3 A (Below.refl _ _)
  have x0 := cellW hX.out 0 _ rfl A (Below.refl _ _)
  have x1 := cellW hX.out 1 _ rfl A (Below.refl _ _)
  go_wp2_with (go_at_call 17; refine (HR.out _ hA0).mono ?_; rintro e w1 ⟨rfl, hb1⟩; have hY1 : Hid _ := blk hY.out hb1; have hB1 := keepB hA0 (Nat.le_refl _) hb1; have z0 := cellW hY1.out 0 _ rfl w1 (Below.refl _ _); have fz0 := frozenW hY1.out 0 w1 (Below.refl _ _); have z1 := cellW hY1.out 1 _ rfl w1 (Below.refl _ _); have fz1 := frozenW hY1.out 1 w1 (Below.refl _ _); have z2 := cellW hY1.out 2 _ rfl w1 (Below.refl _ _); have fz2 := frozenW hY1.out 2 w1 (Below.refl _ _); have z3 := cellW hY1.out 3 _ rfl w1 (Below.refl _ _); have fz3 := frozenW hY1.out 3 w1 (Below.refl _ _))
  exact bodyPost_ret (v := .agg #[.slice none 0 0, .slice none 0 0, .string ⟨#[]⟩, .int .i64 1]) (by simp [results, Tryd.results7, go_sem, z0, z1, z2, z3]; try rfl) rfl ⟨_, _, rfl, ⟨OwnI.nil _ _, OwnI.nil _ _, fun a b h => by cases h⟩, by first | exact hB1 | exact ((((hB1.setCell (by simp only; omega) _).setCell (by simp only; omega) _).setCell (by simp only; omega) _).setCell (by simp only; omega) _)⟩
set_option maxRecDepth 100000 in
set_option maxHeartbeats 3200000 in
theorem serve_ex1 (t : Tb) (s : ByteArray) (B : Nat) (v1 v2 : Value) (w : World) (hz : s.size ≤ 9223372036854775807) (hl1 : t.cs.length ≤ 10000000) (hl2 : t.rs.length ≤ 10000000) (h : OwnT w B v1 v2 t) (f v p : Addr) (hS : Sents w f v p) (h0 : 0 < s.size) (h8 : s.size ≤ 8000) (hT : t.right = true) (hk : knownB (byteAt s 0 : Int) = false) :
    Calls Tryd.prog 7 #[.agg #[v1, v2], .string s] w fun e w' => ∃ u1 u2, e = .returned (.agg #[u1, u2, .string (exB s 1), .int .i64 0]) ∧ OwnT w' w.heap.size u1 u2 (t) ∧ Below w.heap.size w w' := by
  obtain ⟨p1, c1, rfl⟩ := h.c.shape
  obtain ⟨p2, c2, rfl⟩ := h.r.shape
  have HO : Hid (OwnT _ _ _ _ _) := h
  clear h
  have HX : Hid (∀ W, Sents W f v p → Calls Tryd.prog 22 #[.int .u8 (byteAt s 0 : Int), .iface 108 (.pointer (some f))] W fun e w' => e = .returned (.string (exB s 1)) ∧ Below W.heap.size W w') := fun W hW => exceptionText_any s 1 (by omega) _ W (exceptionOf_f f v p W hW)
  have hI := index_K s h0
  generalize exB s 1 = R at HX ⊢
  have h8' : ¬ (8000 : Int) < s.size := by omega
  have qE : (s.toList == ([] : List UInt8)) = false := by rw [empty_iff, decide_eq_false (by omega)]
  have HR : Hid (∀ W, Below w.heap.size w W → Calls Tryd.prog 17 #[.agg #[.slice p1 t.cs.length c1, .slice p2 t.rs.length c2]] W fun e w' => e = .returned (.bool true) ∧ Below W.heap.size W w') := fun W hW => by
    have := tableRight_any t p1 p2 c1 c2 W hl1 hl2 (HO.out.c.below hW).row (HO.out.r.below hW).row
    rwa [hT] at this
  obtain ⟨⟨hn1, _⟩, hn2, _⟩ := (Tb.right_iff t).1 hT
  have HCP : Hid (∀ W, Below w.heap.size w W → Calls Tryd.prog 18 #[.agg #[.slice p1 t.cs.length c1, .slice p2 t.rs.length c2]] W fun e w' => ∃ u1 u2, e = .returned (.agg #[u1, u2]) ∧ OwnT w' W.heap.size u1 u2 t ∧ Below W.heap.size W w') := fun W hW => copyTable_any t B _ _ W (by omega) (by omega) (HO.out.below hW)
  have HS : Hid (Sents w f v p) := hS
  clear HO hS
  have hX : Hid _ := blk (heap_alloc_new w (.cells #[.slice p1 t.cs.length c1, .slice p2 t.rs.length c2] 26)) (all_alloc _ (.cells #[.slice none 0 0, .slice none 0 0, .string ⟨#[]⟩, .int .i64 0] 28))
  have hY : Hid _ := heap_alloc_new (w.alloc (.cells #[.slice p1 t.cs.length c1, .slice p2 t.rs.length c2] 26)) (.cells #[.slice none 0 0, .slice none 0 0, .string ⟨#[]⟩, .int .i64 0] 28)
  have hA0 : Below w.heap.size w ((w.alloc (.cells #[.slice p1 t.cs.length c1, .slice p2 t.rs.length c2] 26)).alloc (.cells #[.slice none 0 0, .slice none 0 0, .string ⟨#[]⟩, .int .i64 0] 28)) := keepB (all_alloc w _) (Nat.le_refl _) (all_alloc _ _)
  have e1 : (w.alloc (.cells #[.slice p1 t.cs.length c1, .slice p2 t.rs.length c2] 26)).heap.size = w.heap.size + 1 := by simp
  have e3 : ((w.alloc (.cells #[.slice p1 t.cs.length c1, .slice p2 t.rs.length c2] 26)).alloc (.cells #[.slice none 0 0, .slice none 0 0, .string ⟨#[]⟩, .int .i64 0] 28)).heap.size = w.heap.size + 1 + 1 := by simp
  rw [e1] at hY
  go_enter Tryd.func7, Tryd.ntmps7
  go_upto_region 1 with fail
  generalize (w.alloc (.cells #[.slice p1 t.cs.length c1, .slice p2 t.rs.length c2] 26)).alloc (.cells #[.slice none 0 0, .slice none 0 0, .string ⟨#[]⟩, .int .i64 0] 28) = A at hX hY hA0 e3 ⊢
  clear e1
  have x0 := cellW hX.out 0 _ rfl A (Below.refl _ _)
  have x1 := cellW hX.out 1 _ rfl A (Below.refl _ _)
  go_upto_region 6 with (first
    | (go_at_call 17; refine (HR.out _ hA0).mono ?_; rintro e w1 ⟨rfl, hb1⟩; have a0 := cellW hX.out 0 _ rfl w1 hb1; have a1 := cellW hX.out 1 _ rfl w1 hb1)
    | (go_at_call 18; refine (HCP.out _ (keepB hA0 (Nat.le_refl _) hb1)).mono ?_; rintro e w2 ⟨u1, u2, rfl, own2, hb2⟩; obtain ⟨r1, d1, rfl⟩ := own2.c.shape; obtain ⟨r2, d2, rfl⟩ := own2.r.shape; have hX2 : Hid _ := blk (blk hX.out hb1) hb2; have b0 := cellW hX2.out 0 _ rfl w2 (Below.refl _ _); have b1 := cellW hX2.out 1 _ rfl w2 (Below.refl _ _); have g0 := frozenW hX2.out 0 w2 (Below.refl _ _); have g1 := frozenW hX2.out 1 w2 (Below.refl _ _)))
  have hs1 : w.heap.size + 1 + 1 ≤ w1.heap.size := by have := hb1.size; omega
  have hG3 : Hid (_ = some (Obj.cells #[.slice r1 t.cs.length d1, .slice r2 t.rs.length d2] 26 (0, 0))) := blk_set (blk_set hX2.out 0 (.slice r1 t.cs.length d1)) 1 (.slice r2 t.rs.length d2)
  have hR3 : Hid _ := blk_far (a := ⟨w.heap.size, 1, none⟩) (blk_far (a := ⟨w.heap.size, 0, none⟩) (blk (blk hY.out hb1) hb2) (by simp only; omega) (.slice r1 t.cs.length d1)) (by simp only; omega) (.slice r2 t.rs.length d2)
  have own3 : Hid (OwnT _ (w.heap.size + 1 + 1) (.slice r1 t.cs.length d1) (.slice r2 t.rs.length d2) t) := OwnT.farT (OwnT.farT (OwnT.leT own2 hs1) (a := ⟨w.heap.size, 0, none⟩) (by simp only; omega) (.slice r1 t.cs.length d1)) (a := ⟨w.heap.size, 1, none⟩) (by simp only; omega) (.slice r2 t.rs.length d2)
  have hB3 : Below w.heap.size w ((w2.setCell ⟨w.heap.size, 0, none⟩ (.slice r1 t.cs.length d1)).setCell ⟨w.heap.size, 1, none⟩ (.slice r2 t.rs.length d2)) := ((keepB (keepB hA0 (Nat.le_refl _) hb1) (Nat.le_refl _) hb2).setCell (Nat.le_refl _) _).setCell (Nat.le_refl _) _
  have hs3 : w.heap.size + 1 + 1 ≤ ((w2.setCell ⟨w.heap.size, 0, none⟩ (.slice r1 t.cs.length d1)).setCell ⟨w.heap.size, 1, none⟩ (.slice r2 t.rs.length d2)).heap.size := by simp [World.setCell]; have := hb2.size; omega
  generalize (w2.setCell ⟨w.heap.size, 0, none⟩ (.slice r1 t.cs.length d1)).setCell ⟨w.heap.size, 1, none⟩ (.slice r2 t.rs.length d2) = w3 at hG3 hR3 own3 hB3 hs3 ⊢
  have S3 : Hid (Sents w3 f v p) := HS.out.below hB3
  clear HS HR HCP hb1 hb2 own2 hX hY hX2 b0 b1 g0 g1 a0 a1 x0 x1 hA0 e3 hs1
  clear w1 w2
  have hmf : ∀ (fn : Fn) (first cap : Array Value) (w : World), (Instr.makeFunc fn first cap).run Tryd.prog w = .ok (.func fn first cap) w := fun _ _ _ _ => rfl
  have HTA : Hid (Calls Tryd.prog 21 #[.string s, .func (.func 19) #[] #[.pointer (some ⟨w.heap.size, 0, none⟩)]] w3 fun e w' => e = .returned (.tuple #[.agg #[.int .i64 0, .int .i64 0, .int .i64 0, .slice none 0 0], .iface 108 (.pointer (some f))]) ∧ Below w3.heap.size w3 w') := takeAsk_1 t s w.heap.size r1 r2 d1 d2 f v p w3 h0 h8 (by omega) (by omega) hG3.out S3.out hk
  clear hk
  generalize (byteAt s 0 : Int) = K at hI HX
  go_upto_region 9 with (go_at_call 21; refine HTA.out.mono ?_; rintro e w4 ⟨rfl, hb4⟩)
  have k5 : Below w3.heap.size w3 (w4.alloc (.cells #[.int .i64 0, .int .i64 0, .int .i64 0, .slice none 0 0] 43)) := keepB hb4 (Nat.le_refl _) (all_alloc _ _)
  generalize w4.alloc (.cells #[.int .i64 0, .int .i64 0, .int .i64 0, .slice none 0 0] 43) = A at k5 ⊢
  have hG5 : Hid _ := blk hG3.out k5
  have hR5 : Hid _ := blk hR3.out k5
  have own5 : Hid (OwnT A (w.heap.size + 1 + 1) (.slice r1 t.cs.length d1) (.slice r2 t.rs.length d2) t) := own3.out.below k5
  have S5 : Hid (Sents A f v p) := S3.out.below k5
  have hB5 : Below w.heap.size w A := keepB hB3 (Nat.le_refl _) k5
  have hAd : Below A.heap.size A A.drew := Below.drew (Below.refl _ _)
  clear hG3 hR3 own3 S3 hB3 k5 hb4 HTA hs3
  have q0 := cellW hG5.out 0 _ rfl
  have q1 := cellW hG5.out 1 _ rfl
  go_region_with (go_at_call 22; refine (HX.out _ (S5.out.below hAd)).mono ?_; rintro e w6 ⟨rfl, hb6⟩; have k6 : Below A.heap.size A w6 := keepB hAd (Nat.le_refl _) hb6; have hR6 : Hid _ := blk hR5.out k6; have z0 := cellW hR6.out 0 _ rfl w6 (Below.refl _ _); have z1 := cellW hR6.out 1 _ rfl w6 (Below.refl _ _); have z2 := cellW hR6.out 2 _ rfl w6 (Below.refl _ _); have z3 := cellW hR6.out 3 _ rfl w6 (Below.refl _ _); have f0 := frozenW hR6.out 0 w6 (Below.refl _ _); have f1 := frozenW hR6.out 1 w6 (Below.refl _ _); have f2 := frozenW hR6.out 2 w6 (Below.refl _ _); have f3 := frozenW hR6.out 3 w6 (Below.refl _ _))
  all_goals
    go_wp2
    have own6 : OwnT w6 (w.heap.size + 1 + 1) (.slice r1 t.cs.length d1) (.slice r2 t.rs.length d2) t := own5.out.below k6
    have hB6 : Below w.heap.size w w6 := keepB hB5 (Nat.le_refl _) k6
    exact bodyPost_ret (v := .agg #[.slice r1 t.cs.length d1, .slice r2 t.rs.length d2, .string R, .int .i64 0]) (by simp [results, Tryd.results7, go_sem, z0, z1, z2, z3]) rfl ⟨_, _, rfl, OwnT.leT (OwnT.farT (OwnT.farT (OwnT.farT (OwnT.farT own6 (by simp only; omega) _) (by simp only; omega) _) (by simp only; omega) _) (by simp only; omega) _) (by omega), ((((hB6.setCell (by simp only; omega) _).setCell (by simp only; omega) _).setCell (by simp only; omega) _).setCell (by simp only; omega) _)⟩
set_option maxRecDepth 100000 in
set_option maxHeartbeats 3200000 in
theorem serve_ex3 (t : Tb) (s : ByteArray) (B : Nat) (v1 v2 : Value) (w : World) (hz : s.size ≤ 9223372036854775807) (hl1 : t.cs.length ≤ 10000000) (hl2 : t.rs.length ≤ 10000000) (h : OwnT w B v1 v2 t) (f v p : Addr) (hS : Sents w f v p) (h0 : 0 < s.size) (h8 : s.size ≤ 8000) (hT : t.right = true) (hk : knownB (byteAt s 0 : Int) = true) (hC : ¬ (outA s).2 = 0) :
    Calls Tryd.prog 7 #[.agg #[v1, v2], .string s] w fun e w' => ∃ u1 u2, e = .returned (.agg #[u1, u2, .string (exB s 3), .int .i64 0]) ∧ OwnT w' w.heap.size u1 u2 (t) ∧ Below w.heap.size w w' := by
  obtain ⟨p1, c1, rfl⟩ := h.c.shape
  obtain ⟨p2, c2, rfl⟩ := h.r.shape
  have HO : Hid (OwnT _ _ _ _ _) := h
  clear h
  have HX : Hid (∀ W, Sents W f v p → Calls Tryd.prog 22 #[.int .u8 (byteAt s 0 : Int), .iface 108 (.pointer (some v))] W fun e w' => e = .returned (.string (exB s 3)) ∧ Below W.heap.size W w') := fun W hW => exceptionText_any s 3 (by omega) _ W (exceptionOf_v f v p W hW)
  have hI := index_K s h0
  generalize exB s 3 = R at HX ⊢
  have h8' : ¬ (8000 : Int) < s.size := by omega
  have qE : (s.toList == ([] : List UInt8)) = false := by rw [empty_iff, decide_eq_false (by omega)]
  have HR : Hid (∀ W, Below w.heap.size w W → Calls Tryd.prog 17 #[.agg #[.slice p1 t.cs.length c1, .slice p2 t.rs.length c2]] W fun e w' => e = .returned (.bool true) ∧ Below W.heap.size W w') := fun W hW => by
    have := tableRight_any t p1 p2 c1 c2 W hl1 hl2 (HO.out.c.below hW).row (HO.out.r.below hW).row
    rwa [hT] at this
  obtain ⟨⟨hn1, _⟩, hn2, _⟩ := (Tb.right_iff t).1 hT
  have HCP : Hid (∀ W, Below w.heap.size w W → Calls Tryd.prog 18 #[.agg #[.slice p1 t.cs.length c1, .slice p2 t.rs.length c2]] W fun e w' => ∃ u1 u2, e = .returned (.agg #[u1, u2]) ∧ OwnT w' W.heap.size u1 u2 t ∧ Below W.heap.size W w') := fun W hW => copyTable_any t B _ _ W (by omega) (by omega) (HO.out.below hW)
  have HS : Hid (Sents w f v p) := hS
  clear HO hS
  have hX : Hid _ := blk (heap_alloc_new w (.cells #[.slice p1 t.cs.length c1, .slice p2 t.rs.length c2] 26)) (all_alloc _ (.cells #[.slice none 0 0, .slice none 0 0, .string ⟨#[]⟩, .int .i64 0] 28))
  have hY : Hid _ := heap_alloc_new (w.alloc (.cells #[.slice p1 t.cs.length c1, .slice p2 t.rs.length c2] 26)) (.cells #[.slice none 0 0, .slice none 0 0, .string ⟨#[]⟩, .int .i64 0] 28)
  have hA0 : Below w.heap.size w ((w.alloc (.cells #[.slice p1 t.cs.length c1, .slice p2 t.rs.length c2] 26)).alloc (.cells #[.slice none 0 0, .slice none 0 0, .string ⟨#[]⟩, .int .i64 0] 28)) := keepB (all_alloc w _) (Nat.le_refl _) (all_alloc _ _)
  have e1 : (w.alloc (.cells #[.slice p1 t.cs.length c1, .slice p2 t.rs.length c2] 26)).heap.size = w.heap.size + 1 := by simp
  have e3 : ((w.alloc (.cells #[.slice p1 t.cs.length c1, .slice p2 t.rs.length c2] 26)).alloc (.cells #[.slice none 0 0, .slice none 0 0, .string ⟨#[]⟩, .int .i64 0] 28)).heap.size = w.heap.size + 1 + 1 := by simp
  rw [e1] at hY
  go_enter Tryd.func7, Tryd.ntmps7
  go_upto_region 1 with fail
  generalize (w.alloc (.cells #[.slice p1 t.cs.length c1, .slice p2 t.rs.length c2] 26)).alloc (.cells #[.slice none 0 0, .slice none 0 0, .string ⟨#[]⟩, .int .i64 0] 28) = A at hX hY hA0 e3 ⊢
  clear e1
  have x0 := cellW hX.out 0 _ rfl A (Below.refl _ _)
  have x1 := cellW hX.out 1 _ rfl A (Below.refl _ _)
  go_upto_region 6 with (first
    | (go_at_call 17; refine (HR.out _ hA0).mono ?_; rintro e w1 ⟨rfl, hb1⟩; have a0 := cellW hX.out 0 _ rfl w1 hb1; have a1 := cellW hX.out 1 _ rfl w1 hb1)
    | (go_at_call 18; refine (HCP.out _ (keepB hA0 (Nat.le_refl _) hb1)).mono ?_; rintro e w2 ⟨u1, u2, rfl, own2, hb2⟩; obtain ⟨r1, d1, rfl⟩ := own2.c.shape; obtain ⟨r2, d2, rfl⟩ := own2.r.shape; have hX2 : Hid _ := blk (blk hX.out hb1) hb2; have b0 := cellW hX2.out 0 _ rfl w2 (Below.refl _ _); have b1 := cellW hX2.out 1 _ rfl w2 (Below.refl _ _); have g0 := frozenW hX2.out 0 w2 (Below.refl _ _); have g1 := frozenW hX2.out 1 w2 (Below.refl _ _)))
  have hs1 : w.heap.size + 1 + 1 ≤ w1.heap.size := by have := hb1.size; omega
  have hG3 : Hid (_ = some (Obj.cells #[.slice r1 t.cs.length d1, .slice r2 t.rs.length d2] 26 (0, 0))) := blk_set (blk_set hX2.out 0 (.slice r1 t.cs.length d1)) 1 (.slice r2 t.rs.length d2)
  have hR3 : Hid _ := blk_far (a := ⟨w.heap.size, 1, none⟩) (blk_far (a := ⟨w.heap.size, 0, none⟩) (blk (blk hY.out hb1) hb2) (by simp only; omega) (.slice r1 t.cs.length d1)) (by simp only; omega) (.slice r2 t.rs.length d2)
  have own3 : Hid (OwnT _ (w.heap.size + 1 + 1) (.slice r1 t.cs.length d1) (.slice r2 t.rs.length d2) t) := OwnT.farT (OwnT.farT (OwnT.leT own2 hs1) (a := ⟨w.heap.size, 0, none⟩) (by simp only; omega) (.slice r1 t.cs.length d1)) (a := ⟨w.heap.size, 1, none⟩) (by simp only; omega) (.slice r2 t.rs.length d2)
  have hB3 : Below w.heap.size w ((w2.setCell ⟨w.heap.size, 0, none⟩ (.slice r1 t.cs.length d1)).setCell ⟨w.heap.size, 1, none⟩ (.slice r2 t.rs.length d2)) := ((keepB (keepB hA0 (Nat.le_refl _) hb1) (Nat.le_refl _) hb2).setCell (Nat.le_refl _) _).setCell (Nat.le_refl _) _
  have hs3 : w.heap.size + 1 + 1 ≤ ((w2.setCell ⟨w.heap.size, 0, none⟩ (.slice r1 t.cs.length d1)).setCell ⟨w.heap.size, 1, none⟩ (.slice r2 t.rs.length d2)).heap.size := by simp [World.setCell]; have := hb2.size; omega
  generalize (w2.setCell ⟨w.heap.size, 0, none⟩ (.slice r1 t.cs.length d1)).setCell ⟨w.heap.size, 1, none⟩ (.slice r2 t.rs.length d2) = w3 at hG3 hR3 own3 hB3 hs3 ⊢
  have S3 : Hid (Sents w3 f v p) := HS.out.below hB3
  clear HS HR HCP hb1 hb2 own2 hX hY hX2 b0 b1 g0 g1 a0 a1 x0 x1 hA0 e3 hs1
  clear w1 w2
  have hmf : ∀ (fn : Fn) (first cap : Array Value) (w : World), (Instr.makeFunc fn first cap).run Tryd.prog w = .ok (.func fn first cap) w := fun _ _ _ _ => rfl
  have HTA : Hid (Calls Tryd.prog 21 #[.string s, .func (.func 19) #[] #[.pointer (some ⟨w.heap.size, 0, none⟩)]] w3 fun e w' => e = .returned (.tuple #[.agg #[.int .i64 0, .int .i64 0, .int .i64 0, .slice none 0 0], .iface 108 (.pointer (some v))]) ∧ Below w3.heap.size w3 w') := takeAsk_3 t s w.heap.size r1 r2 d1 d2 f v p w3 h0 h8 (by omega) (by omega) hG3.out S3.out hk hC
  clear hk hC
  generalize (byteAt s 0 : Int) = K at hI HX
  go_upto_region 9 with (go_at_call 21; refine HTA.out.mono ?_; rintro e w4 ⟨rfl, hb4⟩)
  have k5 : Below w3.heap.size w3 (w4.alloc (.cells #[.int .i64 0, .int .i64 0, .int .i64 0, .slice none 0 0] 43)) := keepB hb4 (Nat.le_refl _) (all_alloc _ _)
  generalize w4.alloc (.cells #[.int .i64 0, .int .i64 0, .int .i64 0, .slice none 0 0] 43) = A at k5 ⊢
  have hG5 : Hid _ := blk hG3.out k5
  have hR5 : Hid _ := blk hR3.out k5
  have own5 : Hid (OwnT A (w.heap.size + 1 + 1) (.slice r1 t.cs.length d1) (.slice r2 t.rs.length d2) t) := own3.out.below k5
  have S5 : Hid (Sents A f v p) := S3.out.below k5
  have hB5 : Below w.heap.size w A := keepB hB3 (Nat.le_refl _) k5
  have hAd : Below A.heap.size A A.drew := Below.drew (Below.refl _ _)
  clear hG3 hR3 own3 S3 hB3 k5 hb4 HTA hs3
  have q0 := cellW hG5.out 0 _ rfl
  have q1 := cellW hG5.out 1 _ rfl
  go_region_with (go_at_call 22; refine (HX.out _ (S5.out.below hAd)).mono ?_; rintro e w6 ⟨rfl, hb6⟩; have k6 : Below A.heap.size A w6 := keepB hAd (Nat.le_refl _) hb6; have hR6 : Hid _ := blk hR5.out k6; have z0 := cellW hR6.out 0 _ rfl w6 (Below.refl _ _); have z1 := cellW hR6.out 1 _ rfl w6 (Below.refl _ _); have z2 := cellW hR6.out 2 _ rfl w6 (Below.refl _ _); have z3 := cellW hR6.out 3 _ rfl w6 (Below.refl _ _); have f0 := frozenW hR6.out 0 w6 (Below.refl _ _); have f1 := frozenW hR6.out 1 w6 (Below.refl _ _); have f2 := frozenW hR6.out 2 w6 (Below.refl _ _); have f3 := frozenW hR6.out 3 w6 (Below.refl _ _))
  all_goals
    go_wp2
    have own6 : OwnT w6 (w.heap.size + 1 + 1) (.slice r1 t.cs.length d1) (.slice r2 t.rs.length d2) t := own5.out.below k6
    have hB6 : Below w.heap.size w w6 := keepB hB5 (Nat.le_refl _) k6
    exact bodyPost_ret (v := .agg #[.slice r1 t.cs.length d1, .slice r2 t.rs.length d2, .string R, .int .i64 0]) (by simp [results, Tryd.results7, go_sem, z0, z1, z2, z3]) rfl ⟨_, _, rfl, OwnT.leT (OwnT.farT (OwnT.farT (OwnT.farT (OwnT.farT own6 (by simp only; omega) _) (by simp only; omega) _) (by simp only; omega) _) (by simp only; omega) _) (by omega), ((((hB6.setCell (by simp only; omega) _).setCell (by simp only; omega) _).setCell (by simp only; omega) _).setCell (by simp only; omega) _)⟩
set_option maxRecDepth 100000 in
set_option maxHeartbeats 3200000 in
theorem serve_ex2 (t : Tb) (s : ByteArray) (B : Nat) (v1 v2 : Value) (w : World) (hz : s.size ≤ 9223372036854775807) (hl1 : t.cs.length ≤ 10000000) (hl2 : t.rs.length ≤ 10000000) (h : OwnT w B v1 v2 t) (f v p : Addr) (hS : Sents w f v p) (h0 : 0 < s.size) (h8 : s.size ≤ 8000) (hT : t.right = true) (hk : knownB (byteAt s 0 : Int) = true) (hC : (outA s).2 = 0) (hTh : thereB t (outA s).1 = false) :
    Calls Tryd.prog 7 #[.agg #[v1, v2], .string s] w fun e w' => ∃ u1 u2, e = .returned (.agg #[u1, u2, .string (exB s 2), .int .i64 0]) ∧ OwnT w' w.heap.size u1 u2 (t) ∧ Below w.heap.size w w' := by
  obtain ⟨p1, c1, rfl⟩ := h.c.shape
  obtain ⟨p2, c2, rfl⟩ := h.r.shape
  have HO : Hid (OwnT _ _ _ _ _) := h
  clear h
  have HX : Hid (∀ W, Sents W f v p → Calls Tryd.prog 22 #[.int .u8 (byteAt s 0 : Int), .iface 108 (.pointer (some p))] W fun e w' => e = .returned (.string (exB s 2)) ∧ Below W.heap.size W w') := fun W hW => exceptionText_any s 2 (by omega) _ W (exceptionOf_p f v p W hW)
  have hI := index_K s h0
  generalize exB s 2 = R at HX ⊢
  have h8' : ¬ (8000 : Int) < s.size := by omega
  have qE : (s.toList == ([] : List UInt8)) = false := by rw [empty_iff, decide_eq_false (by omega)]
  have HR : Hid (∀ W, Below w.heap.size w W → Calls Tryd.prog 17 #[.agg #[.slice p1 t.cs.length c1, .slice p2 t.rs.length c2]] W fun e w' => e = .returned (.bool true) ∧ Below W.heap.size W w') := fun W hW => by
    have := tableRight_any t p1 p2 c1 c2 W hl1 hl2 (HO.out.c.below hW).row (HO.out.r.below hW).row
    rwa [hT] at this
  obtain ⟨⟨hn1, _⟩, hn2, _⟩ := (Tb.right_iff t).1 hT
  have HCP : Hid (∀ W, Below w.heap.size w W → Calls Tryd.prog 18 #[.agg #[.slice p1 t.cs.length c1, .slice p2 t.rs.length c2]] W fun e w' => ∃ u1 u2, e = .returned (.agg #[u1, u2]) ∧ OwnT w' W.heap.size u1 u2 t ∧ Below W.heap.size W w') := fun W hW => copyTable_any t B _ _ W (by omega) (by omega) (HO.out.below hW)
  have HS : Hid (Sents w f v p) := hS
  clear HO hS
  have hX : Hid _ := blk (heap_alloc_new w (.cells #[.slice p1 t.cs.length c1, .slice p2 t.rs.length c2] 26)) (all_alloc _ (.cells #[.slice none 0 0, .slice none 0 0, .string ⟨#[]⟩, .int .i64 0] 28))
  have hY : Hid _ := heap_alloc_new (w.alloc (.cells #[.slice p1 t.cs.length c1, .slice p2 t.rs.length c2] 26)) (.cells #[.slice none 0 0, .slice none 0 0, .string ⟨#[]⟩, .int .i64 0] 28)
  have hA0 : Below w.heap.size w ((w.alloc (.cells #[.slice p1 t.cs.length c1, .slice p2 t.rs.length c2] 26)).alloc (.cells #[.slice none 0 0, .slice none 0 0, .string ⟨#[]⟩, .int .i64 0] 28)) := keepB (all_alloc w _) (Nat.le_refl _) (all_alloc _ _)
  have e1 : (w.alloc (.cells #[.slice p1 t.cs.length c1, .slice p2 t.rs.length c2] 26)).heap.size = w.heap.size + 1 := by simp
  have e3 : ((w.alloc (.cells #[.slice p1 t.cs.length c1, .slice p2 t.rs.length c2] 26)).alloc (.cells #[.slice none 0 0, .slice none 0 0, .string ⟨#[]⟩, .int .i64 0] 28)).heap.size = w.heap.size + 1 + 1 := by simp
  rw [e1] at hY
  go_enter Tryd.func7, Tryd.ntmps7
  go_upto_region 1 with fail
  generalize (w.alloc (.cells #[.slice p1 t.cs.length c1, .slice p2 t.rs.length c2] 26)).alloc (.cells #[.slice none 0 0, .slice none 0 0, .string ⟨#[]⟩, .int .i64 0] 28) = A at hX hY hA0 e3 ⊢
  clear e1
  have x0 := cellW hX.out 0 _ rfl A (Below.refl _ _)
  have x1 := cellW hX.out 1 _ rfl A (Below.refl _ _)
  go_upto_region 6 with (first
    | (go_at_call 17; refine (HR.out _ hA0).mono ?_; rintro e w1 ⟨rfl, hb1⟩; have a0 := cellW hX.out 0 _ rfl w1 hb1; have a1 := cellW hX.out 1 _ rfl w1 hb1)
    | (go_at_call 18; refine (HCP.out _ (keepB hA0 (Nat.le_refl _) hb1)).mono ?_; rintro e w2 ⟨u1, u2, rfl, own2, hb2⟩; obtain ⟨r1, d1, rfl⟩ := own2.c.shape; obtain ⟨r2, d2, rfl⟩ := own2.r.shape; have hX2 : Hid _ := blk (blk hX.out hb1) hb2; have b0 := cellW hX2.out 0 _ rfl w2 (Below.refl _ _); have b1 := cellW hX2.out 1 _ rfl w2 (Below.refl _ _); have g0 := frozenW hX2.out 0 w2 (Below.refl _ _); have g1 := frozenW hX2.out 1 w2 (Below.refl _ _)))
  have hs1 : w.heap.size + 1 + 1 ≤ w1.heap.size := by have := hb1.size; omega
  have hG3 : Hid (_ = some (Obj.cells #[.slice r1 t.cs.length d1, .slice r2 t.rs.length d2] 26 (0, 0))) := blk_set (blk_set hX2.out 0 (.slice r1 t.cs.length d1)) 1 (.slice r2 t.rs.length d2)
  have hR3 : Hid _ := blk_far (a := ⟨w.heap.size, 1, none⟩) (blk_far (a := ⟨w.heap.size, 0, none⟩) (blk (blk hY.out hb1) hb2) (by simp only; omega) (.slice r1 t.cs.length d1)) (by simp only; omega) (.slice r2 t.rs.length d2)
  have own3 : Hid (OwnT _ (w.heap.size + 1 + 1) (.slice r1 t.cs.length d1) (.slice r2 t.rs.length d2) t) := OwnT.farT (OwnT.farT (OwnT.leT own2 hs1) (a := ⟨w.heap.size, 0, none⟩) (by simp only; omega) (.slice r1 t.cs.length d1)) (a := ⟨w.heap.size, 1, none⟩) (by simp only; omega) (.slice r2 t.rs.length d2)
  have hB3 : Below w.heap.size w ((w2.setCell ⟨w.heap.size, 0, none⟩ (.slice r1 t.cs.length d1)).setCell ⟨w.heap.size, 1, none⟩ (.slice r2 t.rs.length d2)) := ((keepB (keepB hA0 (Nat.le_refl _) hb1) (Nat.le_refl _) hb2).setCell (Nat.le_refl _) _).setCell (Nat.le_refl _) _
  have hs3 : w.heap.size + 1 + 1 ≤ ((w2.setCell ⟨w.heap.size, 0, none⟩ (.slice r1 t.cs.length d1)).setCell ⟨w.heap.size, 1, none⟩ (.slice r2 t.rs.length d2)).heap.size := by simp [World.setCell]; have := hb2.size; omega
  generalize (w2.setCell ⟨w.heap.size, 0, none⟩ (.slice r1 t.cs.length d1)).setCell ⟨w.heap.size, 1, none⟩ (.slice r2 t.rs.length d2) = w3 at hG3 hR3 own3 hB3 hs3 ⊢
  have S3 : Hid (Sents w3 f v p) := HS.out.below hB3
  clear HS HR HCP hb1 hb2 own2 hX hY hX2 b0 b1 g0 g1 a0 a1 x0 x1 hA0 e3 hs1
  clear w1 w2
  have hmf : ∀ (fn : Fn) (first cap : Array Value) (w : World), (Instr.makeFunc fn first cap).run Tryd.prog w = .ok (.func fn first cap) w := fun _ _ _ _ => rfl
  have HTA : Hid (Calls Tryd.prog 21 #[.string s, .func (.func 19) #[] #[.pointer (some ⟨w.heap.size, 0, none⟩)]] w3 fun e w' => e = .returned (.tuple #[.agg #[.int .i64 0, .int .i64 0, .int .i64 0, .slice none 0 0], .iface 108 (.pointer (some p))]) ∧ Below w3.heap.size w3 w') := takeAsk_2 t s w.heap.size r1 r2 d1 d2 f v p w3 h0 h8 (by omega) (by omega) hG3.out S3.out hk hC hTh
  clear hk hC hTh
  generalize (byteAt s 0 : Int) = K at hI HX
  go_upto_region 9 with (go_at_call 21; refine HTA.out.mono ?_; rintro e w4 ⟨rfl, hb4⟩)
  have k5 : Below w3.heap.size w3 (w4.alloc (.cells #[.int .i64 0, .int .i64 0, .int .i64 0, .slice none 0 0] 43)) := keepB hb4 (Nat.le_refl _) (all_alloc _ _)
  generalize w4.alloc (.cells #[.int .i64 0, .int .i64 0, .int .i64 0, .slice none 0 0] 43) = A at k5 ⊢
  have hG5 : Hid _ := blk hG3.out k5
  have hR5 : Hid _ := blk hR3.out k5
  have own5 : Hid (OwnT A (w.heap.size + 1 + 1) (.slice r1 t.cs.length d1) (.slice r2 t.rs.length d2) t) := own3.out.below k5
  have S5 : Hid (Sents A f v p) := S3.out.below k5
  have hB5 : Below w.heap.size w A := keepB hB3 (Nat.le_refl _) k5
  have hAd : Below A.heap.size A A.drew := Below.drew (Below.refl _ _)
  clear hG3 hR3 own3 S3 hB3 k5 hb4 HTA hs3
  have q0 := cellW hG5.out 0 _ rfl
  have q1 := cellW hG5.out 1 _ rfl
  go_region_with (go_at_call 22; refine (HX.out _ (S5.out.below hAd)).mono ?_; rintro e w6 ⟨rfl, hb6⟩; have k6 : Below A.heap.size A w6 := keepB hAd (Nat.le_refl _) hb6; have hR6 : Hid _ := blk hR5.out k6; have z0 := cellW hR6.out 0 _ rfl w6 (Below.refl _ _); have z1 := cellW hR6.out 1 _ rfl w6 (Below.refl _ _); have z2 := cellW hR6.out 2 _ rfl w6 (Below.refl _ _); have z3 := cellW hR6.out 3 _ rfl w6 (Below.refl _ _); have f0 := frozenW hR6.out 0 w6 (Below.refl _ _); have f1 := frozenW hR6.out 1 w6 (Below.refl _ _); have f2 := frozenW hR6.out 2 w6 (Below.refl _ _); have f3 := frozenW hR6.out 3 w6 (Below.refl _ _))
  all_goals
    go_wp2
    have own6 : OwnT w6 (w.heap.size + 1 + 1) (.slice r1 t.cs.length d1) (.slice r2 t.rs.length d2) t := own5.out.below k6
    have hB6 : Below w.heap.size w w6 := keepB hB5 (Nat.le_refl _) k6
    exact bodyPost_ret (v := .agg #[.slice r1 t.cs.length d1, .slice r2 t.rs.length d2, .string R, .int .i64 0]) (by simp [results, Tryd.results7, go_sem, z0, z1, z2, z3]) rfl ⟨_, _, rfl, OwnT.leT (OwnT.farT (OwnT.farT (OwnT.farT (OwnT.farT own6 (by simp only; omega) _) (by simp only; omega) _) (by simp only; omega) _) (by simp only; omega) _) (by omega), ((((hB6.setCell (by simp only; omega) _).setCell (by simp only; omega) _).setCell (by simp only; omega) _).setCell (by simp only; omega) _)⟩
end Go.Proofs.YtfpibedloodjlabDoor
