/- A QUESTION SERVED: both, over what is answered. -/
import Derived.Test.YtfpibedloodjlabDoorSvG
import Derived.Test.YtfpibedloodjlabDoorSvK
namespace Go.Proofs.YtfpibedloodjlabDoor
open Go.RowKit
set_option linter.unusedVariables false
set_option linter.unusedSimpArgs false

set_option maxRecDepth 100000 in
set_option maxHeartbeats 3200000 in
theorem specServe_long (t : Tb) (s : ByteArray) (B : Nat) (v1 v2 : Value) (w : World) (hz : s.size ≤ 9223372036854775807) (hl1 : t.cs.length ≤ 10000000) (hl2 : t.rs.length ≤ 10000000) (h : OwnT w B v1 v2 t) (h8 : 8000 < s.size) :
    Calls Tryd.prog 5 #[.agg #[v1, v2], .string s] w fun e w' => ∃ u1 u2, e = .returned (.agg #[u1, u2, .string (ByteArray.empty), .int .i64 2]) ∧ OwnT w' w.heap.size u1 u2 (zeroT) ∧ Below w.heap.size w w' := by
  obtain ⟨p1, c1, rfl⟩ := h.c.shape
  obtain ⟨p2, c2, rfl⟩ := h.r.shape
  have HO : Hid (OwnT _ _ _ _ _) := h
  clear h
  have h8' : (8000 : Int) < s.size := by omega
  clear HO
  have hX : Hid _ := blk (heap_alloc_new w (.cells #[.slice p1 t.cs.length c1, .slice p2 t.rs.length c2] 26)) (all_alloc _ (.cells #[.slice none 0 0, .slice none 0 0, .string ⟨#[]⟩, .int .i64 0] 28))
  have hY : Hid _ := heap_alloc_new (w.alloc (.cells #[.slice p1 t.cs.length c1, .slice p2 t.rs.length c2] 26)) (.cells #[.slice none 0 0, .slice none 0 0, .string ⟨#[]⟩, .int .i64 0] 28)
  have hA0 : Below w.heap.size w ((w.alloc (.cells #[.slice p1 t.cs.length c1, .slice p2 t.rs.length c2] 26)).alloc (.cells #[.slice none 0 0, .slice none 0 0, .string ⟨#[]⟩, .int .i64 0] 28)) := keepB (all_alloc w _) (Nat.le_refl _) (all_alloc _ _)
  have e1 : (w.alloc (.cells #[.slice p1 t.cs.length c1, .slice p2 t.rs.length c2] 26)).heap.size = w.heap.size + 1 := by simp
  have e3 : ((w.alloc (.cells #[.slice p1 t.cs.length c1, .slice p2 t.rs.length c2] 26)).alloc (.cells #[.slice none 0 0, .slice none 0 0, .string ⟨#[]⟩, .int .i64 0] 28)).heap.size = w.heap.size + 1 + 1 := by simp
  rw [e1] at hY
  go_enter Tryd.func5, Tryd.ntmps5
  go_upto_region 1 with fail
  generalize (w.alloc (.cells #[.slice p1 t.cs.length c1, .slice p2 t.rs.length c2] 26)).alloc (.cells #[.slice none 0 0, .slice none 0 0, .string ⟨#[]⟩, .int .i64 0] 28) = A at hX hY hA0 e3 ⊢
  clear e1
  have y0 := cellW hY.out 0 _ rfl A (Below.refl _ _)
  have y1 := cellW hY.out 1 _ rfl A (Below.refl _ _)
  have y2 := cellW hY.out 2 _ rfl A (Below.refl _ _)
  have y3 := cellW hY.out 3 _ rfl A (Below.refl _ _)
  have fy0 := frozenW hY.out 0 A (Below.refl _ _)
  have fy1 := frozenW hY.out 1 A (Below.refl _ _)
  have fy2 := frozenW hY.out 2 A (Below.refl _ _)
  have fy3 := frozenW hY.out 3 A (Below.refl _ _)
  have x0 := cellW hX.out 0 _ rfl A (Below.refl _ _)
  have x1 := cellW hX.out 1 _ rfl A (Below.refl _ _)
  go_wp2
  exact bodyPost_ret (v := .agg #[.slice none 0 0, .slice none 0 0, .string ⟨#[]⟩, .int .i64 2]) (by simp [results, Tryd.results5, go_sem, y0, y1, y2, y3]; try rfl) rfl ⟨_, _, rfl, ⟨OwnI.nil _ _, OwnI.nil _ _, fun a b h => by cases h⟩, by first | exact hA0 | exact ((((hA0.setCell (by simp only; omega) _).setCell (by simp only; omega) _).setCell (by simp only; omega) _).setCell (by simp only; omega) _)⟩
set_option maxRecDepth 100000 in
set_option maxHeartbeats 3200000 in
theorem specServe_wrong (t : Tb) (s : ByteArray) (B : Nat) (v1 v2 : Value) (w : World) (hz : s.size ≤ 9223372036854775807) (hl1 : t.cs.length ≤ 10000000) (hl2 : t.rs.length ≤ 10000000) (h : OwnT w B v1 v2 t) (h8 : s.size ≤ 8000) (hT : t.right = false) :
    Calls Tryd.prog 5 #[.agg #[v1, v2], .string s] w fun e w' => ∃ u1 u2, e = .returned (.agg #[u1, u2, .string (ByteArray.empty), .int .i64 1]) ∧ OwnT w' w.heap.size u1 u2 (zeroT) ∧ Below w.heap.size w w' := by
  obtain ⟨p1, c1, rfl⟩ := h.c.shape
  obtain ⟨p2, c2, rfl⟩ := h.r.shape
  have HO : Hid (OwnT _ _ _ _ _) := h
  clear h
  have HR : Hid (∀ W, Below w.heap.size w W → Calls Tryd.prog 14 #[.agg #[.slice p1 t.cs.length c1, .slice p2 t.rs.length c2]] W fun e w' => e = .returned (.bool false) ∧ Below W.heap.size W w') := fun W hW => by
    have := specTableRight_any t p1 p2 c1 c2 W hl1 hl2 (HO.out.c.below hW).row (HO.out.r.below hW).row
    rwa [hT] at this
  have h8' : ¬ (8000 : Int) < s.size := by omega
  clear HO
  have hX : Hid _ := blk (heap_alloc_new w (.cells #[.slice p1 t.cs.length c1, .slice p2 t.rs.length c2] 26)) (all_alloc _ (.cells #[.slice none 0 0, .slice none 0 0, .string ⟨#[]⟩, .int .i64 0] 28))
  have hY : Hid _ := heap_alloc_new (w.alloc (.cells #[.slice p1 t.cs.length c1, .slice p2 t.rs.length c2] 26)) (.cells #[.slice none 0 0, .slice none 0 0, .string ⟨#[]⟩, .int .i64 0] 28)
  have hA0 : Below w.heap.size w ((w.alloc (.cells #[.slice p1 t.cs.length c1, .slice p2 t.rs.length c2] 26)).alloc (.cells #[.slice none 0 0, .slice none 0 0, .string ⟨#[]⟩, .int .i64 0] 28)) := keepB (all_alloc w _) (Nat.le_refl _) (all_alloc _ _)
  have e1 : (w.alloc (.cells #[.slice p1 t.cs.length c1, .slice p2 t.rs.length c2] 26)).heap.size = w.heap.size + 1 := by simp
  have e3 : ((w.alloc (.cells #[.slice p1 t.cs.length c1, .slice p2 t.rs.length c2] 26)).alloc (.cells #[.slice none 0 0, .slice none 0 0, .string ⟨#[]⟩, .int .i64 0] 28)).heap.size = w.heap.size + 1 + 1 := by simp
  rw [e1] at hY
  go_enter Tryd.func5, Tryd.ntmps5
  go_upto_region 1 with fail
  generalize (w.alloc (.cells #[.slice p1 t.cs.length c1, .slice p2 t.rs.length c2] 26)).alloc (.cells #[.slice none 0 0, .slice none 0 0, .string ⟨#[]⟩, .int .i64 0] 28) = A at hX hY hA0 e3 ⊢
  clear e1
  have y0 := cellW hY.out 0 _ rfl A (Below.refl _ _)
  have y1 := cellW hY.out 1 _ rfl A (Below.refl _ _)
  have y2 := cellW hY.out 2 _ rfl A (Below.refl _ _)
  have y3 := cellW hY.out 3 _ rfl A (Below.refl _ _)
  have fy0 := frozenW hY.out 0 A (Below.refl _ _)
  have fy1 := frozenW hY.out 1 A (Below.refl _ _)
  have fy2 := frozenW hY.out 2 A (Below.refl _ _)
  have fy3 := frozenW hY.out 3 A (Below.refl _ _)
  have x0 := cellW hX.out 0 _ rfl A (Below.refl _ _)
  have x1 := cellW hX.out 1 _ rfl A (Below.refl _ _)
  go_wp2_with (go_at_call 14; refine (HR.out _ hA0).mono ?_; rintro e w1 ⟨rfl, hb1⟩; have hY1 : Hid _ := blk hY.out hb1; have hB1 := keepB hA0 (Nat.le_refl _) hb1; have z0 := cellW hY1.out 0 _ rfl w1 (Below.refl _ _); have fz0 := frozenW hY1.out 0 w1 (Below.refl _ _); have z1 := cellW hY1.out 1 _ rfl w1 (Below.refl _ _); have fz1 := frozenW hY1.out 1 w1 (Below.refl _ _); have z2 := cellW hY1.out 2 _ rfl w1 (Below.refl _ _); have fz2 := frozenW hY1.out 2 w1 (Below.refl _ _); have z3 := cellW hY1.out 3 _ rfl w1 (Below.refl _ _); have fz3 := frozenW hY1.out 3 w1 (Below.refl _ _))
  exact bodyPost_ret (v := .agg #[.slice none 0 0, .slice none 0 0, .string ⟨#[]⟩, .int .i64 1]) (by simp [results, Tryd.results5, go_sem, z0, z1, z2, z3]; try rfl) rfl ⟨_, _, rfl, ⟨OwnI.nil _ _, OwnI.nil _ _, fun a b h => by cases h⟩, by first | exact hB1 | exact ((((hB1.setCell (by simp only; omega) _).setCell (by simp only; omega) _).setCell (by simp only; omega) _).setCell (by simp only; omega) _)⟩
set_option maxRecDepth 100000 in
set_option maxHeartbeats 3200000 in
theorem specServe_empty (t : Tb) (s : ByteArray) (B : Nat) (v1 v2 : Value) (w : World) (hz : s.size ≤ 9223372036854775807) (hl1 : t.cs.length ≤ 10000000) (hl2 : t.rs.length ≤ 10000000) (h : OwnT w B v1 v2 t) (h8 : s.size = 0) (hT : t.right = true) :
    Calls Tryd.prog 5 #[.agg #[v1, v2], .string s] w fun e w' => ∃ u1 u2, e = .returned (.agg #[u1, u2, .string (ByteArray.empty), .int .i64 1]) ∧ OwnT w' w.heap.size u1 u2 (zeroT) ∧ Below w.heap.size w w' := by
  obtain ⟨p1, c1, rfl⟩ := h.c.shape
  obtain ⟨p2, c2, rfl⟩ := h.r.shape
  have HO : Hid (OwnT _ _ _ _ _) := h
  clear h
  have HR : Hid (∀ W, Below w.heap.size w W → Calls Tryd.prog 14 #[.agg #[.slice p1 t.cs.length c1, .slice p2 t.rs.length c2]] W fun e w' => e = .returned (.bool true) ∧ Below W.heap.size W w') := fun W hW => by
    have := specTableRight_any t p1 p2 c1 c2 W hl1 hl2 (HO.out.c.below hW).row (HO.out.r.below hW).row
    rwa [hT] at this
  have h8' : ¬ (8000 : Int) < s.size := by omega
  have qE : (s.toList == ([] : List UInt8)) = true := by rw [empty_iff, decide_eq_true h8]
  clear HO
  have hX : Hid _ := blk (heap_alloc_new w (.cells #[.slice p1 t.cs.length c1, .slice p2 t.rs.length c2] 26)) (all_alloc _ (.cells #[.slice none 0 0, .slice none 0 0, .string ⟨#[]⟩, .int .i64 0] 28))
  have hY : Hid _ := heap_alloc_new (w.alloc (.cells #[.slice p1 t.cs.length c1, .slice p2 t.rs.length c2] 26)) (.cells #[.slice none 0 0, .slice none 0 0, .string ⟨#[]⟩, .int .i64 0] 28)
  have hA0 : Below w.heap.size w ((w.alloc (.cells #[.slice p1 t.cs.length c1, .slice p2 t.rs.length c2] 26)).alloc (.cells #[.slice none 0 0, .slice none 0 0, .string ⟨#[]⟩, .int .i64 0] 28)) := keepB (all_alloc w _) (Nat.le_refl _) (all_alloc _ _)
  have e1 : (w.alloc (.cells #[.slice p1 t.cs.length c1, .slice p2 t.rs.length c2] 26)).heap.size = w.heap.size + 1 := by simp
  have e3 : ((w.alloc (.cells #[.slice p1 t.cs.length c1, .slice p2 t.rs.length c2] 26)).alloc (.cells #[.slice none 0 0, .slice none 0 0, .string ⟨#[]⟩, .int .i64 0] 28)).heap.size = w.heap.size + 1 + 1 := by simp
  rw [e1] at hY
  go_enter Tryd.func5, Tryd.ntmps5
  go_upto_region 1 with fail
  generalize (w.alloc (.cells #[.slice p1 t.cs.length c1, .slice p2 t.rs.length c2] 26)).alloc (.cells #[.slice none 0 0, .slice none 0 0, .string ⟨#[]⟩, .int .i64 0] 28) = A at hX hY hA0 e3 ⊢
  clear e1
  have y0 := cellW hY.out 0 _ rfl A (Below.refl _ _)
  have y1 := cellW hY.out 1 _ rfl A (Below.refl _ _)
  have y2 := cellW hY.out 2 _ rfl A (Below.refl _ _)
  have y3 := cellW hY.out 3 _ rfl A (Below.refl _ _)
  have fy0 := frozenW hY.out 0 A (Below.refl _ _)
  have fy1 := frozenW hY.out 1 A (Below.refl _ _)
  have fy2 := frozenW hY.out 2 A (Below.refl _ _)
  have fy3 := frozenW hY.out 3 A (Below.refl _ _)
  have x0 := cellW hX.out 0 _ rfl A (Below.refl _ _)
  have x1 := cellW hX.out 1 _ rfl A (Below.refl _ _)
  go_wp2_with (go_at_call 14; refine (HR.out _ hA0).mono ?_; rintro e w1 ⟨rfl, hb1⟩; have hY1 : Hid _ := blk hY.out hb1; have hB1 := keepB hA0 (Nat.le_refl _) hb1; have z0 := cellW hY1.out 0 _ rfl w1 (Below.refl _ _); have fz0 := frozenW hY1.out 0 w1 (Below.refl _ _); have z1 := cellW hY1.out 1 _ rfl w1 (Below.refl _ _); have fz1 := frozenW hY1.out 1 w1 (Below.refl _ _); have z2 := cellW hY1.out 2 _ rfl w1 (Below.refl _ _); have fz2 := frozenW hY1.out 2 w1 (Below.refl _ _); have z3 := cellW hY1.out 3 _ rfl w1 (Below.refl _ _); have fz3 := frozenW hY1.out 3 w1 (Below.refl _ _))
  exact bodyPost_ret (v := .agg #[.slice none 0 0, .slice none 0 0, .string ⟨#[]⟩, .int .i64 1]) (by simp [results, Tryd.results5, go_sem, z0, z1, z2, z3]; try rfl) rfl ⟨_, _, rfl, ⟨OwnI.nil _ _, OwnI.nil _ _, fun a b h => by cases h⟩, by first | exact hB1 | exact ((((hB1.setCell (by simp only; omega) _).setCell (by simp only; omega) _).setCell (by simp only; omega) _).setCell (by simp only; omega) _)⟩
theorem l05Any_any (t : Tb) (s : ByteArray) (B : Nat) (v1 v2 : Value) (w : World) (h0 : 0 < s.size) (h8 : s.size ≤ 8000) (hT : t.right = true) (h : OwnT w B v1 v2 t) :
    Calls Tryd.prog 15 #[.agg #[v1, v2], .string s] w fun e w' => ∃ u1 u2, e = .returned (.tuple #[.agg #[u1, u2], .string (serveT t s).2]) ∧ OwnT w' w.heap.size u1 u2 (serveT t s).1 ∧ Below w.heap.size w w' := by
  unfold serveT
  cases hk : knownB (byteAt s 0 : Int) with
  | false =>
    have hb := badT_1 (t := t) hk
    rw [if_neg (by rw [hb]; decide), hb]
    exact l05Any_bad t s B v1 v2 w h0 h8 hT h 1 (by omega) hb
  | true =>
    by_cases hC : (outA s).2 = 0
    · cases hTh : thereB t (outA s).1 with
      | false =>
        have hb := badT_2 hk hC hTh
        rw [if_neg (by rw [hb]; decide), hb]
        exact l05Any_bad t s B v1 v2 w h0 h8 hT h 2 (by omega) hb
      | true =>
        have hb := badT_0 hk hC hTh
        rw [if_pos hb]
        exact l05Any_good t s B v1 v2 w h0 h8 hT h hk hC hTh
    · have hb := badT_3 (t := t) hk hC
      rw [if_neg (by rw [hb]; decide), hb]
      exact l05Any_bad t s B v1 v2 w h0 h8 hT h 3 (by omega) hb
set_option maxRecDepth 100000 in
set_option maxHeartbeats 3200000 in
theorem specServe_mid (t : Tb) (s : ByteArray) (B : Nat) (v1 v2 : Value) (w : World) (hz : s.size ≤ 9223372036854775807) (hl1 : t.cs.length ≤ 10000000) (hl2 : t.rs.length ≤ 10000000) (h : OwnT w B v1 v2 t) (h0 : 0 < s.size) (h8 : s.size ≤ 8000) (hT : t.right = true) :
    Calls Tryd.prog 5 #[.agg #[v1, v2], .string s] w fun e w' => ∃ u1 u2, e = .returned (.agg #[u1, u2, .string ((serveT t s).2), .int .i64 0]) ∧ OwnT w' w.heap.size u1 u2 ((serveT t s).1) ∧ Below w.heap.size w w' := by
  obtain ⟨p1, c1, rfl⟩ := h.c.shape
  obtain ⟨p2, c2, rfl⟩ := h.r.shape
  have HO : Hid (OwnT _ _ _ _ _) := h
  clear h
  have h8' : ¬ (8000 : Int) < s.size := by omega
  have qE : (s.toList == ([] : List UInt8)) = false := by rw [empty_iff, decide_eq_false (by omega)]
  have HR : Hid (∀ W, Below w.heap.size w W → Calls Tryd.prog 14 #[.agg #[.slice p1 t.cs.length c1, .slice p2 t.rs.length c2]] W fun e w' => e = .returned (.bool true) ∧ Below W.heap.size W w') := fun W hW => by
    have := specTableRight_any t p1 p2 c1 c2 W hl1 hl2 (HO.out.c.below hW).row (HO.out.r.below hW).row
    rwa [hT] at this
  have HAN : Hid (∀ W, Below w.heap.size w W → Calls Tryd.prog 15 #[.agg #[.slice p1 t.cs.length c1, .slice p2 t.rs.length c2], .string s] W fun e w' => ∃ u1 u2, e = .returned (.tuple #[.agg #[u1, u2], .string (serveT t s).2]) ∧ OwnT w' W.heap.size u1 u2 (serveT t s).1 ∧ Below W.heap.size W w') := fun W hW => l05Any_any t s B _ _ W h0 h8 hT (HO.out.below hW)
  generalize (serveT t s).2 = R at HAN ⊢
  generalize (serveT t s).1 = T' at HAN ⊢
  clear HO
  have hX : Hid _ := blk (heap_alloc_new w (.cells #[.slice p1 t.cs.length c1, .slice p2 t.rs.length c2] 26)) (all_alloc _ (.cells #[.slice none 0 0, .slice none 0 0, .string ⟨#[]⟩, .int .i64 0] 28))
  have hY : Hid _ := heap_alloc_new (w.alloc (.cells #[.slice p1 t.cs.length c1, .slice p2 t.rs.length c2] 26)) (.cells #[.slice none 0 0, .slice none 0 0, .string ⟨#[]⟩, .int .i64 0] 28)
  have hA0 : Below w.heap.size w ((w.alloc (.cells #[.slice p1 t.cs.length c1, .slice p2 t.rs.length c2] 26)).alloc (.cells #[.slice none 0 0, .slice none 0 0, .string ⟨#[]⟩, .int .i64 0] 28)) := keepB (all_alloc w _) (Nat.le_refl _) (all_alloc _ _)
  have e1 : (w.alloc (.cells #[.slice p1 t.cs.length c1, .slice p2 t.rs.length c2] 26)).heap.size = w.heap.size + 1 := by simp
  have e3 : ((w.alloc (.cells #[.slice p1 t.cs.length c1, .slice p2 t.rs.length c2] 26)).alloc (.cells #[.slice none 0 0, .slice none 0 0, .string ⟨#[]⟩, .int .i64 0] 28)).heap.size = w.heap.size + 1 + 1 := by simp
  rw [e1] at hY
  go_enter Tryd.func5, Tryd.ntmps5
  go_upto_region 1 with fail
  generalize (w.alloc (.cells #[.slice p1 t.cs.length c1, .slice p2 t.rs.length c2] 26)).alloc (.cells #[.slice none 0 0, .slice none 0 0, .string ⟨#[]⟩, .int .i64 0] 28) = A at hX hY hA0 e3 ⊢
  clear e1
  have x0 := cellW hX.out 0 _ rfl A (Below.refl _ _)
  have x1 := cellW hX.out 1 _ rfl A (Below.refl _ _)
  go_wp2_with (first
    | (go_at_call 14; refine (HR.out _ hA0).mono ?_; rintro e w1 ⟨rfl, hb1⟩; have a0 := cellW hX.out 0 _ rfl w1 hb1; have a1 := cellW hX.out 1 _ rfl w1 hb1)
    | (go_at_call 15; refine (HAN.out _ (keepB hA0 (Nat.le_refl _) hb1)).mono ?_; rintro e w2 ⟨u1, u2, rfl, own2, hb2⟩; obtain ⟨r1, d1, rfl⟩ := own2.c.shape; obtain ⟨r2, d2, rfl⟩ := own2.r.shape; have k3 : Below A.heap.size A (w2.alloc (.cells #[.slice r1 T'.cs.length d1, .slice r2 T'.rs.length d2] 26)) := keepB (keepB hb1 (Nat.le_refl _) hb2) (Nat.le_refl _) (all_alloc _ _); have hR3 : Hid _ := blk hY.out k3; have hP3 : Hid _ := heap_alloc_new w2 (.cells #[.slice r1 T'.cs.length d1, .slice r2 T'.rs.length d2] 26); have own3 : Hid (OwnT (w2.alloc (.cells #[.slice r1 T'.cs.length d1, .slice r2 T'.rs.length d2] 26)) w1.heap.size (.slice r1 T'.cs.length d1) (.slice r2 T'.rs.length d2) T') := own2.below (all_alloc _ _); have hB3 := keepB hA0 (Nat.le_refl _) k3; have hs1 : w.heap.size + 1 + 1 ≤ w1.heap.size := (by have := hb1.size; omega); have z0 := cellW hR3.out 0 _ rfl (w2.alloc (.cells #[.slice r1 T'.cs.length d1, .slice r2 T'.rs.length d2] 26)) (Below.refl _ _); have fz0 := frozenW hR3.out 0 (w2.alloc (.cells #[.slice r1 T'.cs.length d1, .slice r2 T'.rs.length d2] 26)) (Below.refl _ _); have z1 := cellW hR3.out 1 _ rfl (w2.alloc (.cells #[.slice r1 T'.cs.length d1, .slice r2 T'.rs.length d2] 26)) (Below.refl _ _); have fz1 := frozenW hR3.out 1 (w2.alloc (.cells #[.slice r1 T'.cs.length d1, .slice r2 T'.rs.length d2] 26)) (Below.refl _ _); have z2 := cellW hR3.out 2 _ rfl (w2.alloc (.cells #[.slice r1 T'.cs.length d1, .slice r2 T'.rs.length d2] 26)) (Below.refl _ _); have fz2 := frozenW hR3.out 2 (w2.alloc (.cells #[.slice r1 T'.cs.length d1, .slice r2 T'.rs.length d2] 26)) (Below.refl _ _); have z3 := cellW hR3.out 3 _ rfl (w2.alloc (.cells #[.slice r1 T'.cs.length d1, .slice r2 T'.rs.length d2] 26)) (Below.refl _ _); have fz3 := frozenW hR3.out 3 (w2.alloc (.cells #[.slice r1 T'.cs.length d1, .slice r2 T'.rs.length d2] 26)) (Below.refl _ _); have b0 := cellW hP3.out 0 _ rfl (w2.alloc (.cells #[.slice r1 T'.cs.length d1, .slice r2 T'.rs.length d2] 26)) (Below.refl _ _); have b1 := cellW hP3.out 1 _ rfl (w2.alloc (.cells #[.slice r1 T'.cs.length d1, .slice r2 T'.rs.length d2] 26)) (Below.refl _ _)))
  exact bodyPost_ret (v := .agg #[.slice r1 T'.cs.length d1, .slice r2 T'.rs.length d2, .string R, .int .i64 0]) (by simp [results, Tryd.results5, go_sem, z0, z1, z2, z3]) rfl ⟨_, _, rfl, OwnT.leT (OwnT.farT (OwnT.farT (OwnT.farT (OwnT.farT own3.out (by simp only; omega) _) (by simp only; omega) _) (by simp only; omega) _) (by simp only; omega) _) (by omega), ((((hB3.setCell (by simp only; omega) _).setCell (by simp only; omega) _).setCell (by simp only; omega) _).setCell (by simp only; omega) _)⟩
theorem specServe_any (t : Tb) (s : ByteArray) (B : Nat) (v1 v2 : Value) (w : World) (hz : s.size ≤ 9223372036854775807) (hl1 : t.cs.length ≤ 10000000) (hl2 : t.rs.length ≤ 10000000) (h : OwnT w B v1 v2 t) :
    Calls Tryd.prog 5 #[.agg #[v1, v2], .string s] w fun e w' => ∃ u1 u2, e = .returned (.agg #[u1, u2, .string (outT t s).2.1, .int .i64 (outT t s).2.2]) ∧ OwnT w' w.heap.size u1 u2 (outT t s).1 ∧ Below w.heap.size w w' := by
  unfold outT
  by_cases h8 : 8000 < s.size
  · rw [if_pos h8]
    exact specServe_long t s B v1 v2 w hz hl1 hl2 h h8
  · rw [if_neg h8]
    cases hT : t.right with
    | false =>
      rw [if_pos (.inl rfl)]
      exact specServe_wrong t s B v1 v2 w hz hl1 hl2 h (by omega) hT
    | true =>
      by_cases h0 : s.size = 0
      · rw [if_pos (.inr h0)]
        exact specServe_empty t s B v1 v2 w hz hl1 hl2 h h0 hT
      · rw [if_neg (fun k => k.elim (fun e => by cases e) h0)]
        exact specServe_mid t s B v1 v2 w hz hl1 hl2 h (by omega) (by omega) hT
theorem serve_any (t : Tb) (s : ByteArray) (B : Nat) (v1 v2 : Value) (f v p : Addr) (w : World) (hz : s.size ≤ 9223372036854775807) (hl1 : t.cs.length ≤ 10000000) (hl2 : t.rs.length ≤ 10000000) (h : OwnT w B v1 v2 t) (hS : Sents w f v p) :
    Calls Tryd.prog 7 #[.agg #[v1, v2], .string s] w fun e w' => ∃ u1 u2, e = .returned (.agg #[u1, u2, .string (outT t s).2.1, .int .i64 (outT t s).2.2]) ∧ OwnT w' w.heap.size u1 u2 (outT t s).1 ∧ Below w.heap.size w w' := by
  unfold outT
  by_cases h8 : 8000 < s.size
  · rw [if_pos h8]
    exact serve_long t s B v1 v2 w hz hl1 hl2 h h8
  · rw [if_neg h8]
    cases hT : t.right with
    | false =>
      rw [if_pos (.inl rfl)]
      exact serve_wrong t s B v1 v2 w hz hl1 hl2 h (by omega) hT
    | true =>
      by_cases h0 : s.size = 0
      · rw [if_pos (.inr h0)]
        exact serve_empty t s B v1 v2 w hz hl1 hl2 h h0 hT
      · rw [if_neg (fun k => k.elim (fun e => by cases e) h0)]
        unfold serveT
        cases hk : knownB (byteAt s 0 : Int) with
        | false =>
          have hb := badT_1 (t := t) hk
          rw [if_neg (by rw [hb]; decide), hb]
          exact serve_ex1 t s B v1 v2 w hz hl1 hl2 h f v p hS (by omega) (by omega) hT hk
        | true =>
          by_cases hC : (outA s).2 = 0
          · cases hTh : thereB t (outA s).1 with
            | false =>
              have hb := badT_2 hk hC hTh
              rw [if_neg (by rw [hb]; decide), hb]
              exact serve_ex2 t s B v1 v2 w hz hl1 hl2 h f v p hS (by omega) (by omega) hT hk hC hTh
            | true =>
              have hb := badT_0 hk hC hTh
              rw [if_pos hb]
              unfold ansT
              by_cases hq : (outA s).1.c = 1 ∨ (outA s).1.c = 3
              · rw [if_pos hq]
                exact serve_look t s B v1 v2 w hz hl1 hl2 h f v p hS (by omega) (by omega) hT hk hC hTh hq
              · rw [if_neg hq]
                exact serve_set t s B v1 v2 w hz hl1 hl2 h f v p hS (by omega) (by omega) hT hk hC hTh hq
          · have hb := badT_3 (t := t) hk hC
            rw [if_neg (by rw [hb]; decide), hb]
            exact serve_ex3 t s B v1 v2 w hz hl1 hl2 h f v p hS (by omega) (by omega) hT hk hC
end Go.Proofs.YtfpibedloodjlabDoor
