/- WHAT A TEXT IS READ AS: AskRead of the program. -/
import Derived.Test.YtfpibedloodjlaaAskRe
import Derived.Test.YtfpibedloodjlaaAskB
namespace Go.Proofs.Ytfpibedloodjlaa
open Go.RowKit
set_option linter.unusedVariables false
set_option linter.unusedSimpArgs false

def zeroA : Ak := ⟨0, 0, 0, []⟩
def outOf (q : Ak) (s : ByteArray) : Ak × Int := if q.right = true ∧ askB q = s then (q, 0) else (zeroA, 3)
def outA (s : ByteArray) : Ak × Int := if 8000 < s.size then (zeroA, 2) else if s.size < 5 then (zeroA, 3) else outOf (readS s) s
theorem outA_long {s : ByteArray} (h : 8000 < s.size) : outA s = (zeroA, 2) := by unfold outA; rw [if_pos h]
theorem outA_short {s : ByteArray} (h : s.size < 5) : outA s = (zeroA, 3) := by unfold outA; rw [if_neg (by omega), if_pos h]
theorem outA_mid {s : ByteArray} (h : 5 ≤ s.size) (h8 : s.size ≤ 8000) : outA s = outOf (readS s) s := by unfold outA; rw [if_neg (by omega), if_neg (by omega)]
theorem outA_I {s : ByteArray} (h : 5 ≤ s.size) (h8 : s.size ≤ 8000) : outA s = outOf (readI s) s := by
  rw [outA_mid h h8]
  rcases reads s with e | ⟨e1, e2⟩
  · rw [e]
  · unfold outOf
    rw [if_neg (by rw [e2]; simp), if_neg (by rw [e1]; simp)]
theorem beq_text {a b : ByteArray} (h : a = b) : (a.toList == b.toList) = true := by rw [h]; simp
theorem beq_textn {a b : ByteArray} (h : ¬ a = b) : (a.toList == b.toList) = false := by
  rw [beq_eq_false_iff_ne]
  intro e
  exact h (ByteArray.ext (Array.ext' (by rw [Lib.toList_data, Lib.toList_data] at e; exact e)))
set_option maxRecDepth 100000 in
set_option maxHeartbeats 1600000 in
theorem askRead_of (s : ByteArray) (q : Ak) (w : World) (hs : s.size ≤ 8000) (hl : q.vs.length ≤ 10000)
    (HRd : Hid (∀ W, Calls Try.prog 41 #[.string s] W fun e w' => ∃ v, e = .returned (.agg #[.int .i64 q.c, .int .i64 q.a, .int .i64 q.m, v]) ∧ OwnI w' W.heap.size v q.vs ∧ Below W.heap.size W w')) :
    Calls Try.prog 11 #[.string s] w fun e w' => ∃ v, e = .returned (.agg #[.int .i64 (outOf q s).1.c, .int .i64 (outOf q s).1.a, .int .i64 (outOf q s).1.m, v, .int .i64 (outOf q s).2]) ∧ OwnI w' w.heap.size v (outOf q s).1.vs ∧ Below w.heap.size w w' := by
  have HR : Hid (∀ (W : World) (p : Option Addr) (c : Nat), RowI W (.slice p q.vs.length c) q.vs → Calls Try.prog 16 #[.agg #[.int .i64 q.c, .int .i64 q.a, .int .i64 q.m, .slice p q.vs.length c]] W fun e w' => e = .returned (.bool q.right) ∧ Below W.heap.size W w') := fun W p c h => askRight_any q p c W (by omega) h
  have HB : Hid (∀ (W : World) (p : Option Addr) (c : Nat), RowI W (.slice p q.vs.length c) q.vs → Calls Try.prog 9 #[.agg #[.int .i64 q.c, .int .i64 q.a, .int .i64 q.m, .slice p q.vs.length c]] W fun e w' => e = .returned (.string (askB q)) ∧ Below W.heap.size W w') := fun W p c h => askBytes_any q p c W (by omega) h
  have hA0 : Below w.heap.size w (w.alloc (.cells #[.int .i64 0, .int .i64 0, .int .i64 0, .slice none 0 0, .int .i64 0] 30)) := all_alloc w _
  have hZ0 : Hid _ := heap_alloc_new w (.cells #[.int .i64 0, .int .i64 0, .int .i64 0, .slice none 0 0, .int .i64 0] 30)
  have hz1 : (w.alloc (.cells #[.int .i64 0, .int .i64 0, .int .i64 0, .slice none 0 0, .int .i64 0] 30)).heap.size = w.heap.size + 1 := by simp
  unfold outOf
  cases hR : q.right with
  | false =>
    rw [if_neg (by simp)]
    rw [hR] at HR
    unfold zeroA
    dsimp only
    clear HB
    go_enter Try.func11, Try.ntmps11
    go_wp2_with (first
      | (go_at_call 41; refine (HRd.out _).mono ?_; rintro e w1 ⟨v1, rfl, own1, hb1⟩; obtain ⟨p1, c1, rfl⟩ := own1.shape; have o1 := own1.below (all_alloc w1 (.cells #[.int .i64 q.c, .int .i64 q.a, .int .i64 q.m, .slice p1 q.vs.length c1] 25)); have hX1 : Hid _ := heap_alloc_new w1 (.cells #[.int .i64 q.c, .int .i64 q.a, .int .i64 q.m, .slice p1 q.vs.length c1] 25); have hZ1 : Hid _ := blk (blk hZ0.out hb1) (all_alloc w1 (.cells #[.int .i64 q.c, .int .i64 q.a, .int .i64 q.m, .slice p1 q.vs.length c1] 25)); have hB1 := keepB (keepB hA0 (Nat.le_refl _) hb1) (Nat.le_refl _) (all_alloc w1 (.cells #[.int .i64 q.c, .int .i64 q.a, .int .i64 q.m, .slice p1 q.vs.length c1] 25)); have hz0 : w.heap.size < (w.alloc (.cells #[.int .i64 0, .int .i64 0, .int .i64 0, .slice none 0 0, .int .i64 0] 30)).heap.size := (by omega))
      | (go_at_call 16; refine (HR.out _ _ _ o1.row).mono ?_; rintro e w2 ⟨rfl, hb2⟩; have hZ2 : Hid _ := blk hZ1.out hb2; have z0 := cellW hZ2.out 0 _ rfl w2 (Below.refl _ _); have z1 := cellW hZ2.out 1 _ rfl w2 (Below.refl _ _); have z2 := cellW hZ2.out 2 _ rfl w2 (Below.refl _ _); have z3 := cellW hZ2.out 3 _ rfl w2 (Below.refl _ _); have z4 := cellW hZ2.out 4 _ rfl w2 (Below.refl _ _); have zf0 := frozenW hZ2.out 0 w2 (Below.refl _ _); have zf1 := frozenW hZ2.out 1 w2 (Below.refl _ _); have zf2 := frozenW hZ2.out 2 w2 (Below.refl _ _); have zf3 := frozenW hZ2.out 3 w2 (Below.refl _ _); have zf4 := frozenW hZ2.out 4 w2 (Below.refl _ _)))
    have hB2 := keepB hB1 (Nat.le_refl _) hb2
    exact bodyPost_ret (v := .agg #[.int .i64 0, .int .i64 0, .int .i64 0, .slice none 0 0, .int .i64 3]) (by simp [results, Try.results11, go_sem, z0, z1, z2, z3, z4]) rfl ⟨_, rfl, OwnI.nil _ _, (Below.setCell (Below.setCell (Below.setCell (Below.setCell (Below.setCell hB2 (by simp only; omega) _) (by simp only; omega) _) (by simp only; omega) _) (by simp only; omega) _) (by simp only; omega) _)⟩
  | true =>
    rw [hR] at HR
    by_cases hq : askB q = s
    · have eb := beq_text hq
      rw [if_pos ⟨rfl, hq⟩]
      dsimp only
      clear hq
      generalize askB q = t at HB eb
      go_enter Try.func11, Try.ntmps11
      go_wp2_with (first
        | (go_at_call 41; refine (HRd.out _).mono ?_; rintro e w1 ⟨v1, rfl, own1, hb1⟩; obtain ⟨p1, c1, rfl⟩ := own1.shape; have o1 := own1.below (all_alloc w1 (.cells #[.int .i64 q.c, .int .i64 q.a, .int .i64 q.m, .slice p1 q.vs.length c1] 25)); have hX1 : Hid _ := heap_alloc_new w1 (.cells #[.int .i64 q.c, .int .i64 q.a, .int .i64 q.m, .slice p1 q.vs.length c1] 25); have hZ1 : Hid _ := blk (blk hZ0.out hb1) (all_alloc w1 (.cells #[.int .i64 q.c, .int .i64 q.a, .int .i64 q.m, .slice p1 q.vs.length c1] 25)); have hB1 := keepB (keepB hA0 (Nat.le_refl _) hb1) (Nat.le_refl _) (all_alloc w1 (.cells #[.int .i64 q.c, .int .i64 q.a, .int .i64 q.m, .slice p1 q.vs.length c1] 25)); have hz0 : w.heap.size < (w.alloc (.cells #[.int .i64 0, .int .i64 0, .int .i64 0, .slice none 0 0, .int .i64 0] 30)).heap.size := (by omega))
        | (go_at_call 16; refine (HR.out _ _ _ o1.row).mono ?_; rintro e w2 ⟨rfl, hb2⟩; have o2 := o1.below hb2; have hX2 : Hid _ := blk hX1.out hb2; have x0 := cellW hX2.out 0 _ rfl w2 (Below.refl _ _); have x1 := cellW hX2.out 1 _ rfl w2 (Below.refl _ _); have x2 := cellW hX2.out 2 _ rfl w2 (Below.refl _ _); have x3 := cellW hX2.out 3 _ rfl w2 (Below.refl _ _))
        | (go_at_call 9; refine (HB.out _ _ _ o2.row).mono ?_; rintro e w3 ⟨rfl, hb3⟩; have o3 := o2.below hb3; have hX3 : Hid _ := blk hX2.out hb3; have xx0 := cellW hX3.out 0 _ rfl w3 (Below.refl _ _); have xx1 := cellW hX3.out 1 _ rfl w3 (Below.refl _ _); have xx2 := cellW hX3.out 2 _ rfl w3 (Below.refl _ _); have xx3 := cellW hX3.out 3 _ rfl w3 (Below.refl _ _); have hZ3 : Hid _ := blk (blk hZ1.out hb2) hb3; have z0 := cellW hZ3.out 0 _ rfl w3 (Below.refl _ _); have z1 := cellW hZ3.out 1 _ rfl w3 (Below.refl _ _); have z2 := cellW hZ3.out 2 _ rfl w3 (Below.refl _ _); have z3 := cellW hZ3.out 3 _ rfl w3 (Below.refl _ _); have z4 := cellW hZ3.out 4 _ rfl w3 (Below.refl _ _); have zf0 := frozenW hZ3.out 0 w3 (Below.refl _ _); have zf1 := frozenW hZ3.out 1 w3 (Below.refl _ _); have zf2 := frozenW hZ3.out 2 w3 (Below.refl _ _); have zf3 := frozenW hZ3.out 3 w3 (Below.refl _ _); have zf4 := frozenW hZ3.out 4 w3 (Below.refl _ _)))
      have hB3 := keepB (keepB hB1 (Nat.le_refl _) hb2) (Nat.le_refl _) hb3
      exact bodyPost_ret (v := .agg #[.int .i64 q.c, .int .i64 q.a, .int .i64 q.m, .slice p1 q.vs.length c1, .int .i64 0]) (by simp [results, Try.results11, go_sem, z0, z1, z2, z3, z4]) rfl ⟨_, rfl, OwnI.leQ (OwnI.farQ (OwnI.farQ (OwnI.farQ (OwnI.farQ (OwnI.farQ o3 (by simp only; omega) _) (by simp only; omega) _) (by simp only; omega) _) (by simp only; omega) _) (by simp only; omega) _) (by omega), (Below.setCell (Below.setCell (Below.setCell (Below.setCell (Below.setCell hB3 (by simp only; omega) _) (by simp only; omega) _) (by simp only; omega) _) (by simp only; omega) _) (by simp only; omega) _)⟩
    · have eb := beq_textn hq
      rw [if_neg (fun h => hq h.2)]
      unfold zeroA
      dsimp only
      clear hq
      generalize askB q = t at HB eb
      go_enter Try.func11, Try.ntmps11
      go_wp2_with (first
        | (go_at_call 41; refine (HRd.out _).mono ?_; rintro e w1 ⟨v1, rfl, own1, hb1⟩; obtain ⟨p1, c1, rfl⟩ := own1.shape; have o1 := own1.below (all_alloc w1 (.cells #[.int .i64 q.c, .int .i64 q.a, .int .i64 q.m, .slice p1 q.vs.length c1] 25)); have hX1 : Hid _ := heap_alloc_new w1 (.cells #[.int .i64 q.c, .int .i64 q.a, .int .i64 q.m, .slice p1 q.vs.length c1] 25); have hZ1 : Hid _ := blk (blk hZ0.out hb1) (all_alloc w1 (.cells #[.int .i64 q.c, .int .i64 q.a, .int .i64 q.m, .slice p1 q.vs.length c1] 25)); have hB1 := keepB (keepB hA0 (Nat.le_refl _) hb1) (Nat.le_refl _) (all_alloc w1 (.cells #[.int .i64 q.c, .int .i64 q.a, .int .i64 q.m, .slice p1 q.vs.length c1] 25)); have hz0 : w.heap.size < (w.alloc (.cells #[.int .i64 0, .int .i64 0, .int .i64 0, .slice none 0 0, .int .i64 0] 30)).heap.size := (by omega))
        | (go_at_call 16; refine (HR.out _ _ _ o1.row).mono ?_; rintro e w2 ⟨rfl, hb2⟩; have o2 := o1.below hb2; have hX2 : Hid _ := blk hX1.out hb2; have x0 := cellW hX2.out 0 _ rfl w2 (Below.refl _ _); have x1 := cellW hX2.out 1 _ rfl w2 (Below.refl _ _); have x2 := cellW hX2.out 2 _ rfl w2 (Below.refl _ _); have x3 := cellW hX2.out 3 _ rfl w2 (Below.refl _ _))
        | (go_at_call 9; refine (HB.out _ _ _ o2.row).mono ?_; rintro e w3 ⟨rfl, hb3⟩; have hZ3 : Hid _ := blk (blk hZ1.out hb2) hb3; have z0 := cellW hZ3.out 0 _ rfl w3 (Below.refl _ _); have z1 := cellW hZ3.out 1 _ rfl w3 (Below.refl _ _); have z2 := cellW hZ3.out 2 _ rfl w3 (Below.refl _ _); have z3 := cellW hZ3.out 3 _ rfl w3 (Below.refl _ _); have z4 := cellW hZ3.out 4 _ rfl w3 (Below.refl _ _); have zf0 := frozenW hZ3.out 0 w3 (Below.refl _ _); have zf1 := frozenW hZ3.out 1 w3 (Below.refl _ _); have zf2 := frozenW hZ3.out 2 w3 (Below.refl _ _); have zf3 := frozenW hZ3.out 3 w3 (Below.refl _ _); have zf4 := frozenW hZ3.out 4 w3 (Below.refl _ _)))
      have hB3 := keepB (keepB hB1 (Nat.le_refl _) hb2) (Nat.le_refl _) hb3
      exact bodyPost_ret (v := .agg #[.int .i64 0, .int .i64 0, .int .i64 0, .slice none 0 0, .int .i64 3]) (by simp [results, Try.results11, go_sem, z0, z1, z2, z3, z4]) rfl ⟨_, rfl, OwnI.nil _ _, (Below.setCell (Below.setCell (Below.setCell (Below.setCell (Below.setCell hB3 (by simp only; omega) _) (by simp only; omega) _) (by simp only; omega) _) (by simp only; omega) _) (by simp only; omega) _)⟩
theorem readI_len (s : ByteArray) (hs : s.size ≤ 8000) : (readI s).vs.length ≤ 10000 := by
  unfold readI
  dsimp only
  repeat' split
  all_goals simp [bitsAt_length, wordsAt_length] <;> omega
set_option maxRecDepth 100000 in
set_option maxHeartbeats 800000 in
theorem askRead_any (s : ByteArray) (w : World) (hz : s.size ≤ 9223372036854775807) :
    Calls Try.prog 11 #[.string s] w fun e w' => ∃ v, e = .returned (.agg #[.int .i64 (outA s).1.c, .int .i64 (outA s).1.a, .int .i64 (outA s).1.m, v, .int .i64 (outA s).2]) ∧ OwnI w' w.heap.size v (outA s).1.vs ∧ Below w.heap.size w w' := by
  by_cases h8 : 8000 < s.size
  · rw [outA_long h8]
    unfold zeroA
    dsimp only
    have hZ0 : Hid _ := heap_alloc_new w (.cells #[.int .i64 0, .int .i64 0, .int .i64 0, .slice none 0 0, .int .i64 0] 30)
    have z0 := cellW hZ0.out 0 _ rfl _ (Below.refl _ _)
    have z1 := cellW hZ0.out 1 _ rfl _ (Below.refl _ _)
    have z2 := cellW hZ0.out 2 _ rfl _ (Below.refl _ _)
    have z3 := cellW hZ0.out 3 _ rfl _ (Below.refl _ _)
    have z4 := cellW hZ0.out 4 _ rfl _ (Below.refl _ _)
    go_enter Try.func11, Try.ntmps11
    go_wp2
    exact bodyPost_ret (v := .agg #[.int .i64 0, .int .i64 0, .int .i64 0, .slice none 0 0, .int .i64 2]) (by simp [results, Try.results11, go_sem]) rfl ⟨_, rfl, OwnI.nil _ _, by first | exact all_alloc _ _ | (repeat (refine Below.setCell ?_ (by simp) _)); exact all_alloc _ _⟩
  · by_cases h5 : s.size < 5
    · have e : outA s = outOf zeroA s := by
        rw [outA_short h5]
        unfold outOf
        rw [if_neg (by intro h; exact absurd h.1 (by decide))]
      rw [e]
      refine askRead_of s zeroA w (by omega) (by decide) ?_
      intro W
      refine (readAsk_short s W h5).mono ?_
      rintro e1 w1 ⟨rfl, hb⟩
      exact ⟨_, rfl, OwnI.nil _ _, hb⟩
    · rw [outA_I (by omega) (by omega)]
      exact askRead_of s (readI s) w (by omega) (readI_len s (by omega)) (fun W => readAsk_any s W (by omega) (by omega))
end Go.Proofs.Ytfpibedloodjlaa
