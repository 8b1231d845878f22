/- WHAT A TEXT IS READ AS: AskRead of the model. -/
import Derived.Test.YtfpibedloodjlaaAskRu
import Derived.Test.YtfpibedloodjlaaAskO
import Derived.Test.YtfpibedloodjlaaAskE
namespace Go.Proofs.Ytfpibedloodjlaa
open Go.RowKit
set_option linter.unusedVariables false
set_option linter.unusedSimpArgs false

theorem outOf_mid {q : Ak} {s : ByteArray} (h5 : 5 ≤ s.size) (h : askB q = s) : outOf q s = (q, 0) := by
  unfold outOf
  rw [if_pos]
  refine ⟨?_, h⟩
  cases hR : q.right with
  | true => rfl
  | false =>
    rw [askB_size q hR] at h
    rw [← h] at h5
    exact absurd h5 (by decide)
theorem outOf_no {q : Ak} {s : ByteArray} (h : ¬ askB q = s) : outOf q s = (zeroA, 3) := by
  unfold outOf
  rw [if_neg (fun k => h k.2)]
theorem readS_len (s : ByteArray) (hs : s.size ≤ 8000) : (readS s).vs.length ≤ 10000 := by
  unfold readS
  dsimp only
  repeat' split
  all_goals simp [bitsAt_length, wordsAt_length] <;> omega
set_option maxRecDepth 100000 in
set_option maxHeartbeats 1600000 in
theorem specAskRead_of (s : ByteArray) (q : Ak) (w : World) (h5 : 5 ≤ s.size) (hs : s.size ≤ 8000) (hl : q.vs.length ≤ 10000)
    (HRd : Hid (∀ W, Calls Try.prog 56 #[.string s] W fun e w' => ∃ v, e = .returned (.agg #[.int .i64 q.c, .int .i64 q.a, .int .i64 q.m, v]) ∧ OwnI w' W.heap.size v q.vs ∧ Below W.heap.size W w')) :
    Calls Try.prog 18 #[.string s] w fun e w' => ∃ v, e = .returned (.agg #[.int .i64 (outOf q s).1.c, .int .i64 (outOf q s).1.a, .int .i64 (outOf q s).1.m, v, .int .i64 (outOf q s).2]) ∧ OwnI w' w.heap.size v (outOf q s).1.vs ∧ Below w.heap.size w w' := by
  have HB : Hid (∀ (W : World) (p : Option Addr) (c : Nat), RowI W (.slice p q.vs.length c) q.vs → Calls Try.prog 15 #[.agg #[.int .i64 q.c, .int .i64 q.a, .int .i64 q.m, .slice p q.vs.length c]] W fun e w' => e = .returned (.string (askB q)) ∧ Below W.heap.size W w') := fun W p c h => specAskBytes_any q p c W (by omega) h
  have hA0 : Below w.heap.size w (w.alloc (.cells #[.int .i64 0, .int .i64 0, .int .i64 0, .slice none 0 0, .int .i64 0] 30)) := all_alloc w _
  have hZ0 : Hid _ := heap_alloc_new w (.cells #[.int .i64 0, .int .i64 0, .int .i64 0, .slice none 0 0, .int .i64 0] 30)
  have hz1 : (w.alloc (.cells #[.int .i64 0, .int .i64 0, .int .i64 0, .slice none 0 0, .int .i64 0] 30)).heap.size = w.heap.size + 1 := by simp
  by_cases hq : askB q = s
  · have eb := beq_text hq
    rw [outOf_mid h5 hq]
    dsimp only
    clear hq
    generalize askB q = t at HB eb
    go_enter Try.func18, Try.ntmps18
    go_wp2_with (first
      | (go_at_call 56; refine (HRd.out _).mono ?_; rintro e w1 ⟨v1, rfl, own1, hb1⟩; obtain ⟨p1, c1, rfl⟩ := own1.shape; have o1 := own1.below (all_alloc w1 (.cells #[.int .i64 q.c, .int .i64 q.a, .int .i64 q.m, .slice p1 q.vs.length c1] 25)); have hX1 : Hid _ := heap_alloc_new w1 (.cells #[.int .i64 q.c, .int .i64 q.a, .int .i64 q.m, .slice p1 q.vs.length c1] 25); have hZ1 : Hid _ := blk (blk hZ0.out hb1) (all_alloc w1 (.cells #[.int .i64 q.c, .int .i64 q.a, .int .i64 q.m, .slice p1 q.vs.length c1] 25)); have hB1 := keepB (keepB hA0 (Nat.le_refl _) hb1) (Nat.le_refl _) (all_alloc w1 (.cells #[.int .i64 q.c, .int .i64 q.a, .int .i64 q.m, .slice p1 q.vs.length c1] 25)); have hz0 : w.heap.size < (w.alloc (.cells #[.int .i64 0, .int .i64 0, .int .i64 0, .slice none 0 0, .int .i64 0] 30)).heap.size := (by omega))
      | (go_at_call 15; refine (HB.out _ _ _ o1.row).mono ?_; rintro e w3 ⟨rfl, hb3⟩; have o3 := o1.below hb3; have hX3 : Hid _ := blk hX1.out hb3; have xx0 := cellW hX3.out 0 _ rfl w3 (Below.refl _ _); have xx1 := cellW hX3.out 1 _ rfl w3 (Below.refl _ _); have xx2 := cellW hX3.out 2 _ rfl w3 (Below.refl _ _); have xx3 := cellW hX3.out 3 _ rfl w3 (Below.refl _ _); have hZ3 : Hid _ := blk hZ1.out hb3; have z0 := cellW hZ3.out 0 _ rfl w3 (Below.refl _ _); have z1 := cellW hZ3.out 1 _ rfl w3 (Below.refl _ _); have z2 := cellW hZ3.out 2 _ rfl w3 (Below.refl _ _); have z3 := cellW hZ3.out 3 _ rfl w3 (Below.refl _ _); have z4 := cellW hZ3.out 4 _ rfl w3 (Below.refl _ _); have zf0 := frozenW hZ3.out 0 w3 (Below.refl _ _); have zf1 := frozenW hZ3.out 1 w3 (Below.refl _ _); have zf2 := frozenW hZ3.out 2 w3 (Below.refl _ _); have zf3 := frozenW hZ3.out 3 w3 (Below.refl _ _); have zf4 := frozenW hZ3.out 4 w3 (Below.refl _ _)))
    have hB3 := keepB hB1 (Nat.le_refl _) hb3
    exact bodyPost_ret (v := .agg #[.int .i64 q.c, .int .i64 q.a, .int .i64 q.m, .slice p1 q.vs.length c1, .int .i64 0]) (by simp [results, Try.results18, go_sem, z0, z1, z2, z3, z4]) rfl ⟨_, rfl, OwnI.leQ (OwnI.farQ (OwnI.farQ (OwnI.farQ (OwnI.farQ (OwnI.farQ o3 (by simp only; omega) _) (by simp only; omega) _) (by simp only; omega) _) (by simp only; omega) _) (by simp only; omega) _) (by omega), (Below.setCell (Below.setCell (Below.setCell (Below.setCell (Below.setCell hB3 (by simp only; omega) _) (by simp only; omega) _) (by simp only; omega) _) (by simp only; omega) _) (by simp only; omega) _)⟩
  · have eb := beq_textn hq
    rw [outOf_no hq]
    unfold zeroA
    dsimp only
    clear hq
    generalize askB q = t at HB eb
    go_enter Try.func18, Try.ntmps18
    go_wp2_with (first
      | (go_at_call 56; refine (HRd.out _).mono ?_; rintro e w1 ⟨v1, rfl, own1, hb1⟩; obtain ⟨p1, c1, rfl⟩ := own1.shape; have o1 := own1.below (all_alloc w1 (.cells #[.int .i64 q.c, .int .i64 q.a, .int .i64 q.m, .slice p1 q.vs.length c1] 25)); have hX1 : Hid _ := heap_alloc_new w1 (.cells #[.int .i64 q.c, .int .i64 q.a, .int .i64 q.m, .slice p1 q.vs.length c1] 25); have hZ1 : Hid _ := blk (blk hZ0.out hb1) (all_alloc w1 (.cells #[.int .i64 q.c, .int .i64 q.a, .int .i64 q.m, .slice p1 q.vs.length c1] 25)); have hB1 := keepB (keepB hA0 (Nat.le_refl _) hb1) (Nat.le_refl _) (all_alloc w1 (.cells #[.int .i64 q.c, .int .i64 q.a, .int .i64 q.m, .slice p1 q.vs.length c1] 25)); have hz0 : w.heap.size < (w.alloc (.cells #[.int .i64 0, .int .i64 0, .int .i64 0, .slice none 0 0, .int .i64 0] 30)).heap.size := (by omega))
      | (go_at_call 15; refine (HB.out _ _ _ o1.row).mono ?_; rintro e w3 ⟨rfl, hb3⟩; have hZ3 : Hid _ := blk hZ1.out hb3; have z0 := cellW hZ3.out 0 _ rfl w3 (Below.refl _ _); have z1 := cellW hZ3.out 1 _ rfl w3 (Below.refl _ _); have z2 := cellW hZ3.out 2 _ rfl w3 (Below.refl _ _); have z3 := cellW hZ3.out 3 _ rfl w3 (Below.refl _ _); have z4 := cellW hZ3.out 4 _ rfl w3 (Below.refl _ _); have zf0 := frozenW hZ3.out 0 w3 (Below.refl _ _); have zf1 := frozenW hZ3.out 1 w3 (Below.refl _ _); have zf2 := frozenW hZ3.out 2 w3 (Below.refl _ _); have zf3 := frozenW hZ3.out 3 w3 (Below.refl _ _); have zf4 := frozenW hZ3.out 4 w3 (Below.refl _ _)))
    have hB3 := keepB hB1 (Nat.le_refl _) hb3
    exact bodyPost_ret (v := .agg #[.int .i64 0, .int .i64 0, .int .i64 0, .slice none 0 0, .int .i64 3]) (by simp [results, Try.results18, go_sem, z0, z1, z2, z3, z4]) rfl ⟨_, rfl, OwnI.nil _ _, (Below.setCell (Below.setCell (Below.setCell (Below.setCell (Below.setCell hB3 (by simp only; omega) _) (by simp only; omega) _) (by simp only; omega) _) (by simp only; omega) _) (by simp only; omega) _)⟩
set_option maxRecDepth 100000 in
set_option maxHeartbeats 800000 in
theorem specAskRead_any (s : ByteArray) (w : World) (hz : s.size ≤ 9223372036854775807) :
    Calls Try.prog 18 #[.string s] w fun e w' => ∃ v, e = .returned (.agg #[.int .i64 (outA s).1.c, .int .i64 (outA s).1.a, .int .i64 (outA s).1.m, v, .int .i64 (outA s).2]) ∧ OwnI w' w.heap.size v (outA s).1.vs ∧ Below w.heap.size w w' := by
  have hZ0 : Hid _ := heap_alloc_new w (.cells #[.int .i64 0, .int .i64 0, .int .i64 0, .slice none 0 0, .int .i64 0] 30)
  by_cases h8 : 8000 < s.size
  · rw [outA_long h8]
    unfold zeroA
    dsimp only
    go_enter Try.func18, Try.ntmps18
    go_wp2
    exact bodyPost_ret (v := .agg #[.int .i64 0, .int .i64 0, .int .i64 0, .slice none 0 0, .int .i64 2]) (by simp [results, Try.results18, go_sem]) rfl ⟨_, rfl, OwnI.nil _ _, by first | exact all_alloc _ _ | (repeat (refine Below.setCell ?_ (by simp) _)); exact all_alloc _ _⟩
  · by_cases h5 : s.size < 5
    · rw [outA_short h5]
      unfold zeroA
      dsimp only
      go_enter Try.func18, Try.ntmps18
      go_wp2
      exact bodyPost_ret (v := .agg #[.int .i64 0, .int .i64 0, .int .i64 0, .slice none 0 0, .int .i64 3]) (by simp [results, Try.results18, go_sem]) rfl ⟨_, rfl, OwnI.nil _ _, by first | exact all_alloc _ _ | (repeat (refine Below.setCell ?_ (by simp) _)); exact all_alloc _ _⟩
    · rw [outA_mid (by omega) (by omega)]
      exact specAskRead_of s (readS s) w (by omega) (by omega) (readS_len s (by omega)) (fun W => l04Read_any s W (by omega) (by omega))
end Go.Proofs.Ytfpibedloodjlaa
