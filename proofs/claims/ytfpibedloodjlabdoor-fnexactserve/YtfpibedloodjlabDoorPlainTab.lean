/- THE BYTES OF A QUESTION: the program's own. -/
import Derived.Test.YtfpibedloodjlabDoorTailQ
import Derived.Test.YtfpibedloodjlabDoorAskR
import Derived.Test.YtfpibedloodjlabDoorAskRe
import Derived.Test.YtfpibedloodjlabDoorPlainAsk
namespace Go.Proofs.YtfpibedloodjlabDoor
open Go.RowKit
set_option linter.unusedVariables false
set_option linter.unusedSimpArgs false

theorem askB_join {q : Ak} (h : q.right = true) : oneB q.c ++ twoB q.a ++ tailB q = askB q := by
  unfold askB
  rw [if_pos h]
  exact ByteArray.ext (Array.ext' (by simp [oneB, twoB, tailB, askL]))
theorem tail_size {q : Ak} (h : q.right = true) : (tailB q).size ≤ 40 := by
  have hc := Ak.codes h
  unfold Ak.right at h
  rw [Bool.and_eq_true] at h
  have hf := h.2
  obtain ⟨k, a, m, vs⟩ := q
  have e : ∀ q : Ak, (tailB q).size = q.tail.length := fun q => by simp [tailB, ByteArray.size]
  rw [e]
  dsimp only at hc
  rcases hc with rfl | rfl | rfl | rfl | rfl | rfl
  · simp [Ak.tail, twoL]
  · simp [Ak.tail, twoL]
  · simp [Ak.tail, twoL]
  · simp [Ak.tail, twoL]
  · simp [Ak.fit] at hf
    simp [Ak.tail, twoL, countedL, oneL, packL_length]; omega
  · simp [Ak.fit] at hf
    simp [Ak.tail, twoL, countedL, oneL, wordsL_length]; omega
set_option maxRecDepth 100000 in
set_option maxHeartbeats 1600000 in
theorem askBytes_any (q : Ak) (p : Option Addr) (c : Nat) (w : World) (hl : q.vs.length ≤ 10000000) (hr : RowI w (.slice p q.vs.length c) q.vs) :
    Calls Tryd.prog 55 #[.agg #[.int .i64 q.c, .int .i64 q.a, .int .i64 q.m, .slice p q.vs.length c]] w fun e w' => e = .returned (.string (askB q)) ∧ Below w.heap.size w w' := by
  have HSR : Hid (∀ W, Below w.heap.size w W → Calls Tryd.prog 54 #[.agg #[.int .i64 q.c, .int .i64 q.a, .int .i64 q.m, .slice p q.vs.length c]] W fun e w' => e = .returned (.bool q.right) ∧ Below W.heap.size W w') := fun W hW => askRight_any q p c W hl (hr.below hW)
  cases hR : q.right with
  | false =>
    rw [askB_size q hR]
    rw [hR] at HSR
    clear hr
    go_enter Tryd.func55, Tryd.ntmps55
    go_wp2_with (go_at_call 54; refine (HSR.out _ (all_alloc _ _)).mono ?_; rintro e w1 ⟨rfl, hb1⟩)
    go_ret
    exact ⟨rfl, keepB (all_alloc _ _) (Nat.le_refl _) hb1⟩
  | true =>
    rw [hR] at HSR
    have hc := Ak.codes hR
    have ha : 0 ≤ q.a ∧ q.a ≤ 65535 := by unfold Ak.right at hR; rw [Bool.and_eq_true] at hR; exact (wordB_iff _).1 hR.1
    have HQ : Hid (∀ W, Calls Tryd.prog 64 #[.agg #[.int .i64 q.c, .int .i64 q.a, .int .i64 q.m, .slice p q.vs.length c]] W fun e w' => e = .returned (.iface (qType q.c) (qVal q (.slice p q.vs.length c))) ∧ Below W.heap.size W w') := fun W => questionOf_any q _ ⟨_, _, _, rfl⟩ W
    have HT : Hid (∀ W, Below w.heap.size w W → Calls Tryd.prog 68 #[.iface (qType q.c) (qVal q (.slice p q.vs.length c))] W fun e w' => e = .returned (.string (tailB q)) ∧ Below W.heap.size W w') := fun W hW => tailOf_any q p c W hR (hr.below hW)
    have HB : Hid (∀ W, Calls Tryd.prog 25 #[.int .i64 q.c] W fun e w' => e = .returned (.string (oneB q.c)) ∧ Below W.heap.size W w') := fun W => byteText_any q.c W (by omega)
    have HW : Hid (∀ (W : World) (g : Nat), W.heap[g]? = some (.cells #[.int .i64 q.a] 2 (0, 0)) → Calls Tryd.prog 58 #[.slice (some ⟨g, 0, none⟩) 1 1] W fun e w' => e = .returned (.string (twoB q.a)) ∧ Below W.heap.size W w') := fun W g h => wordsText_any _ [q.a] W (by simp) (by simp [(wordB_iff q.a).2 ha]) (row_at h)
    rw [← askB_join hR]
    have z1 : (oneB q.c).size = 1 := rfl
    have z2 : (twoB q.a).size = 2 := rfl
    have z3 := tail_size hR
    generalize qType q.c = T at HQ HT
    generalize qVal q (.slice p q.vs.length c) = V at HQ HT
    generalize oneB q.c = t1 at HB z1 ⊢
    generalize twoB q.a = t2 at HW z2 ⊢
    generalize tailB q = t3 at HT z3 ⊢
    have HJ : Hid (∀ W : World, Calls Tryd.prog 24 #[.slice (some ⟨W.heap.size, 0, none⟩) 3 3] (W.alloc (.cells #[.string t1, .string t2, .string t3] 9)) fun e w' => e = .returned (.string (t1 ++ t2 ++ t3)) ∧ Below (W.alloc (.cells #[.string t1, .string t2, .string t3] 9)).heap.size (W.alloc (.cells #[.string t1, .string t2, .string t3] 9)) w') := fun W => by
      refine (join_row W.heap.size (0, 0) [t1, t2, t3] _ (heap_alloc_new W _) (by simp) (by intro s hs; simp at hs; rcases hs with rfl | rfl | rfl <;> omega)).mono ?_
      rintro e w' ⟨rfl, hb⟩
      exact ⟨by simp [joinT], hb⟩
    generalize t1 ++ t2 ++ t3 = R at HJ ⊢
    clear hr hR hc ha z1 z2 z3
    go_enter Tryd.func55, Tryd.ntmps55
    go_upto_region 3 with (go_at_call 54; refine (HSR.out _ (all_alloc _ _)).mono ?_; rintro e w1 ⟨rfl, hb1⟩)
    have hX : Hid _ := blk (heap_alloc_new w (.cells #[.int .i64 q.c, .int .i64 q.a, .int .i64 q.m, .slice p q.vs.length c] 43)) hb1
    have hA0 : Below w.heap.size w w1 := keepB (all_alloc w (.cells #[.int .i64 q.c, .int .i64 q.a, .int .i64 q.m, .slice p q.vs.length c] 43)) (Nat.le_refl _) hb1
    clear hb1 HSR
    obtain ⟨G, hG⟩ : ∃ G, w.heap.size = G := ⟨_, rfl⟩
    rw [hG] at hX ⊢
    have x0 := cellW hX.out 0 _ rfl
    have x1 := cellW hX.out 1 _ rfl
    have x2 := cellW hX.out 2 _ rfl
    have x3 := cellW hX.out 3 _ rfl
    go_region_held3 (fun w' => Below w1.heap.size w1 w') (first | assumption | exact Below.drew (Below.refl _ _) | exact Below.drew (all_alloc w1 _) | exact keepB (by assumption) (Nat.le_refl _) hbq | exact Below.alloc (by assumption) (Below.size (by assumption)) _) (first
      | (go_at_call 24; refine (HJ.out _).mono ?_; rintro e9 w9 ⟨rfl, hbq⟩)
      | (go_at_call 25; refine (HB.out _).mono ?_; rintro e9 w9 ⟨rfl, hbq⟩)
      | (go_at_call 58; have key := HW.out w9 w1.heap.size (blk (Y := World.drew (w1.alloc (.cells #[.int .i64 q.a] 2))) (heap_alloc_new w1 (.cells #[.int .i64 q.a] 2)) hbq); refine key.mono ?_; clear key; rintro e9 w9 ⟨rfl, hbq⟩)
      | (go_at_call 58; have key := HW.out (w9.alloc (.cells #[.int .i64 q.a] 2)) w9.heap.size (heap_alloc_new w9 (.cells #[.int .i64 q.a] 2)); refine key.mono ?_; clear key; rintro e9 w9 ⟨rfl, hbq⟩)
      | (go_at_call 64; refine (HQ.out _).mono ?_; rintro e9 w9 ⟨rfl, hbq⟩)
      | (go_at_call 68; refine (HT.out _ (keepB hA0 (Nat.le_refl _) (by assumption))).mono ?_; rintro e9 w9 ⟨rfl, hbq⟩))
    all_goals
      go_wp2
      go_ret
      exact ⟨rfl, keepB hA0 (Nat.le_refl _) (by assumption)⟩
end Go.Proofs.YtfpibedloodjlabDoor
/- WHAT A TEXT IS READ AS: AskRead of the program. -/
namespace Go.Proofs.YtfpibedloodjlabDoor
open Go.RowKit
set_option linter.unusedVariables false
set_option linter.unusedSimpArgs false

def zeroA : Ak := ⟨0, 0, 0, []⟩
def outOf (q : Ak) (s : ByteArray) : Ak × Int := if q.right = true ∧ askB q = s then (q, 0) else (zeroA, 3)
def outA (s : ByteArray) : Ak × Int := if 8000 < s.size then (zeroA, 2) else if s.size < 5 then (zeroA, 3) else outOf (readS s) s
theorem outA_long {s : ByteArray} (h : 8000 < s.size) : outA s = (zeroA, 2) := by unfold outA; rw [if_pos h]
theorem outA_short {s : ByteArray} (h : s.size < 5) : outA s = (zeroA, 3) := by unfold outA; rw [if_neg (by omega), if_pos h]
theorem outA_mid {s : ByteArray} (h : 5 ≤ s.size) (h8 : s.size ≤ 8000) : outA s = outOf (readS s) s := by unfold outA; rw [if_neg (by omega), if_neg (by omega)]
theorem outA_I {s : ByteArray} (h : 5 ≤ s.size) (h8 : s.size ≤ 8000) : outA s = outOf (readI s) s := by
  rw [outA_mid h h8]
  rcases reads s with e | ⟨e1, e2⟩
  · rw [e]
  · unfold outOf
    rw [if_neg (by rw [e2]; simp), if_neg (by rw [e1]; simp)]
theorem beq_text {a b : ByteArray} (h : a = b) : (a.toList == b.toList) = true := by rw [h]; simp
theorem beq_textn {a b : ByteArray} (h : ¬ a = b) : (a.toList == b.toList) = false := by
  rw [beq_eq_false_iff_ne]
  intro e
  exact h (ByteArray.ext (Array.ext' (by rw [Lib.toList_data, Lib.toList_data] at e; exact e)))
set_option maxRecDepth 100000 in
set_option maxHeartbeats 1600000 in
theorem askRead_of (s : ByteArray) (q : Ak) (w : World) (hs : s.size ≤ 8000) (hl : q.vs.length ≤ 10000)
    (HRd : Hid (∀ W, Calls Tryd.prog 53 #[.string s] W fun e w' => ∃ v, e = .returned (.agg #[.int .i64 q.c, .int .i64 q.a, .int .i64 q.m, v]) ∧ OwnI w' W.heap.size v q.vs ∧ Below W.heap.size W w')) :
    Calls Tryd.prog 41 #[.string s] w fun e w' => ∃ v, e = .returned (.agg #[.int .i64 (outOf q s).1.c, .int .i64 (outOf q s).1.a, .int .i64 (outOf q s).1.m, v, .int .i64 (outOf q s).2]) ∧ OwnI w' w.heap.size v (outOf q s).1.vs ∧ Below w.heap.size w w' := by
  have HR : Hid (∀ (W : World) (p : Option Addr) (c : Nat), RowI W (.slice p q.vs.length c) q.vs → Calls Tryd.prog 54 #[.agg #[.int .i64 q.c, .int .i64 q.a, .int .i64 q.m, .slice p q.vs.length c]] W fun e w' => e = .returned (.bool q.right) ∧ Below W.heap.size W w') := fun W p c h => askRight_any q p c W (by omega) h
  have HB : Hid (∀ (W : World) (p : Option Addr) (c : Nat), RowI W (.slice p q.vs.length c) q.vs → Calls Tryd.prog 55 #[.agg #[.int .i64 q.c, .int .i64 q.a, .int .i64 q.m, .slice p q.vs.length c]] W fun e w' => e = .returned (.string (askB q)) ∧ Below W.heap.size W w') := fun W p c h => askBytes_any q p c W (by omega) h
  have hA0 : Below w.heap.size w (w.alloc (.cells #[.int .i64 0, .int .i64 0, .int .i64 0, .slice none 0 0, .int .i64 0] 63)) := all_alloc w _
  have hZ0 : Hid _ := heap_alloc_new w (.cells #[.int .i64 0, .int .i64 0, .int .i64 0, .slice none 0 0, .int .i64 0] 63)
  have hz1 : (w.alloc (.cells #[.int .i64 0, .int .i64 0, .int .i64 0, .slice none 0 0, .int .i64 0] 63)).heap.size = w.heap.size + 1 := by simp
  unfold outOf
  cases hR : q.right with
  | false =>
    rw [if_neg (by simp)]
    rw [hR] at HR
    unfold zeroA
    dsimp only
    clear HB
    go_enter Tryd.func41, Tryd.ntmps41
    go_wp2_with (first
      | (go_at_call 53; refine (HRd.out _).mono ?_; rintro e w1 ⟨v1, rfl, own1, hb1⟩; obtain ⟨p1, c1, rfl⟩ := own1.shape; have o1 := own1.below (all_alloc w1 (.cells #[.int .i64 q.c, .int .i64 q.a, .int .i64 q.m, .slice p1 q.vs.length c1] 43)); have hX1 : Hid _ := heap_alloc_new w1 (.cells #[.int .i64 q.c, .int .i64 q.a, .int .i64 q.m, .slice p1 q.vs.length c1] 43); have hZ1 : Hid _ := blk (blk hZ0.out hb1) (all_alloc w1 (.cells #[.int .i64 q.c, .int .i64 q.a, .int .i64 q.m, .slice p1 q.vs.length c1] 43)); have hB1 := keepB (keepB hA0 (Nat.le_refl _) hb1) (Nat.le_refl _) (all_alloc w1 (.cells #[.int .i64 q.c, .int .i64 q.a, .int .i64 q.m, .slice p1 q.vs.length c1] 43)); have hz0 : w.heap.size < (w.alloc (.cells #[.int .i64 0, .int .i64 0, .int .i64 0, .slice none 0 0, .int .i64 0] 63)).heap.size := (by omega))
      | (go_at_call 54; refine (HR.out _ _ _ o1.row).mono ?_; rintro e w2 ⟨rfl, hb2⟩; have hZ2 : Hid _ := blk hZ1.out hb2; have z0 := cellW hZ2.out 0 _ rfl w2 (Below.refl _ _); have z1 := cellW hZ2.out 1 _ rfl w2 (Below.refl _ _); have z2 := cellW hZ2.out 2 _ rfl w2 (Below.refl _ _); have z3 := cellW hZ2.out 3 _ rfl w2 (Below.refl _ _); have z4 := cellW hZ2.out 4 _ rfl w2 (Below.refl _ _); have zf0 := frozenW hZ2.out 0 w2 (Below.refl _ _); have zf1 := frozenW hZ2.out 1 w2 (Below.refl _ _); have zf2 := frozenW hZ2.out 2 w2 (Below.refl _ _); have zf3 := frozenW hZ2.out 3 w2 (Below.refl _ _); have zf4 := frozenW hZ2.out 4 w2 (Below.refl _ _)))
    have hB2 := keepB hB1 (Nat.le_refl _) hb2
    exact bodyPost_ret (v := .agg #[.int .i64 0, .int .i64 0, .int .i64 0, .slice none 0 0, .int .i64 3]) (by simp [results, Tryd.results41, go_sem, z0, z1, z2, z3, z4]) rfl ⟨_, rfl, OwnI.nil _ _, (Below.setCell (Below.setCell (Below.setCell (Below.setCell (Below.setCell hB2 (by simp only; omega) _) (by simp only; omega) _) (by simp only; omega) _) (by simp only; omega) _) (by simp only; omega) _)⟩
  | true =>
    rw [hR] at HR
    by_cases hq : askB q = s
    · have eb := beq_text hq
      rw [if_pos ⟨rfl, hq⟩]
      dsimp only
      clear hq
      generalize askB q = t at HB eb
      go_enter Tryd.func41, Tryd.ntmps41
      go_wp2_with (first
        | (go_at_call 53; refine (HRd.out _).mono ?_; rintro e w1 ⟨v1, rfl, own1, hb1⟩; obtain ⟨p1, c1, rfl⟩ := own1.shape; have o1 := own1.below (all_alloc w1 (.cells #[.int .i64 q.c, .int .i64 q.a, .int .i64 q.m, .slice p1 q.vs.length c1] 43)); have hX1 : Hid _ := heap_alloc_new w1 (.cells #[.int .i64 q.c, .int .i64 q.a, .int .i64 q.m, .slice p1 q.vs.length c1] 43); have hZ1 : Hid _ := blk (blk hZ0.out hb1) (all_alloc w1 (.cells #[.int .i64 q.c, .int .i64 q.a, .int .i64 q.m, .slice p1 q.vs.length c1] 43)); have hB1 := keepB (keepB hA0 (Nat.le_refl _) hb1) (Nat.le_refl _) (all_alloc w1 (.cells #[.int .i64 q.c, .int .i64 q.a, .int .i64 q.m, .slice p1 q.vs.length c1] 43)); have hz0 : w.heap.size < (w.alloc (.cells #[.int .i64 0, .int .i64 0, .int .i64 0, .slice none 0 0, .int .i64 0] 63)).heap.size := (by omega))
        | (go_at_call 54; refine (HR.out _ _ _ o1.row).mono ?_; rintro e w2 ⟨rfl, hb2⟩; have o2 := o1.below hb2; have hX2 : Hid _ := blk hX1.out hb2; have x0 := cellW hX2.out 0 _ rfl w2 (Below.refl _ _); have x1 := cellW hX2.out 1 _ rfl w2 (Below.refl _ _); have x2 := cellW hX2.out 2 _ rfl w2 (Below.refl _ _); have x3 := cellW hX2.out 3 _ rfl w2 (Below.refl _ _))
        | (go_at_call 55; refine (HB.out _ _ _ o2.row).mono ?_; rintro e w3 ⟨rfl, hb3⟩; have o3 := o2.below hb3; have hX3 : Hid _ := blk hX2.out hb3; have xx0 := cellW hX3.out 0 _ rfl w3 (Below.refl _ _); have xx1 := cellW hX3.out 1 _ rfl w3 (Below.refl _ _); have xx2 := cellW hX3.out 2 _ rfl w3 (Below.refl _ _); have xx3 := cellW hX3.out 3 _ rfl w3 (Below.refl _ _); have hZ3 : Hid _ := blk (blk hZ1.out hb2) hb3; have z0 := cellW hZ3.out 0 _ rfl w3 (Below.refl _ _); have z1 := cellW hZ3.out 1 _ rfl w3 (Below.refl _ _); have z2 := cellW hZ3.out 2 _ rfl w3 (Below.refl _ _); have z3 := cellW hZ3.out 3 _ rfl w3 (Below.refl _ _); have z4 := cellW hZ3.out 4 _ rfl w3 (Below.refl _ _); have zf0 := frozenW hZ3.out 0 w3 (Below.refl _ _); have zf1 := frozenW hZ3.out 1 w3 (Below.refl _ _); have zf2 := frozenW hZ3.out 2 w3 (Below.refl _ _); have zf3 := frozenW hZ3.out 3 w3 (Below.refl _ _); have zf4 := frozenW hZ3.out 4 w3 (Below.refl _ _)))
      have hB3 := keepB (keepB hB1 (Nat.le_refl _) hb2) (Nat.le_refl _) hb3
      exact bodyPost_ret (v := .agg #[.int .i64 q.c, .int .i64 q.a, .int .i64 q.m, .slice p1 q.vs.length c1, .int .i64 0]) (by simp [results, Tryd.results41, go_sem, z0, z1, z2, z3, z4]) rfl ⟨_, rfl, OwnI.leQ (OwnI.farQ (OwnI.farQ (OwnI.farQ (OwnI.farQ (OwnI.farQ o3 (by simp only; omega) _) (by simp only; omega) _) (by simp only; omega) _) (by simp only; omega) _) (by simp only; omega) _) (by omega), (Below.setCell (Below.setCell (Below.setCell (Below.setCell (Below.setCell hB3 (by simp only; omega) _) (by simp only; omega) _) (by simp only; omega) _) (by simp only; omega) _) (by simp only; omega) _)⟩
    · have eb := beq_textn hq
      rw [if_neg (fun h => hq h.2)]
      unfold zeroA
      dsimp only
      clear hq
      generalize askB q = t at HB eb
      go_enter Tryd.func41, Tryd.ntmps41
      go_wp2_with (first
        | (go_at_call 53; refine (HRd.out _).mono ?_; rintro e w1 ⟨v1, rfl, own1, hb1⟩; obtain ⟨p1, c1, rfl⟩ := own1.shape; have o1 := own1.below (all_alloc w1 (.cells #[.int .i64 q.c, .int .i64 q.a, .int .i64 q.m, .slice p1 q.vs.length c1] 43)); have hX1 : Hid _ := heap_alloc_new w1 (.cells #[.int .i64 q.c, .int .i64 q.a, .int .i64 q.m, .slice p1 q.vs.length c1] 43); have hZ1 : Hid _ := blk (blk hZ0.out hb1) (all_alloc w1 (.cells #[.int .i64 q.c, .int .i64 q.a, .int .i64 q.m, .slice p1 q.vs.length c1] 43)); have hB1 := keepB (keepB hA0 (Nat.le_refl _) hb1) (Nat.le_refl _) (all_alloc w1 (.cells #[.int .i64 q.c, .int .i64 q.a, .int .i64 q.m, .slice p1 q.vs.length c1] 43)); have hz0 : w.heap.size < (w.alloc (.cells #[.int .i64 0, .int .i64 0, .int .i64 0, .slice none 0 0, .int .i64 0] 63)).heap.size := (by omega))
        | (go_at_call 54; refine (HR.out _ _ _ o1.row).mono ?_; rintro e w2 ⟨rfl, hb2⟩; have o2 := o1.below hb2; have hX2 : Hid _ := blk hX1.out hb2; have x0 := cellW hX2.out 0 _ rfl w2 (Below.refl _ _); have x1 := cellW hX2.out 1 _ rfl w2 (Below.refl _ _); have x2 := cellW hX2.out 2 _ rfl w2 (Below.refl _ _); have x3 := cellW hX2.out 3 _ rfl w2 (Below.refl _ _))
        | (go_at_call 55; refine (HB.out _ _ _ o2.row).mono ?_; rintro e w3 ⟨rfl, hb3⟩; have hZ3 : Hid _ := blk (blk hZ1.out hb2) hb3; have z0 := cellW hZ3.out 0 _ rfl w3 (Below.refl _ _); have z1 := cellW hZ3.out 1 _ rfl w3 (Below.refl _ _); have z2 := cellW hZ3.out 2 _ rfl w3 (Below.refl _ _); have z3 := cellW hZ3.out 3 _ rfl w3 (Below.refl _ _); have z4 := cellW hZ3.out 4 _ rfl w3 (Below.refl _ _); have zf0 := frozenW hZ3.out 0 w3 (Below.refl _ _); have zf1 := frozenW hZ3.out 1 w3 (Below.refl _ _); have zf2 := frozenW hZ3.out 2 w3 (Below.refl _ _); have zf3 := frozenW hZ3.out 3 w3 (Below.refl _ _); have zf4 := frozenW hZ3.out 4 w3 (Below.refl _ _)))
      have hB3 := keepB (keepB hB1 (Nat.le_refl _) hb2) (Nat.le_refl _) hb3
      exact bodyPost_ret (v := .agg #[.int .i64 0, .int .i64 0, .int .i64 0, .slice none 0 0, .int .i64 3]) (by simp [results, Tryd.results41, go_sem, z0, z1, z2, z3, z4]) rfl ⟨_, rfl, OwnI.nil _ _, (Below.setCell (Below.setCell (Below.setCell (Below.setCell (Below.setCell hB3 (by simp only; omega) _) (by simp only; omega) _) (by simp only; omega) _) (by simp only; omega) _) (by simp only; omega) _)⟩
theorem readI_len (s : ByteArray) (hs : s.size ≤ 8000) : (readI s).vs.length ≤ 10000 := by
  unfold readI
  dsimp only
  repeat' split
  all_goals simp [bitsAt_length, wordsAt_length] <;> omega
set_option maxRecDepth 100000 in
set_option maxHeartbeats 800000 in
theorem askRead_any (s : ByteArray) (w : World) (hz : s.size ≤ 9223372036854775807) :
    Calls Tryd.prog 41 #[.string s] w fun e w' => ∃ v, e = .returned (.agg #[.int .i64 (outA s).1.c, .int .i64 (outA s).1.a, .int .i64 (outA s).1.m, v, .int .i64 (outA s).2]) ∧ OwnI w' w.heap.size v (outA s).1.vs ∧ Below w.heap.size w w' := by
  by_cases h8 : 8000 < s.size
  · rw [outA_long h8]
    unfold zeroA
    dsimp only
    have hZ0 : Hid _ := heap_alloc_new w (.cells #[.int .i64 0, .int .i64 0, .int .i64 0, .slice none 0 0, .int .i64 0] 63)
    have z0 := cellW hZ0.out 0 _ rfl _ (Below.refl _ _)
    have z1 := cellW hZ0.out 1 _ rfl _ (Below.refl _ _)
    have z2 := cellW hZ0.out 2 _ rfl _ (Below.refl _ _)
    have z3 := cellW hZ0.out 3 _ rfl _ (Below.refl _ _)
    have z4 := cellW hZ0.out 4 _ rfl _ (Below.refl _ _)
    go_enter Tryd.func41, Tryd.ntmps41
    go_wp2
    exact bodyPost_ret (v := .agg #[.int .i64 0, .int .i64 0, .int .i64 0, .slice none 0 0, .int .i64 2]) (by simp [results, Tryd.results41, go_sem]) rfl ⟨_, rfl, OwnI.nil _ _, by first | exact all_alloc _ _ | (repeat (refine Below.setCell ?_ (by simp) _)); exact all_alloc _ _⟩
  · by_cases h5 : s.size < 5
    · have e : outA s = outOf zeroA s := by
        rw [outA_short h5]
        unfold outOf
        rw [if_neg (by intro h; exact absurd h.1 (by decide))]
      rw [e]
      refine askRead_of s zeroA w (by omega) (by decide) ?_
      intro W
      refine (readAsk_short s W h5).mono ?_
      rintro e1 w1 ⟨rfl, hb⟩
      exact ⟨_, rfl, OwnI.nil _ _, hb⟩
    · rw [outA_I (by omega) (by omega)]
      exact askRead_of s (readI s) w (by omega) (readI_len s (by omega)) (fun W => readAsk_any s W (by omega) (by omega))
end Go.Proofs.YtfpibedloodjlabDoor
/- CHAPTER 6 over lists: tables, and what is answered where a question comes. -/
namespace Go.Proofs.YtfpibedloodjlabDoor
open Go.RowKit
set_option linter.unusedVariables false
set_option linter.unusedSimpArgs false

/-- the cells that a code is about -/
def Tb.cells (t : Tb) (c : Int) : List Int := if coilB c then t.cs else t.rs
/-- a list with some of it set from a place on -/
def putL (l : List Int) (a : Nat) (vs : List Int) : List Int := l.take a ++ (vs ++ l.drop (a + vs.length))
theorem putL_length (l : List Int) (a : Nat) (vs : List Int) (h : a + vs.length ≤ l.length) : (putL l a vs).length = l.length := by
  unfold putL
  rw [List.length_append, List.length_append, List.length_take, List.length_drop]
  omega
theorem putL_all (p : Int → Bool) (l : List Int) (a : Nat) (vs : List Int) (hl : l.all p = true) (hv : vs.all p = true) : (putL l a vs).all p = true := by
  unfold putL
  rw [List.all_eq_true] at *
  intro x hx
  rw [List.mem_append, List.mem_append] at hx
  rcases hx with h | h | h
  · exact hl x (List.mem_of_mem_take h)
  · exact hv x h
  · exact hl x (List.mem_of_mem_drop h)
def Tb.put (t : Tb) (q : Ak) : Tb := if coilB q.c then ⟨putL t.cs q.a.toNat q.vs, t.rs⟩ else ⟨t.cs, putL t.rs q.a.toNat q.vs⟩
def Tb.look (t : Tb) (q : Ak) : List Int := ((t.cells q.c).drop q.a.toNat).take q.m.toNat
def knownB (c : Int) : Bool := decide (c = 1 ∨ c = 3 ∨ c = 5 ∨ c = 6 ∨ c = 15 ∨ c = 16)
theorem known_most (c : Int) : (mostB c == 0) = !knownB c := by
  unfold knownB
  rcases code_cases c with rfl | rfl | rfl | rfl | rfl | rfl | h
  case inr.inr.inr.inr.inr.inr =>
    obtain ⟨h1, h3, h5, h6, h15, h16⟩ := h
    simp [mostB, h1, h3, h5, h6, h15, h16]
  all_goals rfl
/-- the code of the exception, 0 for none -/
def badT (t : Tb) (s : ByteArray) : Int :=
  if knownB (byteAt s 0 : Int) = false then 1 else if (outA s).2 ≠ 0 then 3 else if (outA s).1.a + (outA s).1.m > ((t.cells (outA s).1.c).length : Int) then 2 else 0
/-- an exception -/
def exB (s : ByteArray) (n : Int) : ByteArray := ⟨#[UInt8.ofNat (byteAt s 0 % 128 + 128), UInt8.ofNat n.toNat]⟩
/-- a right question answered -/
def ansT (t : Tb) (q : Ak) (s : ByteArray) : Tb × ByteArray :=
  if q.c = 1 ∨ q.c = 3 then (t, oneB q.c ++ (oneB ((valsB q.c (t.look q)).size : Int) ++ valsB q.c (t.look q))) else (t.put q, s.extract 0 5)
def serveT (t : Tb) (s : ByteArray) : Tb × ByteArray := if badT t s = 0 then ansT t (outA s).1 s else (t, exB s (badT t s))
/-- what Serve hands back: a table, an answer and a code -/
def outT (t : Tb) (s : ByteArray) : Tb × ByteArray × Int :=
  if 8000 < s.size then (zeroT, ByteArray.empty, 2) else if t.right = false ∨ s.size = 0 then (zeroT, ByteArray.empty, 1) else ((serveT t s).1, (serveT t s).2, 0)
end Go.Proofs.YtfpibedloodjlabDoor
