/- THE BYTES OF A QUESTION: the program's own. -/
import Derived.Test.YtfpibedloodjlaaTailQ
import Derived.Test.YtfpibedloodjlaaAskR
namespace Go.Proofs.Ytfpibedloodjlaa
open Go.RowKit
set_option linter.unusedVariables false
set_option linter.unusedSimpArgs false

theorem askB_join {q : Ak} (h : q.right = true) : oneB q.c ++ twoB q.a ++ tailB q = askB q := by
  unfold askB
  rw [if_pos h]
  exact ByteArray.ext (Array.ext' (by simp [oneB, twoB, tailB, askL]))
theorem tail_size {q : Ak} (h : q.right = true) : (tailB q).size ≤ 40 := by
  have hc := Ak.codes h
  unfold Ak.right at h
  rw [Bool.and_eq_true] at h
  have hf := h.2
  obtain ⟨k, a, m, vs⟩ := q
  have e : ∀ q : Ak, (tailB q).size = q.tail.length := fun q => by simp [tailB, ByteArray.size]
  rw [e]
  dsimp only at hc
  rcases hc with rfl | rfl | rfl | rfl | rfl | rfl
  · simp [Ak.tail, twoL]
  · simp [Ak.tail, twoL]
  · simp [Ak.tail, twoL]
  · simp [Ak.tail, twoL]
  · simp [Ak.fit] at hf
    simp [Ak.tail, twoL, countedL, oneL, packL_length]; omega
  · simp [Ak.fit] at hf
    simp [Ak.tail, twoL, countedL, oneL, wordsL_length]; omega
set_option maxRecDepth 100000 in
set_option maxHeartbeats 1600000 in
theorem askBytes_any (q : Ak) (p : Option Addr) (c : Nat) (w : World) (hl : q.vs.length ≤ 10000000) (hr : RowI w (.slice p q.vs.length c) q.vs) :
    Calls Try.prog 9 #[.agg #[.int .i64 q.c, .int .i64 q.a, .int .i64 q.m, .slice p q.vs.length c]] w fun e w' => e = .returned (.string (askB q)) ∧ Below w.heap.size w w' := by
  have HSR : Hid (∀ W, Below w.heap.size w W → Calls Try.prog 16 #[.agg #[.int .i64 q.c, .int .i64 q.a, .int .i64 q.m, .slice p q.vs.length c]] W fun e w' => e = .returned (.bool q.right) ∧ Below W.heap.size W w') := fun W hW => askRight_any q p c W hl (hr.below hW)
  cases hR : q.right with
  | false =>
    rw [askB_size q hR]
    rw [hR] at HSR
    clear hr
    go_enter Try.func9, Try.ntmps9
    go_wp2_with (go_at_call 16; refine (HSR.out _ (all_alloc _ _)).mono ?_; rintro e w1 ⟨rfl, hb1⟩)
    go_ret
    exact ⟨rfl, keepB (all_alloc _ _) (Nat.le_refl _) hb1⟩
  | true =>
    rw [hR] at HSR
    have hc := Ak.codes hR
    have ha : 0 ≤ q.a ∧ q.a ≤ 65535 := by unfold Ak.right at hR; rw [Bool.and_eq_true] at hR; exact (wordB_iff _).1 hR.1
    have HQ : Hid (∀ W, Calls Try.prog 38 #[.agg #[.int .i64 q.c, .int .i64 q.a, .int .i64 q.m, .slice p q.vs.length c]] W fun e w' => e = .returned (.iface (qType q.c) (qVal q (.slice p q.vs.length c))) ∧ Below W.heap.size W w') := fun W => questionOf_any q _ ⟨_, _, _, rfl⟩ W
    have HT : Hid (∀ W, Below w.heap.size w W → Calls Try.prog 37 #[.iface (qType q.c) (qVal q (.slice p q.vs.length c))] W fun e w' => e = .returned (.string (tailB q)) ∧ Below W.heap.size W w') := fun W hW => tailOf_any q p c W hR (hr.below hW)
    have HB : Hid (∀ W, Calls Try.prog 35 #[.int .i64 q.c] W fun e w' => e = .returned (.string (oneB q.c)) ∧ Below W.heap.size W w') := fun W => byteText_any q.c W (by omega)
    have HW : Hid (∀ (W : World) (g : Nat), W.heap[g]? = some (.cells #[.int .i64 q.a] 2 (0, 0)) → Calls Try.prog 36 #[.slice (some ⟨g, 0, none⟩) 1 1] W fun e w' => e = .returned (.string (twoB q.a)) ∧ Below W.heap.size W w') := fun W g h => wordsText_any _ [q.a] W (by simp) (by simp [(wordB_iff q.a).2 ha]) (row_at h)
    rw [← askB_join hR]
    have z1 : (oneB q.c).size = 1 := rfl
    have z2 : (twoB q.a).size = 2 := rfl
    have z3 := tail_size hR
    generalize qType q.c = T at HQ HT
    generalize qVal q (.slice p q.vs.length c) = V at HQ HT
    generalize oneB q.c = t1 at HB z1 ⊢
    generalize twoB q.a = t2 at HW z2 ⊢
    generalize tailB q = t3 at HT z3 ⊢
    have HJ : Hid (∀ W : World, Calls Try.prog 34 #[.slice (some ⟨W.heap.size, 0, none⟩) 3 3] (W.alloc (.cells #[.string t1, .string t2, .string t3] 9)) fun e w' => e = .returned (.string (t1 ++ t2 ++ t3)) ∧ Below (W.alloc (.cells #[.string t1, .string t2, .string t3] 9)).heap.size (W.alloc (.cells #[.string t1, .string t2, .string t3] 9)) w') := fun W => by
      refine (join_row W.heap.size (0, 0) [t1, t2, t3] _ (heap_alloc_new W _) (by simp) (by intro s hs; simp at hs; rcases hs with rfl | rfl | rfl <;> omega)).mono ?_
      rintro e w' ⟨rfl, hb⟩
      exact ⟨by simp [joinT], hb⟩
    generalize t1 ++ t2 ++ t3 = R at HJ ⊢
    clear hr hR hc ha z1 z2 z3
    go_enter Try.func9, Try.ntmps9
    go_upto_region 3 with (go_at_call 16; refine (HSR.out _ (all_alloc _ _)).mono ?_; rintro e w1 ⟨rfl, hb1⟩)
    have hX : Hid _ := blk (heap_alloc_new w (.cells #[.int .i64 q.c, .int .i64 q.a, .int .i64 q.m, .slice p q.vs.length c] 25)) hb1
    have hA0 : Below w.heap.size w w1 := keepB (all_alloc w (.cells #[.int .i64 q.c, .int .i64 q.a, .int .i64 q.m, .slice p q.vs.length c] 25)) (Nat.le_refl _) hb1
    clear hb1 HSR
    obtain ⟨G, hG⟩ : ∃ G, w.heap.size = G := ⟨_, rfl⟩
    rw [hG] at hX ⊢
    have x0 := cellW hX.out 0 _ rfl
    have x1 := cellW hX.out 1 _ rfl
    have x2 := cellW hX.out 2 _ rfl
    have x3 := cellW hX.out 3 _ rfl
    go_region_held3 (fun w' => Below w1.heap.size w1 w') (first | assumption | exact Below.drew (Below.refl _ _) | exact Below.drew (all_alloc w1 _) | exact keepB (by assumption) (Nat.le_refl _) hbq | exact Below.alloc (by assumption) (Below.size (by assumption)) _) (first
      | (go_at_call 34; refine (HJ.out _).mono ?_; rintro e9 w9 ⟨rfl, hbq⟩)
      | (go_at_call 35; refine (HB.out _).mono ?_; rintro e9 w9 ⟨rfl, hbq⟩)
      | (go_at_call 36; have key := HW.out w9 w1.heap.size (blk (Y := World.drew (w1.alloc (.cells #[.int .i64 q.a] 2))) (heap_alloc_new w1 (.cells #[.int .i64 q.a] 2)) hbq); refine key.mono ?_; clear key; rintro e9 w9 ⟨rfl, hbq⟩)
      | (go_at_call 36; have key := HW.out (w9.alloc (.cells #[.int .i64 q.a] 2)) w9.heap.size (heap_alloc_new w9 (.cells #[.int .i64 q.a] 2)); refine key.mono ?_; clear key; rintro e9 w9 ⟨rfl, hbq⟩)
      | (go_at_call 38; refine (HQ.out _).mono ?_; rintro e9 w9 ⟨rfl, hbq⟩)
      | (go_at_call 37; refine (HT.out _ (keepB hA0 (Nat.le_refl _) (by assumption))).mono ?_; rintro e9 w9 ⟨rfl, hbq⟩))
    all_goals
      go_wp2
      go_ret
      exact ⟨rfl, keepB hA0 (Nat.le_refl _) (by assumption)⟩
end Go.Proofs.Ytfpibedloodjlaa
