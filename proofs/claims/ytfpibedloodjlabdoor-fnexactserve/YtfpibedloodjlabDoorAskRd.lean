/- WHAT THE PROGRAM READS of bytes: readAsk. -/
import Derived.Test.YtfpibedloodjlabDoorOwnU
import Derived.Test.YtfpibedloodjlabDoorAskQ
import Derived.Test.YtfpibedloodjlabDoorTailQ
import Derived.Test.YtfpibedloodjlabDoorAskIn
import Derived.BigRegion
import Derived.Deep.RegionHeld3
import Derived.Deep.RegionWith
import Derived.Deep.DeepCutAuto
namespace Go.Proofs.YtfpibedloodjlabDoor
open Go.RowKit
set_option linter.unusedVariables false
set_option linter.unusedSimpArgs false

theorem own_one {W : World} {B g : Nat} {n : Int} (hg : g = W.heap.size) (hB : B ≤ g) : OwnI (World.drew (W.alloc (.cells #[.int .i64 n] 2))) B (.slice (some ⟨g, 0, none⟩) 1 1) [n] := by
  subst hg
  exact ⟨by simp, .inr ⟨W.heap.size, 1, _, rfl, hB, heap_alloc_new W _, Nat.le_refl _, by decide, rfl, rfl⟩⟩
theorem OwnI.farQ2 {w : World} {base : Nat} {v : Value} {zs : List Int} (h : OwnI w base v zs) {a : Addr} (ha : v.ownBlock ≠ some a.block) (x : Value) : OwnI (w.setCell a x) base v zs := by
  refine ⟨h.1, h.2.imp id ?_⟩
  rintro ⟨g, cap, cur, e1, e2, e3, e4⟩
  refine ⟨g, cap, cur, e1, e2, (Below.heap_setCell _ _ _ _ (fun e => ha ?_)).trans e3, e4⟩
  rw [e1, ← e]
  rfl
theorem as_lo (v : Value) (w : World) : (Instr.typeAssert (.iface 94 v) 80 82 true).run Tryd.prog w = .ok (.tuple #[.agg #[.int .i64 0, .int .i64 0, .int .i64 0, .slice none 0 0], .bool false]) w := by kernel_rfl
theorem as_lm (v : Value) (w : World) : (Instr.typeAssert (.iface 94 v) 80 84 true).run Tryd.prog w = .ok (.tuple #[.agg #[.int .i64 0, .int .i64 0, .int .i64 0, .slice none 0 0], .bool false]) w := by kernel_rfl
theorem as_no (v : Value) (w : World) : (Instr.typeAssert (.iface 96 v) 80 82 true).run Tryd.prog w = .ok (.tuple #[.agg #[.int .i64 0, .int .i64 0, .int .i64 0, .slice none 0 0], .bool false]) w := by kernel_rfl
theorem as_nm (v : Value) (w : World) : (Instr.typeAssert (.iface 96 v) 80 84 true).run Tryd.prog w = .ok (.tuple #[.agg #[.int .i64 0, .int .i64 0, .int .i64 0, .slice none 0 0], .bool false]) w := by kernel_rfl
theorem index_K (s : ByteArray) (h : 0 < s.size) (W : World) : (Instr.index 9 (.string s) (.int .i64 0)).run Tryd.prog W = .ok (.int .u8 (byteAt s 0 : Int)) W := by
  rw [byteAt_eq s 0 h]
  exact index_at s 0 h 0 rfl W
theorem slice_15 (s : ByteArray) (h : 5 ≤ s.size) (W : World) : (Instr.slice 9 (.string s) (some (.int .i64 1)) (some (.int .i64 5)) none).run Tryd.prog W = .ok (.string (s.extract 1 5)) W :=
  run_slice_string W 9 s .i64 .i64 1 5 Tryd.underlying9 (by decide) (by decide) (by omega)
set_option maxRecDepth 100000 in
set_option maxHeartbeats 1600000 in
theorem readAsk_none (s : ByteArray) (w : World) (h5 : 5 ≤ s.size) (hs : s.size ≤ 8000) (h1 : ¬ (byteAt s 0 : Int) = 5 ∧ ¬ (byteAt s 0 : Int) = 6 ∧ ¬ (byteAt s 0 : Int) = 15 ∧ ¬ (byteAt s 0 : Int) = 16) :
    Calls Tryd.prog 53 #[.string s] w fun e w' => ∃ v, e = .returned (.agg #[.int .i64 (readI s).c, .int .i64 (readI s).a, .int .i64 (readI s).m, v]) ∧ OwnI w' w.heap.size v (readI s).vs ∧ Below w.heap.size w w' := by
  have hixK := index_K s (by omega)
  have hsl := slice_15 s h5
  have HW : Hid (∀ W, Calls Tryd.prog 63 #[.string (s.extract 1 5)] W fun e w' => ∃ v, e = .returned v ∧ OwnI w' W.heap.size v [wordAt s 1, wordAt s 3] ∧ Below W.heap.size W w') := fun W => by
    have := wordsOf_any (s.extract 1 5) W (by rw [ByteArray.size_extract]; omega)
    rwa [words_head s h5] at this
  have hrd : readI s = ⟨(byteAt s 0 : Int), wordAt s 1, wordAt s 3, []⟩ := by
    unfold readI
    dsimp only
    rw [if_neg h1.1, if_neg h1.2.1, if_neg h1.2.2.1, if_neg h1.2.2.2]
  rw [hrd]
  have hA := wordAt_range s 1
  have hM := wordAt_range s 3
  have hK := byteAt_range s 0
  generalize s.extract 1 5 = t at hsl HW
  obtain ⟨K, eK⟩ : ∃ K, (byteAt s 0 : Int) = K := ⟨_, rfl⟩
  have hK0 : 0 ≤ K := by omega
  have hK1 : K < 256 := by omega
  rw [eK] at hixK h1 ⊢
  clear hrd hK eK
  generalize wordAt s 1 = A at HW hA  ⊢
  generalize wordAt s 3 = M at HW hM  ⊢
  obtain ⟨hA0, hA1⟩ := hA
  obtain ⟨hM0, hM1⟩ := hM
  have HQ : Hid (∀ W, Calls Tryd.prog 64 #[.agg #[.int .i64 K, .int .i64 A, .int .i64 M, .slice none 0 0]] W fun e w' => e = .returned (.iface (qType K) (qVal ⟨K, A, M, []⟩ (.slice none 0 0))) ∧ Below W.heap.size W w') := fun W => questionOf_any ⟨K, A, M, []⟩ _ ⟨_, _, _, rfl⟩ W
  have hT : ∃ T, qType K = T ∧ (∀ W V, (Instr.typeAssert (.iface T V) 80 82 true).run Tryd.prog W = .ok (.tuple #[.agg #[.int .i64 0, .int .i64 0, .int .i64 0, .slice none 0 0], .bool false]) W) ∧ (∀ W V, (Instr.typeAssert (.iface T V) 80 84 true).run Tryd.prog W = .ok (.tuple #[.agg #[.int .i64 0, .int .i64 0, .int .i64 0, .slice none 0 0], .bool false]) W) := by
    refine ⟨_, rfl, ?_⟩
    unfold qType
    by_cases h2 : K = 1 ∨ K = 3
    · rw [if_pos h2]; exact ⟨fun W V => as_lo V W, fun W V => as_lm V W⟩
    · rw [if_neg h2, if_neg (by omega), if_neg (by omega)]; exact ⟨fun W V => as_no V W, fun W V => as_nm V W⟩
  obtain ⟨T, eT, as1, as2⟩ := hT
  rw [eT] at HQ
  clear eT h1
  generalize qVal ⟨K, A, M, []⟩ (.slice none 0 0) = V at HQ
  have hA0 : Below w.heap.size w (w.alloc (.cells #[.int .i64 0, .int .i64 0, .int .i64 0, .slice none 0 0] 43)) := all_alloc w (.cells #[.int .i64 0, .int .i64 0, .int .i64 0, .slice none 0 0] 43)
  have hZ0 : Hid _ := heap_alloc_new w (.cells #[.int .i64 0, .int .i64 0, .int .i64 0, .slice none 0 0] 43)
  go_enter Tryd.func53, Tryd.ntmps53
  go_upto_region 4 with (go_at_call 63; refine (HW.out _).mono ?_; rintro e w1 ⟨v1, rfl, own1, hb1⟩; obtain ⟨p1, c1, rfl⟩ := own1.shape)
  obtain ⟨g1, hp1, hg1, hl1, q0, _⟩ := own1.cell 0 (by simp)
  obtain ⟨g2, hp2, _, _, q1, _⟩ := own1.cell 1 (by simp)
  subst hp1
  cases hp2
  have hB1 : Below w.heap.size w w1 := keepB hA0 (Nat.le_refl _) hb1
  have hZ1 : Hid _ := blk hZ0.out hb1
  have q0 : w1.cell? ⟨g1, 0, none⟩ = some (.int .i64 A) := q0
  have q1 : w1.cell? ⟨g1, 1, none⟩ = some (.int .i64 M) := q1
  try simp only [List.length_cons, List.length_nil]
  go_region
  have hsz1 : w.heap.size < w1.heap.size := by have := hb1.size; simp at this; omega
  have hAl : Below w1.heap.size w1 (World.drew (w1.alloc (.cells #[.int .i64 K, .int .i64 A, .int .i64 M, .slice none 0 0] 43))) := Below.drew (all_alloc w1 _)
  have hX2 : Hid ((World.drew (w1.alloc (.cells #[.int .i64 K, .int .i64 A, .int .i64 M, .slice none 0 0] 43))).heap[w1.heap.size]? = some (.cells #[.int .i64 K, .int .i64 A, .int .i64 M, .slice none 0 0] 43 (0, 0))) := heap_alloc_new w1 (.cells #[.int .i64 K, .int .i64 A, .int .i64 M, .slice none 0 0] 43)
  have hZ2 : Hid _ := blk hZ1.out hAl
  have hB2 := keepB hB1 (Nat.le_refl _) hAl
  have q1' := (hAl.cell (p := ⟨g1, 1, none⟩) hl1).trans q1
  have hlg : w.heap.size < g1 := by simp at hg1; omega
  generalize World.drew (w1.alloc (.cells #[.int .i64 K, .int .i64 A, .int .i64 M, .slice none 0 0] 43)) = B at hX2 hZ2 hB2 q1' ⊢
  clear hAl hZ1 hB1 q0 q1 hb1 own1 hg1
  generalize w1.heap.size = X at hX2 hsz1 hl1 ⊢
  have x0 := cellW hX2.out 0 _ rfl B (Below.refl _ _)
  have x1 := cellW hX2.out 1 _ rfl B (Below.refl _ _)
  have x2 := cellW hX2.out 2 _ rfl B (Below.refl _ _)
  have x3 := cellW hX2.out 3 _ rfl B (Below.refl _ _)
  go_wp2_with (go_at_call 64; refine (HQ.out _).mono ?_; rintro e w3 ⟨rfl, hb3⟩; have hX3 : Hid _ := blk hX2.out hb3; have hZ3 : Hid _ := blk hZ2.out hb3; have y0 := cellW hX3.out 0 _ rfl w3 (Below.refl _ _); have y1 := cellW hX3.out 1 _ rfl w3 (Below.refl _ _); have y2 := cellW hX3.out 2 _ rfl w3 (Below.refl _ _); have y3 := cellW hX3.out 3 _ rfl w3 (Below.refl _ _); have z0 := cellW hZ3.out 0 _ rfl w3 (Below.refl _ _); have z1 := cellW hZ3.out 1 _ rfl w3 (Below.refl _ _); have z2 := cellW hZ3.out 2 _ rfl w3 (Below.refl _ _); have z3 := cellW hZ3.out 3 _ rfl w3 (Below.refl _ _); have g0 := frozenW hZ3.out 0 w3 (Below.refl _ _); have g1' := frozenW hZ3.out 1 w3 (Below.refl _ _); have g2 := frozenW hZ3.out 2 w3 (Below.refl _ _); have g3 := frozenW hZ3.out 3 w3 (Below.refl _ _))
  have hB3 := keepB hB2 (Nat.le_refl _) hb3
  exact bodyPost_ret (v := .agg #[.int .i64 K, .int .i64 A, .int .i64 M, .slice none 0 0]) (by simp [results, Tryd.results53, go_sem, z0, z1, z2, z3]) rfl ⟨_, rfl, OwnI.nil _ _, (Below.setCell (Below.setCell (Below.setCell (Below.setCell hB3 (by simp only; omega) _) (by simp only; omega) _) (by simp only; omega) _) (by simp only; omega) _)⟩
set_option maxRecDepth 100000 in
set_option maxHeartbeats 1600000 in
theorem readAsk_one (s : ByteArray) (w : World) (h5 : 5 ≤ s.size) (hs : s.size ≤ 8000) (h1 : (byteAt s 0 : Int) = 5 ∨ (byteAt s 0 : Int) = 6) :
    Calls Tryd.prog 53 #[.string s] w fun e w' => ∃ v, e = .returned (.agg #[.int .i64 (readI s).c, .int .i64 (readI s).a, .int .i64 (readI s).m, v]) ∧ OwnI w' w.heap.size v (readI s).vs ∧ Below w.heap.size w w' := by
  have hixK := index_K s (by omega)
  have hsl := slice_15 s h5
  have HW : Hid (∀ W, Calls Tryd.prog 63 #[.string (s.extract 1 5)] W fun e w' => ∃ v, e = .returned v ∧ OwnI w' W.heap.size v [wordAt s 1, wordAt s 3] ∧ Below W.heap.size W w') := fun W => by
    have := wordsOf_any (s.extract 1 5) W (by rw [ByteArray.size_extract]; omega)
    rwa [words_head s h5] at this
  have hrd : readI s = ⟨(byteAt s 0 : Int), wordAt s 1, 1, [if coilB (byteAt s 0 : Int) then wordAt s 3 / 65280 else wordAt s 3]⟩ := by
    unfold readI
    dsimp only
    rcases h1 with h | h
    · rw [if_pos h, h]; rfl
    · rw [if_neg (by omega), if_pos h, h]; rfl
  rw [hrd]
  have hA := wordAt_range s 1
  have hM := wordAt_range s 3
  have hK := byteAt_range s 0
  generalize s.extract 1 5 = t at hsl HW
  obtain ⟨K, eK⟩ : ∃ K, (byteAt s 0 : Int) = K := ⟨_, rfl⟩
  have hK0 : 0 ≤ K := by omega
  have hK1 : K < 256 := by omega
  rw [eK] at hixK h1 ⊢
  clear hrd hK eK
  generalize wordAt s 1 = A at HW hA  ⊢
  generalize wordAt s 3 = M at HW hM  ⊢
  obtain ⟨hA0, hA1⟩ := hA
  obtain ⟨hM0, hM1⟩ := hM
  have HQ : Hid (∀ W, Calls Tryd.prog 64 #[.agg #[.int .i64 K, .int .i64 A, .int .i64 M, .slice none 0 0]] W fun e w' => e = .returned (.iface (qType K) (qVal ⟨K, A, M, []⟩ (.slice none 0 0))) ∧ Below W.heap.size W w') := fun W => questionOf_any ⟨K, A, M, []⟩ _ ⟨_, _, _, rfl⟩ W
  have eT : qType K = 82 := by unfold qType; rw [if_neg (by omega), if_pos (by omega)]
  rw [eT] at HQ
  have HO : Hid (∀ W, Calls Tryd.prog 65 #[.int .i64 K, .int .i64 M] W fun e w' => e = .returned (.int .i64 (if coilB K then M / 65280 else M)) ∧ W = w') := fun W => oneValue_any K M W hM0 hM1
  generalize (if coilB K then M / 65280 else M) = val at HO ⊢
  clear eT h1
  generalize qVal ⟨K, A, M, []⟩ (.slice none 0 0) = V at HQ
  have hA0 : Below w.heap.size w (w.alloc (.cells #[.int .i64 0, .int .i64 0, .int .i64 0, .slice none 0 0] 43)) := all_alloc w (.cells #[.int .i64 0, .int .i64 0, .int .i64 0, .slice none 0 0] 43)
  have hZ0 : Hid _ := heap_alloc_new w (.cells #[.int .i64 0, .int .i64 0, .int .i64 0, .slice none 0 0] 43)
  go_enter Tryd.func53, Tryd.ntmps53
  go_upto_region 4 with (go_at_call 63; refine (HW.out _).mono ?_; rintro e w1 ⟨v1, rfl, own1, hb1⟩; obtain ⟨p1, c1, rfl⟩ := own1.shape)
  obtain ⟨g1, hp1, hg1, hl1, q0, _⟩ := own1.cell 0 (by simp)
  obtain ⟨g2, hp2, _, _, q1, _⟩ := own1.cell 1 (by simp)
  subst hp1
  cases hp2
  have hB1 : Below w.heap.size w w1 := keepB hA0 (Nat.le_refl _) hb1
  have hZ1 : Hid _ := blk hZ0.out hb1
  have q0 : w1.cell? ⟨g1, 0, none⟩ = some (.int .i64 A) := q0
  have q1 : w1.cell? ⟨g1, 1, none⟩ = some (.int .i64 M) := q1
  try simp only [List.length_cons, List.length_nil]
  go_region
  have hsz1 : w.heap.size < w1.heap.size := by have := hb1.size; simp at this; omega
  have hAl : Below w1.heap.size w1 (World.drew (w1.alloc (.cells #[.int .i64 K, .int .i64 A, .int .i64 M, .slice none 0 0] 43))) := Below.drew (all_alloc w1 _)
  have hX2 : Hid ((World.drew (w1.alloc (.cells #[.int .i64 K, .int .i64 A, .int .i64 M, .slice none 0 0] 43))).heap[w1.heap.size]? = some (.cells #[.int .i64 K, .int .i64 A, .int .i64 M, .slice none 0 0] 43 (0, 0))) := heap_alloc_new w1 (.cells #[.int .i64 K, .int .i64 A, .int .i64 M, .slice none 0 0] 43)
  have hZ2 : Hid _ := blk hZ1.out hAl
  have hB2 := keepB hB1 (Nat.le_refl _) hAl
  have q1' := (hAl.cell (p := ⟨g1, 1, none⟩) hl1).trans q1
  have hlg : w.heap.size < g1 := by simp at hg1; omega
  generalize World.drew (w1.alloc (.cells #[.int .i64 K, .int .i64 A, .int .i64 M, .slice none 0 0] 43)) = B at hX2 hZ2 hB2 q1' ⊢
  clear hAl hZ1 hB1 q0 q1 hb1 own1 hg1
  generalize w1.heap.size = X at hX2 hsz1 hl1 ⊢
  have x0 := cellW hX2.out 0 _ rfl B (Below.refl _ _)
  have x1 := cellW hX2.out 1 _ rfl B (Below.refl _ _)
  have x2 := cellW hX2.out 2 _ rfl B (Below.refl _ _)
  have x3 := cellW hX2.out 3 _ rfl B (Below.refl _ _)
  have hlB : g1 < B.heap.size := Nat.lt_trans hl1 (Array.getElem?_eq_some_iff.1 hX2.out).1
  have as1 := as_oo
  go_upto_region 7 with (go_at_call 64; refine (HQ.out _).mono ?_; rintro e w3 ⟨rfl, hb3⟩; have hX3 : Hid _ := blk hX2.out hb3; have hZ3 : Hid _ := blk hZ2.out hb3; have y0 := cellW hX3.out 0 _ rfl w3 (Below.refl _ _); have y1 := cellW hX3.out 1 _ rfl w3 (Below.refl _ _); have y2 := cellW hX3.out 2 _ rfl w3 (Below.refl _ _); have y3 := cellW hX3.out 3 _ rfl w3 (Below.refl _ _); have z0 := cellW hZ3.out 0 _ rfl w3 (Below.refl _ _); have z1 := cellW hZ3.out 1 _ rfl w3 (Below.refl _ _); have z2 := cellW hZ3.out 2 _ rfl w3 (Below.refl _ _); have z3 := cellW hZ3.out 3 _ rfl w3 (Below.refl _ _); have g0 := frozenW hZ3.out 0 w3 (Below.refl _ _); have g1' := frozenW hZ3.out 1 w3 (Below.refl _ _); have g2 := frozenW hZ3.out 2 w3 (Below.refl _ _); have g3 := frozenW hZ3.out 3 w3 (Below.refl _ _); have f0 := frozenW hX3.out 0 w3 (Below.refl _ _); have f1 := frozenW hX3.out 1 w3 (Below.refl _ _); have f2 := frozenW hX3.out 2 w3 (Below.refl _ _); have f3 := frozenW hX3.out 3 w3 (Below.refl _ _); have hlX : X < w3.heap.size := (Array.getElem?_eq_some_iff.1 hX3.out).1; have hlG : w.heap.size < w3.heap.size := (Array.getElem?_eq_some_iff.1 hZ3.out).1; have qM := (hb3.cell (p := ⟨g1, 1, none⟩) (Nat.lt_of_lt_of_le hl1 (Nat.le_of_lt (Array.getElem?_eq_some_iff.1 hX2.out).1))).trans q1')
  have hB3 := keepB hB2 (Nat.le_refl _) hb3
  clear x0 x1 x2 x3
  have ne1 : w.heap.size ≠ X := by omega
  have hX4 : Hid ((World.drew (((w3.setCell ⟨X, 2, none⟩ (.int .i64 1)).setCell ⟨X, 3, none⟩ (.slice (some ⟨w3.heap.size, 0, none⟩) 1 1)).alloc (.cells #[.int .i64 val] 2))).heap[X]? = some (.cells #[.int .i64 K, .int .i64 A, .int .i64 1, .slice (some ⟨w3.heap.size, 0, none⟩) 1 1] 43 (0, 0))) := blk (Joins.block_setCell (i := 3) (Joins.block_setCell (i := 2) hX3.out (.int .i64 1)) (.slice (some ⟨w3.heap.size, 0, none⟩) 1 1)) (Below.drew (all_alloc _ (.cells #[.int .i64 val] 2)))
  have hZ4 : Hid ((World.drew (((w3.setCell ⟨X, 2, none⟩ (.int .i64 1)).setCell ⟨X, 3, none⟩ (.slice (some ⟨w3.heap.size, 0, none⟩) 1 1)).alloc (.cells #[.int .i64 val] 2))).heap[w.heap.size]? = some (.cells #[.int .i64 0, .int .i64 0, .int .i64 0, .slice none 0 0] 43 (0, 0))) := blk ((Below.heap_setCell _ _ _ _ (by simp only; omega)).trans ((Below.heap_setCell _ _ _ _ (by simp only; omega)).trans hZ3.out)) (Below.drew (all_alloc _ (.cells #[.int .i64 val] 2)))
  have hO4 : Hid (OwnI (World.drew (((w3.setCell ⟨X, 2, none⟩ (.int .i64 1)).setCell ⟨X, 3, none⟩ (.slice (some ⟨w3.heap.size, 0, none⟩) 1 1)).alloc (.cells #[.int .i64 val] 2))) w.heap.size (.slice (some ⟨w3.heap.size, 0, none⟩) 1 1) [val]) := own_one (by rw [size_set, size_set]) (by omega)
  have hB4 : Hid (Below w.heap.size w (World.drew (((w3.setCell ⟨X, 2, none⟩ (.int .i64 1)).setCell ⟨X, 3, none⟩ (.slice (some ⟨w3.heap.size, 0, none⟩) 1 1)).alloc (.cells #[.int .i64 val] 2)))) := ((((hB3.setCell (by simp only; omega) _).setCell (by simp only; omega) _).alloc (by rw [size_set, size_set]; omega) _).drew)
  go_region_law (go_simp; go_at_call 65; refine (HO.out _).mono ?_; rintro e w4 ⟨rfl, rfl⟩)
  all_goals
    generalize (World.drew (((w3.setCell ⟨X, 2, none⟩ (.int .i64 1)).setCell ⟨X, 3, none⟩ (.slice (some ⟨w3.heap.size, 0, none⟩) 1 1)).alloc (.cells #[.int .i64 val] 2))) = D at hX4 hZ4 hO4 hB4 ⊢
    clear y0 y1 y2 y3 z0 z1 z2 z3 g0 g1' g2 g3 f0 f1 f2 f3 qM
    have y0 := cellW hX4.out 0 _ rfl D (Below.refl _ _)
    have y1 := cellW hX4.out 1 _ rfl D (Below.refl _ _)
    have y2 := cellW hX4.out 2 _ rfl D (Below.refl _ _)
    have y3 := cellW hX4.out 3 _ rfl D (Below.refl _ _)
    have z0 := cellW hZ4.out 0 _ rfl D (Below.refl _ _)
    have z1 := cellW hZ4.out 1 _ rfl D (Below.refl _ _)
    have z2 := cellW hZ4.out 2 _ rfl D (Below.refl _ _)
    have z3 := cellW hZ4.out 3 _ rfl D (Below.refl _ _)
    have g0 := frozenW hZ4.out 0 D (Below.refl _ _)
    have g1' := frozenW hZ4.out 1 D (Below.refl _ _)
    have g2 := frozenW hZ4.out 2 D (Below.refl _ _)
    have g3 := frozenW hZ4.out 3 D (Below.refl _ _)
    go_wp2
    exact bodyPost_ret (v := .agg #[.int .i64 K, .int .i64 A, .int .i64 1, .slice (some ⟨w3.heap.size, 0, none⟩) 1 1]) (by simp [results, Tryd.results53, go_sem, z0, z1, z2, z3]) rfl ⟨_, rfl, OwnI.farQ2 (OwnI.farQ2 (OwnI.farQ2 (OwnI.farQ2 hO4.out (by simp [Value.ownBlock]; omega) _) (by simp [Value.ownBlock]; omega) _) (by simp [Value.ownBlock]; omega) _) (by simp [Value.ownBlock]; omega) _, (Below.setCell (Below.setCell (Below.setCell (Below.setCell hB4.out (by simp only; omega) _) (by simp only; omega) _) (by simp only; omega) _) (by simp only; omega) _)⟩
end Go.Proofs.YtfpibedloodjlabDoor
