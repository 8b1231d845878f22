/- WHAT THE PROGRAM READS of bytes: readAsk where several are set; and readAsk at every text. -/
import Derived.Test.YtfpibedloodjlabDoorAskRd
namespace Go.Proofs.YtfpibedloodjlabDoor
open Go.RowKit
set_option linter.unusedVariables false
set_option linter.unusedSimpArgs false

theorem wf_ofQ {n : Int} (h1 : 0 ≤ n) (h2 : n ≤ 65535) : (Lit.int .i64 n).wf = true := by
  simp [Lit.wf, IntKind.min, IntKind.max, IntKind.signed, IntKind.bits]; omega
theorem valsR_eq (s : ByteArray) (h5 : 5 ≤ s.size) (h1 : (byteAt s 0 : Int) = 15 ∨ (byteAt s 0 : Int) = 16) : readI s = ⟨(byteAt s 0 : Int), wordAt s 1, wordAt s 3, valsR (byteAt s 0 : Int) (wordAt s 3) (s.extract (min 6 s.size) s.size)⟩ := by
  unfold readI valsR
  dsimp only
  generalize wordAt s 3 = M
  have hz : (s.extract (min 6 s.size) s.size).size = s.size - 6 := by rw [ByteArray.size_extract]; omega
  rcases h1 with h | h
  · rw [if_neg (by omega), if_neg (by omega), if_pos h, h]
    have ec : coilB 15 = true := rfl
    rw [ec]
    simp only [if_true]
    refine Ak.ext4 rfl rfl rfl ?_
    unfold bitsR
    rw [hz]
    by_cases hc : (1 ≤ M ∧ M ≤ 64) ∧ ((s.size - 6 : Nat) : Int) = (M + 7) / 8
    · have h6 : 6 ≤ s.size := by omega
      rw [if_pos hc, if_pos hc, Nat.min_eq_left h6]
      exact (bits_tail s M.toNat (by omega)).symm
    · rw [if_neg hc, if_neg hc]
  · rw [if_neg (by omega), if_neg (by omega), if_neg (by omega), if_pos h, h]
    have ec : coilB 16 = false := rfl
    rw [ec]
    simp only [Bool.false_eq_true, if_false]
    refine Ak.ext4 rfl rfl rfl ?_
    by_cases h6 : 6 ≤ s.size
    · rw [Nat.min_eq_left h6, words_tail s h6]
    · rw [hz, show (s.size - 6) / 2 = 0 by omega]
      simp [wordsAt]
set_option maxRecDepth 100000 in
set_option maxHeartbeats 1600000 in
theorem readAsk_many (s : ByteArray) (w : World) (h5 : 5 ≤ s.size) (hs : s.size ≤ 8000) (h1 : (byteAt s 0 : Int) = 15 ∨ (byteAt s 0 : Int) = 16)  :
    Calls Tryd.prog 53 #[.string s] w fun e w' => ∃ v, e = .returned (.agg #[.int .i64 (readI s).c, .int .i64 (readI s).a, .int .i64 (readI s).m, v]) ∧ OwnI w' w.heap.size v (readI s).vs ∧ Below w.heap.size w w' := by
  have hixK := index_K s (by omega)
  have hsl := slice_15 s h5
  have HW : Hid (∀ W, Calls Tryd.prog 63 #[.string (s.extract 1 5)] W fun e w' => ∃ v, e = .returned v ∧ OwnI w' W.heap.size v [wordAt s 1, wordAt s 3] ∧ Below W.heap.size W w') := fun W => by
    have := wordsOf_any (s.extract 1 5) W (by rw [ByteArray.size_extract]; omega)
    rwa [words_head s h5] at this
  have hrd := valsR_eq s h5 h1
  rw [hrd]
  have hsd : ∀ W, (Instr.slice 9 (.string s) (some (.int .i64 (min 6 (s.size : Int)))) none none).run Tryd.prog W = .ok (.string (s.extract (min 6 s.size) s.size)) W := fun W => by
    rw [run_slice_string_from_if W 9 s .i64 _ Tryd.underlying9, if_pos (by omega), show (min 6 (s.size : Int)).toNat = min 6 s.size by omega]
  have hdz : (s.extract (min 6 s.size) s.size).size ≤ 8000 := by rw [ByteArray.size_extract]; omega
  generalize s.extract (min 6 s.size) s.size = d at hsd hdz hrd ⊢
  have hA := wordAt_range s 1
  have hM := wordAt_range s 3
  have hK := byteAt_range s 0
  generalize s.extract 1 5 = t at hsl HW
  obtain ⟨K, eK⟩ : ∃ K, (byteAt s 0 : Int) = K := ⟨_, rfl⟩
  have hK0 : 0 ≤ K := by omega
  have hK1 : K < 256 := by omega
  rw [eK] at hixK h1 ⊢
  clear hrd hK eK
  generalize wordAt s 1 = A at HW hA  ⊢
  generalize wordAt s 3 = M at HW hM  ⊢
  obtain ⟨hA0, hA1⟩ := hA
  obtain ⟨hM0, hM1⟩ := hM
  have HQ : Hid (∀ W, Calls Tryd.prog 64 #[.agg #[.int .i64 K, .int .i64 A, .int .i64 M, .slice none 0 0]] W fun e w' => e = .returned (.iface (qType K) (qVal ⟨K, A, M, []⟩ (.slice none 0 0))) ∧ Below W.heap.size W w') := fun W => questionOf_any ⟨K, A, M, []⟩ _ ⟨_, _, _, rfl⟩ W
  have eT : qType K = 84 := by unfold qType; rw [if_neg (by omega), if_neg (by omega), if_pos (by omega)]
  rw [eT] at HQ
  have HV : Hid (∀ W, Calls Tryd.prog 66 #[.agg #[.int .i64 K, .int .i64 A, .int .i64 M, .slice none 0 0], .string d] W fun e w' => ∃ v', e = .returned v' ∧ OwnI w' W.heap.size v' (valsR K M d) ∧ Below W.heap.size W w') := fun W => readValues_any K A M _ ⟨_, _, _, rfl⟩ d W hdz (wf_ofQ hM0 hM1)
  generalize valsR K M d = L at HV ⊢
  clear eT h1
  generalize qVal ⟨K, A, M, []⟩ (.slice none 0 0) = V at HQ
  have hA0 : Below w.heap.size w (w.alloc (.cells #[.int .i64 0, .int .i64 0, .int .i64 0, .slice none 0 0] 43)) := all_alloc w (.cells #[.int .i64 0, .int .i64 0, .int .i64 0, .slice none 0 0] 43)
  have hZ0 : Hid _ := heap_alloc_new w (.cells #[.int .i64 0, .int .i64 0, .int .i64 0, .slice none 0 0] 43)
  go_enter Tryd.func53, Tryd.ntmps53
  go_upto_region 4 with (go_at_call 63; refine (HW.out _).mono ?_; rintro e w1 ⟨v1, rfl, own1, hb1⟩; obtain ⟨p1, c1, rfl⟩ := own1.shape)
  obtain ⟨g1, hp1, hg1, hl1, q0, _⟩ := own1.cell 0 (by simp)
  obtain ⟨g2, hp2, _, _, q1, _⟩ := own1.cell 1 (by simp)
  subst hp1
  cases hp2
  have hB1 : Below w.heap.size w w1 := keepB hA0 (Nat.le_refl _) hb1
  have hZ1 : Hid _ := blk hZ0.out hb1
  have q0 : w1.cell? ⟨g1, 0, none⟩ = some (.int .i64 A) := q0
  have q1 : w1.cell? ⟨g1, 1, none⟩ = some (.int .i64 M) := q1
  try simp only [List.length_cons, List.length_nil]
  go_region
  have hsz1 : w.heap.size < w1.heap.size := by have := hb1.size; simp at this; omega
  have hAl : Below w1.heap.size w1 (World.drew (w1.alloc (.cells #[.int .i64 K, .int .i64 A, .int .i64 M, .slice none 0 0] 43))) := Below.drew (all_alloc w1 _)
  have hX2 : Hid ((World.drew (w1.alloc (.cells #[.int .i64 K, .int .i64 A, .int .i64 M, .slice none 0 0] 43))).heap[w1.heap.size]? = some (.cells #[.int .i64 K, .int .i64 A, .int .i64 M, .slice none 0 0] 43 (0, 0))) := heap_alloc_new w1 (.cells #[.int .i64 K, .int .i64 A, .int .i64 M, .slice none 0 0] 43)
  have hZ2 : Hid _ := blk hZ1.out hAl
  have hB2 := keepB hB1 (Nat.le_refl _) hAl
  have q1' := (hAl.cell (p := ⟨g1, 1, none⟩) hl1).trans q1
  have hlg : w.heap.size < g1 := by simp at hg1; omega
  generalize World.drew (w1.alloc (.cells #[.int .i64 K, .int .i64 A, .int .i64 M, .slice none 0 0] 43)) = B at hX2 hZ2 hB2 q1' ⊢
  clear hAl hZ1 hB1 q0 q1 hb1 own1 hg1
  generalize w1.heap.size = X at hX2 hsz1 hl1 ⊢
  have x0 := cellW hX2.out 0 _ rfl B (Below.refl _ _)
  have x1 := cellW hX2.out 1 _ rfl B (Below.refl _ _)
  have x2 := cellW hX2.out 2 _ rfl B (Below.refl _ _)
  have x3 := cellW hX2.out 3 _ rfl B (Below.refl _ _)
  have hlB : g1 < B.heap.size := Nat.lt_trans hl1 (Array.getElem?_eq_some_iff.1 hX2.out).1
  have as1 := as_mo
  have as2 := as_mm
  go_upto_region 9 with (go_at_call 64; refine (HQ.out _).mono ?_; rintro e w3 ⟨rfl, hb3⟩; have hX3 : Hid _ := blk hX2.out hb3; have hZ3 : Hid _ := blk hZ2.out hb3; have y0 := cellW hX3.out 0 _ rfl w3 (Below.refl _ _); have y1 := cellW hX3.out 1 _ rfl w3 (Below.refl _ _); have y2 := cellW hX3.out 2 _ rfl w3 (Below.refl _ _); have y3 := cellW hX3.out 3 _ rfl w3 (Below.refl _ _); have z0 := cellW hZ3.out 0 _ rfl w3 (Below.refl _ _); have z1 := cellW hZ3.out 1 _ rfl w3 (Below.refl _ _); have z2 := cellW hZ3.out 2 _ rfl w3 (Below.refl _ _); have z3 := cellW hZ3.out 3 _ rfl w3 (Below.refl _ _); have g0 := frozenW hZ3.out 0 w3 (Below.refl _ _); have g1' := frozenW hZ3.out 1 w3 (Below.refl _ _); have g2 := frozenW hZ3.out 2 w3 (Below.refl _ _); have g3 := frozenW hZ3.out 3 w3 (Below.refl _ _); have f0 := frozenW hX3.out 0 w3 (Below.refl _ _); have f1 := frozenW hX3.out 1 w3 (Below.refl _ _); have f2 := frozenW hX3.out 2 w3 (Below.refl _ _); have f3 := frozenW hX3.out 3 w3 (Below.refl _ _); have hlX : X < w3.heap.size := (Array.getElem?_eq_some_iff.1 hX3.out).1; have hlG : w.heap.size < w3.heap.size := (Array.getElem?_eq_some_iff.1 hZ3.out).1; have qM := (hb3.cell (p := ⟨g1, 1, none⟩) (Nat.lt_of_lt_of_le hl1 (Nat.le_of_lt (Array.getElem?_eq_some_iff.1 hX2.out).1))).trans q1')
  have hB3 := keepB hB2 (Nat.le_refl _) hb3
  clear x0 x1 x2 x3
  have ne1 : w.heap.size ≠ X := by omega
  go_region_law (go_simp; go_at_call 66; refine (HV.out _).mono ?_; rintro e w4 ⟨v4, rfl, own4, hb4⟩; obtain ⟨p4, c4, rfl⟩ := own4.shape; have hX4 : Hid _ := blk (Y := World.drew w3) hX3.out hb4; have u3 := cellW hX4.out 3 _ rfl w4 (Below.refl _ _); have uf3 := frozenW hX4.out 3 w4 (Below.refl _ _))
  all_goals
    have hX5 : Hid ((w4.setCell ⟨X, 3, none⟩ (.slice p4 L.length c4)).heap[X]? = some (.cells #[.int .i64 K, .int .i64 A, .int .i64 M, .slice p4 L.length c4] 43 (0, 0))) := Joins.block_setCell (i := 3) hX4.out (.slice p4 L.length c4)
    have hZ5 : Hid ((w4.setCell ⟨X, 3, none⟩ (.slice p4 L.length c4)).heap[w.heap.size]? = some (.cells #[.int .i64 0, .int .i64 0, .int .i64 0, .slice none 0 0] 43 (0, 0))) := (Below.heap_setCell _ _ _ _ (by simp only; omega)).trans (blk (Y := World.drew w3) hZ3.out hb4)
    have hs4 : w3.heap.size ≤ w4.heap.size := hb4.size
    have own5 : OwnI (w4.setCell ⟨X, 3, none⟩ (.slice p4 L.length c4)) w3.heap.size (.slice p4 L.length c4) L := OwnI.farQ own4 (by simp only; exact hlX) _
    have hB5 : Hid (Below w.heap.size w (w4.setCell ⟨X, 3, none⟩ (.slice p4 L.length c4))) := (keepB (Below.drew hB3) (Nat.le_refl _) hb4).setCell (by simp only; omega) _
    clear y0 y1 y2 y3 z0 z1 z2 z3 g0 g1' g2 g3 f0 f1 f2 f3 qM u3 uf3
    generalize w4.setCell ⟨X, 3, none⟩ (.slice p4 L.length c4) = D at hX5 hZ5 own5 hB5 ⊢
    have y0 := cellW hX5.out 0 _ rfl D (Below.refl _ _)
    have y1 := cellW hX5.out 1 _ rfl D (Below.refl _ _)
    have y2 := cellW hX5.out 2 _ rfl D (Below.refl _ _)
    have y3 := cellW hX5.out 3 _ rfl D (Below.refl _ _)
    have z0 := cellW hZ5.out 0 _ rfl D (Below.refl _ _)
    have z1 := cellW hZ5.out 1 _ rfl D (Below.refl _ _)
    have z2 := cellW hZ5.out 2 _ rfl D (Below.refl _ _)
    have z3 := cellW hZ5.out 3 _ rfl D (Below.refl _ _)
    have g0 := frozenW hZ5.out 0 D (Below.refl _ _)
    have g1' := frozenW hZ5.out 1 D (Below.refl _ _)
    have g2 := frozenW hZ5.out 2 D (Below.refl _ _)
    have g3 := frozenW hZ5.out 3 D (Below.refl _ _)
    go_wp2
    exact bodyPost_ret (v := .agg #[.int .i64 K, .int .i64 A, .int .i64 M, .slice p4 L.length c4]) (by simp [results, Tryd.results53, go_sem, z0, z1, z2, z3]) rfl ⟨_, rfl, OwnI.leQ (OwnI.farQ (OwnI.farQ (OwnI.farQ (OwnI.farQ own5 (by simp only; omega) _) (by simp only; omega) _) (by simp only; omega) _) (by simp only; omega) _) (by omega), (Below.setCell (Below.setCell (Below.setCell (Below.setCell hB5.out (by simp only; omega) _) (by simp only; omega) _) (by simp only; omega) _) (by simp only; omega) _)⟩
theorem readAsk_any (s : ByteArray) (w : World) (h5 : 5 ≤ s.size) (hs : s.size ≤ 8000) :
    Calls Tryd.prog 53 #[.string s] w fun e w' => ∃ v, e = .returned (.agg #[.int .i64 (readI s).c, .int .i64 (readI s).a, .int .i64 (readI s).m, v]) ∧ OwnI w' w.heap.size v (readI s).vs ∧ Below w.heap.size w w' := by
  by_cases h1 : (byteAt s 0 : Int) = 5 ∨ (byteAt s 0 : Int) = 6
  · exact readAsk_one s w h5 hs h1
  by_cases h2 : (byteAt s 0 : Int) = 15 ∨ (byteAt s 0 : Int) = 16
  · exact readAsk_many s w h5 hs h2
  · exact readAsk_none s w h5 hs ⟨by omega, by omega, by omega, by omega⟩
set_option maxRecDepth 100000 in
set_option maxHeartbeats 800000 in
theorem readAsk_short (s : ByteArray) (w : World) (h5 : s.size < 5) :
    Calls Tryd.prog 53 #[.string s] w fun e w' => e = .returned (.agg #[.int .i64 0, .int .i64 0, .int .i64 0, .slice none 0 0]) ∧ Below w.heap.size w w' := by
  have hZ0 : Hid _ := heap_alloc_new w (.cells #[.int .i64 0, .int .i64 0, .int .i64 0, .slice none 0 0] 43)
  have z0 := cellW hZ0.out 0 _ rfl _ (Below.refl _ _)
  have z1 := cellW hZ0.out 1 _ rfl _ (Below.refl _ _)
  have z2 := cellW hZ0.out 2 _ rfl _ (Below.refl _ _)
  have z3 := cellW hZ0.out 3 _ rfl _ (Below.refl _ _)
  go_enter Tryd.func53, Tryd.ntmps53
  go_wp2
  exact bodyPost_ret (v := .agg #[.int .i64 0, .int .i64 0, .int .i64 0, .slice none 0 0]) (by simp [results, Tryd.results53, go_sem]) rfl ⟨rfl, by first | exact all_alloc _ _ | (repeat (refine Below.setCell ?_ (by simp) _)); exact all_alloc _ _⟩
end Go.Proofs.YtfpibedloodjlabDoor
