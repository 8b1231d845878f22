/- A QUESTION SERVED by the model, whole. -/
import Derived.Test.YtfpibedloodjlabDoorSvJ
import Derived.Test.YtfpibedloodjlabDoorSvI3
namespace Go.Proofs.YtfpibedloodjlabDoor
open Go.RowKit
set_option linter.unusedVariables false
set_option linter.unusedSimpArgs false

/-- what is kept while the model answers any question -/
def Sk (w : World) (o : Obj) (W : World) : Prop := Below w.heap.size w W ∧ W.heap[w.heap.size]? = some o
theorem conv_atK (W : World) (g : Nat) (l : List UInt8) (hl : l.length ≤ 1000) (h : W.heap[g]? = some (.cells (cellsC l).toArray 5 (0, 0))) : (convert 60 9 (.slice (some ⟨g, 0, none⟩) l.length l.length)).run Tryd.prog W = .ok (.string ⟨l.toArray⟩) W :=
  OwnM.conv (base := 0) _ _ Tryd.underlying60 Tryd.underlying5 Tryd.underlying9 (.inr ⟨g, _, _, (0, 0), rfl, Nat.zero_le _, h, .inl rfl, Nat.le_refl _, by unfold maxLen; omega, by simp [cellsC], by rw [List.take_of_length_le]; simp [cellsC]⟩)
theorem conv_exA (W : World) (g : Nat) (K2 n : Int) (s : ByteArray) (hn : 0 ≤ n ∧ n ≤ 255) (hK : K2 = ((byteAt s 0 % 128 + 128 : Nat) : Int)) (h : W.heap[g]? = some (.cells #[.int .u8 K2, .int .u8 n] 5 (0, 0))) : (convert 60 9 (.slice (some ⟨g, 0, none⟩) 2 2)).run Tryd.prog W = .ok (.string (exB s n)) W := by
  have := conv_atK W g [UInt8.ofNat (byteAt s 0 % 128 + 128), UInt8.ofNat n.toNat] (by simp)
  simp only [cellsC, List.map_cons, List.map_nil, u8_ofNat (show byteAt s 0 % 128 + 128 < 256 by omega), u8_ofNat (show n.toNat < 256 by omega)] at this
  rw [show ((n.toNat : Nat) : Int) = n by omega, ← hK] at this
  exact this h
theorem wrapu8 {n : Int} (h : 0 ≤ n ∧ n < 256) : IntKind.u8.wrap n = n := by
  obtain ⟨k, rfl⟩ : ∃ k : Nat, n = k := ⟨n.toNat, by omega⟩
  have : ∀ k : Fin 256, IntKind.u8.wrap (k.val : Int) = (k.val : Int) := by decide +kernel
  exact this ⟨k, by omega⟩
set_option maxRecDepth 100000 in
set_option maxHeartbeats 3200000 in
theorem l05Any_bad (t : Tb) (s : ByteArray) (B : Nat) (v1 v2 : Value) (w : World) (h0 : 0 < s.size) (h8 : s.size ≤ 8000) (hT : t.right = true) (h : OwnT w B v1 v2 t) (n : Int) (hn1' : 1 ≤ n ∧ n ≤ 3) (hb : badT t s = n) :
    Calls Tryd.prog 15 #[.agg #[v1, v2], .string s] w fun e w' => ∃ u1 u2, e = .returned (.tuple #[.agg #[u1, u2], .string (exB s n)]) ∧ OwnT w' w.heap.size u1 u2 (t) ∧ Below w.heap.size w w' := by
  obtain ⟨⟨hn1, hcb⟩, hn2, hrw⟩ := (Tb.right_iff t).1 hT
  obtain ⟨p1, c1, rfl⟩ := h.c.shape
  obtain ⟨p2, c2, rfl⟩ := h.r.shape
  have HO : Hid (OwnT _ _ _ _ _) := h
  clear h
  have HBD : Hid (∀ W, Calls Tryd.prog 33 #[.agg #[.slice p1 t.cs.length c1, .slice p2 t.rs.length c2], .string s] W fun e w' => e = .returned (.int .i64 (badT t s)) ∧ Below W.heap.size W w') := fun W => l05Bad_any t s _ _ W h0 h8 (by omega) (by omega) ⟨_, _, rfl⟩ ⟨_, _, rfl⟩
  have HCPw : Hid (∀ W, Below w.heap.size w W → Calls Tryd.prog 34 #[.agg #[.slice p1 t.cs.length c1, .slice p2 t.rs.length c2]] W fun e w' => ∃ u1 u2, e = .returned (.agg #[u1, u2]) ∧ OwnT w' W.heap.size u1 u2 t ∧ Below W.heap.size W w') := fun W hW => l05Copy_any t B _ _ W (by omega) (by omega) (HO.out.below hW)
  rw [hb] at HBD
  have hn : 0 ≤ n ∧ n ≤ 255 := by omega
  have hgt : (0 : Int) < n := by omega
  have hI := index_K s h0
  have hr := byteAt_range s 0
  have hrem : (byteAt s 0 : Int).tmod 128 = ((byteAt s 0 % 128 : Nat) : Int) := by rw [Int.tmod_eq_emod_of_nonneg (by omega)]; omega
  have ewn : IntKind.u8.wrap n = n := by
    have : n = 1 ∨ n = 2 ∨ n = 3 := by omega
    rcases this with rfl | rfl | rfl <;> decide
  have ewn' : n % 256 = n := by omega
  obtain ⟨R, hRx⟩ : ∃ R, exB s n = R := ⟨_, rfl⟩
  rw [hRx]
  obtain ⟨K2, hK2⟩ : ∃ K2 : Int, K2 = ((byteAt s 0 % 128 + 128 : Nat) : Int) := ⟨_, rfl⟩
  have hadd : ((byteAt s 0 % 128 : Nat) : Int) + 128 = K2 := by rw [hK2]; omega
  have hK2r : 0 ≤ K2 ∧ K2 < 256 := by rw [hK2]; omega
  have ewK : K2 % 256 = K2 := by omega
  have ewK' : IntKind.u8.wrap K2 = K2 := wrapu8 hK2r
  obtain ⟨K1, hK1⟩ : ∃ K1 : Int, K1 = ((byteAt s 0 % 128 : Nat) : Int) := ⟨_, rfl⟩
  have hK1r : 0 ≤ K1 ∧ K1 < 128 := by rw [hK1]; omega
  have ewK1 : IntKind.u8.wrap K1 = K1 := wrapu8 (by omega)
  have ewK1' : K1 % 256 = K1 := by omega
  rw [← hK1] at hrem hadd
  obtain ⟨K, hK⟩ : ∃ K : Int, K = (byteAt s 0 : Int) := ⟨_, rfl⟩
  rw [← hK] at hI hrem
  have hrem2 : IntKind.u8.wrap (K.tmod 128) = K1 := by rw [hrem]; exact ewK1
  have hrem3 : K % 128 = K1 := by rw [hK, hK1]; omega
  have HK2 : Hid _ := hK2
  have HRx : Hid _ := hRx
  clear hK1 hK hK2 hRx hr
  have hX : Hid _ := blk (heap_alloc_new w (.cells #[.slice p1 t.cs.length c1, .slice p2 t.rs.length c2] 26)) (all_alloc _ (.cells #[.slice none 0 0, .slice none 0 0] 26))
  have hY : Hid _ := heap_alloc_new (w.alloc (.cells #[.slice p1 t.cs.length c1, .slice p2 t.rs.length c2] 26)) (.cells #[.slice none 0 0, .slice none 0 0] 26)
  have hA0 : Below w.heap.size w ((w.alloc (.cells #[.slice p1 t.cs.length c1, .slice p2 t.rs.length c2] 26)).alloc (.cells #[.slice none 0 0, .slice none 0 0] 26)) := keepB (all_alloc w _) (Nat.le_refl _) (all_alloc _ _)
  have e1 : (w.alloc (.cells #[.slice p1 t.cs.length c1, .slice p2 t.rs.length c2] 26)).heap.size = w.heap.size + 1 := by simp
  have e3 : ((w.alloc (.cells #[.slice p1 t.cs.length c1, .slice p2 t.rs.length c2] 26)).alloc (.cells #[.slice none 0 0, .slice none 0 0] 26)).heap.size = w.heap.size + 1 + 1 := by simp
  rw [e1] at hY
  go_enter Tryd.func15, Tryd.ntmps15
  go_upto_region 1 with fail
  generalize (w.alloc (.cells #[.slice p1 t.cs.length c1, .slice p2 t.rs.length c2] 26)).alloc (.cells #[.slice none 0 0, .slice none 0 0] 26) = A0 at hX hY hA0 e3 ⊢
  clear e1
  have x0 := cellW hX.out 0 _ rfl A0 (Below.refl _ _)
  have x1 := cellW hX.out 1 _ rfl A0 (Below.refl _ _)
  go_upto_region 3 with (go_at_call 33; refine (HBD.out _).mono ?_; rintro e A ⟨rfl, hbA⟩)
  have hX' : Hid _ := blk hX.out hbA
  have hY' : Hid _ := blk hY.out hbA
  have hA0' : Below w.heap.size w A := keepB hA0 (Nat.le_refl _) hbA
  have hsA : w.heap.size + 1 + 1 ≤ A.heap.size := by have := hbA.size; omega
  clear hX hY hA0 e3 hbA x0 x1 HBD
  have hX : Hid _ := hX'.out
  have hY : Hid _ := hY'.out
  have hA0 := hA0'
  clear hX' hY' hA0'
  have hAd : Below A.heap.size A A.drew := Below.drew (Below.refl _ _)
  have HSK : Hid (∀ W, Below A.heap.size A W → Sk w (.cells #[.slice p1 t.cs.length c1, .slice p2 t.rs.length c2] 26 (0, 0)) W) := fun W hW => ⟨keepB hA0 (Nat.le_refl _) hW, blk hX.out hW⟩
  have q0 : ∀ W, Sk w (.cells #[.slice p1 t.cs.length c1, .slice p2 t.rs.length c2] 26 (0, 0)) W → W.cell? ⟨w.heap.size, 0, none⟩ = some (.slice p1 t.cs.length c1) := fun W hW => cellW hW.2 0 _ rfl W (Below.refl _ _)
  have q1 : ∀ W, Sk w (.cells #[.slice p1 t.cs.length c1, .slice p2 t.rs.length c2] 26 (0, 0)) W → W.cell? ⟨w.heap.size, 1, none⟩ = some (.slice p2 t.rs.length c2) := fun W hW => cellW hW.2 1 _ rfl W (Below.refl _ _)
  have HCP : Hid (∀ W, Below A.heap.size A W → Calls Tryd.prog 34 #[.agg #[.slice p1 t.cs.length c1, .slice p2 t.rs.length c2]] W fun e w' => ∃ u1 u2, e = .returned (.agg #[u1, u2]) ∧ OwnT w' W.heap.size u1 u2 t ∧ Below W.heap.size W w') := fun W hW => HCPw.out W (keepB hA0 (Nat.le_refl _) hW)
  clear HCPw
  refine wp_region_held_drew (S := fun W => Sk w (.cells #[.slice p1 t.cs.length c1, .slice p2 t.rs.length c2] 26 (0, 0)) W) (by kernel_rfl) ?_ (fun hHeld => ?_)
  · exact HSK.out _ hAd
  have Cy0 := HSK.out _ hAd
  have Ky0 := hAd
  generalize A.drew = y0 at hAd hHeld Cy0 Ky0 ⊢
  refine yieldH (i := 0) (v := ?_) rfl (by kernel_rfl) (by kernel_rfl) (by kernel_rfl) (fun _ _ _ h => h) (by rfl) ?_ (by assumption) ?_; rotate_left
  · intro w' hSw; (try dsimp only at hSw); go_simp; (try with_reducible rfl)
  try simp only [Act.put, List.setIfInBounds_toArray, List.set_cons_zero, List.set_cons_succ, List.getElem_toArray, List.getElem_cons_succ, List.getElem_cons_zero]
  refine yieldH (i := 2) (v := ?_) rfl (by kernel_rfl) (by kernel_rfl) (by kernel_rfl) (fun _ _ _ h => h) (by rfl) ?_ (by assumption) ?_; rotate_left
  · intro w' hSw; (try dsimp only at hSw); go_simp; (try with_reducible rfl)
  try simp only [Act.put, List.setIfInBounds_toArray, List.set_cons_zero, List.set_cons_succ, List.getElem_toArray, List.getElem_cons_succ, List.getElem_cons_zero]
  refine yieldH (i := 3) (v := ?_) rfl (by kernel_rfl) (by kernel_rfl) (by kernel_rfl) (fun _ _ _ h => h) (by rfl) ?_ (by assumption) ?_; rotate_left
  · intro w' hSw; (try dsimp only at hSw); go_simp; (try with_reducible rfl)
  try simp only [Act.put, List.setIfInBounds_toArray, List.set_cons_zero, List.set_cons_succ, List.getElem_toArray, List.getElem_cons_succ, List.getElem_cons_zero]
  refine yieldH (i := 4) (v := ?_) rfl (by kernel_rfl) (by kernel_rfl) (by kernel_rfl) (fun _ _ _ h => h) (by rfl) ?_ (by assumption) ?_; rotate_left
  · intro w' hSw; (try dsimp only at hSw); go_simp; (try with_reducible rfl)
  try simp only [Act.put, List.setIfInBounds_toArray, List.set_cons_zero, List.set_cons_succ, List.getElem_toArray, List.getElem_cons_succ, List.getElem_cons_zero]
  refine yieldH (i := 5) (v := ?_) rfl (by kernel_rfl) (by kernel_rfl) (by kernel_rfl) (fun _ _ _ h => h) (by rfl) ?_ (by assumption) ?_; rotate_left
  · intro w' hSw; (try dsimp only at hSw); go_simp; (try with_reducible rfl)
  try simp only [Act.put, List.setIfInBounds_toArray, List.set_cons_zero, List.set_cons_succ, List.getElem_toArray, List.getElem_cons_succ, List.getElem_cons_zero]
  refine yieldH (i := 6) (v := ?_) rfl (by kernel_rfl) (by kernel_rfl) (by kernel_rfl) (fun _ _ _ h => h) (by rfl) ?_ (by assumption) ?_; rotate_left
  · intro w' hSw; (try dsimp only at hSw); go_simp; (try with_reducible rfl)
  try simp only [Act.put, List.setIfInBounds_toArray, List.set_cons_zero, List.set_cons_succ, List.getElem_toArray, List.getElem_cons_succ, List.getElem_cons_zero]
  refine yieldH (i := 7) (v := ?_) rfl (by kernel_rfl) (by kernel_rfl) (by kernel_rfl) (fun _ _ _ h => h) (by rfl) ?_ (by assumption) ?_; rotate_left
  · intro w' hSw; (try dsimp only at hSw); go_simp; (try with_reducible rfl)
  try simp only [Act.put, List.setIfInBounds_toArray, List.set_cons_zero, List.set_cons_succ, List.getElem_toArray, List.getElem_cons_succ, List.getElem_cons_zero]
  refine wpAnyH_ready (rs := [1, 8]) (by kernel_rfl) (by simp) ?_
  refine (AllReadyH.cons rfl (fun Kc hK => ?_) (AllReadyH.cons rfl (fun Kc hK => ?_) AllReadyH.nil))
  · go_simp
    go_at_call 34; refine (HCP.out _ Ky0).mono ?_; rintro e y1 ⟨u1, u2, rfl, own, hby1⟩; obtain ⟨r1, d1, rfl⟩ := own.c.shape; obtain ⟨r2, d2, rfl⟩ := own.r.shape; have Ky1 : Below A.heap.size A y1 := keepB Ky0 (Nat.le_refl _) hby1; have Cy1 := HSK.out _ Ky1; have OWy1 : Hid (OwnT y1 A.heap.size (.slice r1 t.cs.length d1) (.slice r2 t.rs.length d2) t) := OwnT.leT own Ky0.size
    try dsimp only
    refine hK.out _ _ ?_ (fun hHeld => ?_)
    · (try dsimp only); exact Cy1
    clear hK Kc
    try simp only [Act.put, List.setIfInBounds_toArray, List.set_cons_zero, List.set_cons_succ, List.getElem_toArray, List.getElem_cons_succ, List.getElem_cons_zero]
    clear own
    refine wpAnyH_ready (rs := [8, 10]) (by kernel_rfl) (by simp) ?_
    refine (AllReadyH.cons rfl (fun Kc hK => ?_) (AllReadyH.cons rfl (fun Kc hK => ?_) AllReadyH.nil))
    · go_simp
      try dsimp only
      refine hK.out _ _ ?_ (fun hHeld => ?_)
      · (try dsimp only); exact ⟨keepB Cy1.1 (Nat.le_refl _) (all_alloc _ _), blk Cy1.2 (all_alloc _ _)⟩
      clear hK Kc
      try simp only [Act.put, List.setIfInBounds_toArray, List.set_cons_zero, List.set_cons_succ, List.getElem_toArray, List.getElem_cons_succ, List.getElem_cons_zero]
      have hEy2 : Hid _ := heap_alloc_new y1 (.cells #[.int .u8 K2, .int .u8 n] 5)
      have Cy2 : Sk w (.cells #[.slice p1 t.cs.length c1, .slice p2 t.rs.length c2] 26 (0, 0)) (y1.alloc (.cells #[.int .u8 K2, .int .u8 n] 5)) := ⟨keepB Cy1.1 (Nat.le_refl _) (all_alloc _ _), blk Cy1.2 (all_alloc _ _)⟩
      have Ky2 : Below A.heap.size A (y1.alloc (.cells #[.int .u8 K2, .int .u8 n] 5)) := keepB Ky1 (Nat.le_refl _) (all_alloc _ _)
      have LE : w.heap.size + 1 < y1.heap.size := by have := Ky1.size; omega
      have OWy2 : Hid (OwnT (y1.alloc (.cells #[.int .u8 K2, .int .u8 n] 5)) A.heap.size (.slice r1 t.cs.length d1) (.slice r2 t.rs.length d2) t) := OWy1.out.below (all_alloc _ _)
      clear hHeld
      have hHeld := Cy2
      generalize y1.alloc (.cells #[.int .u8 K2, .int .u8 n] 5) = y2 at hEy2 Cy2 Ky2 OWy2 hHeld ⊢
      generalize y1.heap.size = gE at hEy2 LE ⊢
      refine wpAnyH_ready (rs := [9, 10]) (by kernel_rfl) (by simp) ?_
      refine (AllReadyH.cons rfl (fun Kc hK => ?_) (AllReadyH.cons rfl (fun Kc hK => ?_) AllReadyH.nil))
      · have hcv := conv_exA y2 gE K2 n s hn HK2.out hEy2.out
        rw [HRx.out] at hcv
        go_simp
        try dsimp only
        refine hK.out _ _ ?_ (fun hHeld => ?_)
        · (try dsimp only); exact Cy2
        clear hK Kc
        try simp only [Act.put, List.setIfInBounds_toArray, List.set_cons_zero, List.set_cons_succ, List.getElem_toArray, List.getElem_cons_succ, List.getElem_cons_zero]
        clear hcv
        refine wpAnyH_ready (rs := [10]) (by kernel_rfl) (by simp) ?_
        refine (AllReadyH.cons rfl (fun Kc hK => ?_) AllReadyH.nil)
        have hZy2 : Hid _ := blk hY.out Ky2
        have z0 := cellW hZy2.out 0 _ rfl y2 (Below.refl _ _)
        have z1 := cellW hZy2.out 1 _ rfl y2 (Below.refl _ _)
        have f0 := frozenW hZy2.out 0 y2 (Below.refl _ _)
        have f1 := frozenW hZy2.out 1 y2 (Below.refl _ _)
        go_simp
        try dsimp only
        refine hK.out _ _ ?_ (fun hHeld => ?_)
        · (try dsimp only); exact ⟨(Cy2.1.setCell (show w.heap.size ≤ w.heap.size + 1 by omega) _).setCell (show w.heap.size ≤ w.heap.size + 1 by omega) _, blk_far (blk_far Cy2.2 (show w.heap.size ≠ w.heap.size + 1 by omega) _) (show w.heap.size ≠ w.heap.size + 1 by omega) _⟩
        clear hK Kc
        try simp only [Act.put, List.setIfInBounds_toArray, List.set_cons_zero, List.set_cons_succ, List.getElem_toArray, List.getElem_cons_succ, List.getElem_cons_zero]
        have Cy3 : Sk w (.cells #[.slice p1 t.cs.length c1, .slice p2 t.rs.length c2] 26 (0, 0)) ((y2.setCell ⟨w.heap.size + 1, 0, none⟩ (.slice r1 t.cs.length d1)).setCell ⟨w.heap.size + 1, 1, none⟩ (.slice r2 t.rs.length d2)) := ⟨(Cy2.1.setCell (show w.heap.size ≤ w.heap.size + 1 by omega) _).setCell (show w.heap.size ≤ w.heap.size + 1 by omega) _, blk_far (blk_far Cy2.2 (show w.heap.size ≠ w.heap.size + 1 by omega) _) (show w.heap.size ≠ w.heap.size + 1 by omega) _⟩
        have hYy3 : Hid (_ = some (Obj.cells #[.slice r1 t.cs.length d1, .slice r2 t.rs.length d2] 26 (0, 0))) := blk_set (blk_set hZy2.out 0 (.slice r1 t.cs.length d1)) 1 (.slice r2 t.rs.length d2)
        have OWy3 : Hid (OwnT ((y2.setCell ⟨w.heap.size + 1, 0, none⟩ (.slice r1 t.cs.length d1)).setCell ⟨w.heap.size + 1, 1, none⟩ (.slice r2 t.rs.length d2)) A.heap.size (.slice r1 t.cs.length d1) (.slice r2 t.rs.length d2) t) := OwnT.farT (OwnT.farT OWy2.out (show w.heap.size + 1 < A.heap.size by omega) _) (show w.heap.size + 1 < A.heap.size by omega) _
        have hEy3 : Hid _ := blk_far (a := ⟨w.heap.size + 1, 1, none⟩) (blk_far (a := ⟨w.heap.size + 1, 0, none⟩) hEy2.out (show gE ≠ w.heap.size + 1 by omega) (.slice r1 t.cs.length d1)) (show gE ≠ w.heap.size + 1 by omega) (.slice r2 t.rs.length d2)
        clear hHeld z0 z1 f0 f1
        have hHeld := Cy3
        generalize (y2.setCell ⟨w.heap.size + 1, 0, none⟩ (.slice r1 t.cs.length d1)).setCell ⟨w.heap.size + 1, 1, none⟩ (.slice r2 t.rs.length d2) = y3 at Cy3 hYy3 OWy3 hEy3 hHeld ⊢
        have z0 := cellW hYy3.out 0 _ rfl y3 (Below.refl _ _)
        have z1 := cellW hYy3.out 1 _ rfl y3 (Below.refl _ _)
        refine yieldH (i := 11) (v := ?_) rfl (by kernel_rfl) (by kernel_rfl) (by kernel_rfl) (fun _ _ _ h => h) (by rfl) ?_ (by assumption) ?_; rotate_left
        · intro w' hSw; (try dsimp only at hSw); go_simp; (try with_reducible rfl)
        try simp only [Act.put, List.setIfInBounds_toArray, List.set_cons_zero, List.set_cons_succ, List.getElem_toArray, List.getElem_cons_succ, List.getElem_cons_zero]
        refine wpAnyH_done (by kernel_rfl) ?_ _
        go_wp2
        exact bodyPost_ret (v := .tuple #[.agg #[.slice r1 t.cs.length d1, .slice r2 t.rs.length d2], .string R]) (by simp [results, Tryd.results15, go_sem, z0, z1]) rfl ⟨_, _, rfl, OwnT.leT OWy3.out (by omega), Cy3.1⟩
      · have hZy2 : Hid _ := blk hY.out Ky2
        have z0 := cellW hZy2.out 0 _ rfl y2 (Below.refl _ _)
        have z1 := cellW hZy2.out 1 _ rfl y2 (Below.refl _ _)
        have f0 := frozenW hZy2.out 0 y2 (Below.refl _ _)
        have f1 := frozenW hZy2.out 1 y2 (Below.refl _ _)
        go_simp
        try dsimp only
        refine hK.out _ _ ?_ (fun hHeld => ?_)
        · (try dsimp only); exact ⟨(Cy2.1.setCell (show w.heap.size ≤ w.heap.size + 1 by omega) _).setCell (show w.heap.size ≤ w.heap.size + 1 by omega) _, blk_far (blk_far Cy2.2 (show w.heap.size ≠ w.heap.size + 1 by omega) _) (show w.heap.size ≠ w.heap.size + 1 by omega) _⟩
        clear hK Kc
        try simp only [Act.put, List.setIfInBounds_toArray, List.set_cons_zero, List.set_cons_succ, List.getElem_toArray, List.getElem_cons_succ, List.getElem_cons_zero]
        have Cy3 : Sk w (.cells #[.slice p1 t.cs.length c1, .slice p2 t.rs.length c2] 26 (0, 0)) ((y2.setCell ⟨w.heap.size + 1, 0, none⟩ (.slice r1 t.cs.length d1)).setCell ⟨w.heap.size + 1, 1, none⟩ (.slice r2 t.rs.length d2)) := ⟨(Cy2.1.setCell (show w.heap.size ≤ w.heap.size + 1 by omega) _).setCell (show w.heap.size ≤ w.heap.size + 1 by omega) _, blk_far (blk_far Cy2.2 (show w.heap.size ≠ w.heap.size + 1 by omega) _) (show w.heap.size ≠ w.heap.size + 1 by omega) _⟩
        have hYy3 : Hid (_ = some (Obj.cells #[.slice r1 t.cs.length d1, .slice r2 t.rs.length d2] 26 (0, 0))) := blk_set (blk_set hZy2.out 0 (.slice r1 t.cs.length d1)) 1 (.slice r2 t.rs.length d2)
        have OWy3 : Hid (OwnT ((y2.setCell ⟨w.heap.size + 1, 0, none⟩ (.slice r1 t.cs.length d1)).setCell ⟨w.heap.size + 1, 1, none⟩ (.slice r2 t.rs.length d2)) A.heap.size (.slice r1 t.cs.length d1) (.slice r2 t.rs.length d2) t) := OwnT.farT (OwnT.farT OWy2.out (show w.heap.size + 1 < A.heap.size by omega) _) (show w.heap.size + 1 < A.heap.size by omega) _
        have hEy3 : Hid _ := blk_far (a := ⟨w.heap.size + 1, 1, none⟩) (blk_far (a := ⟨w.heap.size + 1, 0, none⟩) hEy2.out (show gE ≠ w.heap.size + 1 by omega) (.slice r1 t.cs.length d1)) (show gE ≠ w.heap.size + 1 by omega) (.slice r2 t.rs.length d2)
        clear hHeld z0 z1 f0 f1
        have hHeld := Cy3
        generalize (y2.setCell ⟨w.heap.size + 1, 0, none⟩ (.slice r1 t.cs.length d1)).setCell ⟨w.heap.size + 1, 1, none⟩ (.slice r2 t.rs.length d2) = y3 at Cy3 hYy3 OWy3 hEy3 hHeld ⊢
        refine wpAnyH_ready (rs := [9]) (by kernel_rfl) (by simp) ?_
        refine (AllReadyH.cons rfl (fun Kc hK => ?_) AllReadyH.nil)
        have hcv := conv_exA y3 gE K2 n s hn HK2.out hEy3.out
        rw [HRx.out] at hcv
        go_simp
        try dsimp only
        refine hK.out _ _ ?_ (fun hHeld => ?_)
        · (try dsimp only); exact Cy3
        clear hK Kc
        try simp only [Act.put, List.setIfInBounds_toArray, List.set_cons_zero, List.set_cons_succ, List.getElem_toArray, List.getElem_cons_succ, List.getElem_cons_zero]
        clear hcv
        have z0 := cellW hYy3.out 0 _ rfl y3 (Below.refl _ _)
        have z1 := cellW hYy3.out 1 _ rfl y3 (Below.refl _ _)
        refine yieldH (i := 11) (v := ?_) rfl (by kernel_rfl) (by kernel_rfl) (by kernel_rfl) (fun _ _ _ h => h) (by rfl) ?_ (by assumption) ?_; rotate_left
        · intro w' hSw; (try dsimp only at hSw); go_simp; (try with_reducible rfl)
        try simp only [Act.put, List.setIfInBounds_toArray, List.set_cons_zero, List.set_cons_succ, List.getElem_toArray, List.getElem_cons_succ, List.getElem_cons_zero]
        refine wpAnyH_done (by kernel_rfl) ?_ _
        go_wp2
        exact bodyPost_ret (v := .tuple #[.agg #[.slice r1 t.cs.length d1, .slice r2 t.rs.length d2], .string R]) (by simp [results, Tryd.results15, go_sem, z0, z1]) rfl ⟨_, _, rfl, OwnT.leT OWy3.out (by omega), Cy3.1⟩
    · have hZy1 : Hid _ := blk hY.out Ky1
      have z0 := cellW hZy1.out 0 _ rfl y1 (Below.refl _ _)
      have z1 := cellW hZy1.out 1 _ rfl y1 (Below.refl _ _)
      have f0 := frozenW hZy1.out 0 y1 (Below.refl _ _)
      have f1 := frozenW hZy1.out 1 y1 (Below.refl _ _)
      go_simp
      try dsimp only
      refine hK.out _ _ ?_ (fun hHeld => ?_)
      · (try dsimp only); exact ⟨(Cy1.1.setCell (show w.heap.size ≤ w.heap.size + 1 by omega) _).setCell (show w.heap.size ≤ w.heap.size + 1 by omega) _, blk_far (blk_far Cy1.2 (show w.heap.size ≠ w.heap.size + 1 by omega) _) (show w.heap.size ≠ w.heap.size + 1 by omega) _⟩
      clear hK Kc
      try simp only [Act.put, List.setIfInBounds_toArray, List.set_cons_zero, List.set_cons_succ, List.getElem_toArray, List.getElem_cons_succ, List.getElem_cons_zero]
      have Cy2 : Sk w (.cells #[.slice p1 t.cs.length c1, .slice p2 t.rs.length c2] 26 (0, 0)) ((y1.setCell ⟨w.heap.size + 1, 0, none⟩ (.slice r1 t.cs.length d1)).setCell ⟨w.heap.size + 1, 1, none⟩ (.slice r2 t.rs.length d2)) := ⟨(Cy1.1.setCell (show w.heap.size ≤ w.heap.size + 1 by omega) _).setCell (show w.heap.size ≤ w.heap.size + 1 by omega) _, blk_far (blk_far Cy1.2 (show w.heap.size ≠ w.heap.size + 1 by omega) _) (show w.heap.size ≠ w.heap.size + 1 by omega) _⟩
      have hYy2 : Hid (_ = some (Obj.cells #[.slice r1 t.cs.length d1, .slice r2 t.rs.length d2] 26 (0, 0))) := blk_set (blk_set hZy1.out 0 (.slice r1 t.cs.length d1)) 1 (.slice r2 t.rs.length d2)
      have OWy2 : Hid (OwnT ((y1.setCell ⟨w.heap.size + 1, 0, none⟩ (.slice r1 t.cs.length d1)).setCell ⟨w.heap.size + 1, 1, none⟩ (.slice r2 t.rs.length d2)) A.heap.size (.slice r1 t.cs.length d1) (.slice r2 t.rs.length d2) t) := OwnT.farT (OwnT.farT OWy1.out (show w.heap.size + 1 < A.heap.size by omega) _) (show w.heap.size + 1 < A.heap.size by omega) _
      clear hHeld z0 z1 f0 f1
      have hHeld := Cy2
      generalize (y1.setCell ⟨w.heap.size + 1, 0, none⟩ (.slice r1 t.cs.length d1)).setCell ⟨w.heap.size + 1, 1, none⟩ (.slice r2 t.rs.length d2) = y2 at Cy2 hYy2 OWy2 hHeld ⊢
      refine wpAnyH_ready (rs := [8]) (by kernel_rfl) (by simp) ?_
      refine (AllReadyH.cons rfl (fun Kc hK => ?_) AllReadyH.nil)
      go_simp
      try dsimp only
      refine hK.out _ _ ?_ (fun hHeld => ?_)
      · (try dsimp only); exact ⟨keepB Cy2.1 (Nat.le_refl _) (all_alloc _ _), blk Cy2.2 (all_alloc _ _)⟩
      clear hK Kc
      try simp only [Act.put, List.setIfInBounds_toArray, List.set_cons_zero, List.set_cons_succ, List.getElem_toArray, List.getElem_cons_succ, List.getElem_cons_zero]
      have hEy3 : Hid _ := heap_alloc_new y2 (.cells #[.int .u8 K2, .int .u8 n] 5)
      have Cy3 : Sk w (.cells #[.slice p1 t.cs.length c1, .slice p2 t.rs.length c2] 26 (0, 0)) (y2.alloc (.cells #[.int .u8 K2, .int .u8 n] 5)) := ⟨keepB Cy2.1 (Nat.le_refl _) (all_alloc _ _), blk Cy2.2 (all_alloc _ _)⟩
      have hYy3 : Hid _ := blk hYy2.out (all_alloc y2 (.cells #[.int .u8 K2, .int .u8 n] 5))
      have LE : w.heap.size + 1 < y2.heap.size := (Array.getElem?_eq_some_iff.1 hYy2.out).1
      have OWy3 : Hid (OwnT (y2.alloc (.cells #[.int .u8 K2, .int .u8 n] 5)) A.heap.size (.slice r1 t.cs.length d1) (.slice r2 t.rs.length d2) t) := OWy2.out.below (all_alloc _ _)
      clear hHeld
      have hHeld := Cy3
      generalize y2.alloc (.cells #[.int .u8 K2, .int .u8 n] 5) = y3 at hEy3 Cy3 hYy3 OWy3 hHeld ⊢
      generalize y2.heap.size = gE at hEy3 LE ⊢
      refine wpAnyH_ready (rs := [9]) (by kernel_rfl) (by simp) ?_
      refine (AllReadyH.cons rfl (fun Kc hK => ?_) AllReadyH.nil)
      have hcv := conv_exA y3 gE K2 n s hn HK2.out hEy3.out
      rw [HRx.out] at hcv
      go_simp
      try dsimp only
      refine hK.out _ _ ?_ (fun hHeld => ?_)
      · (try dsimp only); exact Cy3
      clear hK Kc
      try simp only [Act.put, List.setIfInBounds_toArray, List.set_cons_zero, List.set_cons_succ, List.getElem_toArray, List.getElem_cons_succ, List.getElem_cons_zero]
      clear hcv
      have z0 := cellW hYy3.out 0 _ rfl y3 (Below.refl _ _)
      have z1 := cellW hYy3.out 1 _ rfl y3 (Below.refl _ _)
      refine yieldH (i := 11) (v := ?_) rfl (by kernel_rfl) (by kernel_rfl) (by kernel_rfl) (fun _ _ _ h => h) (by rfl) ?_ (by assumption) ?_; rotate_left
      · intro w' hSw; (try dsimp only at hSw); go_simp; (try with_reducible rfl)
      try simp only [Act.put, List.setIfInBounds_toArray, List.set_cons_zero, List.set_cons_succ, List.getElem_toArray, List.getElem_cons_succ, List.getElem_cons_zero]
      refine wpAnyH_done (by kernel_rfl) ?_ _
      go_wp2
      exact bodyPost_ret (v := .tuple #[.agg #[.slice r1 t.cs.length d1, .slice r2 t.rs.length d2], .string R]) (by simp [results, Tryd.results15, go_sem, z0, z1]) rfl ⟨_, _, rfl, OwnT.leT OWy3.out (by omega), Cy3.1⟩
  · go_simp
    try dsimp only
    refine hK.out _ _ ?_ (fun hHeld => ?_)
    · (try dsimp only); exact ⟨keepB Cy0.1 (Nat.le_refl _) (all_alloc _ _), blk Cy0.2 (all_alloc _ _)⟩
    clear hK Kc
    try simp only [Act.put, List.setIfInBounds_toArray, List.set_cons_zero, List.set_cons_succ, List.getElem_toArray, List.getElem_cons_succ, List.getElem_cons_zero]
    have hEy1 : Hid _ := heap_alloc_new y0 (.cells #[.int .u8 K2, .int .u8 n] 5)
    have Cy1 : Sk w (.cells #[.slice p1 t.cs.length c1, .slice p2 t.rs.length c2] 26 (0, 0)) (y0.alloc (.cells #[.int .u8 K2, .int .u8 n] 5)) := ⟨keepB Cy0.1 (Nat.le_refl _) (all_alloc _ _), blk Cy0.2 (all_alloc _ _)⟩
    have Ky1 : Below A.heap.size A (y0.alloc (.cells #[.int .u8 K2, .int .u8 n] 5)) := keepB Ky0 (Nat.le_refl _) (all_alloc _ _)
    have LE : w.heap.size + 1 < y0.heap.size := by have := Ky0.size; omega
    clear hHeld
    have hHeld := Cy1
    generalize y0.alloc (.cells #[.int .u8 K2, .int .u8 n] 5) = y1 at hEy1 Cy1 Ky1 hHeld ⊢
    generalize y0.heap.size = gE at hEy1 LE ⊢
    refine wpAnyH_ready (rs := [1, 9]) (by kernel_rfl) (by simp) ?_
    refine (AllReadyH.cons rfl (fun Kc hK => ?_) (AllReadyH.cons rfl (fun Kc hK => ?_) AllReadyH.nil))
    · go_simp
      go_at_call 34; refine (HCP.out _ Ky1).mono ?_; rintro e y2 ⟨u1, u2, rfl, own, hby2⟩; obtain ⟨r1, d1, rfl⟩ := own.c.shape; obtain ⟨r2, d2, rfl⟩ := own.r.shape; have Ky2 : Below A.heap.size A y2 := keepB Ky1 (Nat.le_refl _) hby2; have Cy2 := HSK.out _ Ky2; have OWy2 : Hid (OwnT y2 A.heap.size (.slice r1 t.cs.length d1) (.slice r2 t.rs.length d2) t) := OwnT.leT own Ky1.size
      try dsimp only
      refine hK.out _ _ ?_ (fun hHeld => ?_)
      · (try dsimp only); exact Cy2
      clear hK Kc
      try simp only [Act.put, List.setIfInBounds_toArray, List.set_cons_zero, List.set_cons_succ, List.getElem_toArray, List.getElem_cons_succ, List.getElem_cons_zero]
      have hEy2 : Hid _ := blk hEy1.out hby2
      clear own
      refine wpAnyH_ready (rs := [9, 10]) (by kernel_rfl) (by simp) ?_
      refine (AllReadyH.cons rfl (fun Kc hK => ?_) (AllReadyH.cons rfl (fun Kc hK => ?_) AllReadyH.nil))
      · have hcv := conv_exA y2 gE K2 n s hn HK2.out hEy2.out
        rw [HRx.out] at hcv
        go_simp
        try dsimp only
        refine hK.out _ _ ?_ (fun hHeld => ?_)
        · (try dsimp only); exact Cy2
        clear hK Kc
        try simp only [Act.put, List.setIfInBounds_toArray, List.set_cons_zero, List.set_cons_succ, List.getElem_toArray, List.getElem_cons_succ, List.getElem_cons_zero]
        clear hcv
        refine wpAnyH_ready (rs := [10]) (by kernel_rfl) (by simp) ?_
        refine (AllReadyH.cons rfl (fun Kc hK => ?_) AllReadyH.nil)
        have hZy2 : Hid _ := blk hY.out Ky2
        have z0 := cellW hZy2.out 0 _ rfl y2 (Below.refl _ _)
        have z1 := cellW hZy2.out 1 _ rfl y2 (Below.refl _ _)
        have f0 := frozenW hZy2.out 0 y2 (Below.refl _ _)
        have f1 := frozenW hZy2.out 1 y2 (Below.refl _ _)
        go_simp
        try dsimp only
        refine hK.out _ _ ?_ (fun hHeld => ?_)
        · (try dsimp only); exact ⟨(Cy2.1.setCell (show w.heap.size ≤ w.heap.size + 1 by omega) _).setCell (show w.heap.size ≤ w.heap.size + 1 by omega) _, blk_far (blk_far Cy2.2 (show w.heap.size ≠ w.heap.size + 1 by omega) _) (show w.heap.size ≠ w.heap.size + 1 by omega) _⟩
        clear hK Kc
        try simp only [Act.put, List.setIfInBounds_toArray, List.set_cons_zero, List.set_cons_succ, List.getElem_toArray, List.getElem_cons_succ, List.getElem_cons_zero]
        have Cy3 : Sk w (.cells #[.slice p1 t.cs.length c1, .slice p2 t.rs.length c2] 26 (0, 0)) ((y2.setCell ⟨w.heap.size + 1, 0, none⟩ (.slice r1 t.cs.length d1)).setCell ⟨w.heap.size + 1, 1, none⟩ (.slice r2 t.rs.length d2)) := ⟨(Cy2.1.setCell (show w.heap.size ≤ w.heap.size + 1 by omega) _).setCell (show w.heap.size ≤ w.heap.size + 1 by omega) _, blk_far (blk_far Cy2.2 (show w.heap.size ≠ w.heap.size + 1 by omega) _) (show w.heap.size ≠ w.heap.size + 1 by omega) _⟩
        have hYy3 : Hid (_ = some (Obj.cells #[.slice r1 t.cs.length d1, .slice r2 t.rs.length d2] 26 (0, 0))) := blk_set (blk_set hZy2.out 0 (.slice r1 t.cs.length d1)) 1 (.slice r2 t.rs.length d2)
        have OWy3 : Hid (OwnT ((y2.setCell ⟨w.heap.size + 1, 0, none⟩ (.slice r1 t.cs.length d1)).setCell ⟨w.heap.size + 1, 1, none⟩ (.slice r2 t.rs.length d2)) A.heap.size (.slice r1 t.cs.length d1) (.slice r2 t.rs.length d2) t) := OwnT.farT (OwnT.farT OWy2.out (show w.heap.size + 1 < A.heap.size by omega) _) (show w.heap.size + 1 < A.heap.size by omega) _
        have hEy3 : Hid _ := blk_far (a := ⟨w.heap.size + 1, 1, none⟩) (blk_far (a := ⟨w.heap.size + 1, 0, none⟩) hEy2.out (show gE ≠ w.heap.size + 1 by omega) (.slice r1 t.cs.length d1)) (show gE ≠ w.heap.size + 1 by omega) (.slice r2 t.rs.length d2)
        clear hHeld z0 z1 f0 f1
        have hHeld := Cy3
        generalize (y2.setCell ⟨w.heap.size + 1, 0, none⟩ (.slice r1 t.cs.length d1)).setCell ⟨w.heap.size + 1, 1, none⟩ (.slice r2 t.rs.length d2) = y3 at Cy3 hYy3 OWy3 hEy3 hHeld ⊢
        have z0 := cellW hYy3.out 0 _ rfl y3 (Below.refl _ _)
        have z1 := cellW hYy3.out 1 _ rfl y3 (Below.refl _ _)
        refine yieldH (i := 11) (v := ?_) rfl (by kernel_rfl) (by kernel_rfl) (by kernel_rfl) (fun _ _ _ h => h) (by rfl) ?_ (by assumption) ?_; rotate_left
        · intro w' hSw; (try dsimp only at hSw); go_simp; (try with_reducible rfl)
        try simp only [Act.put, List.setIfInBounds_toArray, List.set_cons_zero, List.set_cons_succ, List.getElem_toArray, List.getElem_cons_succ, List.getElem_cons_zero]
        refine wpAnyH_done (by kernel_rfl) ?_ _
        go_wp2
        exact bodyPost_ret (v := .tuple #[.agg #[.slice r1 t.cs.length d1, .slice r2 t.rs.length d2], .string R]) (by simp [results, Tryd.results15, go_sem, z0, z1]) rfl ⟨_, _, rfl, OwnT.leT OWy3.out (by omega), Cy3.1⟩
      · have hZy2 : Hid _ := blk hY.out Ky2
        have z0 := cellW hZy2.out 0 _ rfl y2 (Below.refl _ _)
        have z1 := cellW hZy2.out 1 _ rfl y2 (Below.refl _ _)
        have f0 := frozenW hZy2.out 0 y2 (Below.refl _ _)
        have f1 := frozenW hZy2.out 1 y2 (Below.refl _ _)
        go_simp
        try dsimp only
        refine hK.out _ _ ?_ (fun hHeld => ?_)
        · (try dsimp only); exact ⟨(Cy2.1.setCell (show w.heap.size ≤ w.heap.size + 1 by omega) _).setCell (show w.heap.size ≤ w.heap.size + 1 by omega) _, blk_far (blk_far Cy2.2 (show w.heap.size ≠ w.heap.size + 1 by omega) _) (show w.heap.size ≠ w.heap.size + 1 by omega) _⟩
        clear hK Kc
        try simp only [Act.put, List.setIfInBounds_toArray, List.set_cons_zero, List.set_cons_succ, List.getElem_toArray, List.getElem_cons_succ, List.getElem_cons_zero]
        have Cy3 : Sk w (.cells #[.slice p1 t.cs.length c1, .slice p2 t.rs.length c2] 26 (0, 0)) ((y2.setCell ⟨w.heap.size + 1, 0, none⟩ (.slice r1 t.cs.length d1)).setCell ⟨w.heap.size + 1, 1, none⟩ (.slice r2 t.rs.length d2)) := ⟨(Cy2.1.setCell (show w.heap.size ≤ w.heap.size + 1 by omega) _).setCell (show w.heap.size ≤ w.heap.size + 1 by omega) _, blk_far (blk_far Cy2.2 (show w.heap.size ≠ w.heap.size + 1 by omega) _) (show w.heap.size ≠ w.heap.size + 1 by omega) _⟩
        have hYy3 : Hid (_ = some (Obj.cells #[.slice r1 t.cs.length d1, .slice r2 t.rs.length d2] 26 (0, 0))) := blk_set (blk_set hZy2.out 0 (.slice r1 t.cs.length d1)) 1 (.slice r2 t.rs.length d2)
        have OWy3 : Hid (OwnT ((y2.setCell ⟨w.heap.size + 1, 0, none⟩ (.slice r1 t.cs.length d1)).setCell ⟨w.heap.size + 1, 1, none⟩ (.slice r2 t.rs.length d2)) A.heap.size (.slice r1 t.cs.length d1) (.slice r2 t.rs.length d2) t) := OwnT.farT (OwnT.farT OWy2.out (show w.heap.size + 1 < A.heap.size by omega) _) (show w.heap.size + 1 < A.heap.size by omega) _
        have hEy3 : Hid _ := blk_far (a := ⟨w.heap.size + 1, 1, none⟩) (blk_far (a := ⟨w.heap.size + 1, 0, none⟩) hEy2.out (show gE ≠ w.heap.size + 1 by omega) (.slice r1 t.cs.length d1)) (show gE ≠ w.heap.size + 1 by omega) (.slice r2 t.rs.length d2)
        clear hHeld z0 z1 f0 f1
        have hHeld := Cy3
        generalize (y2.setCell ⟨w.heap.size + 1, 0, none⟩ (.slice r1 t.cs.length d1)).setCell ⟨w.heap.size + 1, 1, none⟩ (.slice r2 t.rs.length d2) = y3 at Cy3 hYy3 OWy3 hEy3 hHeld ⊢
        refine wpAnyH_ready (rs := [9]) (by kernel_rfl) (by simp) ?_
        refine (AllReadyH.cons rfl (fun Kc hK => ?_) AllReadyH.nil)
        have hcv := conv_exA y3 gE K2 n s hn HK2.out hEy3.out
        rw [HRx.out] at hcv
        go_simp
        try dsimp only
        refine hK.out _ _ ?_ (fun hHeld => ?_)
        · (try dsimp only); exact Cy3
        clear hK Kc
        try simp only [Act.put, List.setIfInBounds_toArray, List.set_cons_zero, List.set_cons_succ, List.getElem_toArray, List.getElem_cons_succ, List.getElem_cons_zero]
        clear hcv
        have z0 := cellW hYy3.out 0 _ rfl y3 (Below.refl _ _)
        have z1 := cellW hYy3.out 1 _ rfl y3 (Below.refl _ _)
        refine yieldH (i := 11) (v := ?_) rfl (by kernel_rfl) (by kernel_rfl) (by kernel_rfl) (fun _ _ _ h => h) (by rfl) ?_ (by assumption) ?_; rotate_left
        · intro w' hSw; (try dsimp only at hSw); go_simp; (try with_reducible rfl)
        try simp only [Act.put, List.setIfInBounds_toArray, List.set_cons_zero, List.set_cons_succ, List.getElem_toArray, List.getElem_cons_succ, List.getElem_cons_zero]
        refine wpAnyH_done (by kernel_rfl) ?_ _
        go_wp2
        exact bodyPost_ret (v := .tuple #[.agg #[.slice r1 t.cs.length d1, .slice r2 t.rs.length d2], .string R]) (by simp [results, Tryd.results15, go_sem, z0, z1]) rfl ⟨_, _, rfl, OwnT.leT OWy3.out (by omega), Cy3.1⟩
    · have hcv := conv_exA y1 gE K2 n s hn HK2.out hEy1.out
      rw [HRx.out] at hcv
      go_simp
      try dsimp only
      refine hK.out _ _ ?_ (fun hHeld => ?_)
      · (try dsimp only); exact Cy1
      clear hK Kc
      try simp only [Act.put, List.setIfInBounds_toArray, List.set_cons_zero, List.set_cons_succ, List.getElem_toArray, List.getElem_cons_succ, List.getElem_cons_zero]
      clear hcv
      refine wpAnyH_ready (rs := [1]) (by kernel_rfl) (by simp) ?_
      refine (AllReadyH.cons rfl (fun Kc hK => ?_) AllReadyH.nil)
      go_simp
      go_at_call 34; refine (HCP.out _ Ky1).mono ?_; rintro e y2 ⟨u1, u2, rfl, own, hby2⟩; obtain ⟨r1, d1, rfl⟩ := own.c.shape; obtain ⟨r2, d2, rfl⟩ := own.r.shape; have Ky2 : Below A.heap.size A y2 := keepB Ky1 (Nat.le_refl _) hby2; have Cy2 := HSK.out _ Ky2; have OWy2 : Hid (OwnT y2 A.heap.size (.slice r1 t.cs.length d1) (.slice r2 t.rs.length d2) t) := OwnT.leT own Ky1.size
      try dsimp only
      refine hK.out _ _ ?_ (fun hHeld => ?_)
      · (try dsimp only); exact Cy2
      clear hK Kc
      try simp only [Act.put, List.setIfInBounds_toArray, List.set_cons_zero, List.set_cons_succ, List.getElem_toArray, List.getElem_cons_succ, List.getElem_cons_zero]
      have hEy2 : Hid _ := blk hEy1.out hby2
      clear own
      refine wpAnyH_ready (rs := [10]) (by kernel_rfl) (by simp) ?_
      refine (AllReadyH.cons rfl (fun Kc hK => ?_) AllReadyH.nil)
      have hZy2 : Hid _ := blk hY.out Ky2
      have z0 := cellW hZy2.out 0 _ rfl y2 (Below.refl _ _)
      have z1 := cellW hZy2.out 1 _ rfl y2 (Below.refl _ _)
      have f0 := frozenW hZy2.out 0 y2 (Below.refl _ _)
      have f1 := frozenW hZy2.out 1 y2 (Below.refl _ _)
      go_simp
      try dsimp only
      refine hK.out _ _ ?_ (fun hHeld => ?_)
      · (try dsimp only); exact ⟨(Cy2.1.setCell (show w.heap.size ≤ w.heap.size + 1 by omega) _).setCell (show w.heap.size ≤ w.heap.size + 1 by omega) _, blk_far (blk_far Cy2.2 (show w.heap.size ≠ w.heap.size + 1 by omega) _) (show w.heap.size ≠ w.heap.size + 1 by omega) _⟩
      clear hK Kc
      try simp only [Act.put, List.setIfInBounds_toArray, List.set_cons_zero, List.set_cons_succ, List.getElem_toArray, List.getElem_cons_succ, List.getElem_cons_zero]
      have Cy3 : Sk w (.cells #[.slice p1 t.cs.length c1, .slice p2 t.rs.length c2] 26 (0, 0)) ((y2.setCell ⟨w.heap.size + 1, 0, none⟩ (.slice r1 t.cs.length d1)).setCell ⟨w.heap.size + 1, 1, none⟩ (.slice r2 t.rs.length d2)) := ⟨(Cy2.1.setCell (show w.heap.size ≤ w.heap.size + 1 by omega) _).setCell (show w.heap.size ≤ w.heap.size + 1 by omega) _, blk_far (blk_far Cy2.2 (show w.heap.size ≠ w.heap.size + 1 by omega) _) (show w.heap.size ≠ w.heap.size + 1 by omega) _⟩
      have hYy3 : Hid (_ = some (Obj.cells #[.slice r1 t.cs.length d1, .slice r2 t.rs.length d2] 26 (0, 0))) := blk_set (blk_set hZy2.out 0 (.slice r1 t.cs.length d1)) 1 (.slice r2 t.rs.length d2)
      have OWy3 : Hid (OwnT ((y2.setCell ⟨w.heap.size + 1, 0, none⟩ (.slice r1 t.cs.length d1)).setCell ⟨w.heap.size + 1, 1, none⟩ (.slice r2 t.rs.length d2)) A.heap.size (.slice r1 t.cs.length d1) (.slice r2 t.rs.length d2) t) := OwnT.farT (OwnT.farT OWy2.out (show w.heap.size + 1 < A.heap.size by omega) _) (show w.heap.size + 1 < A.heap.size by omega) _
      have hEy3 : Hid _ := blk_far (a := ⟨w.heap.size + 1, 1, none⟩) (blk_far (a := ⟨w.heap.size + 1, 0, none⟩) hEy2.out (show gE ≠ w.heap.size + 1 by omega) (.slice r1 t.cs.length d1)) (show gE ≠ w.heap.size + 1 by omega) (.slice r2 t.rs.length d2)
      clear hHeld z0 z1 f0 f1
      have hHeld := Cy3
      generalize (y2.setCell ⟨w.heap.size + 1, 0, none⟩ (.slice r1 t.cs.length d1)).setCell ⟨w.heap.size + 1, 1, none⟩ (.slice r2 t.rs.length d2) = y3 at Cy3 hYy3 OWy3 hEy3 hHeld ⊢
      have z0 := cellW hYy3.out 0 _ rfl y3 (Below.refl _ _)
      have z1 := cellW hYy3.out 1 _ rfl y3 (Below.refl _ _)
      refine yieldH (i := 11) (v := ?_) rfl (by kernel_rfl) (by kernel_rfl) (by kernel_rfl) (fun _ _ _ h => h) (by rfl) ?_ (by assumption) ?_; rotate_left
      · intro w' hSw; (try dsimp only at hSw); go_simp; (try with_reducible rfl)
      try simp only [Act.put, List.setIfInBounds_toArray, List.set_cons_zero, List.set_cons_succ, List.getElem_toArray, List.getElem_cons_succ, List.getElem_cons_zero]
      refine wpAnyH_done (by kernel_rfl) ?_ _
      go_wp2
      exact bodyPost_ret (v := .tuple #[.agg #[.slice r1 t.cs.length d1, .slice r2 t.rs.length d2], .string R]) (by simp [results, Tryd.results15, go_sem, z0, z1]) rfl ⟨_, _, rfl, OwnT.leT OWy3.out (by omega), Cy3.1⟩
theorem bits_pack {zs : List Int} (h : zs.all bitB = true) (hl : zs.length ≤ 64) : bitsB zs = packB zs := by unfold bitsB; rw [h, decide_eq_true hl]; rfl
theorem l05Serve_any (t : Tb) (q : Ak) (pv : Option Addr) (cv b2 : Nat) (s : ByteArray) (B : Nat) (v1 v2 : Value) (w : World) (hR : q.right = true) (hTh : thereB t q = true) (hT : t.right = true) (h5 : 5 ≤ s.size) (h8 : s.size ≤ 8000) (h : OwnT w B v1 v2 t) (hv : OwnI w b2 (.slice pv q.vs.length cv) q.vs) :
    Calls Tryd.prog 35 #[.agg #[v1, v2], .agg #[.int .i64 q.c, .int .i64 q.a, .int .i64 q.m, .slice pv q.vs.length cv], .string s] w fun e w' => ∃ u1 u2, e = .returned (.tuple #[.agg #[u1, u2], .string (ansT t q s).2]) ∧ OwnT w' w.heap.size u1 u2 (ansT t q s).1 ∧ Below w.heap.size w w' := by
  obtain ⟨⟨hn1, hcb⟩, hn2, hrw⟩ := (Tb.right_iff t).1 hT
  have hwa : 0 ≤ q.a ∧ q.a ≤ 65535 := by have := hR; unfold Ak.right at this; rw [Bool.and_eq_true] at this; exact (wordB_iff _).1 this.1
  have hth := hTh
  unfold thereB at hth
  rw [decide_eq_true_eq] at hth
  have hc6 := Ak.codes hR
  by_cases hq : q.c = 1 ∨ q.c = 3
  · obtain ⟨_, hm1, hm64, hm8⟩ := look_fit hR hq
    have hans : ansT t q s = (t, oneB q.c ++ (oneB ((valsB q.c (t.look q)).size : Int) ++ valsB q.c (t.look q))) := by unfold ansT; rw [if_pos hq]
    rw [hans]
    obtain ⟨c, a, m, vs⟩ := q
    dsimp only at *
    rcases hq with rfl | rfl
    · have := l05Serve_1 t a m vs pv cv s B v1 v2 w hwa ⟨hm1, hm64⟩ hth hn1 hn2 h
      have hl := look_len (t := t) (q := ⟨1, a, m, vs⟩) hwa.1 (by dsimp only; omega) hTh
      rw [← bits_pack (zs := (t.cs.drop a.toNat).take m.toNat) (part_all hcb _ _) (by have hl' : ((t.cs.drop a.toNat).take m.toNat).length = m.toNat := hl; rw [hl']; omega)] at this
      exact this
    · exact l05Serve_3 t a m vs pv cv s B v1 v2 w hwa ⟨hm1, hm64⟩ hth hn1 hn2 hrw (hm8 rfl) h
  · obtain ⟨hvl, hm1, hm16, _, _⟩ := set_fit hR hq
    have hans : ansT t q s = (t.put q, s.extract 0 5) := by unfold ansT; rw [if_neg hq]
    rw [hans]
    obtain ⟨c, a, m, vs⟩ := q
    dsimp only at *
    obtain ⟨an, rfl⟩ : ∃ k : Nat, a = k := ⟨a.toNat, by omega⟩
    unfold Tb.put
    unfold Tb.cells at hth
    dsimp only
    rw [Int.toNat_natCast]
    cases hcc : coilB c with
    | true =>
      rw [hcc] at hth
      simp only [if_true] at hth ⊢
      exact l05Serve_coil t c an m vs pv cv b2 s B v1 v2 w (by omega) hcc (by omega) hvl (by omega) (by omega) hn1 hn2 h5 h8 h hv
    | false =>
      rw [hcc] at hth
      simp only [Bool.false_eq_true, if_false] at hth ⊢
      exact l05Serve_reg t c an m vs pv cv b2 s B v1 v2 w (by omega) hcc (by omega) hvl (by omega) (by omega) hn1 hn2 h5 h8 h hv
set_option maxRecDepth 100000 in
set_option maxHeartbeats 3200000 in
theorem l05Any_good (t : Tb) (s : ByteArray) (B : Nat) (v1 v2 : Value) (w : World) (h0 : 0 < s.size) (h8 : s.size ≤ 8000) (hT : t.right = true) (h : OwnT w B v1 v2 t) (hk : knownB (byteAt s 0 : Int) = true) (hC : (outA s).2 = 0) (hTh : thereB t (outA s).1 = true) :
    Calls Tryd.prog 15 #[.agg #[v1, v2], .string s] w fun e w' => ∃ u1 u2, e = .returned (.tuple #[.agg #[u1, u2], .string ((ansT t (outA s).1 s).2)]) ∧ OwnT w' w.heap.size u1 u2 ((ansT t (outA s).1 s).1) ∧ Below w.heap.size w w' := by
  obtain ⟨⟨hn1, hcb⟩, hn2, hrw⟩ := (Tb.right_iff t).1 hT
  obtain ⟨p1, c1, rfl⟩ := h.c.shape
  obtain ⟨p2, c2, rfl⟩ := h.r.shape
  have HO : Hid (OwnT _ _ _ _ _) := h
  clear h
  have HBD : Hid (∀ W, Calls Tryd.prog 33 #[.agg #[.slice p1 t.cs.length c1, .slice p2 t.rs.length c2], .string s] W fun e w' => e = .returned (.int .i64 (badT t s)) ∧ Below W.heap.size W w') := fun W => l05Bad_any t s _ _ W h0 h8 (by omega) (by omega) ⟨_, _, rfl⟩ ⟨_, _, rfl⟩
  rw [badT_0 hk hC hTh] at HBD
  have HA : Hid (∀ (W : World), Calls Tryd.prog 36 #[.string s] W fun e w' => ∃ v, e = .returned (.agg #[.int .i64 (outA s).1.c, .int .i64 (outA s).1.a, .int .i64 (outA s).1.m, v, .int .i64 (outA s).2]) ∧ OwnI w' W.heap.size v (outA s).1.vs ∧ Below W.heap.size W w') := fun W => specAskRead_any s W (by omega)
  obtain ⟨hR, hask, h5⟩ := outA_q hC
  have hb := outA_right hC
  have HSVw : Hid (∀ (W : World) (b2 : Nat) (pv : Option Addr) (cv : Nat), Below w.heap.size w W → OwnI W b2 (.slice pv (outA s).1.vs.length cv) (outA s).1.vs → Calls Tryd.prog 35 #[.agg #[.slice p1 t.cs.length c1, .slice p2 t.rs.length c2], .agg #[.int .i64 (outA s).1.c, .int .i64 (outA s).1.a, .int .i64 (outA s).1.m, .slice pv (outA s).1.vs.length cv], .string s] W fun e w' => ∃ u1 u2, e = .returned (.tuple #[.agg #[u1, u2], .string (ansT t (outA s).1 s).2]) ∧ OwnT w' W.heap.size u1 u2 (ansT t (outA s).1 s).1 ∧ Below W.heap.size W w') := fun W b2 pv cv hW hv => l05Serve_any t (outA s).1 pv cv b2 s B _ _ W hR hTh hT h5 h8 (HO.out.below hW) hv
  generalize (ansT t (outA s).1 s).2 = R at HSVw ⊢
  generalize (ansT t (outA s).1 s).1 = T' at HSVw ⊢
  generalize (outA s).2 = C at HA
  clear hR hask hb hTh hk hC hcb hrw
  generalize (outA s).1 = q at HA HSVw
  have hfa : ∀ (c0 c1 c2 c3 c4 : Value) (w : World), (Instr.field 63 (.agg #[c0, c1, c2, c3, c4]) 0).run Tryd.prog w = .ok (.agg #[c0, c1, c2, c3]) w := fun _ _ _ _ _ _ => by kernel_rfl
  have hX : Hid _ := blk (heap_alloc_new w (.cells #[.slice p1 t.cs.length c1, .slice p2 t.rs.length c2] 26)) (all_alloc _ (.cells #[.slice none 0 0, .slice none 0 0] 26))
  have hY : Hid _ := heap_alloc_new (w.alloc (.cells #[.slice p1 t.cs.length c1, .slice p2 t.rs.length c2] 26)) (.cells #[.slice none 0 0, .slice none 0 0] 26)
  have hA0 : Below w.heap.size w ((w.alloc (.cells #[.slice p1 t.cs.length c1, .slice p2 t.rs.length c2] 26)).alloc (.cells #[.slice none 0 0, .slice none 0 0] 26)) := keepB (all_alloc w _) (Nat.le_refl _) (all_alloc _ _)
  have e1 : (w.alloc (.cells #[.slice p1 t.cs.length c1, .slice p2 t.rs.length c2] 26)).heap.size = w.heap.size + 1 := by simp
  have e3 : ((w.alloc (.cells #[.slice p1 t.cs.length c1, .slice p2 t.rs.length c2] 26)).alloc (.cells #[.slice none 0 0, .slice none 0 0] 26)).heap.size = w.heap.size + 1 + 1 := by simp
  rw [e1] at hY
  go_enter Tryd.func15, Tryd.ntmps15
  go_upto_region 1 with fail
  generalize (w.alloc (.cells #[.slice p1 t.cs.length c1, .slice p2 t.rs.length c2] 26)).alloc (.cells #[.slice none 0 0, .slice none 0 0] 26) = A0 at hX hY hA0 e3 ⊢
  clear e1
  have x0 := cellW hX.out 0 _ rfl A0 (Below.refl _ _)
  have x1 := cellW hX.out 1 _ rfl A0 (Below.refl _ _)
  go_upto_region 4 with (go_at_call 33; refine (HBD.out _).mono ?_; rintro e A ⟨rfl, hbA⟩)
  have hX' : Hid _ := blk hX.out hbA
  have hY' : Hid _ := blk hY.out hbA
  have hA0' : Below w.heap.size w A := keepB hA0 (Nat.le_refl _) hbA
  have hsA : w.heap.size + 1 + 1 ≤ A.heap.size := by have := hbA.size; omega
  clear hX hY hA0 e3 hbA x0 x1 HBD
  have hX : Hid _ := hX'.out
  have hY : Hid _ := hY'.out
  have hA0 := hA0'
  clear hX' hY' hA0'
  have hAd : Below A.heap.size A A.drew := Below.drew (Below.refl _ _)
  have HSK : Hid (∀ W, Below A.heap.size A W → Sk w (.cells #[.slice p1 t.cs.length c1, .slice p2 t.rs.length c2] 26 (0, 0)) W) := fun W hW => ⟨keepB hA0 (Nat.le_refl _) hW, blk hX.out hW⟩
  have q0 : ∀ W, Sk w (.cells #[.slice p1 t.cs.length c1, .slice p2 t.rs.length c2] 26 (0, 0)) W → W.cell? ⟨w.heap.size, 0, none⟩ = some (.slice p1 t.cs.length c1) := fun W hW => cellW hW.2 0 _ rfl W (Below.refl _ _)
  have q1 : ∀ W, Sk w (.cells #[.slice p1 t.cs.length c1, .slice p2 t.rs.length c2] 26 (0, 0)) W → W.cell? ⟨w.heap.size, 1, none⟩ = some (.slice p2 t.rs.length c2) := fun W hW => cellW hW.2 1 _ rfl W (Below.refl _ _)
  have HSV : Hid (∀ (W : World) (b2 : Nat) (pv : Option Addr) (cv : Nat), Below A.heap.size A W → OwnI W b2 (.slice pv q.vs.length cv) q.vs → Calls Tryd.prog 35 #[.agg #[.slice p1 t.cs.length c1, .slice p2 t.rs.length c2], .agg #[.int .i64 q.c, .int .i64 q.a, .int .i64 q.m, .slice pv q.vs.length cv], .string s] W fun e w' => ∃ u1 u2, e = .returned (.tuple #[.agg #[u1, u2], .string R]) ∧ OwnT w' W.heap.size u1 u2 T' ∧ Below W.heap.size W w') := fun W b2 pv cv hW hv => HSVw.out W b2 pv cv (keepB hA0 (Nat.le_refl _) hW) hv
  clear HSVw
  refine wp_region_held_drew (S := fun W => Sk w (.cells #[.slice p1 t.cs.length c1, .slice p2 t.rs.length c2] 26 (0, 0)) W) (by kernel_rfl) ?_ (fun hHeld => ?_)
  · exact HSK.out _ hAd
  refine yieldH (i := 0) (v := ?_) rfl (by kernel_rfl) (by kernel_rfl) (by kernel_rfl) (fun _ _ _ h => h) (by rfl) ?_ (by assumption) ?_; rotate_left
  · intro w' hSw; (try dsimp only at hSw); go_simp; (try with_reducible rfl)
  try simp only [Act.put, List.setIfInBounds_toArray, List.set_cons_zero, List.set_cons_succ, List.getElem_toArray, List.getElem_cons_succ, List.getElem_cons_zero]
  refine yieldH (i := 1) (v := ?_) rfl (by kernel_rfl) (by kernel_rfl) (by kernel_rfl) (fun _ _ _ h => h) (by rfl) ?_ (by assumption) ?_; rotate_left
  · intro w' hSw; (try dsimp only at hSw); go_simp; (try with_reducible rfl)
  try simp only [Act.put, List.setIfInBounds_toArray, List.set_cons_zero, List.set_cons_succ, List.getElem_toArray, List.getElem_cons_succ, List.getElem_cons_zero]
  refine yieldH (i := 4) (v := ?_) rfl (by kernel_rfl) (by kernel_rfl) (by kernel_rfl) (fun _ _ _ h => h) (by rfl) ?_ (by assumption) ?_; rotate_left
  · intro w' hSw; (try dsimp only at hSw); go_simp; (try with_reducible rfl)
  try simp only [Act.put, List.setIfInBounds_toArray, List.set_cons_zero, List.set_cons_succ, List.getElem_toArray, List.getElem_cons_succ, List.getElem_cons_zero]
  refine wpAnyH_ready (rs := [2]) (by kernel_rfl) (by simp) ?_
  refine (AllReadyH.cons rfl (fun Kc hK => ?_) AllReadyH.nil)
  go_simp
  go_at_call 36; refine (HA.out _).mono ?_; rintro e w7 ⟨uq, rfl, oq, hb7⟩; obtain ⟨pq, cq, rfl⟩ := oq.shape; have k7 : Below A.heap.size A w7 := keepB hAd (Nat.le_refl _) hb7
  try dsimp only
  refine hK.out _ _ ?_ (fun hHeld => ?_)
  · (try dsimp only); exact HSK.out _ k7
  clear hK Kc
  try simp only [Act.put, List.setIfInBounds_toArray, List.set_cons_zero, List.set_cons_succ, List.getElem_toArray, List.getElem_cons_succ, List.getElem_cons_zero]
  refine yieldH (i := 3) (v := ?_) rfl (by kernel_rfl) (by kernel_rfl) (by kernel_rfl) (fun _ _ _ h => h) (by rfl) ?_ (by assumption) ?_; rotate_left
  · intro w' hSw; (try dsimp only at hSw); go_simp; (try with_reducible rfl)
  try simp only [Act.put, List.setIfInBounds_toArray, List.set_cons_zero, List.set_cons_succ, List.getElem_toArray, List.getElem_cons_succ, List.getElem_cons_zero]
  refine wpAnyH_ready (rs := [5]) (by kernel_rfl) (by simp) ?_
  refine (AllReadyH.cons rfl (fun Kc hK => ?_) AllReadyH.nil)
  go_simp
  go_at_call 35; refine (HSV.out _ _ _ _ k7 oq).mono ?_; rintro e w8 ⟨u1, u2, rfl, own, hb8⟩; obtain ⟨r1, d1, rfl⟩ := own.c.shape; obtain ⟨r2, d2, rfl⟩ := own.r.shape; have k8 : Below A.heap.size A w8 := keepB k7 (Nat.le_refl _) hb8; have OW : Hid (OwnT w8 A.heap.size (.slice r1 T'.cs.length d1) (.slice r2 T'.rs.length d2) T') := OwnT.leT own k7.size
  try dsimp only
  refine hK.out _ _ ?_ (fun hHeld => ?_)
  · (try dsimp only); exact HSK.out _ k8
  clear hK Kc
  try simp only [Act.put, List.setIfInBounds_toArray, List.set_cons_zero, List.set_cons_succ, List.getElem_toArray, List.getElem_cons_succ, List.getElem_cons_zero]
  clear own
  refine yieldH (i := 6) (v := ?_) rfl (by kernel_rfl) (by kernel_rfl) (by kernel_rfl) (fun _ _ _ h => h) (by rfl) ?_ (by assumption) ?_; rotate_left
  · intro w' hSw; (try dsimp only at hSw); go_simp; (try with_reducible rfl)
  try simp only [Act.put, List.setIfInBounds_toArray, List.set_cons_zero, List.set_cons_succ, List.getElem_toArray, List.getElem_cons_succ, List.getElem_cons_zero]
  refine yieldH (i := 7) (v := ?_) rfl (by kernel_rfl) (by kernel_rfl) (by kernel_rfl) (fun _ _ _ h => h) (by rfl) ?_ (by assumption) ?_; rotate_left
  · intro w' hSw; (try dsimp only at hSw); go_simp; (try with_reducible rfl)
  try simp only [Act.put, List.setIfInBounds_toArray, List.set_cons_zero, List.set_cons_succ, List.getElem_toArray, List.getElem_cons_succ, List.getElem_cons_zero]
  have hY8 : Hid _ := blk hY.out k8
  have z0 := cellW hY8.out 0 _ rfl w8 (Below.refl _ _)
  have z1 := cellW hY8.out 1 _ rfl w8 (Below.refl _ _)
  have f0 := frozenW hY8.out 0 w8 (Below.refl _ _)
  have f1 := frozenW hY8.out 1 w8 (Below.refl _ _)
  have hBx : Below w.heap.size w w8 := keepB hA0 (Nat.le_refl _) k8
  refine wpAnyH_ready (rs := [8]) (by kernel_rfl) (by simp) ?_
  refine (AllReadyH.cons rfl (fun Kc hK => ?_) AllReadyH.nil)
  go_simp
  try dsimp only
  refine hK.out _ _ ?_ (fun hHeld => ?_)
  · (try dsimp only); exact ⟨(hBx.setCell (by simp only; omega) _).setCell (by simp only; omega) _, blk_far (blk_far (blk hX.out k8) (by simp only; omega) _) (by simp only; omega) _⟩
  clear hK Kc
  try simp only [Act.put, List.setIfInBounds_toArray, List.set_cons_zero, List.set_cons_succ, List.getElem_toArray, List.getElem_cons_succ, List.getElem_cons_zero]
  refine yieldH (i := 9) (v := ?_) rfl (by kernel_rfl) (by kernel_rfl) (by kernel_rfl) (fun _ _ _ h => h) (by rfl) ?_ (by assumption) ?_; rotate_left
  · intro w' hSw; (try dsimp only at hSw); go_simp; (try with_reducible rfl)
  try simp only [Act.put, List.setIfInBounds_toArray, List.set_cons_zero, List.set_cons_succ, List.getElem_toArray, List.getElem_cons_succ, List.getElem_cons_zero]
  refine wpAnyH_done (by kernel_rfl) ?_ _
  go_wp2
  exact bodyPost_ret (v := .tuple #[.agg #[.slice r1 T'.cs.length d1, .slice r2 T'.rs.length d2], .string R]) (by simp [results, Tryd.results15, go_sem, z0, z1]) rfl ⟨_, _, rfl, OwnT.leT (OwnT.farT (OwnT.farT OW.out (by simp only; omega) _) (by simp only; omega) _) (by omega), (hBx.setCell (by simp only; omega) _).setCell (by simp only; omega) _⟩
end Go.Proofs.YtfpibedloodjlabDoor
