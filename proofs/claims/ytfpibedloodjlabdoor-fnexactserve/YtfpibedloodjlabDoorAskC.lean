/- THE BYTES OF A QUESTION: the model's own. -/
import Derived.Test.YtfpibedloodjlabDoorTailQ
import Derived.Test.YtfpibedloodjlabDoorAskS
import Derived.Test.YtfpibedloodjlabDoorPlainTab
namespace Go.Proofs.YtfpibedloodjlabDoor
open Go.RowKit
set_option linter.unusedVariables false
set_option linter.unusedSimpArgs false

theorem packB_size (zs : List Int) : (packB zs).size = (zs.length + 7) / 8 := by have := packL_length zs; simpa [packB, ByteArray.size] using this
theorem counted_size (s : ByteArray) : (⟨(countedL s.data.toList).toArray⟩ : ByteArray).size = 1 + s.size := by
  rw [← counted_eq, ByteArray.size_append]
  rfl
theorem conv_at {W : World} {g : Nat} {n : Int} {fz : Nat × Nat} (h : W.heap[g]? = some (.cells #[.int .u8 n] 5 fz)) (hn : 0 ≤ n ∧ n ≤ 255) (hf : fz = (0, 0) := by rfl) : (convert 60 9 (.slice (some ⟨g, 0, none⟩) 1 1)).run Tryd.prog W = .ok (.string (oneB n)) W := by
  subst hf
  have hc : cellsC [UInt8.ofNat n.toNat] = [.int .u8 n] := by simp only [cellsC, List.map_cons, List.map_nil, u8_ofNat (show n.toNat < 256 by omega), Int.toNat_of_nonneg hn.1]
  exact OwnM.conv (base := 0) (l := [UInt8.ofNat n.toNat]) _ _ Tryd.underlying60 Tryd.underlying5 Tryd.underlying9 (.inr ⟨g, 1, _, (0, 0), rfl, Nat.zero_le _, h, .inl rfl, Nat.le_refl _, by unfold maxLen; omega, rfl, by rw [hc]; rfl⟩)
set_option maxRecDepth 100000 in
set_option maxHeartbeats 1600000 in
theorem bytesS_1 (a m : Int) (vs : List Int) (p : Option Addr) (c : Nat) (w : World) (ha : 0 ≤ a ∧ a ≤ 65535) (hm : 0 ≤ m ∧ m ≤ 65535) (hr : RowI w (.slice p vs.length c) vs)
    (HSR : Hid (∀ W, Below w.heap.size w W → Calls Tryd.prog 62 #[.agg #[.int .i64 1, .int .i64 a, .int .i64 m, .slice p vs.length c]] W fun e w' => e = .returned (.bool true) ∧ Below W.heap.size W w')) :
    Calls Tryd.prog 52 #[.agg #[.int .i64 1, .int .i64 a, .int .i64 m, .slice p vs.length c]] w fun e w' => e = .returned (.string (oneB 1 ++ twoB a ++ twoB m)) ∧ Below w.heap.size w w' := by
  have HA : Hid (∀ W : World, Calls Tryd.prog 59 #[.int .i64 a] W fun e w' => e = .returned (.string (twoB a)) ∧ Below W.heap.size W w') := fun W => l04Two_any a W ha
  have HM : Hid (∀ W : World, Calls Tryd.prog 59 #[.int .i64 m] W fun e w' => e = .returned (.string (twoB m)) ∧ Below W.heap.size W w') := fun W => l04Two_any m W hm
  have zM : (twoB m).size = 2 := rfl
  generalize twoB m = tM at HM zM ⊢
  have zA : (twoB a).size = 2 := rfl
  have z1 : (oneB 1).size = 1 := rfl
  have HCV : Hid (∀ W : World, (convert 60 9 (.slice (some ⟨W.heap.size, 0, none⟩) 1 1)).run Tryd.prog (W.alloc (.cells #[.int .u8 1] 5)) = .ok (.string (oneB 1)) (W.alloc (.cells #[.int .u8 1] 5))) := fun W => conv_one W 1 (by omega)
  have HCV2 : Hid (∀ W : World, (convert 60 9 (.slice (some ⟨W.heap.size, 0, none⟩) 1 1)).run Tryd.prog (World.drew (W.alloc (.cells #[.int .u8 1] 5))) = .ok (.string (oneB 1)) (World.drew (W.alloc (.cells #[.int .u8 1] 5)))) := fun W => conv_at (heap_alloc_new W _) (by omega)
  have HCB : Hid (∀ (W : World) (g : Nat), W.heap[g]? = some (.cells #[.int .u8 1] 5 (0, 0)) → (convert 60 9 (.slice (some ⟨g, 0, none⟩) 1 1)).run Tryd.prog W = .ok (.string (oneB 1)) W) := fun W g h => conv_at h (by omega)
  generalize twoB a = tA at HA zA ⊢
  generalize oneB 1 = t1 at HCV HCV2 HCB z1 ⊢
  have c1 : ¬ 9223372036854775807 < t1.size + tA.size := by omega
  have c2 : ¬ 9223372036854775807 < (t1 ++ tA).size + tM.size := by rw [ByteArray.size_append]; omega
  have hs12 : (t1 ++ tA).size = 3 := by rw [ByteArray.size_append]; omega
  generalize h12 : t1 ++ tA = t12 at c2  hs12 ⊢
  have H12 : Hid (t1 ++ tA = t12) := h12
  clear h12 hs12 z1 zA zM 
  clear hr hm ha
  go_enter Tryd.func52, Tryd.ntmps52
  go_upto_region 3 with (go_at_call 62; refine (HSR.out _ (all_alloc _ _)).mono ?_; rintro e w1 ⟨rfl, hb1⟩)
  have hX : Hid _ := blk (heap_alloc_new w (.cells #[.int .i64 1, .int .i64 a, .int .i64 m, .slice p vs.length c] 43)) hb1
  have hA0 : Below w.heap.size w w1 := keepB (all_alloc w (.cells #[.int .i64 1, .int .i64 a, .int .i64 m, .slice p vs.length c] 43)) (Nat.le_refl _) hb1
  clear hb1 HSR
  obtain ⟨G, hG⟩ : ∃ G, w.heap.size = G := ⟨_, rfl⟩
  rw [hG] at hX ⊢
  have x0 := cellW hX.out 0 _ rfl
  have x1 := cellW hX.out 1 _ rfl
  have x2 := cellW hX.out 2 _ rfl
  have x3 := cellW hX.out 3 _ rfl
  go_cut [3] (fun s3 wx => s3 = .string t12 ∧ Below w1.heap.size w1 wx)
  case first =>
    have k1 := HCV.out
    have k2 := HCV2.out w1
    have ew : IntKind.u8.wrap 1 = 1 := by decide
    have d0 := x0 w1 (Below.refl _ _)
    have d1 := x1 w1 (Below.refl _ _)
    have hGl : G < w1.heap.size := (Array.getElem?_eq_some_iff.1 hX.out).1
    go_region_law (go_simp; go_at_call 59; refine (HA.out _).mono ?_; rintro e9 w9 ⟨rfl, hbq⟩; first | (have s9 : Below w1.heap.size w1 w9 := keepB (Below.drew (all_alloc w1 (.cells #[.int .u8 1] 5))) (Nat.le_refl _) hbq; have k3 := HCB.out w9 w1.heap.size (blk (Y := World.drew (w1.alloc (.cells #[.int .u8 1] 5))) (heap_alloc_new w1 (.cells #[.int .u8 1] 5)) hbq); have y0 := x0 w9 s9) | (have s9 : Below w1.heap.size w1 w9 := keepB (Below.drew (Below.refl _ _)) (Nat.le_refl _) hbq; have y0 := x0 w9 s9))
    all_goals
      go_wp2
      go_meet
      first
        | exact ⟨congrArg _ H12.out, s9⟩
        | exact ⟨congrArg _ H12.out, keepB s9 (Nat.le_refl _) (all_alloc _ _)⟩
  case rest =>
    obtain ⟨rfl, hwc⟩ := hcut
    have HHw : Hid (Below w.heap.size w wc) := keepB hA0 (Nat.le_refl _) hwc
    have y0 := x0 wc hwc
    have y1 := x1 wc hwc
    have y2 := x2 wc hwc
    have y3 := x3 wc hwc
    go_wp2_with (go_at_call 59; refine (HM.out _).mono ?_; rintro e9 w9 ⟨rfl, hbq⟩)
    go_ret
    exact ⟨rfl, keepB HHw.out (Nat.le_refl _) hbq⟩
set_option maxRecDepth 100000 in
set_option maxHeartbeats 1600000 in
theorem bytesS_3 (a m : Int) (vs : List Int) (p : Option Addr) (c : Nat) (w : World) (ha : 0 ≤ a ∧ a ≤ 65535) (hm : 0 ≤ m ∧ m ≤ 65535) (hr : RowI w (.slice p vs.length c) vs)
    (HSR : Hid (∀ W, Below w.heap.size w W → Calls Tryd.prog 62 #[.agg #[.int .i64 3, .int .i64 a, .int .i64 m, .slice p vs.length c]] W fun e w' => e = .returned (.bool true) ∧ Below W.heap.size W w')) :
    Calls Tryd.prog 52 #[.agg #[.int .i64 3, .int .i64 a, .int .i64 m, .slice p vs.length c]] w fun e w' => e = .returned (.string (oneB 3 ++ twoB a ++ twoB m)) ∧ Below w.heap.size w w' := by
  have HA : Hid (∀ W : World, Calls Tryd.prog 59 #[.int .i64 a] W fun e w' => e = .returned (.string (twoB a)) ∧ Below W.heap.size W w') := fun W => l04Two_any a W ha
  have HM : Hid (∀ W : World, Calls Tryd.prog 59 #[.int .i64 m] W fun e w' => e = .returned (.string (twoB m)) ∧ Below W.heap.size W w') := fun W => l04Two_any m W hm
  have zM : (twoB m).size = 2 := rfl
  generalize twoB m = tM at HM zM ⊢
  have zA : (twoB a).size = 2 := rfl
  have z1 : (oneB 3).size = 1 := rfl
  have HCV : Hid (∀ W : World, (convert 60 9 (.slice (some ⟨W.heap.size, 0, none⟩) 1 1)).run Tryd.prog (W.alloc (.cells #[.int .u8 3] 5)) = .ok (.string (oneB 3)) (W.alloc (.cells #[.int .u8 3] 5))) := fun W => conv_one W 3 (by omega)
  have HCV2 : Hid (∀ W : World, (convert 60 9 (.slice (some ⟨W.heap.size, 0, none⟩) 1 1)).run Tryd.prog (World.drew (W.alloc (.cells #[.int .u8 3] 5))) = .ok (.string (oneB 3)) (World.drew (W.alloc (.cells #[.int .u8 3] 5)))) := fun W => conv_at (heap_alloc_new W _) (by omega)
  have HCB : Hid (∀ (W : World) (g : Nat), W.heap[g]? = some (.cells #[.int .u8 3] 5 (0, 0)) → (convert 60 9 (.slice (some ⟨g, 0, none⟩) 1 1)).run Tryd.prog W = .ok (.string (oneB 3)) W) := fun W g h => conv_at h (by omega)
  generalize twoB a = tA at HA zA ⊢
  generalize oneB 3 = t1 at HCV HCV2 HCB z1 ⊢
  have c1 : ¬ 9223372036854775807 < t1.size + tA.size := by omega
  have c2 : ¬ 9223372036854775807 < (t1 ++ tA).size + tM.size := by rw [ByteArray.size_append]; omega
  have hs12 : (t1 ++ tA).size = 3 := by rw [ByteArray.size_append]; omega
  generalize h12 : t1 ++ tA = t12 at c2  hs12 ⊢
  have H12 : Hid (t1 ++ tA = t12) := h12
  clear h12 hs12 z1 zA zM 
  clear hr hm ha
  go_enter Tryd.func52, Tryd.ntmps52
  go_upto_region 3 with (go_at_call 62; refine (HSR.out _ (all_alloc _ _)).mono ?_; rintro e w1 ⟨rfl, hb1⟩)
  have hX : Hid _ := blk (heap_alloc_new w (.cells #[.int .i64 3, .int .i64 a, .int .i64 m, .slice p vs.length c] 43)) hb1
  have hA0 : Below w.heap.size w w1 := keepB (all_alloc w (.cells #[.int .i64 3, .int .i64 a, .int .i64 m, .slice p vs.length c] 43)) (Nat.le_refl _) hb1
  clear hb1 HSR
  obtain ⟨G, hG⟩ : ∃ G, w.heap.size = G := ⟨_, rfl⟩
  rw [hG] at hX ⊢
  have x0 := cellW hX.out 0 _ rfl
  have x1 := cellW hX.out 1 _ rfl
  have x2 := cellW hX.out 2 _ rfl
  have x3 := cellW hX.out 3 _ rfl
  go_cut [3] (fun s3 wx => s3 = .string t12 ∧ Below w1.heap.size w1 wx)
  case first =>
    have k1 := HCV.out
    have k2 := HCV2.out w1
    have ew : IntKind.u8.wrap 3 = 3 := by decide
    have d0 := x0 w1 (Below.refl _ _)
    have d1 := x1 w1 (Below.refl _ _)
    have hGl : G < w1.heap.size := (Array.getElem?_eq_some_iff.1 hX.out).1
    go_region_law (go_simp; go_at_call 59; refine (HA.out _).mono ?_; rintro e9 w9 ⟨rfl, hbq⟩; first | (have s9 : Below w1.heap.size w1 w9 := keepB (Below.drew (all_alloc w1 (.cells #[.int .u8 3] 5))) (Nat.le_refl _) hbq; have k3 := HCB.out w9 w1.heap.size (blk (Y := World.drew (w1.alloc (.cells #[.int .u8 3] 5))) (heap_alloc_new w1 (.cells #[.int .u8 3] 5)) hbq); have y0 := x0 w9 s9) | (have s9 : Below w1.heap.size w1 w9 := keepB (Below.drew (Below.refl _ _)) (Nat.le_refl _) hbq; have y0 := x0 w9 s9))
    all_goals
      go_wp2
      go_meet
      first
        | exact ⟨congrArg _ H12.out, s9⟩
        | exact ⟨congrArg _ H12.out, keepB s9 (Nat.le_refl _) (all_alloc _ _)⟩
  case rest =>
    obtain ⟨rfl, hwc⟩ := hcut
    have HHw : Hid (Below w.heap.size w wc) := keepB hA0 (Nat.le_refl _) hwc
    have y0 := x0 wc hwc
    have y1 := x1 wc hwc
    have y2 := x2 wc hwc
    have y3 := x3 wc hwc
    go_wp2_with (go_at_call 59; refine (HM.out _).mono ?_; rintro e9 w9 ⟨rfl, hbq⟩)
    go_ret
    exact ⟨rfl, keepB HHw.out (Nat.le_refl _) hbq⟩
set_option maxRecDepth 100000 in
set_option maxHeartbeats 1600000 in
theorem bytesS_5 (a m : Int) (vs : List Int) (p : Option Addr) (c : Nat) (w : World) (ha : 0 ≤ a ∧ a ≤ 65535) (v : Int) (hv : vs = [v]) (hb : v = 0 ∨ v = 1) (hr : RowI w (.slice p vs.length c) vs)
    (HSR : Hid (∀ W, Below w.heap.size w W → Calls Tryd.prog 62 #[.agg #[.int .i64 5, .int .i64 a, .int .i64 m, .slice p vs.length c]] W fun e w' => e = .returned (.bool true) ∧ Below W.heap.size W w')) :
    Calls Tryd.prog 52 #[.agg #[.int .i64 5, .int .i64 a, .int .i64 m, .slice p vs.length c]] w fun e w' => e = .returned (.string (oneB 5 ++ twoB a ++ twoB (65280 * v))) ∧ Below w.heap.size w w' := by
  subst hv
  obtain ⟨p', c', hsl, hcell⟩ := hr
  obtain ⟨g, hp, lg, qc⟩ := hcell 0 (by simp)
  cases hsl
  subst hp
  have qc : w.cell? ⟨g, 0, none⟩ = some (.int .i64 v) := qc
  clear hcell
  have HA : Hid (∀ W : World, Calls Tryd.prog 59 #[.int .i64 a] W fun e w' => e = .returned (.string (twoB a)) ∧ Below W.heap.size W w') := fun W => l04Two_any a W ha
  have HM : Hid (∀ W : World, Calls Tryd.prog 59 #[.int .i64 (65280 * v)] W fun e w' => e = .returned (.string (twoB (65280 * v))) ∧ Below W.heap.size W w') := fun W => l04Two_any (65280 * v) W (by omega)
  have zM : (twoB (65280 * v)).size = 2 := rfl
  generalize twoB (65280 * v) = tM at HM zM ⊢
  have zA : (twoB a).size = 2 := rfl
  have hv0 : 0 ≤ v := by omega
  have hv1 : v ≤ 1 := by omega
  have z1 : (oneB 5).size = 1 := rfl
  have HCV : Hid (∀ W : World, (convert 60 9 (.slice (some ⟨W.heap.size, 0, none⟩) 1 1)).run Tryd.prog (W.alloc (.cells #[.int .u8 5] 5)) = .ok (.string (oneB 5)) (W.alloc (.cells #[.int .u8 5] 5))) := fun W => conv_one W 5 (by omega)
  have HCV2 : Hid (∀ W : World, (convert 60 9 (.slice (some ⟨W.heap.size, 0, none⟩) 1 1)).run Tryd.prog (World.drew (W.alloc (.cells #[.int .u8 5] 5))) = .ok (.string (oneB 5)) (World.drew (W.alloc (.cells #[.int .u8 5] 5)))) := fun W => conv_at (heap_alloc_new W _) (by omega)
  have HCB : Hid (∀ (W : World) (g : Nat), W.heap[g]? = some (.cells #[.int .u8 5] 5 (0, 0)) → (convert 60 9 (.slice (some ⟨g, 0, none⟩) 1 1)).run Tryd.prog W = .ok (.string (oneB 5)) W) := fun W g h => conv_at h (by omega)
  generalize twoB a = tA at HA zA ⊢
  generalize oneB 5 = t1 at HCV HCV2 HCB z1 ⊢
  have c1 : ¬ 9223372036854775807 < t1.size + tA.size := by omega
  have c2 : ¬ 9223372036854775807 < (t1 ++ tA).size + tM.size := by rw [ByteArray.size_append]; omega
  have hs12 : (t1 ++ tA).size = 3 := by rw [ByteArray.size_append]; omega
  generalize h12 : t1 ++ tA = t12 at c2  hs12 ⊢
  have H12 : Hid (t1 ++ tA = t12) := h12
  clear h12 hs12 z1 zA zM 
  clear ha hb
  go_enter Tryd.func52, Tryd.ntmps52
  go_upto_region 3 with (go_at_call 62; refine (HSR.out _ (all_alloc _ _)).mono ?_; rintro e w1 ⟨rfl, hb1⟩)
  have hX : Hid _ := blk (heap_alloc_new w (.cells #[.int .i64 5, .int .i64 a, .int .i64 m, .slice (some ⟨g, 0, none⟩) 1 c] 43)) hb1
  have hA0 : Below w.heap.size w w1 := keepB (all_alloc w (.cells #[.int .i64 5, .int .i64 a, .int .i64 m, .slice (some ⟨g, 0, none⟩) 1 c] 43)) (Nat.le_refl _) hb1
  clear hb1 HSR
  obtain ⟨G, hG⟩ : ∃ G, w.heap.size = G := ⟨_, rfl⟩
  rw [hG] at hX ⊢
  have x0 := cellW hX.out 0 _ rfl
  have x1 := cellW hX.out 1 _ rfl
  have x2 := cellW hX.out 2 _ rfl
  have x3 := cellW hX.out 3 _ rfl
  go_cut [3] (fun s3 wx => s3 = .string t12 ∧ Below w1.heap.size w1 wx)
  case first =>
    have k1 := HCV.out
    have k2 := HCV2.out w1
    have ew : IntKind.u8.wrap 5 = 5 := by decide
    have d0 := x0 w1 (Below.refl _ _)
    have d1 := x1 w1 (Below.refl _ _)
    have hGl : G < w1.heap.size := (Array.getElem?_eq_some_iff.1 hX.out).1
    go_region_law (go_simp; go_at_call 59; refine (HA.out _).mono ?_; rintro e9 w9 ⟨rfl, hbq⟩; first | (have s9 : Below w1.heap.size w1 w9 := keepB (Below.drew (all_alloc w1 (.cells #[.int .u8 5] 5))) (Nat.le_refl _) hbq; have k3 := HCB.out w9 w1.heap.size (blk (Y := World.drew (w1.alloc (.cells #[.int .u8 5] 5))) (heap_alloc_new w1 (.cells #[.int .u8 5] 5)) hbq); have y0 := x0 w9 s9) | (have s9 : Below w1.heap.size w1 w9 := keepB (Below.drew (Below.refl _ _)) (Nat.le_refl _) hbq; have y0 := x0 w9 s9))
    all_goals
      go_wp2
      go_meet
      first
        | exact ⟨congrArg _ H12.out, s9⟩
        | exact ⟨congrArg _ H12.out, keepB s9 (Nat.le_refl _) (all_alloc _ _)⟩
  case rest =>
    obtain ⟨rfl, hwc⟩ := hcut
    have HHw : Hid (Below w.heap.size w wc) := keepB hA0 (Nat.le_refl _) hwc
    have y0 := x0 wc hwc
    have y1 := x1 wc hwc
    have y2 := x2 wc hwc
    have y3 := x3 wc hwc
    have qv : wc.cell? ⟨g, 0, none⟩ = some (.int .i64 v) := (HHw.out.cell (p := ⟨g, 0, none⟩) lg).trans qc
    go_wp2_with (go_at_call 59; refine (HM.out _).mono ?_; rintro e9 w9 ⟨rfl, hbq⟩)
    go_ret
    exact ⟨rfl, keepB HHw.out (Nat.le_refl _) hbq⟩
set_option maxRecDepth 100000 in
set_option maxHeartbeats 1600000 in
theorem bytesS_6 (a m : Int) (vs : List Int) (p : Option Addr) (c : Nat) (w : World) (ha : 0 ≤ a ∧ a ≤ 65535) (v : Int) (hv : vs = [v]) (hb : 0 ≤ v ∧ v ≤ 65535) (hr : RowI w (.slice p vs.length c) vs)
    (HSR : Hid (∀ W, Below w.heap.size w W → Calls Tryd.prog 62 #[.agg #[.int .i64 6, .int .i64 a, .int .i64 m, .slice p vs.length c]] W fun e w' => e = .returned (.bool true) ∧ Below W.heap.size W w')) :
    Calls Tryd.prog 52 #[.agg #[.int .i64 6, .int .i64 a, .int .i64 m, .slice p vs.length c]] w fun e w' => e = .returned (.string (oneB 6 ++ twoB a ++ twoB v)) ∧ Below w.heap.size w w' := by
  subst hv
  obtain ⟨p', c', hsl, hcell⟩ := hr
  obtain ⟨g, hp, lg, qc⟩ := hcell 0 (by simp)
  cases hsl
  subst hp
  have qc : w.cell? ⟨g, 0, none⟩ = some (.int .i64 v) := qc
  clear hcell
  have HA : Hid (∀ W : World, Calls Tryd.prog 59 #[.int .i64 a] W fun e w' => e = .returned (.string (twoB a)) ∧ Below W.heap.size W w') := fun W => l04Two_any a W ha
  have HM : Hid (∀ W : World, Calls Tryd.prog 59 #[.int .i64 (v)] W fun e w' => e = .returned (.string (twoB (v))) ∧ Below W.heap.size W w') := fun W => l04Two_any (v) W (by omega)
  have zM : (twoB (v)).size = 2 := rfl
  generalize twoB (v) = tM at HM zM ⊢
  have zA : (twoB a).size = 2 := rfl
  have z1 : (oneB 6).size = 1 := rfl
  have HCV : Hid (∀ W : World, (convert 60 9 (.slice (some ⟨W.heap.size, 0, none⟩) 1 1)).run Tryd.prog (W.alloc (.cells #[.int .u8 6] 5)) = .ok (.string (oneB 6)) (W.alloc (.cells #[.int .u8 6] 5))) := fun W => conv_one W 6 (by omega)
  have HCV2 : Hid (∀ W : World, (convert 60 9 (.slice (some ⟨W.heap.size, 0, none⟩) 1 1)).run Tryd.prog (World.drew (W.alloc (.cells #[.int .u8 6] 5))) = .ok (.string (oneB 6)) (World.drew (W.alloc (.cells #[.int .u8 6] 5)))) := fun W => conv_at (heap_alloc_new W _) (by omega)
  have HCB : Hid (∀ (W : World) (g : Nat), W.heap[g]? = some (.cells #[.int .u8 6] 5 (0, 0)) → (convert 60 9 (.slice (some ⟨g, 0, none⟩) 1 1)).run Tryd.prog W = .ok (.string (oneB 6)) W) := fun W g h => conv_at h (by omega)
  generalize twoB a = tA at HA zA ⊢
  generalize oneB 6 = t1 at HCV HCV2 HCB z1 ⊢
  have c1 : ¬ 9223372036854775807 < t1.size + tA.size := by omega
  have c2 : ¬ 9223372036854775807 < (t1 ++ tA).size + tM.size := by rw [ByteArray.size_append]; omega
  have hs12 : (t1 ++ tA).size = 3 := by rw [ByteArray.size_append]; omega
  generalize h12 : t1 ++ tA = t12 at c2  hs12 ⊢
  have H12 : Hid (t1 ++ tA = t12) := h12
  clear h12 hs12 z1 zA zM 
  clear ha hb
  go_enter Tryd.func52, Tryd.ntmps52
  go_upto_region 3 with (go_at_call 62; refine (HSR.out _ (all_alloc _ _)).mono ?_; rintro e w1 ⟨rfl, hb1⟩)
  have hX : Hid _ := blk (heap_alloc_new w (.cells #[.int .i64 6, .int .i64 a, .int .i64 m, .slice (some ⟨g, 0, none⟩) 1 c] 43)) hb1
  have hA0 : Below w.heap.size w w1 := keepB (all_alloc w (.cells #[.int .i64 6, .int .i64 a, .int .i64 m, .slice (some ⟨g, 0, none⟩) 1 c] 43)) (Nat.le_refl _) hb1
  clear hb1 HSR
  obtain ⟨G, hG⟩ : ∃ G, w.heap.size = G := ⟨_, rfl⟩
  rw [hG] at hX ⊢
  have x0 := cellW hX.out 0 _ rfl
  have x1 := cellW hX.out 1 _ rfl
  have x2 := cellW hX.out 2 _ rfl
  have x3 := cellW hX.out 3 _ rfl
  go_cut [3] (fun s3 wx => s3 = .string t12 ∧ Below w1.heap.size w1 wx)
  case first =>
    have k1 := HCV.out
    have k2 := HCV2.out w1
    have ew : IntKind.u8.wrap 6 = 6 := by decide
    have d0 := x0 w1 (Below.refl _ _)
    have d1 := x1 w1 (Below.refl _ _)
    have hGl : G < w1.heap.size := (Array.getElem?_eq_some_iff.1 hX.out).1
    go_region_law (go_simp; go_at_call 59; refine (HA.out _).mono ?_; rintro e9 w9 ⟨rfl, hbq⟩; first | (have s9 : Below w1.heap.size w1 w9 := keepB (Below.drew (all_alloc w1 (.cells #[.int .u8 6] 5))) (Nat.le_refl _) hbq; have k3 := HCB.out w9 w1.heap.size (blk (Y := World.drew (w1.alloc (.cells #[.int .u8 6] 5))) (heap_alloc_new w1 (.cells #[.int .u8 6] 5)) hbq); have y0 := x0 w9 s9) | (have s9 : Below w1.heap.size w1 w9 := keepB (Below.drew (Below.refl _ _)) (Nat.le_refl _) hbq; have y0 := x0 w9 s9))
    all_goals
      go_wp2
      go_meet
      first
        | exact ⟨congrArg _ H12.out, s9⟩
        | exact ⟨congrArg _ H12.out, keepB s9 (Nat.le_refl _) (all_alloc _ _)⟩
  case rest =>
    obtain ⟨rfl, hwc⟩ := hcut
    have HHw : Hid (Below w.heap.size w wc) := keepB hA0 (Nat.le_refl _) hwc
    have y0 := x0 wc hwc
    have y1 := x1 wc hwc
    have y2 := x2 wc hwc
    have y3 := x3 wc hwc
    have qv : wc.cell? ⟨g, 0, none⟩ = some (.int .i64 v) := (HHw.out.cell (p := ⟨g, 0, none⟩) lg).trans qc
    go_wp2_with (go_at_call 59; refine (HM.out _).mono ?_; rintro e9 w9 ⟨rfl, hbq⟩)
    go_ret
    exact ⟨rfl, keepB HHw.out (Nat.le_refl _) hbq⟩
end Go.Proofs.YtfpibedloodjlabDoor
