/- THE BYTES OF A QUESTION: the model's own. -/
import Derived.Test.YtfpibedloodjlaaTailQ
import Derived.Test.YtfpibedloodjlaaAskS
import Derived.Test.YtfpibedloodjlaaAskB
import Derived.Test.YtfpibedloodjlaaAskC
namespace Go.Proofs.Ytfpibedloodjlaa
open Go.RowKit
set_option linter.unusedVariables false
set_option linter.unusedSimpArgs false

set_option maxRecDepth 100000 in
set_option maxHeartbeats 1600000 in
theorem bytesS_15 (a m : Int) (vs : List Int) (p : Option Addr) (c : Nat) (w : World) (ha : 0 ≤ a ∧ a ≤ 65535) (hm : 0 ≤ m ∧ m ≤ 65535) (hl : vs.length ≤ 16) (hr : RowI w (.slice p vs.length c) vs)
    (HSR : Hid (∀ W, Below w.heap.size w W → Calls Try.prog 17 #[.agg #[.int .i64 15, .int .i64 a, .int .i64 m, .slice p vs.length c]] W fun e w' => e = .returned (.bool true) ∧ Below W.heap.size W w')) :
    Calls Try.prog 15 #[.agg #[.int .i64 15, .int .i64 a, .int .i64 m, .slice p vs.length c]] w fun e w' => e = .returned (.string (oneB 15 ++ twoB a ++ twoB m ++ ⟨(countedL (packB vs).data.toList).toArray⟩)) ∧ Below w.heap.size w w' := by
  have HA : Hid (∀ W : World, Calls Try.prog 46 #[.int .i64 a] W fun e w' => e = .returned (.string (twoB a)) ∧ Below W.heap.size W w') := fun W => l04Two_any a W ha
  have HM : Hid (∀ W : World, Calls Try.prog 46 #[.int .i64 m] W fun e w' => e = .returned (.string (twoB m)) ∧ Below W.heap.size W w') := fun W => l04Two_any m W hm
  have zM : (twoB m).size = 2 := rfl
  generalize twoB m = tM at HM zM ⊢
  have HP : Hid (∀ W, Below w.heap.size w W → Calls Try.prog 48 #[.slice p vs.length c] W fun e w' => e = .returned (.string (packB vs)) ∧ Below W.heap.size W w') := fun W hW => l04Pack_any _ vs W (by omega) (hr.below hW)
  have hz : (packB vs).size ≤ 200 := by have := packB_size vs; omega
  generalize packB vs = D at HP hz ⊢
  have HC : Hid (∀ W : World, Calls Try.prog 47 #[.string D] W fun e w' => e = .returned (.string ⟨(countedL D.data.toList).toArray⟩) ∧ Below W.heap.size W w') := fun W => l04Counted_any D W (by omega)
  have zC : (⟨(countedL D.data.toList).toArray⟩ : ByteArray).size ≤ 300 := by have := counted_size D; omega
  generalize (⟨(countedL D.data.toList).toArray⟩ : ByteArray) = tC at HC zC ⊢
  have zA : (twoB a).size = 2 := rfl
  have z1 : (oneB 15).size = 1 := rfl
  have HCV : Hid (∀ W : World, (convert 22 9 (.slice (some ⟨W.heap.size, 0, none⟩) 1 1)).run Try.prog (W.alloc (.cells #[.int .u8 15] 5)) = .ok (.string (oneB 15)) (W.alloc (.cells #[.int .u8 15] 5))) := fun W => conv_one W 15 (by omega)
  have HCV2 : Hid (∀ W : World, (convert 22 9 (.slice (some ⟨W.heap.size, 0, none⟩) 1 1)).run Try.prog (World.drew (W.alloc (.cells #[.int .u8 15] 5))) = .ok (.string (oneB 15)) (World.drew (W.alloc (.cells #[.int .u8 15] 5)))) := fun W => conv_at (heap_alloc_new W _) (by omega)
  have HCB : Hid (∀ (W : World) (g : Nat), W.heap[g]? = some (.cells #[.int .u8 15] 5 (0, 0)) → (convert 22 9 (.slice (some ⟨g, 0, none⟩) 1 1)).run Try.prog W = .ok (.string (oneB 15)) W) := fun W g h => conv_at h (by omega)
  generalize twoB a = tA at HA zA ⊢
  generalize oneB 15 = t1 at HCV HCV2 HCB z1 ⊢
  have c1 : ¬ 9223372036854775807 < t1.size + tA.size := by omega
  have c2 : ¬ 9223372036854775807 < (t1 ++ tA).size + tM.size := by rw [ByteArray.size_append]; omega
  have c3 : ¬ 9223372036854775807 < (t1 ++ tA ++ tM).size + tC.size := by rw [ByteArray.size_append, ByteArray.size_append]; omega
  have c4 : ¬ 9223372036854775807 < t1.size + tA.size + tM.size + tC.size := by omega
  have hs12 : (t1 ++ tA).size = 3 := by rw [ByteArray.size_append]; omega
  generalize h12 : t1 ++ tA = t12 at c2 c3 hs12 ⊢
  have H12 : Hid (t1 ++ tA = t12) := h12
  have c6 : ¬ 9223372036854775807 < t12.size + tM.size + tC.size := by omega
  clear c4
  clear h12 hs12 z1 zA zM zC
  clear hr hm ha hz
  go_enter Try.func15, Try.ntmps15
  go_upto_region 3 with (go_at_call 17; refine (HSR.out _ (all_alloc _ _)).mono ?_; rintro e w1 ⟨rfl, hb1⟩)
  have hX : Hid _ := blk (heap_alloc_new w (.cells #[.int .i64 15, .int .i64 a, .int .i64 m, .slice p vs.length c] 25)) hb1
  have hA0 : Below w.heap.size w w1 := keepB (all_alloc w (.cells #[.int .i64 15, .int .i64 a, .int .i64 m, .slice p vs.length c] 25)) (Nat.le_refl _) hb1
  clear hb1 HSR
  obtain ⟨G, hG⟩ : ∃ G, w.heap.size = G := ⟨_, rfl⟩
  rw [hG] at hX ⊢
  have x0 := cellW hX.out 0 _ rfl
  have x1 := cellW hX.out 1 _ rfl
  have x2 := cellW hX.out 2 _ rfl
  have x3 := cellW hX.out 3 _ rfl
  go_cut [3] (fun s3 wx => s3 = .string t12 ∧ Below w1.heap.size w1 wx)
  case first =>
    have k1 := HCV.out
    have k2 := HCV2.out w1
    have ew : IntKind.u8.wrap 15 = 15 := by decide
    have d0 := x0 w1 (Below.refl _ _)
    have d1 := x1 w1 (Below.refl _ _)
    have hGl : G < w1.heap.size := (Array.getElem?_eq_some_iff.1 hX.out).1
    go_region_law (go_simp; go_at_call 46; refine (HA.out _).mono ?_; rintro e9 w9 ⟨rfl, hbq⟩; first | (have s9 : Below w1.heap.size w1 w9 := keepB (Below.drew (all_alloc w1 (.cells #[.int .u8 15] 5))) (Nat.le_refl _) hbq; have k3 := HCB.out w9 w1.heap.size (blk (Y := World.drew (w1.alloc (.cells #[.int .u8 15] 5))) (heap_alloc_new w1 (.cells #[.int .u8 15] 5)) hbq); have y0 := x0 w9 s9) | (have s9 : Below w1.heap.size w1 w9 := keepB (Below.drew (Below.refl _ _)) (Nat.le_refl _) hbq; have y0 := x0 w9 s9))
    all_goals
      go_wp2
      go_meet
      first
        | exact ⟨congrArg _ H12.out, s9⟩
        | exact ⟨congrArg _ H12.out, keepB s9 (Nat.le_refl _) (all_alloc _ _)⟩
  case rest =>
    obtain ⟨rfl, hwc⟩ := hcut
    have HHw : Hid (Below w.heap.size w wc) := keepB hA0 (Nat.le_refl _) hwc
    have y0 := x0 wc hwc
    go_upto_region 13 with fail
    go_region_held3 (fun w' => Below w1.heap.size w1 w') (first | assumption | exact Below.drew (by assumption) | exact keepB (by assumption) (Nat.le_refl _) hbq) (first
      | (go_at_call 46; refine (HM.out _).mono ?_; rintro e9 w9 ⟨rfl, hbq⟩)
      | (go_at_call 48; refine (HP.out _ (keepB hA0 (Nat.le_refl _) (by assumption))).mono ?_; rintro e9 w9 ⟨rfl, hbq⟩)
      | (go_at_call 47; refine (HC.out _).mono ?_; rintro e9 w9 ⟨rfl, hbq⟩))
    go_wp2
    go_ret
    exact ⟨rfl, keepB hA0 (Nat.le_refl _) (by assumption)⟩
set_option maxRecDepth 100000 in
set_option maxHeartbeats 1600000 in
theorem bytesS_16 (a m : Int) (vs : List Int) (p : Option Addr) (c : Nat) (w : World) (ha : 0 ≤ a ∧ a ≤ 65535) (hm : 0 ≤ m ∧ m ≤ 65535) (hl : vs.length ≤ 16) (hw : vs.all wordB = true) (hr : RowI w (.slice p vs.length c) vs)
    (HSR : Hid (∀ W, Below w.heap.size w W → Calls Try.prog 17 #[.agg #[.int .i64 16, .int .i64 a, .int .i64 m, .slice p vs.length c]] W fun e w' => e = .returned (.bool true) ∧ Below W.heap.size W w')) :
    Calls Try.prog 15 #[.agg #[.int .i64 16, .int .i64 a, .int .i64 m, .slice p vs.length c]] w fun e w' => e = .returned (.string (oneB 16 ++ twoB a ++ twoB m ++ ⟨(countedL (wordsB vs).data.toList).toArray⟩)) ∧ Below w.heap.size w w' := by
  have HA : Hid (∀ W : World, Calls Try.prog 46 #[.int .i64 a] W fun e w' => e = .returned (.string (twoB a)) ∧ Below W.heap.size W w') := fun W => l04Two_any a W ha
  have HM : Hid (∀ W : World, Calls Try.prog 46 #[.int .i64 m] W fun e w' => e = .returned (.string (twoB m)) ∧ Below W.heap.size W w') := fun W => l04Two_any m W hm
  have zM : (twoB m).size = 2 := rfl
  generalize twoB m = tM at HM zM ⊢
  have HP : Hid (∀ W, Below w.heap.size w W → Calls Try.prog 49 #[.slice p vs.length c] W fun e w' => e = .returned (.string (wordsB vs)) ∧ Below W.heap.size W w') := fun W hW => l04Words_any _ vs W (by omega) hw (hr.below hW)
  have hz : (wordsB vs).size ≤ 200 := by have := wordsB_size vs; omega
  generalize wordsB vs = D at HP hz ⊢
  have HC : Hid (∀ W : World, Calls Try.prog 47 #[.string D] W fun e w' => e = .returned (.string ⟨(countedL D.data.toList).toArray⟩) ∧ Below W.heap.size W w') := fun W => l04Counted_any D W (by omega)
  have zC : (⟨(countedL D.data.toList).toArray⟩ : ByteArray).size ≤ 300 := by have := counted_size D; omega
  generalize (⟨(countedL D.data.toList).toArray⟩ : ByteArray) = tC at HC zC ⊢
  have zA : (twoB a).size = 2 := rfl
  have z1 : (oneB 16).size = 1 := rfl
  have HCV : Hid (∀ W : World, (convert 22 9 (.slice (some ⟨W.heap.size, 0, none⟩) 1 1)).run Try.prog (W.alloc (.cells #[.int .u8 16] 5)) = .ok (.string (oneB 16)) (W.alloc (.cells #[.int .u8 16] 5))) := fun W => conv_one W 16 (by omega)
  have HCV2 : Hid (∀ W : World, (convert 22 9 (.slice (some ⟨W.heap.size, 0, none⟩) 1 1)).run Try.prog (World.drew (W.alloc (.cells #[.int .u8 16] 5))) = .ok (.string (oneB 16)) (World.drew (W.alloc (.cells #[.int .u8 16] 5)))) := fun W => conv_at (heap_alloc_new W _) (by omega)
  have HCB : Hid (∀ (W : World) (g : Nat), W.heap[g]? = some (.cells #[.int .u8 16] 5 (0, 0)) → (convert 22 9 (.slice (some ⟨g, 0, none⟩) 1 1)).run Try.prog W = .ok (.string (oneB 16)) W) := fun W g h => conv_at h (by omega)
  generalize twoB a = tA at HA zA ⊢
  generalize oneB 16 = t1 at HCV HCV2 HCB z1 ⊢
  have c1 : ¬ 9223372036854775807 < t1.size + tA.size := by omega
  have c2 : ¬ 9223372036854775807 < (t1 ++ tA).size + tM.size := by rw [ByteArray.size_append]; omega
  have c3 : ¬ 9223372036854775807 < (t1 ++ tA ++ tM).size + tC.size := by rw [ByteArray.size_append, ByteArray.size_append]; omega
  have c4 : ¬ 9223372036854775807 < t1.size + tA.size + tM.size + tC.size := by omega
  have hs12 : (t1 ++ tA).size = 3 := by rw [ByteArray.size_append]; omega
  generalize h12 : t1 ++ tA = t12 at c2 c3 hs12 ⊢
  have H12 : Hid (t1 ++ tA = t12) := h12
  have c6 : ¬ 9223372036854775807 < t12.size + tM.size + tC.size := by omega
  clear c4
  clear h12 hs12 z1 zA zM zC
  clear hr hm ha hz hw
  go_enter Try.func15, Try.ntmps15
  go_upto_region 3 with (go_at_call 17; refine (HSR.out _ (all_alloc _ _)).mono ?_; rintro e w1 ⟨rfl, hb1⟩)
  have hX : Hid _ := blk (heap_alloc_new w (.cells #[.int .i64 16, .int .i64 a, .int .i64 m, .slice p vs.length c] 25)) hb1
  have hA0 : Below w.heap.size w w1 := keepB (all_alloc w (.cells #[.int .i64 16, .int .i64 a, .int .i64 m, .slice p vs.length c] 25)) (Nat.le_refl _) hb1
  clear hb1 HSR
  obtain ⟨G, hG⟩ : ∃ G, w.heap.size = G := ⟨_, rfl⟩
  rw [hG] at hX ⊢
  have x0 := cellW hX.out 0 _ rfl
  have x1 := cellW hX.out 1 _ rfl
  have x2 := cellW hX.out 2 _ rfl
  have x3 := cellW hX.out 3 _ rfl
  go_cut [3] (fun s3 wx => s3 = .string t12 ∧ Below w1.heap.size w1 wx)
  case first =>
    have k1 := HCV.out
    have k2 := HCV2.out w1
    have ew : IntKind.u8.wrap 16 = 16 := by decide
    have d0 := x0 w1 (Below.refl _ _)
    have d1 := x1 w1 (Below.refl _ _)
    have hGl : G < w1.heap.size := (Array.getElem?_eq_some_iff.1 hX.out).1
    go_region_law (go_simp; go_at_call 46; refine (HA.out _).mono ?_; rintro e9 w9 ⟨rfl, hbq⟩; first | (have s9 : Below w1.heap.size w1 w9 := keepB (Below.drew (all_alloc w1 (.cells #[.int .u8 16] 5))) (Nat.le_refl _) hbq; have k3 := HCB.out w9 w1.heap.size (blk (Y := World.drew (w1.alloc (.cells #[.int .u8 16] 5))) (heap_alloc_new w1 (.cells #[.int .u8 16] 5)) hbq); have y0 := x0 w9 s9) | (have s9 : Below w1.heap.size w1 w9 := keepB (Below.drew (Below.refl _ _)) (Nat.le_refl _) hbq; have y0 := x0 w9 s9))
    all_goals
      go_wp2
      go_meet
      first
        | exact ⟨congrArg _ H12.out, s9⟩
        | exact ⟨congrArg _ H12.out, keepB s9 (Nat.le_refl _) (all_alloc _ _)⟩
  case rest =>
    obtain ⟨rfl, hwc⟩ := hcut
    have HHw : Hid (Below w.heap.size w wc) := keepB hA0 (Nat.le_refl _) hwc
    have y0 := x0 wc hwc
    go_upto_region 14 with fail
    go_region_held3 (fun w' => Below w1.heap.size w1 w') (first | assumption | exact Below.drew (by assumption) | exact keepB (by assumption) (Nat.le_refl _) hbq) (first
      | (go_at_call 46; refine (HM.out _).mono ?_; rintro e9 w9 ⟨rfl, hbq⟩)
      | (go_at_call 49; refine (HP.out _ (keepB hA0 (Nat.le_refl _) (by assumption))).mono ?_; rintro e9 w9 ⟨rfl, hbq⟩)
      | (go_at_call 47; refine (HC.out _).mono ?_; rintro e9 w9 ⟨rfl, hbq⟩))
    go_wp2
    go_ret
    exact ⟨rfl, keepB hA0 (Nat.le_refl _) (by assumption)⟩
end Go.Proofs.Ytfpibedloodjlaa
