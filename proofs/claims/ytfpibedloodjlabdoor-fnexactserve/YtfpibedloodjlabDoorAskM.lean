/- THE BYTES OF A QUESTION: the model's own. -/
import Derived.Test.YtfpibedloodjlabDoorTailQ
import Derived.Test.YtfpibedloodjlabDoorAskS
import Derived.Test.YtfpibedloodjlabDoorPlainTab
import Derived.Test.YtfpibedloodjlabDoorAskC
import Derived.Test.YtfpibedloodjlabDoorAskRu
namespace Go.Proofs.YtfpibedloodjlabDoor
open Go.RowKit
set_option linter.unusedVariables false
set_option linter.unusedSimpArgs false

set_option maxRecDepth 100000 in
set_option maxHeartbeats 1600000 in
theorem bytesS_15 (a m : Int) (vs : List Int) (p : Option Addr) (c : Nat) (w : World) (ha : 0 ≤ a ∧ a ≤ 65535) (hm : 0 ≤ m ∧ m ≤ 65535) (hl : vs.length ≤ 16) (hr : RowI w (.slice p vs.length c) vs)
    (HSR : Hid (∀ W, Below w.heap.size w W → Calls Tryd.prog 62 #[.agg #[.int .i64 15, .int .i64 a, .int .i64 m, .slice p vs.length c]] W fun e w' => e = .returned (.bool true) ∧ Below W.heap.size W w')) :
    Calls Tryd.prog 52 #[.agg #[.int .i64 15, .int .i64 a, .int .i64 m, .slice p vs.length c]] w fun e w' => e = .returned (.string (oneB 15 ++ twoB a ++ twoB m ++ ⟨(countedL (packB vs).data.toList).toArray⟩)) ∧ Below w.heap.size w w' := by
  have HA : Hid (∀ W : World, Calls Tryd.prog 59 #[.int .i64 a] W fun e w' => e = .returned (.string (twoB a)) ∧ Below W.heap.size W w') := fun W => l04Two_any a W ha
  have HM : Hid (∀ W : World, Calls Tryd.prog 59 #[.int .i64 m] W fun e w' => e = .returned (.string (twoB m)) ∧ Below W.heap.size W w') := fun W => l04Two_any m W hm
  have zM : (twoB m).size = 2 := rfl
  generalize twoB m = tM at HM zM ⊢
  have HP : Hid (∀ W, Below w.heap.size w W → Calls Tryd.prog 49 #[.slice p vs.length c] W fun e w' => e = .returned (.string (packB vs)) ∧ Below W.heap.size W w') := fun W hW => l04Pack_any _ vs W (by omega) (hr.below hW)
  have hz : (packB vs).size ≤ 200 := by have := packB_size vs; omega
  generalize packB vs = D at HP hz ⊢
  have HC : Hid (∀ W : World, Calls Tryd.prog 48 #[.string D] W fun e w' => e = .returned (.string ⟨(countedL D.data.toList).toArray⟩) ∧ Below W.heap.size W w') := fun W => l04Counted_any D W (by omega)
  have zC : (⟨(countedL D.data.toList).toArray⟩ : ByteArray).size ≤ 300 := by have := counted_size D; omega
  generalize (⟨(countedL D.data.toList).toArray⟩ : ByteArray) = tC at HC zC ⊢
  have zA : (twoB a).size = 2 := rfl
  have z1 : (oneB 15).size = 1 := rfl
  have HCV : Hid (∀ W : World, (convert 60 9 (.slice (some ⟨W.heap.size, 0, none⟩) 1 1)).run Tryd.prog (W.alloc (.cells #[.int .u8 15] 5)) = .ok (.string (oneB 15)) (W.alloc (.cells #[.int .u8 15] 5))) := fun W => conv_one W 15 (by omega)
  have HCV2 : Hid (∀ W : World, (convert 60 9 (.slice (some ⟨W.heap.size, 0, none⟩) 1 1)).run Tryd.prog (World.drew (W.alloc (.cells #[.int .u8 15] 5))) = .ok (.string (oneB 15)) (World.drew (W.alloc (.cells #[.int .u8 15] 5)))) := fun W => conv_at (heap_alloc_new W _) (by omega)
  have HCB : Hid (∀ (W : World) (g : Nat), W.heap[g]? = some (.cells #[.int .u8 15] 5 (0, 0)) → (convert 60 9 (.slice (some ⟨g, 0, none⟩) 1 1)).run Tryd.prog W = .ok (.string (oneB 15)) W) := fun W g h => conv_at h (by omega)
  generalize twoB a = tA at HA zA ⊢
  generalize oneB 15 = t1 at HCV HCV2 HCB z1 ⊢
  have c1 : ¬ 9223372036854775807 < t1.size + tA.size := by omega
  have c2 : ¬ 9223372036854775807 < (t1 ++ tA).size + tM.size := by rw [ByteArray.size_append]; omega
  have c3 : ¬ 9223372036854775807 < (t1 ++ tA ++ tM).size + tC.size := by rw [ByteArray.size_append, ByteArray.size_append]; omega
  have c4 : ¬ 9223372036854775807 < t1.size + tA.size + tM.size + tC.size := by omega
  have hs12 : (t1 ++ tA).size = 3 := by rw [ByteArray.size_append]; omega
  generalize h12 : t1 ++ tA = t12 at c2 c3 hs12 ⊢
  have H12 : Hid (t1 ++ tA = t12) := h12
  have c6 : ¬ 9223372036854775807 < t12.size + tM.size + tC.size := by omega
  clear c4
  clear h12 hs12 z1 zA zM zC
  clear hr hm ha hz
  go_enter Tryd.func52, Tryd.ntmps52
  go_upto_region 3 with (go_at_call 62; refine (HSR.out _ (all_alloc _ _)).mono ?_; rintro e w1 ⟨rfl, hb1⟩)
  have hX : Hid _ := blk (heap_alloc_new w (.cells #[.int .i64 15, .int .i64 a, .int .i64 m, .slice p vs.length c] 43)) hb1
  have hA0 : Below w.heap.size w w1 := keepB (all_alloc w (.cells #[.int .i64 15, .int .i64 a, .int .i64 m, .slice p vs.length c] 43)) (Nat.le_refl _) hb1
  clear hb1 HSR
  obtain ⟨G, hG⟩ : ∃ G, w.heap.size = G := ⟨_, rfl⟩
  rw [hG] at hX ⊢
  have x0 := cellW hX.out 0 _ rfl
  have x1 := cellW hX.out 1 _ rfl
  have x2 := cellW hX.out 2 _ rfl
  have x3 := cellW hX.out 3 _ rfl
  go_cut [3] (fun s3 wx => s3 = .string t12 ∧ Below w1.heap.size w1 wx)
  case first =>
    have k1 := HCV.out
    have k2 := HCV2.out w1
    have ew : IntKind.u8.wrap 15 = 15 := by decide
    have d0 := x0 w1 (Below.refl _ _)
    have d1 := x1 w1 (Below.refl _ _)
    have hGl : G < w1.heap.size := (Array.getElem?_eq_some_iff.1 hX.out).1
    go_region_law (go_simp; go_at_call 59; refine (HA.out _).mono ?_; rintro e9 w9 ⟨rfl, hbq⟩; first | (have s9 : Below w1.heap.size w1 w9 := keepB (Below.drew (all_alloc w1 (.cells #[.int .u8 15] 5))) (Nat.le_refl _) hbq; have k3 := HCB.out w9 w1.heap.size (blk (Y := World.drew (w1.alloc (.cells #[.int .u8 15] 5))) (heap_alloc_new w1 (.cells #[.int .u8 15] 5)) hbq); have y0 := x0 w9 s9) | (have s9 : Below w1.heap.size w1 w9 := keepB (Below.drew (Below.refl _ _)) (Nat.le_refl _) hbq; have y0 := x0 w9 s9))
    all_goals
      go_wp2
      go_meet
      first
        | exact ⟨congrArg _ H12.out, s9⟩
        | exact ⟨congrArg _ H12.out, keepB s9 (Nat.le_refl _) (all_alloc _ _)⟩
  case rest =>
    obtain ⟨rfl, hwc⟩ := hcut
    have HHw : Hid (Below w.heap.size w wc) := keepB hA0 (Nat.le_refl _) hwc
    have y0 := x0 wc hwc
    go_upto_region 13 with fail
    go_region_held3 (fun w' => Below w1.heap.size w1 w') (first | assumption | exact Below.drew (by assumption) | exact keepB (by assumption) (Nat.le_refl _) hbq) (first
      | (go_at_call 59; refine (HM.out _).mono ?_; rintro e9 w9 ⟨rfl, hbq⟩)
      | (go_at_call 49; refine (HP.out _ (keepB hA0 (Nat.le_refl _) (by assumption))).mono ?_; rintro e9 w9 ⟨rfl, hbq⟩)
      | (go_at_call 48; refine (HC.out _).mono ?_; rintro e9 w9 ⟨rfl, hbq⟩))
    go_wp2
    go_ret
    exact ⟨rfl, keepB hA0 (Nat.le_refl _) (by assumption)⟩
set_option maxRecDepth 100000 in
set_option maxHeartbeats 1600000 in
theorem bytesS_16 (a m : Int) (vs : List Int) (p : Option Addr) (c : Nat) (w : World) (ha : 0 ≤ a ∧ a ≤ 65535) (hm : 0 ≤ m ∧ m ≤ 65535) (hl : vs.length ≤ 16) (hw : vs.all wordB = true) (hr : RowI w (.slice p vs.length c) vs)
    (HSR : Hid (∀ W, Below w.heap.size w W → Calls Tryd.prog 62 #[.agg #[.int .i64 16, .int .i64 a, .int .i64 m, .slice p vs.length c]] W fun e w' => e = .returned (.bool true) ∧ Below W.heap.size W w')) :
    Calls Tryd.prog 52 #[.agg #[.int .i64 16, .int .i64 a, .int .i64 m, .slice p vs.length c]] w fun e w' => e = .returned (.string (oneB 16 ++ twoB a ++ twoB m ++ ⟨(countedL (wordsB vs).data.toList).toArray⟩)) ∧ Below w.heap.size w w' := by
  have HA : Hid (∀ W : World, Calls Tryd.prog 59 #[.int .i64 a] W fun e w' => e = .returned (.string (twoB a)) ∧ Below W.heap.size W w') := fun W => l04Two_any a W ha
  have HM : Hid (∀ W : World, Calls Tryd.prog 59 #[.int .i64 m] W fun e w' => e = .returned (.string (twoB m)) ∧ Below W.heap.size W w') := fun W => l04Two_any m W hm
  have zM : (twoB m).size = 2 := rfl
  generalize twoB m = tM at HM zM ⊢
  have HP : Hid (∀ W, Below w.heap.size w W → Calls Tryd.prog 50 #[.slice p vs.length c] W fun e w' => e = .returned (.string (wordsB vs)) ∧ Below W.heap.size W w') := fun W hW => l04Words_any _ vs W (by omega) hw (hr.below hW)
  have hz : (wordsB vs).size ≤ 200 := by have := wordsB_size vs; omega
  generalize wordsB vs = D at HP hz ⊢
  have HC : Hid (∀ W : World, Calls Tryd.prog 48 #[.string D] W fun e w' => e = .returned (.string ⟨(countedL D.data.toList).toArray⟩) ∧ Below W.heap.size W w') := fun W => l04Counted_any D W (by omega)
  have zC : (⟨(countedL D.data.toList).toArray⟩ : ByteArray).size ≤ 300 := by have := counted_size D; omega
  generalize (⟨(countedL D.data.toList).toArray⟩ : ByteArray) = tC at HC zC ⊢
  have zA : (twoB a).size = 2 := rfl
  have z1 : (oneB 16).size = 1 := rfl
  have HCV : Hid (∀ W : World, (convert 60 9 (.slice (some ⟨W.heap.size, 0, none⟩) 1 1)).run Tryd.prog (W.alloc (.cells #[.int .u8 16] 5)) = .ok (.string (oneB 16)) (W.alloc (.cells #[.int .u8 16] 5))) := fun W => conv_one W 16 (by omega)
  have HCV2 : Hid (∀ W : World, (convert 60 9 (.slice (some ⟨W.heap.size, 0, none⟩) 1 1)).run Tryd.prog (World.drew (W.alloc (.cells #[.int .u8 16] 5))) = .ok (.string (oneB 16)) (World.drew (W.alloc (.cells #[.int .u8 16] 5)))) := fun W => conv_at (heap_alloc_new W _) (by omega)
  have HCB : Hid (∀ (W : World) (g : Nat), W.heap[g]? = some (.cells #[.int .u8 16] 5 (0, 0)) → (convert 60 9 (.slice (some ⟨g, 0, none⟩) 1 1)).run Tryd.prog W = .ok (.string (oneB 16)) W) := fun W g h => conv_at h (by omega)
  generalize twoB a = tA at HA zA ⊢
  generalize oneB 16 = t1 at HCV HCV2 HCB z1 ⊢
  have c1 : ¬ 9223372036854775807 < t1.size + tA.size := by omega
  have c2 : ¬ 9223372036854775807 < (t1 ++ tA).size + tM.size := by rw [ByteArray.size_append]; omega
  have c3 : ¬ 9223372036854775807 < (t1 ++ tA ++ tM).size + tC.size := by rw [ByteArray.size_append, ByteArray.size_append]; omega
  have c4 : ¬ 9223372036854775807 < t1.size + tA.size + tM.size + tC.size := by omega
  have hs12 : (t1 ++ tA).size = 3 := by rw [ByteArray.size_append]; omega
  generalize h12 : t1 ++ tA = t12 at c2 c3 hs12 ⊢
  have H12 : Hid (t1 ++ tA = t12) := h12
  have c6 : ¬ 9223372036854775807 < t12.size + tM.size + tC.size := by omega
  clear c4
  clear h12 hs12 z1 zA zM zC
  clear hr hm ha hz hw
  go_enter Tryd.func52, Tryd.ntmps52
  go_upto_region 3 with (go_at_call 62; refine (HSR.out _ (all_alloc _ _)).mono ?_; rintro e w1 ⟨rfl, hb1⟩)
  have hX : Hid _ := blk (heap_alloc_new w (.cells #[.int .i64 16, .int .i64 a, .int .i64 m, .slice p vs.length c] 43)) hb1
  have hA0 : Below w.heap.size w w1 := keepB (all_alloc w (.cells #[.int .i64 16, .int .i64 a, .int .i64 m, .slice p vs.length c] 43)) (Nat.le_refl _) hb1
  clear hb1 HSR
  obtain ⟨G, hG⟩ : ∃ G, w.heap.size = G := ⟨_, rfl⟩
  rw [hG] at hX ⊢
  have x0 := cellW hX.out 0 _ rfl
  have x1 := cellW hX.out 1 _ rfl
  have x2 := cellW hX.out 2 _ rfl
  have x3 := cellW hX.out 3 _ rfl
  go_cut [3] (fun s3 wx => s3 = .string t12 ∧ Below w1.heap.size w1 wx)
  case first =>
    have k1 := HCV.out
    have k2 := HCV2.out w1
    have ew : IntKind.u8.wrap 16 = 16 := by decide
    have d0 := x0 w1 (Below.refl _ _)
    have d1 := x1 w1 (Below.refl _ _)
    have hGl : G < w1.heap.size := (Array.getElem?_eq_some_iff.1 hX.out).1
    go_region_law (go_simp; go_at_call 59; refine (HA.out _).mono ?_; rintro e9 w9 ⟨rfl, hbq⟩; first | (have s9 : Below w1.heap.size w1 w9 := keepB (Below.drew (all_alloc w1 (.cells #[.int .u8 16] 5))) (Nat.le_refl _) hbq; have k3 := HCB.out w9 w1.heap.size (blk (Y := World.drew (w1.alloc (.cells #[.int .u8 16] 5))) (heap_alloc_new w1 (.cells #[.int .u8 16] 5)) hbq); have y0 := x0 w9 s9) | (have s9 : Below w1.heap.size w1 w9 := keepB (Below.drew (Below.refl _ _)) (Nat.le_refl _) hbq; have y0 := x0 w9 s9))
    all_goals
      go_wp2
      go_meet
      first
        | exact ⟨congrArg _ H12.out, s9⟩
        | exact ⟨congrArg _ H12.out, keepB s9 (Nat.le_refl _) (all_alloc _ _)⟩
  case rest =>
    obtain ⟨rfl, hwc⟩ := hcut
    have HHw : Hid (Below w.heap.size w wc) := keepB hA0 (Nat.le_refl _) hwc
    have y0 := x0 wc hwc
    go_upto_region 14 with fail
    go_region_held3 (fun w' => Below w1.heap.size w1 w') (first | assumption | exact Below.drew (by assumption) | exact keepB (by assumption) (Nat.le_refl _) hbq) (first
      | (go_at_call 59; refine (HM.out _).mono ?_; rintro e9 w9 ⟨rfl, hbq⟩)
      | (go_at_call 50; refine (HP.out _ (keepB hA0 (Nat.le_refl _) (by assumption))).mono ?_; rintro e9 w9 ⟨rfl, hbq⟩)
      | (go_at_call 48; refine (HC.out _).mono ?_; rintro e9 w9 ⟨rfl, hbq⟩))
    go_wp2
    go_ret
    exact ⟨rfl, keepB hA0 (Nat.le_refl _) (by assumption)⟩
end Go.Proofs.YtfpibedloodjlabDoor
/- THE BYTES OF A QUESTION: the model's own, at every question. -/
namespace Go.Proofs.YtfpibedloodjlabDoor
open Go.RowKit
set_option linter.unusedVariables false
set_option linter.unusedSimpArgs false

theorem one_of {vs : List Int} (h : vs.length = 1) : ∃ v, vs = [v] := by
  match vs, h with
  | [v], _ => exact ⟨v, rfl⟩
theorem askB_eq {q : Ak} {s : ByteArray} (hR : q.right = true) (h : s.data.toList = askL q) : s = askB q := by
  unfold askB
  rw [if_pos hR]
  exact ByteArray.ext (Array.ext' (by rw [h]))
set_option maxRecDepth 100000 in
set_option maxHeartbeats 800000 in
theorem specAskBytes_any (q : Ak) (p : Option Addr) (c : Nat) (w : World) (hl : q.vs.length ≤ 10000000) (hr : RowI w (.slice p q.vs.length c) q.vs) :
    Calls Tryd.prog 52 #[.agg #[.int .i64 q.c, .int .i64 q.a, .int .i64 q.m, .slice p q.vs.length c]] w fun e w' => e = .returned (.string (askB q)) ∧ Below w.heap.size w w' := by
  have HSR : Hid (∀ W, Below w.heap.size w W → Calls Tryd.prog 62 #[.agg #[.int .i64 q.c, .int .i64 q.a, .int .i64 q.m, .slice p q.vs.length c]] W fun e w' => e = .returned (.bool q.right) ∧ Below W.heap.size W w') := fun W hW => specAskRight_any q p c W hl (hr.below hW)
  cases hR : q.right with
  | false =>
    rw [askB_size q hR]
    rw [hR] at HSR
    clear hr
    go_enter Tryd.func52, Tryd.ntmps52
    go_wp2_with (go_at_call 62; refine (HSR.out _ (all_alloc _ _)).mono ?_; rintro e w1 ⟨rfl, hb1⟩)
    go_ret
    exact ⟨rfl, keepB (all_alloc _ _) (Nat.le_refl _) hb1⟩
  | true =>
    rw [hR] at HSR
    have hc := Ak.codes hR
    have h2 := hR
    unfold Ak.right at h2
    rw [Bool.and_eq_true] at h2
    have ha := (wordB_iff _).1 h2.1
    have hf := h2.2
    have key : ∀ s : ByteArray, s.data.toList = askL q → s = askB q := fun s h => askB_eq hR h
    clear hR h2
    obtain ⟨k, a, m, vs⟩ := q
    dsimp only at *
    rcases hc with rfl | rfl | rfl | rfl | rfl | rfl
    · simp [Ak.fit] at hf
      have := bytesS_1 a m vs p c w ha (by omega) hr HSR
      refine this.mono ?_
      rintro e w' ⟨rfl, hb1⟩
      exact ⟨congrArg (fun x => Ending.returned (Value.string x)) (key _ (by simp [oneB, twoB, askL, Ak.tail])), hb1⟩
    · simp [Ak.fit] at hf
      have := bytesS_3 a m vs p c w ha (by omega) hr HSR
      refine this.mono ?_
      rintro e w' ⟨rfl, hb1⟩
      exact ⟨congrArg (fun x => Ending.returned (Value.string x)) (key _ (by simp [oneB, twoB, askL, Ak.tail])), hb1⟩
    · have hf2 : (decide (m = 1) && (decide (vs.length = 1) && vs.all bitB)) = true := hf
      rw [Bool.and_eq_true, Bool.and_eq_true, decide_eq_true_eq, decide_eq_true_eq] at hf2
      obtain ⟨v, hv⟩ := one_of hf2.2.1
      have hb : v = 0 ∨ v = 1 := (bitB_iff _).1 (List.all_eq_true.1 hf2.2.2 v (by rw [hv]; simp))
      have := bytesS_5 a m vs p c w ha v hv hb hr HSR
      refine this.mono ?_
      rintro e w' ⟨rfl, hb1⟩
      exact ⟨congrArg (fun x => Ending.returned (Value.string x)) (key _ (by subst hv; simp [oneB, twoB, askL, Ak.tail])), hb1⟩
    · have hf2 : (decide (m = 1) && (decide (vs.length = 1) && vs.all wordB)) = true := hf
      rw [Bool.and_eq_true, Bool.and_eq_true, decide_eq_true_eq, decide_eq_true_eq] at hf2
      obtain ⟨v, hv⟩ := one_of hf2.2.1
      have hb : 0 ≤ v ∧ v ≤ 65535 := (wordB_iff _).1 (List.all_eq_true.1 hf2.2.2 v (by rw [hv]; simp))
      have := bytesS_6 a m vs p c w ha v hv hb hr HSR
      refine this.mono ?_
      rintro e w' ⟨rfl, hb1⟩
      exact ⟨congrArg (fun x => Ending.returned (Value.string x)) (key _ (by subst hv; simp [oneB, twoB, askL, Ak.tail])), hb1⟩
    · have hf2 : ((decide (1 ≤ m) && decide (m ≤ 16)) && (decide ((vs.length : Int) = m) && vs.all bitB)) = true := hf
      rw [Bool.and_eq_true, Bool.and_eq_true, Bool.and_eq_true, decide_eq_true_eq, decide_eq_true_eq, decide_eq_true_eq] at hf2
      have := bytesS_15 a m vs p c w ha (by omega) (by omega) hr HSR
      refine this.mono ?_
      rintro e w' ⟨rfl, hb1⟩
      exact ⟨congrArg (fun x => Ending.returned (Value.string x)) (key _ (by simp [oneB, twoB, packB, askL, Ak.tail])), hb1⟩
    · have hf2 : ((decide (1 ≤ m) && decide (m ≤ 4)) && (decide ((vs.length : Int) = m) && vs.all wordB)) = true := hf
      rw [Bool.and_eq_true, Bool.and_eq_true, Bool.and_eq_true, decide_eq_true_eq, decide_eq_true_eq, decide_eq_true_eq] at hf2
      have := bytesS_16 a m vs p c w ha (by omega) (by omega) hf2.2.2 hr HSR
      refine this.mono ?_
      rintro e w' ⟨rfl, hb1⟩
      exact ⟨congrArg (fun x => Ending.returned (Value.string x)) (key _ (by simp [oneB, twoB, wordsB, askL, Ak.tail])), hb1⟩
end Go.Proofs.YtfpibedloodjlabDoor
/- WHAT A TEXT IS READ AS: AskRead of the model. -/
namespace Go.Proofs.YtfpibedloodjlabDoor
open Go.RowKit
set_option linter.unusedVariables false
set_option linter.unusedSimpArgs false

theorem outOf_mid {q : Ak} {s : ByteArray} (h5 : 5 ≤ s.size) (h : askB q = s) : outOf q s = (q, 0) := by
  unfold outOf
  rw [if_pos]
  refine ⟨?_, h⟩
  cases hR : q.right with
  | true => rfl
  | false =>
    rw [askB_size q hR] at h
    rw [← h] at h5
    exact absurd h5 (by decide)
theorem outOf_no {q : Ak} {s : ByteArray} (h : ¬ askB q = s) : outOf q s = (zeroA, 3) := by
  unfold outOf
  rw [if_neg (fun k => h k.2)]
theorem readS_len (s : ByteArray) (hs : s.size ≤ 8000) : (readS s).vs.length ≤ 10000 := by
  unfold readS
  dsimp only
  repeat' split
  all_goals simp [bitsAt_length, wordsAt_length] <;> omega
set_option maxRecDepth 100000 in
set_option maxHeartbeats 1600000 in
theorem specAskRead_of (s : ByteArray) (q : Ak) (w : World) (h5 : 5 ≤ s.size) (hs : s.size ≤ 8000) (hl : q.vs.length ≤ 10000)
    (HRd : Hid (∀ W, Calls Tryd.prog 51 #[.string s] W fun e w' => ∃ v, e = .returned (.agg #[.int .i64 q.c, .int .i64 q.a, .int .i64 q.m, v]) ∧ OwnI w' W.heap.size v q.vs ∧ Below W.heap.size W w')) :
    Calls Tryd.prog 36 #[.string s] w fun e w' => ∃ v, e = .returned (.agg #[.int .i64 (outOf q s).1.c, .int .i64 (outOf q s).1.a, .int .i64 (outOf q s).1.m, v, .int .i64 (outOf q s).2]) ∧ OwnI w' w.heap.size v (outOf q s).1.vs ∧ Below w.heap.size w w' := by
  have HB : Hid (∀ (W : World) (p : Option Addr) (c : Nat), RowI W (.slice p q.vs.length c) q.vs → Calls Tryd.prog 52 #[.agg #[.int .i64 q.c, .int .i64 q.a, .int .i64 q.m, .slice p q.vs.length c]] W fun e w' => e = .returned (.string (askB q)) ∧ Below W.heap.size W w') := fun W p c h => specAskBytes_any q p c W (by omega) h
  have hA0 : Below w.heap.size w (w.alloc (.cells #[.int .i64 0, .int .i64 0, .int .i64 0, .slice none 0 0, .int .i64 0] 63)) := all_alloc w _
  have hZ0 : Hid _ := heap_alloc_new w (.cells #[.int .i64 0, .int .i64 0, .int .i64 0, .slice none 0 0, .int .i64 0] 63)
  have hz1 : (w.alloc (.cells #[.int .i64 0, .int .i64 0, .int .i64 0, .slice none 0 0, .int .i64 0] 63)).heap.size = w.heap.size + 1 := by simp
  by_cases hq : askB q = s
  · have eb := beq_text hq
    rw [outOf_mid h5 hq]
    dsimp only
    clear hq
    generalize askB q = t at HB eb
    go_enter Tryd.func36, Tryd.ntmps36
    go_wp2_with (first
      | (go_at_call 51; refine (HRd.out _).mono ?_; rintro e w1 ⟨v1, rfl, own1, hb1⟩; obtain ⟨p1, c1, rfl⟩ := own1.shape; have o1 := own1.below (all_alloc w1 (.cells #[.int .i64 q.c, .int .i64 q.a, .int .i64 q.m, .slice p1 q.vs.length c1] 43)); have hX1 : Hid _ := heap_alloc_new w1 (.cells #[.int .i64 q.c, .int .i64 q.a, .int .i64 q.m, .slice p1 q.vs.length c1] 43); have hZ1 : Hid _ := blk (blk hZ0.out hb1) (all_alloc w1 (.cells #[.int .i64 q.c, .int .i64 q.a, .int .i64 q.m, .slice p1 q.vs.length c1] 43)); have hB1 := keepB (keepB hA0 (Nat.le_refl _) hb1) (Nat.le_refl _) (all_alloc w1 (.cells #[.int .i64 q.c, .int .i64 q.a, .int .i64 q.m, .slice p1 q.vs.length c1] 43)); have hz0 : w.heap.size < (w.alloc (.cells #[.int .i64 0, .int .i64 0, .int .i64 0, .slice none 0 0, .int .i64 0] 63)).heap.size := (by omega))
      | (go_at_call 52; refine (HB.out _ _ _ o1.row).mono ?_; rintro e w3 ⟨rfl, hb3⟩; have o3 := o1.below hb3; have hX3 : Hid _ := blk hX1.out hb3; have xx0 := cellW hX3.out 0 _ rfl w3 (Below.refl _ _); have xx1 := cellW hX3.out 1 _ rfl w3 (Below.refl _ _); have xx2 := cellW hX3.out 2 _ rfl w3 (Below.refl _ _); have xx3 := cellW hX3.out 3 _ rfl w3 (Below.refl _ _); have hZ3 : Hid _ := blk hZ1.out hb3; have z0 := cellW hZ3.out 0 _ rfl w3 (Below.refl _ _); have z1 := cellW hZ3.out 1 _ rfl w3 (Below.refl _ _); have z2 := cellW hZ3.out 2 _ rfl w3 (Below.refl _ _); have z3 := cellW hZ3.out 3 _ rfl w3 (Below.refl _ _); have z4 := cellW hZ3.out 4 _ rfl w3 (Below.refl _ _); have zf0 := frozenW hZ3.out 0 w3 (Below.refl _ _); have zf1 := frozenW hZ3.out 1 w3 (Below.refl _ _); have zf2 := frozenW hZ3.out 2 w3 (Below.refl _ _); have zf3 := frozenW hZ3.out 3 w3 (Below.refl _ _); have zf4 := frozenW hZ3.out 4 w3 (Below.refl _ _)))
    have hB3 := keepB hB1 (Nat.le_refl _) hb3
    exact bodyPost_ret (v := .agg #[.int .i64 q.c, .int .i64 q.a, .int .i64 q.m, .slice p1 q.vs.length c1, .int .i64 0]) (by simp [results, Tryd.results36, go_sem, z0, z1, z2, z3, z4]) rfl ⟨_, rfl, OwnI.leQ (OwnI.farQ (OwnI.farQ (OwnI.farQ (OwnI.farQ (OwnI.farQ o3 (by simp only; omega) _) (by simp only; omega) _) (by simp only; omega) _) (by simp only; omega) _) (by simp only; omega) _) (by omega), (Below.setCell (Below.setCell (Below.setCell (Below.setCell (Below.setCell hB3 (by simp only; omega) _) (by simp only; omega) _) (by simp only; omega) _) (by simp only; omega) _) (by simp only; omega) _)⟩
  · have eb := beq_textn hq
    rw [outOf_no hq]
    unfold zeroA
    dsimp only
    clear hq
    generalize askB q = t at HB eb
    go_enter Tryd.func36, Tryd.ntmps36
    go_wp2_with (first
      | (go_at_call 51; refine (HRd.out _).mono ?_; rintro e w1 ⟨v1, rfl, own1, hb1⟩; obtain ⟨p1, c1, rfl⟩ := own1.shape; have o1 := own1.below (all_alloc w1 (.cells #[.int .i64 q.c, .int .i64 q.a, .int .i64 q.m, .slice p1 q.vs.length c1] 43)); have hX1 : Hid _ := heap_alloc_new w1 (.cells #[.int .i64 q.c, .int .i64 q.a, .int .i64 q.m, .slice p1 q.vs.length c1] 43); have hZ1 : Hid _ := blk (blk hZ0.out hb1) (all_alloc w1 (.cells #[.int .i64 q.c, .int .i64 q.a, .int .i64 q.m, .slice p1 q.vs.length c1] 43)); have hB1 := keepB (keepB hA0 (Nat.le_refl _) hb1) (Nat.le_refl _) (all_alloc w1 (.cells #[.int .i64 q.c, .int .i64 q.a, .int .i64 q.m, .slice p1 q.vs.length c1] 43)); have hz0 : w.heap.size < (w.alloc (.cells #[.int .i64 0, .int .i64 0, .int .i64 0, .slice none 0 0, .int .i64 0] 63)).heap.size := (by omega))
      | (go_at_call 52; refine (HB.out _ _ _ o1.row).mono ?_; rintro e w3 ⟨rfl, hb3⟩; have hZ3 : Hid _ := blk hZ1.out hb3; have z0 := cellW hZ3.out 0 _ rfl w3 (Below.refl _ _); have z1 := cellW hZ3.out 1 _ rfl w3 (Below.refl _ _); have z2 := cellW hZ3.out 2 _ rfl w3 (Below.refl _ _); have z3 := cellW hZ3.out 3 _ rfl w3 (Below.refl _ _); have z4 := cellW hZ3.out 4 _ rfl w3 (Below.refl _ _); have zf0 := frozenW hZ3.out 0 w3 (Below.refl _ _); have zf1 := frozenW hZ3.out 1 w3 (Below.refl _ _); have zf2 := frozenW hZ3.out 2 w3 (Below.refl _ _); have zf3 := frozenW hZ3.out 3 w3 (Below.refl _ _); have zf4 := frozenW hZ3.out 4 w3 (Below.refl _ _)))
    have hB3 := keepB hB1 (Nat.le_refl _) hb3
    exact bodyPost_ret (v := .agg #[.int .i64 0, .int .i64 0, .int .i64 0, .slice none 0 0, .int .i64 3]) (by simp [results, Tryd.results36, go_sem, z0, z1, z2, z3, z4]) rfl ⟨_, rfl, OwnI.nil _ _, (Below.setCell (Below.setCell (Below.setCell (Below.setCell (Below.setCell hB3 (by simp only; omega) _) (by simp only; omega) _) (by simp only; omega) _) (by simp only; omega) _) (by simp only; omega) _)⟩
set_option maxRecDepth 100000 in
set_option maxHeartbeats 800000 in
theorem specAskRead_any (s : ByteArray) (w : World) (hz : s.size ≤ 9223372036854775807) :
    Calls Tryd.prog 36 #[.string s] w fun e w' => ∃ v, e = .returned (.agg #[.int .i64 (outA s).1.c, .int .i64 (outA s).1.a, .int .i64 (outA s).1.m, v, .int .i64 (outA s).2]) ∧ OwnI w' w.heap.size v (outA s).1.vs ∧ Below w.heap.size w w' := by
  have hZ0 : Hid _ := heap_alloc_new w (.cells #[.int .i64 0, .int .i64 0, .int .i64 0, .slice none 0 0, .int .i64 0] 63)
  by_cases h8 : 8000 < s.size
  · rw [outA_long h8]
    unfold zeroA
    dsimp only
    go_enter Tryd.func36, Tryd.ntmps36
    go_wp2
    exact bodyPost_ret (v := .agg #[.int .i64 0, .int .i64 0, .int .i64 0, .slice none 0 0, .int .i64 2]) (by simp [results, Tryd.results36, go_sem]) rfl ⟨_, rfl, OwnI.nil _ _, by first | exact all_alloc _ _ | (repeat (refine Below.setCell ?_ (by simp) _)); exact all_alloc _ _⟩
  · by_cases h5 : s.size < 5
    · rw [outA_short h5]
      unfold zeroA
      dsimp only
      go_enter Tryd.func36, Tryd.ntmps36
      go_wp2
      exact bodyPost_ret (v := .agg #[.int .i64 0, .int .i64 0, .int .i64 0, .slice none 0 0, .int .i64 3]) (by simp [results, Tryd.results36, go_sem]) rfl ⟨_, rfl, OwnI.nil _ _, by first | exact all_alloc _ _ | (repeat (refine Below.setCell ?_ (by simp) _)); exact all_alloc _ _⟩
    · rw [outA_mid (by omega) (by omega)]
      exact specAskRead_of s (readS s) w (by omega) (by omega) (readS_len s (by omega)) (fun W => l04Read_any s W (by omega) (by omega))
end Go.Proofs.YtfpibedloodjlabDoor
/- HOW MANY VALUES are read at most. -/
namespace Go.Proofs.YtfpibedloodjlabDoor
open Go.RowKit
theorem outA_len (s : ByteArray) : (outA s).1.vs.length ≤ 10000 := by
  unfold outA
  by_cases h8 : 8000 < s.size
  · rw [if_pos h8]; decide
  · rw [if_neg h8]
    by_cases h5 : s.size < 5
    · rw [if_pos h5]; decide
    · rw [if_neg h5]
      unfold outOf
      by_cases h : (readS s).right = true ∧ askB (readS s) = s
      · rw [if_pos h]; exact readS_len s (by omega)
      · rw [if_neg h]; decide
end Go.Proofs.YtfpibedloodjlabDoor
