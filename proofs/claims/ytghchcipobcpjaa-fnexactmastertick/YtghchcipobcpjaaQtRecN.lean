/- ROWS OF RECORDS marked, and still marked: the law's own walks. Written by mkrecm.py. -/
import Derived.Test.YtghchcipobcpjaaQtJoin2
import Derived.Test.YtghchcipobcpjaaQtOwnM
namespace Go.Proofs.Ytghchcipobcpjaa
open Go.RowKit
set_option linter.unusedVariables false
set_option linter.unusedSimpArgs false

def dnAt (M : Int) : Dn := ⟨M, markB (M + 1).toNat⟩
def wtAt (M : Int) : Wt := ⟨M, markB (M + 1).toNat, M + 2, M + 3⟩
set_option maxRecDepth 100000 in
set_option maxHeartbeats 3200000 in
theorem markDoneS_at (k : Int) (hk0 : 1 ≤ k ∧ k ≤ 5000000) (lo hi : Nat) (v : Value) (l : List Dn) (w : World) (hl : l.length ≤ 1048576) (h : OwnD w lo hi v l) :
    Calls Try.prog 35 #[v, .int .i64 k] w fun e w' => e = .returned (.int .i64 (k + 2 * (l.length : Int))) ∧ OwnD w' lo hi v (marksC dnAt 2 k l.length) ∧ OnlyR w w' lo hi := by
  obtain ⟨hhi, ⟨rfl, rfl⟩ | ⟨g, o, c, cur, rfl, hg1, hg2, hg3, hg4, hg5, _⟩⟩ := h
  · go_enter Try.func35, Try.ntmps35
    go_wp2
    go_loopw [1, 5] (fun x i wr => x = .int .i64 k ∧ i = .int .i64 0 ∧ w = wr) (fun _ _ _ => 0)
    case atStart => exact ⟨rfl, rfl, rfl⟩
    case round =>
      obtain ⟨rfl, rfl, rfl⟩ := hrel
      go_wp2
      go_ret
      exact ⟨by simp, ⟨hhi, .inl ⟨rfl, rfl⟩⟩, OnlyR.refl _ _ _⟩
  have HS : Hid (RowAny w g (o + c * 2) 69) := (⟨cur, hg3, hg4⟩ : RowAny w g (o + c * 2) 69)
  clear hg3 hg4
  go_enter Try.func35, Try.ntmps35
  go_wp2
  go_loopw [1, 5] (fun x i wr => ∃ (j : Nat) (M : Int), j ≤ l.length ∧ i = .int .i64 j ∧ x = .int .i64 M ∧ Hid (M = k + 2 * (j : Int)) ∧ Hid (RowAny wr g (o + c * 2) 69) ∧ Hid (MarkedC 2 dnC dnAt 2 wr g o k j) ∧ Hid (OnlyR w wr lo hi)) (fun _ i _ => l.length - (intOf i).toNat)
  case atStart => exact ⟨0, k, Nat.zero_le _, rfl, rfl, (by simp : _ = _), HS.out, (fun i hi => absurd hi (by omega) : MarkedC 2 dnC dnAt 2 w g o k 0), OnlyR.refl _ _ _⟩
  case round =>
    obtain ⟨j, M, hj, rfl, rfl, HM, HW, HV, HO⟩ := hrel
    by_cases hlt : j < l.length
    · have hm := rcMul (m := 2) (show j < c by omega)
      have hM : 1 ≤ M ∧ M ≤ 9500000 := by have := HM.out; omega
      obtain ⟨x0, y0, z0⟩ := RowAny.cell HW.out (o := o + j * 2) (by omega)
      go_upto_region 6 with fail
      replace HW : Hid (RowAny (wr.setCell ⟨g, o + j * 2, none⟩ (.int .i64 M)) g (o + c * 2) 69) := RowAny.set HW.out _ _
      replace HO : Hid (OnlyR w (wr.setCell ⟨g, o + j * 2, none⟩ (.int .i64 M)) lo hi) := HO.out.trans (OnlyR.set (a := ⟨g, o + j * 2, none⟩) hg1 hg2 _)
      replace HV : Hid (MarkedC 2 dnC dnAt 2 (wr.setCell ⟨g, o + j * 2, none⟩ (.int .i64 M)) g o k j) := MarkedC.set HV.out dnC_len (by omega) _
      have p0 : Hid ((wr.setCell ⟨g, o + j * 2, none⟩ (.int .i64 M)).cell? ⟨g, o + j * 2, none⟩ = some (.int .i64 M)) := World.cell?_setCell_same _ _ _ y0
      clear y0 z0
      generalize (wr.setCell ⟨g, o + j * 2, none⟩ (.int .i64 M)) = W1 at HW HO HV p0 ⊢
      obtain ⟨M1, e1⟩ : ∃ x, M + 1 = x := ⟨_, rfl⟩
      rw [e1]
      have hM1 : Hid (M1 = M + 1) := (by omega : M1 = M + 1)
      have b1 : 1 ≤ M1 ∧ M1 ≤ 9500010 := by have := hM1.out; omega
      clear e1
      obtain ⟨mk, emk⟩ : ∃ m : Nat, M1 = (m : Int) := ⟨(M1).toNat, by omega⟩
      have HC : Hid (∀ Z, Z = W1 → Calls Try.prog 60 #[.int .i64 M1] Z fun e w' => e = .returned (.string (markB mk)) ∧ Below Z.heap.size Z w') := fun Z _ => by
        rw [emk]
        exact markText_any mk Z (by omega) (by omega)
      have HR : Hid (∀ Z, Below W1.heap.size W1 Z → RowAny Z g (o + c * 2) 69) := fun Z hZ => RowAny.below HW.out hZ
      have HTT : Hid (markB mk = markB (M + 1).toNat) := (by rw [show (M + 1).toNat = mk by have := hM1.out; omega] : _ = _)
      have hgW : g < W1.heap.size := RowAny.lt HW.out
      clear emk
      generalize markB mk = T at HC HTT
      go_upto_region 7 with (go_at_call 60; refine (HC.out _ rfl).mono ?_; rintro e w3 ⟨rfl, hb3⟩; obtain ⟨x1, y1, z1⟩ := RowAny.cell (HR.out w3 hb3) (o := o + j * 2 + 1) (by omega))
      replace HW : Hid (RowAny w3 g (o + c * 2) 69) := HR.out w3 hb3
      replace HV : Hid (MarkedC 2 dnC dnAt 2 w3 g o k j) := MarkedC.below HV.out hgW hb3
      replace HO : Hid (OnlyR w w3 lo hi) := HO.out.trans (OnlyR.below hb3)
      replace p0 : Hid (w3.cell? ⟨g, o + j * 2, none⟩ = some (.int .i64 M)) := (hb3.cell (p := ⟨g, o + j * 2, none⟩) hgW).trans p0.out
      clear HC HR hgW hb3
      replace HW : Hid (RowAny (w3.setCell ⟨g, o + j * 2 + 1, none⟩ (.string T)) g (o + c * 2) 69) := RowAny.set HW.out _ _
      replace HO : Hid (OnlyR w (w3.setCell ⟨g, o + j * 2 + 1, none⟩ (.string T)) lo hi) := HO.out.trans (OnlyR.set (a := ⟨g, o + j * 2 + 1, none⟩) hg1 hg2 _)
      replace HV : Hid (MarkedC 2 dnC dnAt 2 (w3.setCell ⟨g, o + j * 2 + 1, none⟩ (.string T)) g o k j) := MarkedC.set HV.out dnC_len (by omega) _
      replace p0 : Hid ((w3.setCell ⟨g, o + j * 2 + 1, none⟩ (.string T)).cell? ⟨g, o + j * 2, none⟩ = some (.int .i64 M)) := rcSet_out p0.out (by omega)
      have p1 : Hid ((w3.setCell ⟨g, o + j * 2 + 1, none⟩ (.string T)).cell? ⟨g, o + j * 2 + 1, none⟩ = some (.string T)) := World.cell?_setCell_same _ _ _ y1
      clear y1 z1
      generalize (w3.setCell ⟨g, o + j * 2 + 1, none⟩ (.string T)) = W2 at HW HO HV p0 p1 ⊢
      have HX : Hid (W2.rangeAt g (o + j * 2) (dnC (dnAt (k + 2 * (j : Int))))) := (by
        rw [← HM.out]
        intro f x hx
        match f, hx with
        | 0, hx => cases hx; exact p0.out
        | 1, hx => cases hx; exact (by show W2.cell? _ = some (.string (markB (M + 1).toNat)); rw [← HTT.out]; exact p1.out)
        | f + 2, hx => simp [dnC] at hx : W2.rangeAt g (o + j * 2) (dnC (dnAt (k + 2 * (j : Int)))))
      have HV2 : Hid (MarkedC 2 dnC dnAt 2 W2 g o k (j + 1)) := MarkedC.more HV.out HX.out
      have E3 : Hid (M1 + 1 = k + 2 * ((j + 1 : Nat) : Int)) := (by have := HM.out; have := hM1.out; omega : _ = _)
      have hcb : M1 ≤ 9500010 := by omega
      clear HV HX HTT p0 p1
      go_wp2
      go_roundw
      case rel => exact ⟨j + 1, M1 + 1, by omega, by go_num, by go_num, E3.out, HW.out, HV2.out, HO.out⟩
      case measure => simp [intOf] <;> omega
    · obtain rfl : j = l.length := by omega
      have E2 : Hid (k + 2 * (l.length : Int) = M) := (by have := HM.out; omega : _ = _)
      go_wp2
      go_ret
      refine ⟨by rw [E2.out]; rfl, ?_, HO.out⟩
      obtain ⟨cur, h1, h2⟩ := HW.out
      have hz := HO.out.size
      refine ⟨by omega, .inr ⟨g, o, c, cur, by rw [marksC_len], hg1, hg2, h1, h2, by rw [marksC_len]; exact hg5, fun i hi => ?_⟩⟩
      rw [marksC_at]
      exact HV.out i (by rw [marksC_len] at hi; exact hi)
set_option maxRecDepth 100000 in
set_option maxHeartbeats 3200000 in
theorem heldDoneS_at (k : Int) (hk0 : 1 ≤ k ∧ k ≤ 5000000) (v : Value) (n : Nat) (w : World) (hl : n ≤ 1048576) (h : RowD w v (marksC dnAt 2 k n)) :
    Calls Try.prog 62 #[v, .int .i64 k] w fun e w' => e = .returned (.int .i64 (k + 2 * (n : Int))) ∧ Below w.heap.size w w' := by
  have HR : Hid (∀ W, Below w.heap.size w W → RowD W v (marksC dnAt 2 k n)) := fun W hW => RowC.below h hW
  obtain ⟨p, c, rfl, _⟩ := h
  rw [marksC_len]
  go_enter Try.func62, Try.ntmps62
  go_wp2
  go_loopw [1, 5] (fun x i wr => ∃ (j : Nat) (M : Int), j ≤ n ∧ i = .int .i64 j ∧ x = .int .i64 M ∧ Hid (M = k + 2 * (j : Int)) ∧ Below w.heap.size w wr) (fun _ i _ => n - (intOf i).toNat)
  case atStart => exact ⟨0, k, Nat.zero_le _, rfl, rfl, (by simp : _ = _), Below.refl _ _⟩
  case round =>
    obtain ⟨j, M, hj, rfl, rfl, HM, hbel⟩ := hrel
    by_cases hlt : j < n
    · obtain ⟨g, o, c', e1, q1⟩ := RowC.at (HR.out wr hbel) j (by rw [marksC_len]; exact hlt)
      rw [marksC_len] at e1
      cases e1
      rw [marksC_at, ← HM.out] at q1
      have hM : 1 ≤ M ∧ M ≤ 9500000 := by have := HM.out; omega
      obtain ⟨M1, hM1⟩ : ∃ x, M + 1 = x := ⟨_, rfl⟩
      obtain ⟨M2, hM2⟩ : ∃ x, M + 2 = x := ⟨_, rfl⟩
      have c0 : ∀ W, Below wr.heap.size wr W → W.cell? ⟨g, o + j * 2, none⟩ = some (.int .i64 M) := fun W hW => by exact (q1 W hW) 0 _ rfl
      obtain ⟨mk, emk⟩ : ∃ m : Nat, M1 = (m : Int) := ⟨(M1).toNat, by omega⟩
      have c1 : ∀ W, Below wr.heap.size wr W → W.cell? ⟨g, o + j * 2 + 1, none⟩ = some (.string (markB mk)) := fun W hW => by
        rw [show mk = (M + 1).toNat by omega]
        exact (q1 W hW) 1 _ rfl
      have HC : Hid (∀ Z, Calls Try.prog 60 #[.int .i64 M1] Z fun e w' => e = .returned (.string (markB mk)) ∧ Below Z.heap.size Z w') := fun Z => by
        rw [emk]
        exact markText_any mk Z (by omega) (by omega)
      clear emk
      generalize markB mk = T at HC c1
      have s0 : M + 1 = M1 := by omega
      have es0 : (M != M) = false := by simp
      have s1 : M1 + 1 = M2 := by omega
      have es1 : (M1 != M1) = false := by simp
      have E3 : Hid (M2 = k + 2 * ((j + 1 : Nat) : Int)) := (by have := HM.out; omega : _ = _)
      have b1 : 1 ≤ M1 ∧ M1 ≤ 9500010 := by omega
      have b2 : 1 ≤ M2 ∧ M2 ≤ 9500010 := by omega
      clear q1 hM1 hM2
      have eT : (T.toList == T.toList) = true := by simp
      have d0 := c0 wr (Below.refl _ _)
      go_upto_region 7 with fail
      try rw [s0]
      have hR0 : Below wr.heap.size wr wr.drew := Below.drew (Below.refl _ _)
      refine wp_region_held_drew (S := (fun w' => Below wr.heap.size wr w')) (by kernel_rfl) ?_ (fun hHeld => ?_)
      · (try dsimp only); exact hR0
      first
        | (refine skipH (i := 0) rfl (by kernel_rfl) (by kernel_rfl) (by kernel_rfl) (fun _ _ _ h => h) (by rfl) (by assumption) ?_; try simp only [Act.put, List.setIfInBounds_toArray, List.set_cons_zero, List.set_cons_succ, List.getElem_toArray, List.getElem_cons_succ, List.getElem_cons_zero])
        | (refine yieldH (i := 0) (v := ?_) rfl (by kernel_rfl) (by kernel_rfl) (by kernel_rfl) (fun _ _ _ h => h) (by rfl) ?_ (by assumption) ?_; rotate_left; (intro w hSw; (try dsimp only at hSw); go_simp; (try with_reducible rfl)); try simp only [Act.put, List.setIfInBounds_toArray, List.set_cons_zero, List.set_cons_succ, List.getElem_toArray, List.getElem_cons_succ, List.getElem_cons_zero])
        | fail
      first
        | (refine skipH (i := 1) rfl (by kernel_rfl) (by kernel_rfl) (by kernel_rfl) (fun _ _ _ h => h) (by rfl) (by assumption) ?_; try simp only [Act.put, List.setIfInBounds_toArray, List.set_cons_zero, List.set_cons_succ, List.getElem_toArray, List.getElem_cons_succ, List.getElem_cons_zero])
        | (refine yieldH (i := 1) (v := ?_) rfl (by kernel_rfl) (by kernel_rfl) (by kernel_rfl) (fun _ _ _ h => h) (by rfl) ?_ (by assumption) ?_; rotate_left; (intro w hSw; (try dsimp only at hSw); go_simp; (try with_reducible rfl)); try simp only [Act.put, List.setIfInBounds_toArray, List.set_cons_zero, List.set_cons_succ, List.getElem_toArray, List.getElem_cons_succ, List.getElem_cons_zero])
        | fail
      first
        | (refine skipH (i := 2) rfl (by kernel_rfl) (by kernel_rfl) (by kernel_rfl) (fun _ _ _ h => h) (by rfl) (by assumption) ?_; try simp only [Act.put, List.setIfInBounds_toArray, List.set_cons_zero, List.set_cons_succ, List.getElem_toArray, List.getElem_cons_succ, List.getElem_cons_zero])
        | (refine yieldH (i := 2) (v := ?_) rfl (by kernel_rfl) (by kernel_rfl) (by kernel_rfl) (fun _ _ _ h => h) (by rfl) ?_ (by assumption) ?_; rotate_left; (intro w hSw; (try dsimp only at hSw); go_simp; (try with_reducible rfl)); try simp only [Act.put, List.setIfInBounds_toArray, List.set_cons_zero, List.set_cons_succ, List.getElem_toArray, List.getElem_cons_succ, List.getElem_cons_zero])
        | fail
      first
        | (refine skipH (i := 3) rfl (by kernel_rfl) (by kernel_rfl) (by kernel_rfl) (fun _ _ _ h => h) (by rfl) (by assumption) ?_; try simp only [Act.put, List.setIfInBounds_toArray, List.set_cons_zero, List.set_cons_succ, List.getElem_toArray, List.getElem_cons_succ, List.getElem_cons_zero])
        | (refine yieldH (i := 3) (v := ?_) rfl (by kernel_rfl) (by kernel_rfl) (by kernel_rfl) (fun _ _ _ h => h) (by rfl) ?_ (by assumption) ?_; rotate_left; (intro w hSw; (try dsimp only at hSw); go_simp; (try with_reducible rfl)); try simp only [Act.put, List.setIfInBounds_toArray, List.set_cons_zero, List.set_cons_succ, List.getElem_toArray, List.getElem_cons_succ, List.getElem_cons_zero])
        | fail
      first
        | (refine skipH (i := 4) rfl (by kernel_rfl) (by kernel_rfl) (by kernel_rfl) (fun _ _ _ h => h) (by rfl) (by assumption) ?_; try simp only [Act.put, List.setIfInBounds_toArray, List.set_cons_zero, List.set_cons_succ, List.getElem_toArray, List.getElem_cons_succ, List.getElem_cons_zero])
        | (refine yieldH (i := 4) (v := ?_) rfl (by kernel_rfl) (by kernel_rfl) (by kernel_rfl) (fun _ _ _ h => h) (by rfl) ?_ (by assumption) ?_; rotate_left; (intro w hSw; (try dsimp only at hSw); go_simp; (try with_reducible rfl)); try simp only [Act.put, List.setIfInBounds_toArray, List.set_cons_zero, List.set_cons_succ, List.getElem_toArray, List.getElem_cons_succ, List.getElem_cons_zero])
        | fail
      first
        | (refine skipH (i := 5) rfl (by kernel_rfl) (by kernel_rfl) (by kernel_rfl) (fun _ _ _ h => h) (by rfl) (by assumption) ?_; try simp only [Act.put, List.setIfInBounds_toArray, List.set_cons_zero, List.set_cons_succ, List.getElem_toArray, List.getElem_cons_succ, List.getElem_cons_zero])
        | (refine yieldH (i := 5) (v := ?_) rfl (by kernel_rfl) (by kernel_rfl) (by kernel_rfl) (fun _ _ _ h => h) (by rfl) ?_ (by assumption) ?_; rotate_left; (intro w hSw; (try dsimp only at hSw); go_simp; (try with_reducible rfl)); try simp only [Act.put, List.setIfInBounds_toArray, List.set_cons_zero, List.set_cons_succ, List.getElem_toArray, List.getElem_cons_succ, List.getElem_cons_zero])
        | fail
      refine wpAnyH_ready (rs := [6]) (by kernel_rfl) (by simp) ?_
      refine AllReadyH.cons rfl (fun K hK => ?_) AllReadyH.nil
      go_simp
      go_at_call 60; refine (HC.out _).mono ?_; rintro e7 w7 ⟨rfl, hb7⟩; have k7 : Below wr.heap.size wr w7 := keepB hR0 (Nat.le_refl _) hb7
      dsimp only
      refine hK.out _ _ ?_ (fun hHeld => ?_)
      · (try dsimp only); exact k7
      clear hK K
      try simp only [Act.put, List.setIfInBounds_toArray, List.set_cons_zero, List.set_cons_succ, List.getElem_toArray, List.getElem_cons_succ, List.getElem_cons_zero]
      first
        | (refine skipH (i := 7) rfl (by kernel_rfl) (by kernel_rfl) (by kernel_rfl) (fun _ _ _ h => h) (by rfl) (by assumption) ?_; try simp only [Act.put, List.setIfInBounds_toArray, List.set_cons_zero, List.set_cons_succ, List.getElem_toArray, List.getElem_cons_succ, List.getElem_cons_zero])
        | (refine yieldH (i := 7) (v := ?_) rfl (by kernel_rfl) (by kernel_rfl) (by kernel_rfl) (fun _ _ _ h => h) (by rfl) ?_ (by assumption) ?_; rotate_left; (intro w hSw; (try dsimp only at hSw); go_simp; (try with_reducible rfl)); try simp only [Act.put, List.setIfInBounds_toArray, List.set_cons_zero, List.set_cons_succ, List.getElem_toArray, List.getElem_cons_succ, List.getElem_cons_zero])
        | fail
      refine wpAnyH_done (by kernel_rfl) ?_ _
      go_wp2
      try rw [s1]
      go_roundw
      case rel => exact ⟨j + 1, M2, by omega, by go_num, by first | rfl | (rw [s1]) | go_num, E3.out, keepB hbel (Nat.le_refl _) k7⟩
      case measure => simp [intOf] <;> omega
    · obtain rfl : j = n := by omega
      have E2 : Hid (k + 2 * (j : Int) = M) := (by have := HM.out; omega : _ = _)
      go_wp2
      go_ret
      exact ⟨by rw [E2.out]; rfl, hbel⟩
set_option maxRecDepth 100000 in
set_option maxHeartbeats 3200000 in
theorem markWaitS_at (k : Int) (hk0 : 1 ≤ k ∧ k ≤ 5000000) (lo hi : Nat) (v : Value) (l : List Wt) (w : World) (hl : l.length ≤ 1048576) (h : OwnW w lo hi v l) :
    Calls Try.prog 34 #[v, .int .i64 k] w fun e w' => e = .returned (.int .i64 (k + 4 * (l.length : Int))) ∧ OwnW w' lo hi v (marksC wtAt 4 k l.length) ∧ OnlyR w w' lo hi := by
  obtain ⟨hhi, ⟨rfl, rfl⟩ | ⟨g, o, c, cur, rfl, hg1, hg2, hg3, hg4, hg5, _⟩⟩ := h
  · go_enter Try.func34, Try.ntmps34
    go_wp2
    go_loopw [1, 5] (fun x i wr => x = .int .i64 k ∧ i = .int .i64 0 ∧ w = wr) (fun _ _ _ => 0)
    case atStart => exact ⟨rfl, rfl, rfl⟩
    case round =>
      obtain ⟨rfl, rfl, rfl⟩ := hrel
      go_wp2
      go_ret
      exact ⟨by simp, ⟨hhi, .inl ⟨rfl, rfl⟩⟩, OnlyR.refl _ _ _⟩
  have HS : Hid (RowAny w g (o + c * 4) 50) := (⟨cur, hg3, hg4⟩ : RowAny w g (o + c * 4) 50)
  clear hg3 hg4
  go_enter Try.func34, Try.ntmps34
  go_wp2
  go_loopw [1, 5] (fun x i wr => ∃ (j : Nat) (M : Int), j ≤ l.length ∧ i = .int .i64 j ∧ x = .int .i64 M ∧ Hid (M = k + 4 * (j : Int)) ∧ Hid (RowAny wr g (o + c * 4) 50) ∧ Hid (MarkedC 4 wtC wtAt 4 wr g o k j) ∧ Hid (OnlyR w wr lo hi)) (fun _ i _ => l.length - (intOf i).toNat)
  case atStart => exact ⟨0, k, Nat.zero_le _, rfl, rfl, (by simp : _ = _), HS.out, (fun i hi => absurd hi (by omega) : MarkedC 4 wtC wtAt 4 w g o k 0), OnlyR.refl _ _ _⟩
  case round =>
    obtain ⟨j, M, hj, rfl, rfl, HM, HW, HV, HO⟩ := hrel
    by_cases hlt : j < l.length
    · have hm := rcMul (m := 4) (show j < c by omega)
      have hM : 1 ≤ M ∧ M ≤ 9500000 := by have := HM.out; omega
      obtain ⟨x0, y0, z0⟩ := RowAny.cell HW.out (o := o + j * 4) (by omega)
      go_upto_region 6 with fail
      replace HW : Hid (RowAny (wr.setCell ⟨g, o + j * 4, none⟩ (.int .i64 M)) g (o + c * 4) 50) := RowAny.set HW.out _ _
      replace HO : Hid (OnlyR w (wr.setCell ⟨g, o + j * 4, none⟩ (.int .i64 M)) lo hi) := HO.out.trans (OnlyR.set (a := ⟨g, o + j * 4, none⟩) hg1 hg2 _)
      replace HV : Hid (MarkedC 4 wtC wtAt 4 (wr.setCell ⟨g, o + j * 4, none⟩ (.int .i64 M)) g o k j) := MarkedC.set HV.out wtC_len (by omega) _
      have p0 : Hid ((wr.setCell ⟨g, o + j * 4, none⟩ (.int .i64 M)).cell? ⟨g, o + j * 4, none⟩ = some (.int .i64 M)) := World.cell?_setCell_same _ _ _ y0
      clear y0 z0
      generalize (wr.setCell ⟨g, o + j * 4, none⟩ (.int .i64 M)) = W1 at HW HO HV p0 ⊢
      obtain ⟨M1, e1⟩ : ∃ x, M + 1 = x := ⟨_, rfl⟩
      rw [e1]
      have hM1 : Hid (M1 = M + 1) := (by omega : M1 = M + 1)
      have b1 : 1 ≤ M1 ∧ M1 ≤ 9500010 := by have := hM1.out; omega
      clear e1
      obtain ⟨mk, emk⟩ : ∃ m : Nat, M1 = (m : Int) := ⟨(M1).toNat, by omega⟩
      have HC : Hid (∀ Z, Z = W1 → Calls Try.prog 60 #[.int .i64 M1] Z fun e w' => e = .returned (.string (markB mk)) ∧ Below Z.heap.size Z w') := fun Z _ => by
        rw [emk]
        exact markText_any mk Z (by omega) (by omega)
      have HR : Hid (∀ Z, Below W1.heap.size W1 Z → RowAny Z g (o + c * 4) 50) := fun Z hZ => RowAny.below HW.out hZ
      have HTT : Hid (markB mk = markB (M + 1).toNat) := (by rw [show (M + 1).toNat = mk by have := hM1.out; omega] : _ = _)
      have hgW : g < W1.heap.size := RowAny.lt HW.out
      clear emk
      generalize markB mk = T at HC HTT
      go_upto_region 8 with (go_at_call 60; refine (HC.out _ rfl).mono ?_; rintro e w3 ⟨rfl, hb3⟩; obtain ⟨x1, y1, z1⟩ := RowAny.cell (HR.out w3 hb3) (o := o + j * 4 + 1) (by omega))
      replace HW : Hid (RowAny w3 g (o + c * 4) 50) := HR.out w3 hb3
      replace HV : Hid (MarkedC 4 wtC wtAt 4 w3 g o k j) := MarkedC.below HV.out hgW hb3
      replace HO : Hid (OnlyR w w3 lo hi) := HO.out.trans (OnlyR.below hb3)
      replace p0 : Hid (w3.cell? ⟨g, o + j * 4, none⟩ = some (.int .i64 M)) := (hb3.cell (p := ⟨g, o + j * 4, none⟩) hgW).trans p0.out
      clear HC HR hgW hb3
      replace HW : Hid (RowAny (w3.setCell ⟨g, o + j * 4 + 1, none⟩ (.string T)) g (o + c * 4) 50) := RowAny.set HW.out _ _
      replace HO : Hid (OnlyR w (w3.setCell ⟨g, o + j * 4 + 1, none⟩ (.string T)) lo hi) := HO.out.trans (OnlyR.set (a := ⟨g, o + j * 4 + 1, none⟩) hg1 hg2 _)
      replace HV : Hid (MarkedC 4 wtC wtAt 4 (w3.setCell ⟨g, o + j * 4 + 1, none⟩ (.string T)) g o k j) := MarkedC.set HV.out wtC_len (by omega) _
      replace p0 : Hid ((w3.setCell ⟨g, o + j * 4 + 1, none⟩ (.string T)).cell? ⟨g, o + j * 4, none⟩ = some (.int .i64 M)) := rcSet_out p0.out (by omega)
      have p1 : Hid ((w3.setCell ⟨g, o + j * 4 + 1, none⟩ (.string T)).cell? ⟨g, o + j * 4 + 1, none⟩ = some (.string T)) := World.cell?_setCell_same _ _ _ y1
      clear y1 z1
      generalize (w3.setCell ⟨g, o + j * 4 + 1, none⟩ (.string T)) = W2 at HW HO HV p0 p1 ⊢
      obtain ⟨M2, e2⟩ : ∃ x, M1 + 1 = x := ⟨_, rfl⟩
      rw [e2]
      have hM2 : Hid (M2 = M + 2) := (by have := hM1.out; omega : M2 = M + 2)
      have b2 : 1 ≤ M2 ∧ M2 ≤ 9500010 := by have := hM2.out; omega
      clear e2
      obtain ⟨x2, y2, z2⟩ := RowAny.cell HW.out (o := o + j * 4 + 2) (by omega)
      go_upto_region 10 with fail
      replace HW : Hid (RowAny (W2.setCell ⟨g, o + j * 4 + 2, none⟩ (.int .i64 M2)) g (o + c * 4) 50) := RowAny.set HW.out _ _
      replace HO : Hid (OnlyR w (W2.setCell ⟨g, o + j * 4 + 2, none⟩ (.int .i64 M2)) lo hi) := HO.out.trans (OnlyR.set (a := ⟨g, o + j * 4 + 2, none⟩) hg1 hg2 _)
      replace HV : Hid (MarkedC 4 wtC wtAt 4 (W2.setCell ⟨g, o + j * 4 + 2, none⟩ (.int .i64 M2)) g o k j) := MarkedC.set HV.out wtC_len (by omega) _
      replace p0 : Hid ((W2.setCell ⟨g, o + j * 4 + 2, none⟩ (.int .i64 M2)).cell? ⟨g, o + j * 4, none⟩ = some (.int .i64 M)) := rcSet_out p0.out (by omega)
      replace p1 : Hid ((W2.setCell ⟨g, o + j * 4 + 2, none⟩ (.int .i64 M2)).cell? ⟨g, o + j * 4 + 1, none⟩ = some (.string T)) := rcSet_out p1.out (by omega)
      have p2 : Hid ((W2.setCell ⟨g, o + j * 4 + 2, none⟩ (.int .i64 M2)).cell? ⟨g, o + j * 4 + 2, none⟩ = some (.int .i64 M2)) := World.cell?_setCell_same _ _ _ y2
      clear y2 z2
      generalize (W2.setCell ⟨g, o + j * 4 + 2, none⟩ (.int .i64 M2)) = W3 at HW HO HV p0 p1 p2 ⊢
      obtain ⟨M3, e3⟩ : ∃ x, M2 + 1 = x := ⟨_, rfl⟩
      rw [e3]
      have hM3 : Hid (M3 = M + 3) := (by have := hM2.out; omega : M3 = M + 3)
      have b3 : 1 ≤ M3 ∧ M3 ≤ 9500010 := by have := hM3.out; omega
      clear e3
      obtain ⟨x3, y3, z3⟩ := RowAny.cell HW.out (o := o + j * 4 + 3) (by omega)
      go_upto_region 11 with fail
      replace HW : Hid (RowAny (W3.setCell ⟨g, o + j * 4 + 3, none⟩ (.int .i64 M3)) g (o + c * 4) 50) := RowAny.set HW.out _ _
      replace HO : Hid (OnlyR w (W3.setCell ⟨g, o + j * 4 + 3, none⟩ (.int .i64 M3)) lo hi) := HO.out.trans (OnlyR.set (a := ⟨g, o + j * 4 + 3, none⟩) hg1 hg2 _)
      replace HV : Hid (MarkedC 4 wtC wtAt 4 (W3.setCell ⟨g, o + j * 4 + 3, none⟩ (.int .i64 M3)) g o k j) := MarkedC.set HV.out wtC_len (by omega) _
      replace p0 : Hid ((W3.setCell ⟨g, o + j * 4 + 3, none⟩ (.int .i64 M3)).cell? ⟨g, o + j * 4, none⟩ = some (.int .i64 M)) := rcSet_out p0.out (by omega)
      replace p1 : Hid ((W3.setCell ⟨g, o + j * 4 + 3, none⟩ (.int .i64 M3)).cell? ⟨g, o + j * 4 + 1, none⟩ = some (.string T)) := rcSet_out p1.out (by omega)
      replace p2 : Hid ((W3.setCell ⟨g, o + j * 4 + 3, none⟩ (.int .i64 M3)).cell? ⟨g, o + j * 4 + 2, none⟩ = some (.int .i64 M2)) := rcSet_out p2.out (by omega)
      have p3 : Hid ((W3.setCell ⟨g, o + j * 4 + 3, none⟩ (.int .i64 M3)).cell? ⟨g, o + j * 4 + 3, none⟩ = some (.int .i64 M3)) := World.cell?_setCell_same _ _ _ y3
      clear y3 z3
      generalize (W3.setCell ⟨g, o + j * 4 + 3, none⟩ (.int .i64 M3)) = W4 at HW HO HV p0 p1 p2 p3 ⊢
      have HX : Hid (W4.rangeAt g (o + j * 4) (wtC (wtAt (k + 4 * (j : Int))))) := (by
        rw [← HM.out]
        intro f x hx
        match f, hx with
        | 0, hx => cases hx; exact p0.out
        | 1, hx => cases hx; exact (by show W4.cell? _ = some (.string (markB (M + 1).toNat)); rw [← HTT.out]; exact p1.out)
        | 2, hx => cases hx; exact (by show W4.cell? _ = some (.int .i64 (M + 2)); rw [← hM2.out]; exact p2.out)
        | 3, hx => cases hx; exact (by show W4.cell? _ = some (.int .i64 (M + 3)); rw [← hM3.out]; exact p3.out)
        | f + 4, hx => simp [wtC] at hx : W4.rangeAt g (o + j * 4) (wtC (wtAt (k + 4 * (j : Int)))))
      have HV2 : Hid (MarkedC 4 wtC wtAt 4 W4 g o k (j + 1)) := MarkedC.more HV.out HX.out
      have E3 : Hid (M3 + 1 = k + 4 * ((j + 1 : Nat) : Int)) := (by have := HM.out; have := hM3.out; omega : _ = _)
      have hcb : M3 ≤ 9500010 := by omega
      clear HV HX HTT p0 p1 p2 p3
      go_wp2
      go_roundw
      case rel => exact ⟨j + 1, M3 + 1, by omega, by go_num, by go_num, E3.out, HW.out, HV2.out, HO.out⟩
      case measure => simp [intOf] <;> omega
    · obtain rfl : j = l.length := by omega
      have E2 : Hid (k + 4 * (l.length : Int) = M) := (by have := HM.out; omega : _ = _)
      go_wp2
      go_ret
      refine ⟨by rw [E2.out]; rfl, ?_, HO.out⟩
      obtain ⟨cur, h1, h2⟩ := HW.out
      have hz := HO.out.size
      refine ⟨by omega, .inr ⟨g, o, c, cur, by rw [marksC_len], hg1, hg2, h1, h2, by rw [marksC_len]; exact hg5, fun i hi => ?_⟩⟩
      rw [marksC_at]
      exact HV.out i (by rw [marksC_len] at hi; exact hi)
set_option maxRecDepth 100000 in
set_option maxHeartbeats 3200000 in
theorem heldWaitS_at (k : Int) (hk0 : 1 ≤ k ∧ k ≤ 5000000) (v : Value) (n : Nat) (w : World) (hl : n ≤ 1048576) (h : RowW w v (marksC wtAt 4 k n)) :
    Calls Try.prog 61 #[v, .int .i64 k] w fun e w' => e = .returned (.int .i64 (k + 4 * (n : Int))) ∧ Below w.heap.size w w' := by
  have HR : Hid (∀ W, Below w.heap.size w W → RowW W v (marksC wtAt 4 k n)) := fun W hW => RowC.below h hW
  obtain ⟨p, c, rfl, _⟩ := h
  rw [marksC_len]
  go_enter Try.func61, Try.ntmps61
  go_wp2
  go_loopw [1, 5] (fun x i wr => ∃ (j : Nat) (M : Int), j ≤ n ∧ i = .int .i64 j ∧ x = .int .i64 M ∧ Hid (M = k + 4 * (j : Int)) ∧ Below w.heap.size w wr) (fun _ i _ => n - (intOf i).toNat)
  case atStart => exact ⟨0, k, Nat.zero_le _, rfl, rfl, (by simp : _ = _), Below.refl _ _⟩
  case round =>
    obtain ⟨j, M, hj, rfl, rfl, HM, hbel⟩ := hrel
    by_cases hlt : j < n
    · obtain ⟨g, o, c', e1, q1⟩ := RowC.at (HR.out wr hbel) j (by rw [marksC_len]; exact hlt)
      rw [marksC_len] at e1
      cases e1
      rw [marksC_at, ← HM.out] at q1
      have hM : 1 ≤ M ∧ M ≤ 9500000 := by have := HM.out; omega
      obtain ⟨M1, hM1⟩ : ∃ x, M + 1 = x := ⟨_, rfl⟩
      obtain ⟨M2, hM2⟩ : ∃ x, M + 2 = x := ⟨_, rfl⟩
      obtain ⟨M3, hM3⟩ : ∃ x, M + 3 = x := ⟨_, rfl⟩
      obtain ⟨M4, hM4⟩ : ∃ x, M + 4 = x := ⟨_, rfl⟩
      have c0 : ∀ W, Below wr.heap.size wr W → W.cell? ⟨g, o + j * 4, none⟩ = some (.int .i64 M) := fun W hW => by exact (q1 W hW) 0 _ rfl
      obtain ⟨mk, emk⟩ : ∃ m : Nat, M1 = (m : Int) := ⟨(M1).toNat, by omega⟩
      have c1 : ∀ W, Below wr.heap.size wr W → W.cell? ⟨g, o + j * 4 + 1, none⟩ = some (.string (markB mk)) := fun W hW => by
        rw [show mk = (M + 1).toNat by omega]
        exact (q1 W hW) 1 _ rfl
      have HC : Hid (∀ Z, Calls Try.prog 60 #[.int .i64 M1] Z fun e w' => e = .returned (.string (markB mk)) ∧ Below Z.heap.size Z w') := fun Z => by
        rw [emk]
        exact markText_any mk Z (by omega) (by omega)
      clear emk
      generalize markB mk = T at HC c1
      have c2 : ∀ W, Below wr.heap.size wr W → W.cell? ⟨g, o + j * 4 + 2, none⟩ = some (.int .i64 M2) := fun W hW => by rw [← hM2]; exact (q1 W hW) 2 _ rfl
      have c3 : ∀ W, Below wr.heap.size wr W → W.cell? ⟨g, o + j * 4 + 3, none⟩ = some (.int .i64 M3) := fun W hW => by rw [← hM3]; exact (q1 W hW) 3 _ rfl
      have s0 : M + 1 = M1 := by omega
      have es0 : (M != M) = false := by simp
      have s1 : M1 + 1 = M2 := by omega
      have es1 : (M1 != M1) = false := by simp
      have s2 : M2 + 1 = M3 := by omega
      have es2 : (M2 != M2) = false := by simp
      have s3 : M3 + 1 = M4 := by omega
      have es3 : (M3 != M3) = false := by simp
      have E3 : Hid (M4 = k + 4 * ((j + 1 : Nat) : Int)) := (by have := HM.out; omega : _ = _)
      have b1 : 1 ≤ M1 ∧ M1 ≤ 9500010 := by omega
      have b2 : 1 ≤ M2 ∧ M2 ≤ 9500010 := by omega
      have b3 : 1 ≤ M3 ∧ M3 ≤ 9500010 := by omega
      have b4 : 1 ≤ M4 ∧ M4 ≤ 9500010 := by omega
      clear q1 hM1 hM2 hM3 hM4
      have eT : (T.toList == T.toList) = true := by simp
      have d0 := c0 wr (Below.refl _ _)
      go_upto_region 7 with fail
      try rw [s0]
      have hR0 : Below wr.heap.size wr wr.drew := Below.drew (Below.refl _ _)
      refine wp_region_held_drew (S := (fun w' => Below wr.heap.size wr w')) (by kernel_rfl) ?_ (fun hHeld => ?_)
      · (try dsimp only); exact hR0
      first
        | (refine skipH (i := 0) rfl (by kernel_rfl) (by kernel_rfl) (by kernel_rfl) (fun _ _ _ h => h) (by rfl) (by assumption) ?_; try simp only [Act.put, List.setIfInBounds_toArray, List.set_cons_zero, List.set_cons_succ, List.getElem_toArray, List.getElem_cons_succ, List.getElem_cons_zero])
        | (refine yieldH (i := 0) (v := ?_) rfl (by kernel_rfl) (by kernel_rfl) (by kernel_rfl) (fun _ _ _ h => h) (by rfl) ?_ (by assumption) ?_; rotate_left; (intro w hSw; (try dsimp only at hSw); go_simp; (try with_reducible rfl)); try simp only [Act.put, List.setIfInBounds_toArray, List.set_cons_zero, List.set_cons_succ, List.getElem_toArray, List.getElem_cons_succ, List.getElem_cons_zero])
        | fail
      first
        | (refine skipH (i := 1) rfl (by kernel_rfl) (by kernel_rfl) (by kernel_rfl) (fun _ _ _ h => h) (by rfl) (by assumption) ?_; try simp only [Act.put, List.setIfInBounds_toArray, List.set_cons_zero, List.set_cons_succ, List.getElem_toArray, List.getElem_cons_succ, List.getElem_cons_zero])
        | (refine yieldH (i := 1) (v := ?_) rfl (by kernel_rfl) (by kernel_rfl) (by kernel_rfl) (fun _ _ _ h => h) (by rfl) ?_ (by assumption) ?_; rotate_left; (intro w hSw; (try dsimp only at hSw); go_simp; (try with_reducible rfl)); try simp only [Act.put, List.setIfInBounds_toArray, List.set_cons_zero, List.set_cons_succ, List.getElem_toArray, List.getElem_cons_succ, List.getElem_cons_zero])
        | fail
      first
        | (refine skipH (i := 2) rfl (by kernel_rfl) (by kernel_rfl) (by kernel_rfl) (fun _ _ _ h => h) (by rfl) (by assumption) ?_; try simp only [Act.put, List.setIfInBounds_toArray, List.set_cons_zero, List.set_cons_succ, List.getElem_toArray, List.getElem_cons_succ, List.getElem_cons_zero])
        | (refine yieldH (i := 2) (v := ?_) rfl (by kernel_rfl) (by kernel_rfl) (by kernel_rfl) (fun _ _ _ h => h) (by rfl) ?_ (by assumption) ?_; rotate_left; (intro w hSw; (try dsimp only at hSw); go_simp; (try with_reducible rfl)); try simp only [Act.put, List.setIfInBounds_toArray, List.set_cons_zero, List.set_cons_succ, List.getElem_toArray, List.getElem_cons_succ, List.getElem_cons_zero])
        | fail
      first
        | (refine skipH (i := 3) rfl (by kernel_rfl) (by kernel_rfl) (by kernel_rfl) (fun _ _ _ h => h) (by rfl) (by assumption) ?_; try simp only [Act.put, List.setIfInBounds_toArray, List.set_cons_zero, List.set_cons_succ, List.getElem_toArray, List.getElem_cons_succ, List.getElem_cons_zero])
        | (refine yieldH (i := 3) (v := ?_) rfl (by kernel_rfl) (by kernel_rfl) (by kernel_rfl) (fun _ _ _ h => h) (by rfl) ?_ (by assumption) ?_; rotate_left; (intro w hSw; (try dsimp only at hSw); go_simp; (try with_reducible rfl)); try simp only [Act.put, List.setIfInBounds_toArray, List.set_cons_zero, List.set_cons_succ, List.getElem_toArray, List.getElem_cons_succ, List.getElem_cons_zero])
        | fail
      first
        | (refine skipH (i := 4) rfl (by kernel_rfl) (by kernel_rfl) (by kernel_rfl) (fun _ _ _ h => h) (by rfl) (by assumption) ?_; try simp only [Act.put, List.setIfInBounds_toArray, List.set_cons_zero, List.set_cons_succ, List.getElem_toArray, List.getElem_cons_succ, List.getElem_cons_zero])
        | (refine yieldH (i := 4) (v := ?_) rfl (by kernel_rfl) (by kernel_rfl) (by kernel_rfl) (fun _ _ _ h => h) (by rfl) ?_ (by assumption) ?_; rotate_left; (intro w hSw; (try dsimp only at hSw); go_simp; (try with_reducible rfl)); try simp only [Act.put, List.setIfInBounds_toArray, List.set_cons_zero, List.set_cons_succ, List.getElem_toArray, List.getElem_cons_succ, List.getElem_cons_zero])
        | fail
      first
        | (refine skipH (i := 5) rfl (by kernel_rfl) (by kernel_rfl) (by kernel_rfl) (fun _ _ _ h => h) (by rfl) (by assumption) ?_; try simp only [Act.put, List.setIfInBounds_toArray, List.set_cons_zero, List.set_cons_succ, List.getElem_toArray, List.getElem_cons_succ, List.getElem_cons_zero])
        | (refine yieldH (i := 5) (v := ?_) rfl (by kernel_rfl) (by kernel_rfl) (by kernel_rfl) (fun _ _ _ h => h) (by rfl) ?_ (by assumption) ?_; rotate_left; (intro w hSw; (try dsimp only at hSw); go_simp; (try with_reducible rfl)); try simp only [Act.put, List.setIfInBounds_toArray, List.set_cons_zero, List.set_cons_succ, List.getElem_toArray, List.getElem_cons_succ, List.getElem_cons_zero])
        | fail
      refine wpAnyH_ready (rs := [6]) (by kernel_rfl) (by simp) ?_
      refine AllReadyH.cons rfl (fun K hK => ?_) AllReadyH.nil
      go_simp
      go_at_call 60; refine (HC.out _).mono ?_; rintro e7 w7 ⟨rfl, hb7⟩; have k7 : Below wr.heap.size wr w7 := keepB hR0 (Nat.le_refl _) hb7
      dsimp only
      refine hK.out _ _ ?_ (fun hHeld => ?_)
      · (try dsimp only); exact k7
      clear hK K
      try simp only [Act.put, List.setIfInBounds_toArray, List.set_cons_zero, List.set_cons_succ, List.getElem_toArray, List.getElem_cons_succ, List.getElem_cons_zero]
      first
        | (refine skipH (i := 7) rfl (by kernel_rfl) (by kernel_rfl) (by kernel_rfl) (fun _ _ _ h => h) (by rfl) (by assumption) ?_; try simp only [Act.put, List.setIfInBounds_toArray, List.set_cons_zero, List.set_cons_succ, List.getElem_toArray, List.getElem_cons_succ, List.getElem_cons_zero])
        | (refine yieldH (i := 7) (v := ?_) rfl (by kernel_rfl) (by kernel_rfl) (by kernel_rfl) (fun _ _ _ h => h) (by rfl) ?_ (by assumption) ?_; rotate_left; (intro w hSw; (try dsimp only at hSw); go_simp; (try with_reducible rfl)); try simp only [Act.put, List.setIfInBounds_toArray, List.set_cons_zero, List.set_cons_succ, List.getElem_toArray, List.getElem_cons_succ, List.getElem_cons_zero])
        | fail
      refine wpAnyH_done (by kernel_rfl) ?_ _
      have d2 := c2 w7 k7
      have d3 := c3 w7 k7
      go_upto_region 10 with fail
      try rw [s1]
      go_upto_region 13 with fail
      try rw [s2]
      go_wp2
      try rw [s3]
      go_roundw
      case rel => exact ⟨j + 1, M4, by omega, by go_num, by first | rfl | (rw [s3]) | go_num, E3.out, keepB hbel (Nat.le_refl _) k7⟩
      case measure => simp [intOf] <;> omega
    · obtain rfl : j = n := by omega
      have E2 : Hid (k + 4 * (j : Int) = M) := (by have := HM.out; omega : _ = _)
      go_wp2
      go_ret
      exact ⟨by rw [E2.out]; rfl, hbel⟩
end Go.Proofs.Ytghchcipobcpjaa
