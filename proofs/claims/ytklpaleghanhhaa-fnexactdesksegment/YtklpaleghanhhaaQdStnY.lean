/- A STATION'S OWN LISTS MARKED, and still marked: the law's own walks. -/
import Derived.Test.YtklpaleghanhhaaQdStnM
import Derived.Test.YtklpaleghanhhaaQdStnE
namespace Go.Proofs.Ytklpaleghanhhaa
open Go.RowKit
set_option linter.unusedVariables false
set_option linter.unusedSimpArgs false

theorem MarkG.shape {w : World} {lo hi : Nat} {v : Value} {gs : List (Int × List Int)} {k : Int} {j : Nat} (h : MarkG w lo hi v gs k j) : ∃ a cap, v = .slice a gs.length cap := by
  obtain ⟨ps, hl, ⟨_, ⟨rfl, h0⟩ | ⟨g, cap, cur, rfl, _⟩⟩, _⟩ := h
  · rw [h0]; exact ⟨_, _, rfl⟩
  · exact ⟨_, _, rfl⟩
theorem MarkG.cell {w : World} {lo hi : Nat} {p : Option Addr} {n c : Nat} {gs : List (Int × List Int)} {k : Int} {j : Nat} (h : MarkG w lo hi (.slice p n c) gs k j) (i : Nat) (hi' : i < gs.length) : ∃ g, p = some ⟨g, 0, none⟩ ∧ lo ≤ g ∧ g < hi ∧ g < w.heap.size ∧ (∃ x, w.cell? ⟨g, i * 2, none⟩ = some (.int .i64 x)) ∧ w.frozen? ⟨g, i * 2, none⟩ = false := by
  obtain ⟨ps, hl, hr, _, _, _, hh⟩ := h
  rcases hr.2 with ⟨e, e0⟩ | ⟨g, cap, cur, e, hb, hg, _⟩
  · omega
  · cases e
    refine ⟨g, rfl, hb, hh g rfl, (Array.getElem?_eq_some_iff.1 hg).1, ⟨ps[i].1, ?_⟩, hr.frozenAt _⟩
    rw [hr.cellAt (i * 2) (by omega), flatP_even ps i (by omega)]
set_option maxRecDepth 100000 in
set_option maxHeartbeats 1600000 in
theorem markGlobS_any (k : Int) (hk0 : 0 ≤ k ∧ k ≤ 5000000) (lo hi : Nat) (v : Value) (gs : List (Int × List Int)) (w : World) (hl : (gs.length : Int) + (wsum gs : Int) ≤ 1048576) (h : OwnGB w lo hi v gs) :
    Calls Try.prog 104 #[v, .int .i64 k] w fun e w' => e = .returned (.int .i64 (k + ((gs.length : Int) + (wsum gs : Int)))) ∧ OwnGB w' lo hi v (markG k gs) ∧ Only w w' lo hi := by
  have HS : Hid (MarkG w lo hi v gs k 0) := MarkG.start h k
  obtain ⟨p, c, rfl⟩ := h.g.shape
  clear h
  have hl2 : gs.length ≤ 1048576 := by omega
  have HL : Hid _ := hl
  clear hl
  go_enter Try.func104, Try.ntmps104
  go_wp2
  go_loopw [1, 5] (fun x i wr => ∃ (j : Nat) (M : Int), j ≤ gs.length ∧ i = .int .i64 j ∧ x = .int .i64 M ∧ (0 ≤ M ∧ M ≤ 7000000) ∧ Hid (M = k + (j : Int) + (wsum (gs.take j) : Int)) ∧ Hid (MarkG wr lo hi (.slice p gs.length c) gs k j) ∧ Hid (Only w wr lo hi)) (fun _ i _ => gs.length - (intOf i).toNat)
  case atStart => exact ⟨0, k, Nat.zero_le _, rfl, rfl, by omega, (show _ = _ by simp [wsum]), HS.out, Only.refl _ _ _⟩
  case round =>
    obtain ⟨j, M, hj, rfl, rfl, hM, HM, HW, HO⟩ := hrel
    by_cases hlt : j < gs.length
    · obtain ⟨g, rfl, hg1, hg2, hgl, ⟨x, hq⟩, hf⟩ := HW.out.cell j hlt
      obtain ⟨u, hu, hou, hug, hnext⟩ := MarkG.step (w2 := wr) HW.out hlt M HM.out
      have HT : Hid _ := wsum_take gs j hlt
      have HE : Hid _ := wsum_le gs (j + 1)
      have hnw : gs[j].2.length ≤ 1048576 := by have h1 := HT.out; have h2 := HE.out; have h3 := HL.out; omega
      have hMl : M + 1 + (gs[j].2.length : Int) ≤ 7000000 := by have h1 := HT.out; have h2 := HE.out; have h3 := HL.out; have h4 := HM.out; omega
      have HC : Hid (Calls Try.prog 103 #[u, .int .i64 (M + 1)] (wr.setCell ⟨g, j * 2, none⟩ (.int .i64 M)) fun e w' => e = .returned (.int .i64 (M + 1 + (gs[j].2.length : Int))) ∧ MarkG w' lo hi (.slice (some ⟨g, 0, none⟩) gs.length c) gs k (j + 1) ∧ Only (wr.setCell ⟨g, j * 2, none⟩ (.int .i64 M)) w' lo hi) := (markInt64S_from (M + 1) (by omega) lo u gs[j].2 _ (by omega) hou.1).mono fun e w' ⟨h1, h2, h3⟩ => ⟨h1, hnext w' h3 ⟨h2, hou.2⟩, Only.grown h3 fun k e => ⟨(OwnI.lt hou.1 k e).1, hou.2 k e⟩⟩
      have HO2 : Hid (Only w (wr.setCell ⟨g, j * 2, none⟩ (.int .i64 M)) lo hi) := HO.out.trans (Only.set (a := ⟨g, j * 2, none⟩) hg1 hg2 _)
      have HM2 : Hid (M + 1 + (gs[j].2.length : Int) = k + ((j + 1 : Nat) : Int) + (wsum (gs.take (j + 1)) : Int)) := (by have h1 := HT.out; have h4 := HM.out; push_cast; omega : _ = _)
      clear hnext hug hou
      generalize gs[j].2.length = n at HC hMl HM2 hnw
      clear HT HE
      go_upto_region 6 with fail
      generalize wr.setCell ⟨g, j * 2, none⟩ (.int .i64 M) = W at hu HC HO2 ⊢
      go_wp2_with (go_at_call 103; refine HC.out.mono ?_; rintro e w2 ⟨rfl, hm2, ho2⟩)
      go_roundw
      case rel => exact ⟨j + 1, M + 1 + (n : Int), by omega, by go_num, by go_num, by omega, HM2.out, hm2, HO2.out.trans ho2⟩
      case measure => simp [intOf]; omega
    · obtain rfl : j = gs.length := by omega
      have e1 := HM.out
      rw [List.take_length] at e1
      have E2 : Hid (k + ((gs.length : Int) + (wsum gs : Int)) = M) := (by omega : _ = _)
      clear e1
      go_wp2
      go_ret
      exact ⟨by rw [E2.out]; rfl, HW.out.done, HO.out⟩
theorem ownG_cells {w : World} {lo : Nat} {v : Value} {gs : List (Int × List Int)} (h : OwnG w lo v gs) (k : Nat) (hk : k < gs.length) : ∃ g c u, v = .slice (some ⟨g, 0, none⟩) gs.length c ∧ w.cell? ⟨g, k * 2, none⟩ = some (.int .i64 gs[k].1) ∧ w.cell? ⟨g, k * 2 + 1, none⟩ = some u ∧ OwnI w lo u gs[k].2 := by
  obtain ⟨p, c, rfl⟩ := h.shape
  obtain ⟨ps, hl, hr, hk2, _⟩ := h
  obtain ⟨h1, h2⟩ := hk2 k hk (by omega)
  rcases hr.2 with ⟨e, e0⟩ | ⟨g, cap, cur, e, hb, hg, _⟩
  · omega
  · cases e
    refine ⟨g, c, ps[k].2, rfl, ?_, ?_, h2⟩
    · rw [hr.cellAt (k * 2) (by omega), flatP_even ps k (by omega), h1]
    · rw [hr.cellAt (k * 2 + 1) (by omega), flatP_odd ps k (by omega)]
set_option maxRecDepth 100000 in
set_option maxHeartbeats 1600000 in
theorem heldGlobS_any (k : Int) (hk0 : 0 ≤ k ∧ k ≤ 5000000) (lo : Nat) (v : Value) (gs : List (Int × List Int)) (w : World) (hl : (gs.length : Int) + (wsum gs : Int) ≤ 1048576) (h : OwnG w lo v (markG k gs)) :
    Calls Try.prog 106 #[v, .int .i64 k] w fun e w' => e = .returned (.int .i64 (k + ((gs.length : Int) + (wsum gs : Int)))) ∧ Below w.heap.size w w' := by
  have HR : Hid (∀ W, Below w.heap.size w W → ∀ j (hj : j < gs.length), ∃ g c u, v = .slice (some ⟨g, 0, none⟩) gs.length c ∧ W.cell? ⟨g, j * 2, none⟩ = some (.int .i64 (k + (j : Int) + (wsum (gs.take j) : Int))) ∧ W.cell? ⟨g, j * 2 + 1, none⟩ = some u ∧ OwnI W lo u (countK (k + (j : Int) + (wsum (gs.take j) : Int) + 1) gs[j].2.length)) := fun W hW j hj => by
    obtain ⟨g, c, u, e1, e2, e3, e4⟩ := ownG_cells (h.below hW) j (by rw [markG_length]; exact hj)
    rw [markG_length] at e1
    rw [markG_at gs k j hj] at e2 e4
    exact ⟨g, c, u, e1, e2, e3, e4⟩
  obtain ⟨p, c, hv⟩ := h.shape
  rw [markG_length] at hv
  subst hv
  clear h
  have hl2 : gs.length ≤ 1048576 := by omega
  have HL : Hid _ := hl
  clear hl
  go_enter Try.func106, Try.ntmps106
  go_wp2
  go_loopw [1, 5] (fun x i wr => ∃ (j : Nat) (M : Int), j ≤ gs.length ∧ i = .int .i64 j ∧ x = .int .i64 M ∧ (0 ≤ M ∧ M ≤ 7000000) ∧ Hid (M = k + (j : Int) + (wsum (gs.take j) : Int)) ∧ Below w.heap.size w wr) (fun _ i _ => gs.length - (intOf i).toNat)
  case atStart => exact ⟨0, k, Nat.zero_le _, rfl, rfl, by omega, (show _ = _ by simp [wsum]), Below.refl _ _⟩
  case round =>
    obtain ⟨j, M, hj, rfl, rfl, hM, HM, hbel⟩ := hrel
    by_cases hlt : j < gs.length
    · obtain ⟨g, c', u, e', q1, q2, hou⟩ := HR.out wr hbel j hlt
      cases e'
      rw [← HM.out] at q1 hou
      have HT : Hid _ := wsum_take gs j hlt
      have HE : Hid _ := wsum_le gs (j + 1)
      have hnw : gs[j].2.length ≤ 1048576 := by have h1 := HT.out; have h2 := HE.out; have h3 := HL.out; omega
      have hMl : M + 1 + (gs[j].2.length : Int) ≤ 7000000 := by have h1 := HT.out; have h2 := HE.out; have h3 := HL.out; have h4 := HM.out; omega
      have HC : Hid (Calls Try.prog 105 #[u, .int .i64 (M + 1)] wr fun e w' => e = .returned (.int .i64 (M + 1 + (gs[j].2.length : Int))) ∧ Below wr.heap.size wr w') := heldInt64S_from (M + 1) (by omega) lo u gs[j].2.length wr (by omega) hou
      have HM2 : Hid (M + 1 + (gs[j].2.length : Int) = k + ((j + 1 : Nat) : Int) + (wsum (gs.take (j + 1)) : Int)) := (by have h1 := HT.out; have h4 := HM.out; push_cast; omega : _ = _)
      clear hou
      generalize gs[j].2.length = n at HC hMl HM2 hnw
      clear HT HE
      have es : (M != M) = false := by simp
      have h6 : ¬ M + 1 + (n : Int) < 0 := by omega
      go_wp2_with (go_at_call 105; refine HC.out.mono ?_; rintro e w2 ⟨rfl, hb2⟩)
      go_roundw
      case rel => exact ⟨j + 1, M + 1 + (n : Int), by omega, by go_num, by go_num, by omega, HM2.out, keepB hbel (Nat.le_refl _) hb2⟩
      case measure => simp [intOf]; omega
    · obtain rfl : j = gs.length := by omega
      have e1 := HM.out
      rw [List.take_length] at e1
      have E2 : Hid (k + ((gs.length : Int) + (wsum gs : Int)) = M) := (by omega : _ = _)
      clear e1
      go_wp2
      go_ret
      exact ⟨by rw [E2.out]; rfl, hbel⟩
/-- texts marked -/
def marksK (k n : Nat) : List ByteArray := (List.range n).map fun i => markB (k + i)
theorem marksK_length (k n : Nat) : (marksK k n).length = n := by simp [marksK]
theorem marksK_at (k n i : Nat) (h : i < (marksK k n).length) : (marksK k n)[i] = markB (k + i) := by simp [marksK]
theorem marksK_succ (k n : Nat) : marksK k (n + 1) = marksK k n ++ [markB (k + n)] := by simp [marksK, List.range_succ]
theorem marksK_step (k : Nat) (ss : List ByteArray) (j : Nat) (h : j < ss.length) : (marksK k j ++ ss.drop j).set j (markB (k + j)) = marksK k (j + 1) ++ ss.drop (j + 1) := by
  have := set_midS (l := marksK k j) (m := ss.drop j) (c := markB (k + j)) (by intro e; have := congrArg List.length e; simp at this; omega)
  rw [marksK_length] at this
  rw [this, marksK_succ, List.drop_drop]
theorem grown_setS {w a : World} {g : Nat} (h : w.grownBy a (some g)) (o : Nat) (v : Value) : w.grownBy (a.setCell ⟨g, o, none⟩ v) (some g) := grown_setI h o v
set_option maxRecDepth 100000 in
set_option maxHeartbeats 1600000 in
theorem markStringS_from (k : Nat) (hk0 : 0 < k ∧ k ≤ 7000000) (lo hi : Nat) (v : Value) (ss : List ByteArray) (w : World) (hl : ss.length ≤ 1048576) (h : OwnTB w lo hi v ss) :
    Calls Try.prog 45 #[v, .int .i64 k] w fun e w' => e = .returned (.int .i64 ((k : Int) + (ss.length : Int))) ∧ OwnTB w' lo hi v (marksK k ss.length) ∧ Only w w' lo hi := by
  obtain ⟨p, cap, rfl⟩ := h.1.shape
  have HH : Hid (∀ g, (Value.slice p ss.length cap).ownBlock = some g → lo ≤ g ∧ g < hi) := fun g e => ⟨(h.1.lt g e).1, h.2 g e⟩
  have HO : Hid (OwnT4 w lo (.slice p ss.length cap) ss) := h.1
  have HB : Hid _ := h.2
  clear h
  go_enter Try.func45, Try.ntmps45
  go_wp2
  go_loopw [1, 5] (fun x i wr => ∃ j : Nat, j ≤ ss.length ∧ i = .int .i64 j ∧ x = .int .i64 ((k : Int) + (j : Int)) ∧ Hid (OwnT4 wr lo (.slice p ss.length cap) (marksK k j ++ ss.drop j)) ∧ Hid (w.grownBy wr (Value.slice p ss.length cap).ownBlock)) (fun _ i _ => ss.length - (intOf i).toNat)
  case atStart => exact ⟨0, Nat.zero_le _, rfl, by simp, (show OwnT4 _ _ _ _ from HO.out), grown_reflI _ _⟩
  case round =>
    obtain ⟨j, hj, rfl, rfl, HW, HGR⟩ := hrel
    have hlen : (marksK k j ++ ss.drop j).length = ss.length := by rw [List.length_append, marksK_length, List.length_drop]; omega
    by_cases hlt : j < ss.length
    · obtain ⟨g, hpg, _, hgl, _, _⟩ := HW.out.cell j (by rw [hlen]; exact hlt)
      subst hpg
      have HM : Hid (∀ w : World, Calls Try.prog 84 #[.int .i64 ((k : Int) + (j : Int))] w fun e w' => e = .returned (.string (markB (k + j))) ∧ Below w.heap.size w w') := fun W => by have := markText_any (k + j) W (by omega) (by omega); rwa [show ((k + j : Nat) : Int) = (k : Int) + (j : Int) by omega] at this
      have HST : Hid _ := marksK_step k ss j hlt
      generalize markB (k + j) = m at HM HST
      have hk : j < (marksK k j ++ ss.drop j).length := by rw [hlen]; exact hlt
      obtain ⟨old, hqq⟩ : ∃ old, ∀ W, Below wr.heap.size wr W → W.cell? ⟨g, j, none⟩ = some (.string old) ∧ W.frozen? ⟨g, j, none⟩ = false := by
        refine ⟨(marksK k j ++ ss.drop j)[j], fun W hW => ?_⟩
        obtain ⟨g', hg', _, _, q1, q2⟩ := (HW.out.below hW).cell j hk
        cases hg'
        exact ⟨q1, q2⟩
      have hq := fun W hW => (hqq W hW).1
      have hf := fun W hW => (hqq W hW).2
      clear hqq
      go_wp2_with (go_at_call 84; refine (HM.out _).mono ?_; rintro e w1 ⟨rfl, hb1⟩)
      have h1 := HW.out.below hb1
      go_roundw
      case rel => exact ⟨j + 1, by omega, by go_num, by go_num, (show OwnT4 _ _ _ _ by rw [← HST.out]; exact h1.set j hk m), grown_setI (grown_belowI HGR.out hb1) j _⟩
      case measure => simp [intOf]; omega
    · obtain rfl : j = ss.length := by omega
      go_wp2
      go_ret
      refine ⟨rfl, ⟨?_, HB.out⟩, Only.grown HGR.out HH.out⟩
      have := HW.out
      rwa [List.drop_length, List.append_nil] at this
set_option maxRecDepth 100000 in
set_option maxHeartbeats 1600000 in
theorem heldStringS_from (k : Nat) (hk0 : 0 < k ∧ k ≤ 7000000) (lo : Nat) (v : Value) (n : Nat) (w : World) (hl : n ≤ 1048576) (h : OwnT4 w lo v (marksK k n)) :
    Calls Try.prog 47 #[v, .int .i64 k] w fun e w' => e = .returned (.int .i64 ((k : Int) + (n : Int))) ∧ Below w.heap.size w w' := by
  obtain ⟨p, cap, rfl⟩ := h.shape
  have HO : Hid _ := fun W hW => (OwnT4.below (w' := W) h hW).cell
  clear h
  rw [marksK_length]
  go_enter Try.func47, Try.ntmps47
  go_wp2
  go_loopw [1, 5] (fun x i wr => ∃ j : Nat, j ≤ n ∧ i = .int .i64 j ∧ x = .int .i64 ((k : Int) + (j : Int)) ∧ Below w.heap.size w wr) (fun _ i _ => n - (intOf i).toNat)
  case atStart => exact ⟨0, Nat.zero_le _, rfl, by simp, Below.refl _ _⟩
  case round =>
    obtain ⟨j, hj, rfl, rfl, hbel⟩ := hrel
    by_cases hlt : j < n
    · obtain ⟨g, hpg, _, hgl, _, _⟩ := HO.out wr hbel j (by rw [marksK_length]; exact hlt)
      subst hpg
      have HM : Hid (∀ w : World, Calls Try.prog 84 #[.int .i64 ((k : Int) + (j : Int))] w fun e w' => e = .returned (.string (markB (k + j))) ∧ Below w.heap.size w w') := fun W => by have := markText_any (k + j) W (by omega) (by omega); rwa [show ((k + j : Nat) : Int) = (k : Int) + (j : Int) by omega] at this
      have hq : ∀ W, Below w.heap.size w W → W.cell? ⟨g, j, none⟩ = some (.string (markB (k + j))) := by
        intro W hW
        obtain ⟨g', hg', _, _, q1, _⟩ := HO.out W hW j (by rw [marksK_length]; exact hlt)
        cases hg'
        rw [marksK_at] at q1
        exact q1
      generalize markB (k + j) = m at HM hq
      have es : (m.toList == m.toList) = true := by simp
      go_wp2
      go_region_held3 (fun w' => Below w.heap.size w w') (first | assumption | exact Below.drew hbel | exact keepB (by assumption) (by simp) hb1) (first | (go_at_call 84; refine (HM.out _).mono ?_; rintro e w1 ⟨rfl, hb1⟩))
      have hS : Below w.heap.size w w1 := by assumption
      go_wp2
      go_roundw
      case rel => exact ⟨j + 1, by omega, by go_num, by go_num, hS⟩
      case measure => simp [intOf]; omega
    · obtain rfl : j = n := by omega
      go_wp2
      go_ret
      exact ⟨rfl, hbel⟩
end Go.Proofs.Ytklpaleghanhhaa
