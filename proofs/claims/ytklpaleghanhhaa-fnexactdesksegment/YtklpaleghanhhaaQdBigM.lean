/- THE LAW'S MARKS at greater numbers. Written by mkbigm.py. -/
import Derived.Test.YtklpaleghanhhaaQdStnH
namespace Go.Proofs.Ytklpaleghanhhaa
open Go.RowKit
set_option linter.unusedVariables false
set_option linter.unusedSimpArgs false

set_option maxRecDepth 100000 in
set_option maxHeartbeats 800000 in
theorem markInt64S_big (s : Int) (hs : 0 ≤ s ∧ s ≤ 100000000) (base : Nat) (v : Value) (zs : List Int) (w : World) (hl : zs.length ≤ 2000000) (h : OwnI w base v zs) :
    Calls Try.prog 103 #[v, .int .i64 s] w fun e w' => e = .returned (.int .i64 (s + (zs.length : Int))) ∧ OwnI w' base v (countK s zs.length) ∧ w.grownBy w' v.ownBlock := by
  obtain ⟨p, cap, rfl⟩ := h.shape
  have HO : Hid (OwnI _ _ _ _) := h
  clear h
  go_enter Try.func103, Try.ntmps103
  go_wp2
  go_loopw [1, 5] (fun x i wr => ∃ j : Nat, j ≤ zs.length ∧ i = .int .i64 j ∧ x = .int .i64 (s + (j : Int)) ∧ Hid (OwnI wr base (.slice p zs.length cap) (countK s j ++ zs.drop j)) ∧ Hid (w.grownBy wr (Value.slice p zs.length cap).ownBlock)) (fun _ i _ => zs.length - (intOf i).toNat)
  case atStart => exact ⟨0, Nat.zero_le _, rfl, by simp, (show OwnI _ _ _ _ from HO.out), grown_reflI _ _⟩
  case round =>
    obtain ⟨j, hj, rfl, rfl, HW, HGR⟩ := hrel
    have hlen : (countK s j ++ zs.drop j).length = zs.length := by rw [List.length_append, countK_length, List.length_drop]; omega
    by_cases hlt : j < zs.length
    · have hk : j < (countK s j ++ zs.drop j).length := by rw [hlen]; exact hlt
      obtain ⟨g, hpg, _, hgl, hq, hf⟩ := HW.out.cell j hk
      subst hpg
      have HST : Hid _ := countK_step s zs j hlt
      have h1 := HW.out.set j hk (s + (j : Int))
      generalize (countK s j ++ zs.drop j)[j] = old at hq
      go_wp2
      go_roundw
      case rel => exact ⟨j + 1, by omega, by go_num, by go_num, (show OwnI _ _ _ _ by rw [← HST.out]; exact h1), grown_setI HGR.out j _⟩
      case measure => simp [intOf]; omega
    · obtain rfl : j = zs.length := by omega
      go_wp2
      go_ret
      refine ⟨rfl, ?_, HGR.out⟩
      have := HW.out
      rwa [List.drop_length, List.append_nil] at this
set_option maxRecDepth 100000 in
set_option maxHeartbeats 800000 in
theorem markText_big (K : Nat) (w : World) (h1 : 0 < K) (h2 : K ≤ 100000000) :
    Calls Try.prog 84 #[.int .i64 K] w fun e w' => e = .returned (.string (markB K)) ∧ Below w.heap.size w w' := by
  go_enter Try.func84, Try.ntmps84
  go_wp2
  go_loopw [0, 3] (fun x t wr => ∃ (n : Nat) (s : ByteArray), n ≤ K ∧ x = .int .i64 n ∧ t = .string s ∧ s.size ≤ 100000000 ∧ Hid (digsN n ++ s.data.toList = digsN K) ∧ Below w.heap.size w wr)
    (fun x _ _ => (intOf x).toNat)
  case atStart => exact ⟨K, ByteArray.empty, Nat.le_refl _, rfl, rfl, by simp, by simp [Hid], Below.refl _ _⟩
  case round =>
    obtain ⟨n, s, hn, rfl, rfl, hs, HL, hbel⟩ := hrel
    have hsz := hbel.size
    by_cases hlt : 0 < n
    · have hcv := digit_conv wr n
      have HD : Hid _ := digsN_pos hlt
      have hle : s.size + 1 ≤ 100000000 := by
        have h3 := congrArg List.length HL.out
        have h4 := digsN_len K
        rw [List.length_append, list_length, digsN_pos hlt, List.length_append, List.length_singleton] at h3
        omega
      have hz1 : (bytesOf [UInt8.ofNat (48 + n % 10)]).size = 1 := bytesOf_size _
      have HA : Hid _ := bytesOf_list [UInt8.ofNat (48 + n % 10)]
      generalize bytesOf [UInt8.ofNat (48 + n % 10)] = D at hcv hz1 HA
      go_wp2
      go_roundw
      case rel => exact ⟨n / 10, D ++ s, by omega, by go_num, rfl, by rw [ByteArray.size_append]; omega, (show _ = _ by rw [list_append, HA.out, ← List.append_assoc, ← HD.out]; exact HL.out), hbel.alloc hsz _⟩
      case measure => simp [intOf]; omega
    · have hz1 : (bytesOf [109]).size = 1 := bytesOf_size _
      have e : markB K = bytesOf [109] ++ s := by
        unfold markB
        rw [← bytesOf_append, ← HL.out, show n = 0 by omega, digsN_zero, List.nil_append, bytesOf_data]
      have he : Hid _ := e
      clear e
      go_wp2
      go_ret
      exact ⟨by rw [he.out]; rfl, hbel⟩
theorem markInts_big (s : Int) (hs : 0 ≤ s ∧ s ≤ 100000000) (lo hi : Nat) (v : Value) (zs : List Int) (w : World) (hl : zs.length ≤ 2000000) (h : OwnIB w lo hi v zs) :
    Calls Try.prog 103 #[v, .int .i64 s] w fun e w' => e = .returned (.int .i64 (s + (zs.length : Int))) ∧ OwnIB w' lo hi v (countK s zs.length) ∧ Only w w' lo hi :=
  (markInt64S_big s hs lo v zs w hl h.1).mono fun e w' ⟨h1, h2, h3⟩ => ⟨h1, ⟨h2, h.2⟩, Only.grown h3 fun k e => ⟨(OwnI.lt h.1 k e).1, h.2 k e⟩⟩
set_option maxRecDepth 100000 in
set_option maxHeartbeats 1600000 in
theorem markGlobS_big (k : Int) (hk0 : 0 ≤ k ∧ k ≤ 50000000) (lo hi : Nat) (v : Value) (gs : List (Int × List Int)) (w : World) (hl : (gs.length : Int) + (wsum gs : Int) ≤ 1048576) (h : OwnGB w lo hi v gs) :
    Calls Try.prog 104 #[v, .int .i64 k] w fun e w' => e = .returned (.int .i64 (k + ((gs.length : Int) + (wsum gs : Int)))) ∧ OwnGB w' lo hi v (markG k gs) ∧ Only w w' lo hi := by
  have HS : Hid (MarkG w lo hi v gs k 0) := MarkG.start h k
  obtain ⟨p, c, rfl⟩ := h.g.shape
  clear h
  have hl2 : gs.length ≤ 1048576 := by omega
  have HL : Hid _ := hl
  clear hl
  go_enter Try.func104, Try.ntmps104
  go_wp2
  go_loopw [1, 5] (fun x i wr => ∃ (j : Nat) (M : Int), j ≤ gs.length ∧ i = .int .i64 j ∧ x = .int .i64 M ∧ (0 ≤ M ∧ M ≤ 70000000) ∧ Hid (M = k + (j : Int) + (wsum (gs.take j) : Int)) ∧ Hid (MarkG wr lo hi (.slice p gs.length c) gs k j) ∧ Hid (Only w wr lo hi)) (fun _ i _ => gs.length - (intOf i).toNat)
  case atStart => exact ⟨0, k, Nat.zero_le _, rfl, rfl, by omega, (show _ = _ by simp [wsum]), HS.out, Only.refl _ _ _⟩
  case round =>
    obtain ⟨j, M, hj, rfl, rfl, hM, HM, HW, HO⟩ := hrel
    by_cases hlt : j < gs.length
    · obtain ⟨g, rfl, hg1, hg2, hgl, ⟨x, hq⟩, hf⟩ := HW.out.cell j hlt
      obtain ⟨u, hu, hou, hug, hnext⟩ := MarkG.step (w2 := wr) HW.out hlt M HM.out
      have HT : Hid _ := wsum_take gs j hlt
      have HE : Hid _ := wsum_le gs (j + 1)
      have hnw : gs[j].2.length ≤ 1048576 := by have h1 := HT.out; have h2 := HE.out; have h3 := HL.out; omega
      have hMl : M + 1 + (gs[j].2.length : Int) ≤ 70000000 := by have h1 := HT.out; have h2 := HE.out; have h3 := HL.out; have h4 := HM.out; omega
      have HC : Hid (Calls Try.prog 103 #[u, .int .i64 (M + 1)] (wr.setCell ⟨g, j * 2, none⟩ (.int .i64 M)) fun e w' => e = .returned (.int .i64 (M + 1 + (gs[j].2.length : Int))) ∧ MarkG w' lo hi (.slice (some ⟨g, 0, none⟩) gs.length c) gs k (j + 1) ∧ Only (wr.setCell ⟨g, j * 2, none⟩ (.int .i64 M)) w' lo hi) := (markInt64S_big (M + 1) (by omega) lo u gs[j].2 _ (by omega) hou.1).mono fun e w' ⟨h1, h2, h3⟩ => ⟨h1, hnext w' h3 ⟨h2, hou.2⟩, Only.grown h3 fun k e => ⟨(OwnI.lt hou.1 k e).1, hou.2 k e⟩⟩
      have HO2 : Hid (Only w (wr.setCell ⟨g, j * 2, none⟩ (.int .i64 M)) lo hi) := HO.out.trans (Only.set (a := ⟨g, j * 2, none⟩) hg1 hg2 _)
      have HM2 : Hid (M + 1 + (gs[j].2.length : Int) = k + ((j + 1 : Nat) : Int) + (wsum (gs.take (j + 1)) : Int)) := (by have h1 := HT.out; have h4 := HM.out; push_cast; omega : _ = _)
      clear hnext hug hou
      generalize gs[j].2.length = n at HC hMl HM2 hnw
      clear HT HE
      go_upto_region 6 with fail
      generalize wr.setCell ⟨g, j * 2, none⟩ (.int .i64 M) = W at hu HC HO2 ⊢
      go_wp2_with (go_at_call 103; refine HC.out.mono ?_; rintro e w2 ⟨rfl, hm2, ho2⟩)
      go_roundw
      case rel => exact ⟨j + 1, M + 1 + (n : Int), by omega, by go_num, by go_num, by omega, HM2.out, hm2, HO2.out.trans ho2⟩
      case measure => simp [intOf]; omega
    · obtain rfl : j = gs.length := by omega
      have e1 := HM.out
      rw [List.take_length] at e1
      have E2 : Hid (k + ((gs.length : Int) + (wsum gs : Int)) = M) := (by omega : _ = _)
      clear e1
      go_wp2
      go_ret
      exact ⟨by rw [E2.out]; rfl, HW.out.done, HO.out⟩
set_option maxRecDepth 100000 in
set_option maxHeartbeats 1600000 in
theorem markStringS_big (k : Nat) (hk0 : 0 < k ∧ k ≤ 70000000) (lo hi : Nat) (v : Value) (ss : List ByteArray) (w : World) (hl : ss.length ≤ 1048576) (h : OwnTB w lo hi v ss) :
    Calls Try.prog 45 #[v, .int .i64 k] w fun e w' => e = .returned (.int .i64 ((k : Int) + (ss.length : Int))) ∧ OwnTB w' lo hi v (marksK k ss.length) ∧ Only w w' lo hi := by
  obtain ⟨p, cap, rfl⟩ := h.1.shape
  have HH : Hid (∀ g, (Value.slice p ss.length cap).ownBlock = some g → lo ≤ g ∧ g < hi) := fun g e => ⟨(h.1.lt g e).1, h.2 g e⟩
  have HO : Hid (OwnT4 w lo (.slice p ss.length cap) ss) := h.1
  have HB : Hid _ := h.2
  clear h
  go_enter Try.func45, Try.ntmps45
  go_wp2
  go_loopw [1, 5] (fun x i wr => ∃ j : Nat, j ≤ ss.length ∧ i = .int .i64 j ∧ x = .int .i64 ((k : Int) + (j : Int)) ∧ Hid (OwnT4 wr lo (.slice p ss.length cap) (marksK k j ++ ss.drop j)) ∧ Hid (w.grownBy wr (Value.slice p ss.length cap).ownBlock)) (fun _ i _ => ss.length - (intOf i).toNat)
  case atStart => exact ⟨0, Nat.zero_le _, rfl, by simp, (show OwnT4 _ _ _ _ from HO.out), grown_reflI _ _⟩
  case round =>
    obtain ⟨j, hj, rfl, rfl, HW, HGR⟩ := hrel
    have hlen : (marksK k j ++ ss.drop j).length = ss.length := by rw [List.length_append, marksK_length, List.length_drop]; omega
    by_cases hlt : j < ss.length
    · obtain ⟨g, hpg, _, hgl, _, _⟩ := HW.out.cell j (by rw [hlen]; exact hlt)
      subst hpg
      have HM : Hid (∀ w : World, Calls Try.prog 84 #[.int .i64 ((k : Int) + (j : Int))] w fun e w' => e = .returned (.string (markB (k + j))) ∧ Below w.heap.size w w') := fun W => by have := markText_big (k + j) W (by omega) (by omega); rwa [show ((k + j : Nat) : Int) = (k : Int) + (j : Int) by omega] at this
      have HST : Hid _ := marksK_step k ss j hlt
      generalize markB (k + j) = m at HM HST
      have hk : j < (marksK k j ++ ss.drop j).length := by rw [hlen]; exact hlt
      obtain ⟨old, hqq⟩ : ∃ old, ∀ W, Below wr.heap.size wr W → W.cell? ⟨g, j, none⟩ = some (.string old) ∧ W.frozen? ⟨g, j, none⟩ = false := by
        refine ⟨(marksK k j ++ ss.drop j)[j], fun W hW => ?_⟩
        obtain ⟨g', hg', _, _, q1, q2⟩ := (HW.out.below hW).cell j hk
        cases hg'
        exact ⟨q1, q2⟩
      have hq := fun W hW => (hqq W hW).1
      have hf := fun W hW => (hqq W hW).2
      clear hqq
      go_wp2_with (go_at_call 84; refine (HM.out _).mono ?_; rintro e w1 ⟨rfl, hb1⟩)
      have h1 := HW.out.below hb1
      go_roundw
      case rel => exact ⟨j + 1, by omega, by go_num, by go_num, (show OwnT4 _ _ _ _ by rw [← HST.out]; exact h1.set j hk m), grown_setI (grown_belowI HGR.out hb1) j _⟩
      case measure => simp [intOf]; omega
    · obtain rfl : j = ss.length := by omega
      go_wp2
      go_ret
      refine ⟨rfl, ⟨?_, HB.out⟩, Only.grown HGR.out HH.out⟩
      have := HW.out
      rwa [List.drop_length, List.append_nil] at this
end Go.Proofs.Ytklpaleghanhhaa
