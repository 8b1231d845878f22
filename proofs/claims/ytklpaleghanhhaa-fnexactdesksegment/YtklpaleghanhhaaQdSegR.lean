/- STATIONS STILL MARKED. Written by mksegr.py. -/
import Derived.Test.YtklpaleghanhhaaQdSegQ
namespace Go.Proofs.Ytklpaleghanhhaa
open Go.RowKit
set_option linter.unusedVariables false
set_option linter.unusedSimpArgs false

set_option maxRecDepth 100000 in
set_option maxHeartbeats 6400000 in
theorem heldStationS_at (k : Int) (lo hi : Nat) (v : Value) (ss : List Stn) (w : World) (hk0 : 1 ≤ k ∧ k + msum ss ≤ 4900000) (hl : (ss.length : Int) + ssum ss ≤ 1048576) (h : OwnStS w lo hi v (markStL k ss)) :
    Calls Try.prog 63 #[v, .int .i64 k] w fun e w' => e = .returned (.int .i64 (k + msum ss)) ∧ Below w.heap.size w w' := by
  have hpos := msum_le ss
  have hsp := ssum_pos ss
  have hlen : ss.length ≤ 1048576 := by omega
  have HT : Hid (∀ s ∈ ss, s.tot ≤ 1048576) := fun s hs => by have := ssum_each hs; omega
  obtain ⟨hhi, ⟨rfl, e0⟩ | ⟨g, c, cur, ls, rfl, hg1, hg2, hg3, hg4, hg5, hll, hsk, hsd⟩⟩ := h
  · have hss : ss = [] := by have := congrArg List.length e0; rw [markStL_len] at this; exact List.length_eq_zero_iff.1 (by simpa using this)
    subst hss
    clear hpos hsp
    go_enter Try.func63, Try.ntmps63
    go_wp2
    go_loopw [1, 5] (fun x i wr => x = .int .i64 k ∧ i = .int .i64 0 ∧ w = wr) (fun _ _ _ => 0)
    case atStart => exact ⟨rfl, rfl, rfl⟩
    case round =>
      obtain ⟨rfl, rfl, rfl⟩ := hrel
      go_wp2
      go_ret
      exact ⟨by simp [msum], Below.refl _ _⟩
  rw [markStL_len] at hg5
  have HS : Hid (∀ W, Below w.heap.size w W → ∀ q (h : q < ss.length) (h' : q < ls.length), W.rangeAt g (q * 19) (stC (ss[q].markAt (k + msum (ss.take q))) ls[q].1) ∧ OwnStnB W ls[q].2.1 ls[q].2.2 ls[q].1.a ls[q].1.b ls[q].1.c ls[q].1.d (ss[q].markAt (k + msum (ss.take q)))) := fun W hW q a b => by
    obtain ⟨r, _, _, o, _⟩ := hsk q (by rw [markStL_len]; exact a) b
    rw [markStL_at k ss q a] at r o
    exact ⟨range_below r (by omega) hW, o.below hW⟩
  have HLL : Hid (ls.length = ss.length) := (hll.trans (markStL_len k ss) : _ = _)
  rw [markStL_len]
  clear hsk hsd hll hg3 hg4
  go_enter Try.func63, Try.ntmps63
  go_wp2
  go_loopw [1, 5] (fun x i wr => ∃ (j : Nat) (M : Int), j ≤ ss.length ∧ i = .int .i64 j ∧ x = .int .i64 M ∧ Hid (M = k + msum (ss.take j)) ∧ Below w.heap.size w wr) (fun _ i _ => ss.length - (intOf i).toNat)
  case atStart => exact ⟨0, k, Nat.zero_le _, rfl, rfl, (show _ = _ by simp [msum]), Below.refl _ _⟩
  case round =>
    obtain ⟨j, M, hj, rfl, rfl, HM, hbel⟩ := hrel
    by_cases hlt : j < ss.length
    · have hjl : j < ls.length := by have := HLL.out; omega
      have HU : Hid (msum (ss.take (j + 1)) = msum (ss.take j) + (15 + ss[j].cnt)) := msum_take ss j hlt
      have HE : Hid _ := msum_mono ss (j + 1)
      have hMl : M + 15 + ss[j].cnt ≤ 4900000 := by have h1 := HU.out; have h2 := HE.out; have h4 := HM.out; omega
      have hM1 : 1 ≤ M := by have h4 := HM.out; have := (msum_le (ss.take j)).1; omega
      have htot := HT.out ss[j] (List.getElem_mem hlt)
      obtain ⟨hr0, ho0⟩ := HS.out wr hbel j hlt hjl
      rw [← HM.out] at hr0 ho0
      have HRR : Hid _ := hr0
      have HOO : Hid (OwnStnB _ _ _ _ _ _ _ _) := ho0
      have HM2 : Hid (M + 15 + ss[j].cnt = k + msum (ss.take (j + 1))) := (by have h1 := HU.out; have h4 := HM.out; omega : _ = _)
      clear HU HE HM hr0 ho0
      generalize ls[j].1 = u at HRR HOO
      generalize ls[j].2.1 = lj at HOO
      generalize ls[j].2.2 = hj2 at HOO
      generalize ss[j] = s at HRR HOO hMl htot HM2
      have hc0 := cnt_pos s
      have hM0 : 1 ≤ M ∧ M + 15 + s.cnt ≤ 4900000 := ⟨hM1, hMl⟩
      clear hMl hM1
      have y0 : wr.cell? ⟨g, j * 19, none⟩ = some (.int .i64 M) := by have := HRR.out 0 _ rfl; simpa [Stn.markAt] using this
      go_upto_region 7 with fail
      clear y0
      obtain ⟨M1, e0⟩ : ∃ x, M + 1 = x := ⟨_, rfl⟩
      rw [e0]
      have hM1 : 1 ≤ M1 ∧ M1 + 14 + s.cnt ≤ 4900000 := by omega
      have E1 : Hid (M1 = M + 1) := (by omega : _ = _)
      clear e0 hM0
      have y1 : wr.cell? ⟨g, j * 19 + 1, none⟩ = some (.int .i64 M1) := by have := HRR.out 1 _ rfl; rw [E1.out]; simpa [Stn.markAt] using this
      go_upto_region 10 with fail
      clear y1
      obtain ⟨M2, e1⟩ : ∃ x, M1 + 1 = x := ⟨_, rfl⟩
      rw [e1]
      have hM2 : 1 ≤ M2 ∧ M2 + 13 + s.cnt ≤ 4900000 := by omega
      have E2 : Hid (M2 = M + 2) := (by have := E1.out; omega : _ = _)
      clear e1 hM1
      clear E1
      have y2 : wr.cell? ⟨g, j * 19 + 2, none⟩ = some (.int .i64 M2) := by have := HRR.out 2 _ rfl; rw [E2.out]; simpa [Stn.markAt] using this
      go_upto_region 13 with fail
      clear y2
      obtain ⟨M3, e2⟩ : ∃ x, M2 + 1 = x := ⟨_, rfl⟩
      rw [e2]
      have hM3 : 1 ≤ M3 ∧ M3 + 12 + s.cnt ≤ 4900000 := by omega
      have E3 : Hid (M3 = M + 3) := (by have := E2.out; omega : _ = _)
      clear e2 hM2
      clear E2
      have y3 : wr.cell? ⟨g, j * 19 + 3, none⟩ = some (.int .i64 M3) := by have := HRR.out 3 _ rfl; rw [E3.out]; simpa [Stn.markAt] using this
      go_upto_region 16 with fail
      clear y3
      obtain ⟨M4, e3⟩ : ∃ x, M3 + 1 = x := ⟨_, rfl⟩
      rw [e3]
      have hM4 : 1 ≤ M4 ∧ M4 + 11 + s.cnt ≤ 4900000 := by omega
      have E4 : Hid (M4 = M + 4) := (by have := E3.out; omega : _ = _)
      clear e3 hM3
      clear E3
      have y4 : wr.cell? ⟨g, j * 19 + 4, none⟩ = some (.int .i64 M4) := by have := HRR.out 4 _ rfl; rw [E4.out]; simpa [Stn.markAt] using this
      go_upto_region 19 with fail
      clear y4
      obtain ⟨M5, e4⟩ : ∃ x, M4 + 1 = x := ⟨_, rfl⟩
      rw [e4]
      have hM5 : 1 ≤ M5 ∧ M5 + 10 + s.cnt ≤ 4900000 := by omega
      have E5 : Hid (M5 = M + 5) := (by have := E4.out; omega : _ = _)
      clear e4 hM4
      clear E4
      have y5 : wr.cell? ⟨g, j * 19 + 5, none⟩ = some (.int .i64 M5) := by have := HRR.out 5 _ rfl; rw [E5.out]; simpa [Stn.markAt] using this
      go_upto_region 22 with fail
      clear y5
      obtain ⟨M6, e5⟩ : ∃ x, M5 + 1 = x := ⟨_, rfl⟩
      rw [e5]
      have hM6 : 1 ≤ M6 ∧ M6 + 9 + s.cnt ≤ 4900000 := by omega
      have E6 : Hid (M6 = M + 6) := (by have := E5.out; omega : _ = _)
      clear e5 hM5
      clear E5
      have y6 : wr.cell? ⟨g, j * 19 + 6, none⟩ = some (.int .i64 M6) := by have := HRR.out 6 _ rfl; rw [E6.out]; simpa [Stn.markAt] using this
      go_upto_region 25 with fail
      clear y6
      obtain ⟨M7, e6⟩ : ∃ x, M6 + 1 = x := ⟨_, rfl⟩
      rw [e6]
      have hM7 : 1 ≤ M7 ∧ M7 + 8 + s.cnt ≤ 4900000 := by omega
      have E7 : Hid (M7 = M + 7) := (by have := E6.out; omega : _ = _)
      clear e6 hM6
      clear E6
      have y7 : wr.cell? ⟨g, j * 19 + 7, none⟩ = some (.int .i64 M7) := by have := HRR.out 7 _ rfl; rw [E7.out]; simpa [Stn.markAt] using this
      go_upto_region 28 with fail
      clear y7
      obtain ⟨M8, e7⟩ : ∃ x, M7 + 1 = x := ⟨_, rfl⟩
      rw [e7]
      have hM8 : 1 ≤ M8 ∧ M8 + 7 + s.cnt ≤ 4900000 := by omega
      have E8 : Hid (M8 = M + 8) := (by have := E7.out; omega : _ = _)
      clear e7 hM7
      clear E7
      have y8 : wr.cell? ⟨g, j * 19 + 8, none⟩ = some (.int .i64 M8) := by have := HRR.out 8 _ rfl; rw [E8.out]; simpa [Stn.markAt] using this
      go_upto_region 31 with fail
      clear y8
      obtain ⟨M9, e8⟩ : ∃ x, M8 + 1 = x := ⟨_, rfl⟩
      rw [e8]
      have hM9 : 1 ≤ M9 ∧ M9 + 6 + s.cnt ≤ 4900000 := by omega
      have E9 : Hid (M9 = M + 9) := (by have := E8.out; omega : _ = _)
      clear e8 hM8
      clear E8
      have y9 : wr.cell? ⟨g, j * 19 + 9, none⟩ = some (.int .i64 M9) := by have := HRR.out 9 _ rfl; rw [E9.out]; simpa [Stn.markAt] using this
      go_upto_region 34 with fail
      clear y9
      obtain ⟨M10, e9⟩ : ∃ x, M9 + 1 = x := ⟨_, rfl⟩
      rw [e9]
      have hM10 : 1 ≤ M10 ∧ M10 + 5 + s.cnt ≤ 4900000 := by omega
      have E10 : Hid (M10 = M + 10) := (by have := E9.out; omega : _ = _)
      clear e9 hM9
      clear E9
      have y10 : wr.cell? ⟨g, j * 19 + 10, none⟩ = some (.int .i64 M10) := by have := HRR.out 10 _ rfl; rw [E10.out]; simpa [Stn.markAt] using this
      go_upto_region 37 with fail
      clear y10
      obtain ⟨M11, e10⟩ : ∃ x, M10 + 1 = x := ⟨_, rfl⟩
      rw [e10]
      have hM11 : 1 ≤ M11 ∧ M11 + 4 + s.cnt ≤ 4900000 := by omega
      have E11 : Hid (M11 = M + 11) := (by have := E10.out; omega : _ = _)
      clear e10 hM10
      clear E10
      have y11 : wr.cell? ⟨g, j * 19 + 11, none⟩ = some (.int .i64 M11) := by have := HRR.out 11 _ rfl; rw [E11.out]; simpa [Stn.markAt] using this
      go_upto_region 40 with fail
      clear y11
      obtain ⟨M12, e11⟩ : ∃ x, M11 + 1 = x := ⟨_, rfl⟩
      rw [e11]
      have hM12 : 1 ≤ M12 ∧ M12 + 3 + s.cnt ≤ 4900000 := by omega
      have E12 : Hid (M12 = M + 12) := (by have := E11.out; omega : _ = _)
      clear e11 hM11
      clear E11
      have y12 : wr.cell? ⟨g, j * 19 + 12, none⟩ = some (.int .i64 M12) := by have := HRR.out 12 _ rfl; rw [E12.out]; simpa [Stn.markAt] using this
      go_upto_region 43 with fail
      clear y12
      obtain ⟨M13, e12⟩ : ∃ x, M12 + 1 = x := ⟨_, rfl⟩
      rw [e12]
      have hM13 : 1 ≤ M13 ∧ M13 + 2 + s.cnt ≤ 4900000 := by omega
      have E13 : Hid (M13 = M + 13) := (by have := E12.out; omega : _ = _)
      clear e12 hM12
      clear E12
      have y13 : wr.cell? ⟨g, j * 19 + 13, none⟩ = some (.int .i64 M13) := by have := HRR.out 13 _ rfl; rw [E13.out]; simpa [Stn.markAt] using this
      go_upto_region 46 with fail
      clear y13
      obtain ⟨M14, e13⟩ : ∃ x, M13 + 1 = x := ⟨_, rfl⟩
      rw [e13]
      have hM14 : 1 ≤ M14 ∧ M14 + 1 + s.cnt ≤ 4900000 := by omega
      have E14 : Hid (M14 = M + 14) := (by have := E13.out; omega : _ = _)
      clear e13 hM13
      clear E13
      have y14 : wr.cell? ⟨g, j * 19 + 14, none⟩ = some (.int .i64 M14) := by have := HRR.out 14 _ rfl; rw [E14.out]; simpa [Stn.markAt] using this
      go_upto_region 49 with fail
      clear y14
      obtain ⟨M15, e14⟩ : ∃ x, M14 + 1 = x := ⟨_, rfl⟩
      rw [e14]
      have hM15 : 1 ≤ M15 ∧ M15 + 0 + s.cnt ≤ 4900000 := by omega
      have E15 : Hid (M15 = M + 15) := (by have := E14.out; omega : _ = _)
      clear e14 hM14
      clear E14
      obtain ⟨l1, h1, l2, h2, l3, h3, l4, h4, _, _, o1, o2, o3, o4, _⟩ := HOO.out.all
      have n1 : s.kn.length ≤ 1048576 := by unfold Stn.tot at htot; omega
      have n2 : s.ws.length ≤ 1048576 := by unfold Stn.tot at htot; omega
      have n3 : (s.gs.length : Int) + (wsum s.gs : Int) ≤ 1048576 := by unfold Stn.tot at htot; omega
      have n4 : s.os.length ≤ 1048576 := by unfold Stn.tot at htot; omega
      have ec : s.cnt = (s.kn.length : Int) + (s.ws.length : Int) + ((s.gs.length : Int) + (wsum s.gs : Int)) + (s.os.length : Int) := rfl
      have e15 : M + 15 = M15 := E15.out.symm
      have o1' : OwnIB wr l1 h1 u.a (countK M15 s.kn.length) := by have := o1; simp only [Stn.markAt] at this; rw [e15] at this; exact this
      have o2' : OwnIB wr l2 h2 u.b (countK (M15 + (s.kn.length : Int)) s.ws.length) := by have := o2; simp only [Stn.markAt] at this; rw [e15] at this; exact this
      have o3' : OwnGB wr l3 h3 u.c (markG (M15 + (s.kn.length : Int) + (s.ws.length : Int)) s.gs) := by have := o3; simp only [Stn.markAt] at this; rw [e15] at this; exact this
      obtain ⟨mk, emk⟩ : ∃ m : Nat, M15 + (s.kn.length : Int) + (s.ws.length : Int) + ((s.gs.length : Int) + (wsum s.gs : Int)) = (m : Int) := ⟨(M15 + (s.kn.length : Int) + (s.ws.length : Int) + ((s.gs.length : Int) + (wsum s.gs : Int))).toNat, by omega⟩
      have o4' : OwnTB wr l4 h4 u.d (marksK mk s.os.length) := by
        have := o4
        simp only [Stn.markAt] at this
        rw [e15, emk, Int.toNat_natCast] at this
        exact this
      have K1 : Hid (∀ W, Below wr.heap.size wr W → Calls Try.prog 105 #[u.a, .int .i64 M15] W fun e w' => e = .returned (.int .i64 (M15 + (s.kn.length : Int))) ∧ Below W.heap.size W w') := fun W hW => heldInt64S_from M15 (by omega) l1 u.a s.kn.length W (by omega) (OwnI.below o1'.1 hW)
      have K2 : Hid (∀ W, Below wr.heap.size wr W → Calls Try.prog 105 #[u.b, .int .i64 (M15 + (s.kn.length : Int))] W fun e w' => e = .returned (.int .i64 (M15 + (s.kn.length : Int) + (s.ws.length : Int))) ∧ Below W.heap.size W w') := fun W hW => heldInt64S_from (M15 + (s.kn.length : Int)) (by omega) l2 u.b s.ws.length W (by omega) (OwnI.below o2'.1 hW)
      have K3 : Hid (∀ W, Below wr.heap.size wr W → Calls Try.prog 106 #[u.c, .int .i64 (M15 + (s.kn.length : Int) + (s.ws.length : Int))] W fun e w' => e = .returned (.int .i64 (M15 + (s.kn.length : Int) + (s.ws.length : Int) + ((s.gs.length : Int) + (wsum s.gs : Int)))) ∧ Below W.heap.size W w') := fun W hW => heldGlobS_any (M15 + (s.kn.length : Int) + (s.ws.length : Int)) (by omega) l3 u.c s.gs W n3 (OwnG.below o3'.g hW)
      have K4 : Hid (∀ W, Below wr.heap.size wr W → Calls Try.prog 47 #[u.d, .int .i64 (M15 + (s.kn.length : Int) + (s.ws.length : Int) + ((s.gs.length : Int) + (wsum s.gs : Int)))] W fun e w' => e = .returned (.int .i64 (M15 + (s.kn.length : Int) + (s.ws.length : Int) + ((s.gs.length : Int) + (wsum s.gs : Int)) + (s.os.length : Int))) ∧ Below W.heap.size W w') := fun W hW => by
        rw [emk]
        exact heldStringS_from mk (by omega) l4 u.d s.os.length W n4 (OwnT4.below o4'.1 hW)
      have EF : Hid (M15 + (s.kn.length : Int) + (s.ws.length : Int) + ((s.gs.length : Int) + (wsum s.gs : Int)) + (s.os.length : Int) = M + 15 + s.cnt) := (by have := E15.out; omega : _ = _)
      have z1 : ¬ M15 + (s.kn.length : Int) < 0 := by omega
      have z2 : ¬ M15 + (s.kn.length : Int) + (s.ws.length : Int) < 0 := by omega
      have z3 : ¬ M15 + (s.kn.length : Int) + (s.ws.length : Int) + ((s.gs.length : Int) + (wsum s.gs : Int)) < 0 := by omega
      have z4 : ¬ M15 + (s.kn.length : Int) + (s.ws.length : Int) + ((s.gs.length : Int) + (wsum s.gs : Int)) + (s.os.length : Int) < 0 := by omega
      have r15 : ∀ W, Below wr.heap.size wr W → W.cell? ⟨g, j * 19 + 15, none⟩ = some u.a := fun W hW => (hW.cell (p := ⟨g, j * 19 + 15, none⟩) (by have := hbel.size; simp only; omega)).trans (HRR.out 15 _ rfl)
      have r16 : Hid (∀ W, Below wr.heap.size wr W → W.cell? ⟨g, j * 19 + 16, none⟩ = some u.b) := fun W hW => (hW.cell (p := ⟨g, j * 19 + 16, none⟩) (by have := hbel.size; simp only; omega)).trans (HRR.out 16 _ rfl)
      have r17 : Hid (∀ W, Below wr.heap.size wr W → W.cell? ⟨g, j * 19 + 17, none⟩ = some u.c) := fun W hW => (hW.cell (p := ⟨g, j * 19 + 17, none⟩) (by have := hbel.size; simp only; omega)).trans (HRR.out 17 _ rfl)
      have r18 : Hid (∀ W, Below wr.heap.size wr W → W.cell? ⟨g, j * 19 + 18, none⟩ = some u.d) := fun W hW => (hW.cell (p := ⟨g, j * 19 + 18, none⟩) (by have := hbel.size; simp only; omega)).trans (HRR.out 18 _ rfl)
      have d15 := r15 wr (Below.refl _ _)
      have HF0 : Hid (1 ≤ M + 15 + s.cnt) := (by omega : _ ≤ _)
      clear o1 o2 o3 o4 o1' o2' o3' o4' emk ec e15 htot hc0 r15 HRR HOO
      generalize M15 + (s.kn.length : Int) + (s.ws.length : Int) + ((s.gs.length : Int) + (wsum s.gs : Int)) + (s.os.length : Int) = ME at K4 EF z4
      generalize M15 + (s.kn.length : Int) + (s.ws.length : Int) + ((s.gs.length : Int) + (wsum s.gs : Int)) = MD at K3 K4 z3
      generalize M15 + (s.kn.length : Int) + (s.ws.length : Int) = MC at K2 K3 z2
      generalize M15 + (s.kn.length : Int) = MB at K1 K2 z1
      have EG : Hid (ME = k + msum (ss.take (j + 1))) := (EF.out.trans HM2.out : _ = _)
      go_upto_region 52 with (go_at_call 105; refine (K1.out _ (Below.refl _ _)).mono ?_; rintro e w1 ⟨rfl, b1⟩)
      have d16 := r16.out w1 b1
      clear d15
      go_upto_region 55 with (go_at_call 105; refine (K2.out _ b1).mono ?_; rintro e w2 ⟨rfl, b2⟩)
      have c2 := keepB b1 (Nat.le_refl _) b2
      have d17 := r17.out w2 c2
      clear d16
      go_upto_region 58 with (go_at_call 106; refine (K3.out _ c2).mono ?_; rintro e w3 ⟨rfl, b3⟩)
      have c3 := keepB c2 (Nat.le_refl _) b3
      have d18 := r18.out w3 c3
      clear d17
      go_wp2_with (go_at_call 47; refine (K4.out _ c3).mono ?_; rintro e w4 ⟨rfl, b4⟩)
      go_roundw
      case rel => exact ⟨j + 1, ME, by omega, by go_num, by go_num, EG.out, keepB hbel (Nat.le_refl _) (keepB c3 (Nat.le_refl _) b4)⟩
      case measure => simp [intOf]; omega
    · obtain rfl : j = ss.length := by omega
      have e1 := HM.out
      rw [List.take_length] at e1
      have E2 : Hid (k + msum ss = M) := (by omega : _ = _)
      clear e1
      go_wp2
      go_ret
      exact ⟨by rw [E2.out]; rfl, hbel⟩
end Go.Proofs.Ytklpaleghanhhaa
