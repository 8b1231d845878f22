/- STATIONS MARKED: what they hold then. Written by mksegq.py. -/
import Derived.Test.YtklpaleghanhhaaQdSegN
import Derived.Test.YtklpaleghanhhaaQdNewS
namespace Go.Proofs.Ytklpaleghanhhaa
open Go.RowKit
set_option linter.unusedVariables false
set_option linter.unusedSimpArgs false

/-- a station of a row, marked from a number on -/
def Stn.markAt (k : Int) (s : Stn) : Stn := ⟨k, k + 1, k + 2, ⟨k + 3, k + 4, k + 5, k + 6⟩, ⟨k + 7, k + 8, k + 9, k + 10⟩, k + 11, k + 12, k + 13, k + 14, countK (k + 15) s.kn.length, countK (k + 15 + (s.kn.length : Int)) s.ws.length, markG (k + 15 + (s.kn.length : Int) + (s.ws.length : Int)) s.gs, marksK (k + 15 + (s.kn.length : Int) + (s.ws.length : Int) + ((s.gs.length : Int) + (wsum s.gs : Int))).toNat s.os.length⟩
def markStL (k : Int) (ss : List Stn) : List Stn := (List.range ss.length).map fun i => (ss.getD i (newS 0 0)).markAt (k + msum (ss.take i))
theorem markStL_len (k : Int) (ss : List Stn) : (markStL k ss).length = ss.length := by simp [markStL]
theorem markStL_at (k : Int) (ss : List Stn) (i : Nat) (h : i < ss.length) (h' : i < (markStL k ss).length) : (markStL k ss)[i] = ss[i].markAt (k + msum (ss.take i)) := by
  simp only [markStL, List.getElem_map, List.getElem_range]
  rw [getD_at _ _ h]
/-- the stations up to a place, marked -/
def DoneSt (w : World) (g : Nat) (ss : List Stn) (ls : List (Vs × Nat × Nat)) (k : Int) (j : Nat) : Prop :=
  ∀ i (h : i < ss.length) (h' : i < ls.length), i < j → w.rangeAt g (i * 19) (stC (ss[i].markAt (k + msum (ss.take i))) ls[i].1) ∧ OwnStnB w ls[i].2.1 ls[i].2.2 ls[i].1.a ls[i].1.b ls[i].1.c ls[i].1.d (ss[i].markAt (k + msum (ss.take i)))
theorem DoneSt.set {w : World} {g : Nat} {ss : List Stn} {ls : List (Vs × Nat × Nat)} {k : Int} {j f : Nat} (h : DoneSt w g ss ls k j) (hd : ∀ k (h : k < ls.length), g < ls[k].2.1 ∨ ls[k].2.2 ≤ g) (x : Value) :
    DoneSt (w.setCell ⟨g, j * 19 + f, none⟩ x) g ss ls k j := by
  intro i a b hij
  obtain ⟨r, o⟩ := h i a b hij
  have hm := mul_step (m := 19) hij
  refine ⟨?_, o.same (Same.far (by simp only; have := hd i b; omega) x) (by simp [World.setCell])⟩
  exact World.rangeAt_setCells_apart r g (j * 19 + f) [x] (.inr (.inl (by rw [stC_len]; omega)))
theorem DoneSt.only {w w' : World} {g a b : Nat} {ss : List Stn} {ls : List (Vs × Nat × Nat)} {k : Int} {j : Nat} (h : DoneSt w g ss ls k j) (y : Only w w' a b) (hg : g < a ∨ b ≤ g) (hgl : g < w.heap.size) (hd : ∀ k (h : k < ls.length), k < j → b ≤ ls[k].2.1 ∨ ls[k].2.2 ≤ a) : DoneSt w' g ss ls k j := by
  intro i p q hij
  obtain ⟨r, o⟩ := h i p q hij
  have e := y.block g hgl hg
  refine ⟨fun n v hv => ?_, o.same (y.same (by have := hd i q hij; omega) o.le) y.size⟩
  have := r n v hv
  unfold World.cell? at this ⊢
  rw [e]
  exact this
/-- a station that is being marked, its first numbers stored -/
structure MidN (w W : World) (lo hi g n j : Nat) (ss : List Stn) (ls : List (Vs × Nat × Nat)) (u : Vs) (s : Stn) (lj hj : Nat) (k M : Int) (c : Nat) : Prop where
  mid : MidM w W lo hi g n j ss ls u s lj hj
  done : DoneSt W g ss ls k j
  vals : ∀ f, f < c → W.cell? ⟨g, j * 19 + f, none⟩ = some (.int .i64 (M + (f : Int)))
theorem MidN.set {w W : World} {lo hi g n j : Nat} {ss : List Stn} {ls : List (Vs × Nat × Nat)} {u : Vs} {s : Stn} {lj hj : Nat} {k M : Int} {c : Nat} (h : MidN w W lo hi g n j ss ls u s lj hj k M c) (hd : ∀ k (h : k < ls.length), g < ls[k].2.1 ∨ ls[k].2.2 ≤ g) (hgj : g < lj ∨ hj ≤ g) (hg1 : lo ≤ g) (hg2 : g < hi) (hc : c < 15) (x : Int) (hx : x = M + (c : Int)) :
    MidN w (W.setCell ⟨g, j * 19 + c, none⟩ (.int .i64 x)) lo hi g n j ss ls u s lj hj k M (c + 1) := by
  refine ⟨h.mid.set hd hgj hg1 hg2 c hc _, h.done.set hd _, fun f hf => ?_⟩
  by_cases hfc : f = c
  · subst hfc
    obtain ⟨v, hv, _⟩ := there_at h.mid.th (show f < 19 by omega)
    rw [World.cell?_setCell_same _ _ _ hv, hx]
  · exact (World.cell?_setCell_other _ _ _ _ (by intro e; injection e with e1 e2 e3; omega)).trans (h.vals f (by omega))
set_option maxRecDepth 100000 in
set_option maxHeartbeats 6400000 in
theorem markStationS_at (k : Int) (hk0 : 1 ≤ k ∧ k ≤ 20000000) (lo hi : Nat) (v : Value) (ss : List Stn) (w : World) (hl : (ss.length : Int) + ssum ss ≤ 1048576) (h : OwnStS w lo hi v ss) :
    Calls Try.prog 60 #[v, .int .i64 k] w fun e w' => e = .returned (.int .i64 (k + msum ss)) ∧ OwnStS w' lo hi v (markStL k ss) ∧ Only w w' lo hi := by
  have HP : Hid (0 ≤ msum ss ∧ msum ss ≤ 16000000) := (by have := msum_le ss; have := ssum_pos ss; omega : _ ∧ _)
  obtain ⟨hhi, ⟨rfl, rfl⟩ | ⟨g, c, cur, ls, rfl, hg1, hg2, hg3, hg4, hg5, hll, hsk, hsd⟩⟩ := h
  · clear HP
    go_enter Try.func60, Try.ntmps60
    go_wp2
    go_loopw [1, 5] (fun x i wr => x = .int .i64 k ∧ i = .int .i64 0 ∧ w = wr) (fun _ _ _ => 0)
    case atStart => exact ⟨rfl, rfl, rfl⟩
    case round =>
      obtain ⟨rfl, rfl, rfl⟩ := hrel
      go_wp2
      go_ret
      exact ⟨by simp [msum], ⟨hhi, .inl ⟨rfl, rfl⟩⟩, Only.refl _ _ _⟩
  have HS : Hid (RestSt w lo hi g c ss ls 0) := ⟨⟨cur, hg3, hg4⟩, fun q a b _ => ⟨(hsk q a b).1, (hsk q a b).2.2.2.1⟩⟩
  have HD : Hid (∀ q (h : q < ls.length), g < ls[q].2.1 ∨ ls[q].2.2 ≤ g) := fun q hq => (hsk q (by omega) hq).2.2.2.2
  have HB : Hid (∀ q (h : q < ls.length), lo ≤ ls[q].2.1 ∧ ls[q].2.2 ≤ hi) := fun q hq => ⟨(hsk q (by omega) hq).2.1, (hsk q (by omega) hq).2.2.1⟩
  have HX : Hid _ := hsd
  have HSD : Hid (DoneSt w g ss ls k 0) := fun i _ _ h => absurd h (by omega)
  have HLL : Hid _ := hll
  have HT : Hid (∀ s ∈ ss, s.tot ≤ 1048576) := fun s hs => by have := ssum_each hs; omega
  have hlen : ss.length ≤ 1048576 := by have := ssum_pos ss; omega
  clear hsk hsd hll hg3 hg4 hl
  go_enter Try.func60, Try.ntmps60
  go_wp2
  go_loopw [1, 5] (fun x i wr => ∃ (j : Nat) (M : Int), j ≤ ss.length ∧ i = .int .i64 j ∧ x = .int .i64 M ∧ (1 ≤ M ∧ M ≤ 36000000) ∧ Hid (M = k + msum (ss.take j)) ∧ Hid (RestSt wr lo hi g c ss ls j) ∧ Hid (DoneSt wr g ss ls k j) ∧ Hid (Only w wr lo hi)) (fun _ i _ => ss.length - (intOf i).toNat)
  case atStart => exact ⟨0, k, Nat.zero_le _, rfl, rfl, by omega, (show _ = _ by simp [msum]), HS.out, HSD.out, Only.refl _ _ _⟩
  case round =>
    obtain ⟨j, M, hj, rfl, rfl, hM, HM, HW, HDN, HO⟩ := hrel
    by_cases hlt : j < ss.length
    · have hjl : j < ls.length := by have := HLL.out; omega
      have HU : Hid (msum (ss.take (j + 1)) = msum (ss.take j) + (15 + ss[j].cnt)) := msum_take ss j hlt
      have HE : Hid _ := msum_mono ss (j + 1)
      have hMl : M + 15 + ss[j].cnt ≤ 36000000 := by have h1 := HU.out; have h2 := HE.out; have h3 := HP.out; have h4 := HM.out; omega
      have htot := HT.out ss[j] (List.getElem_mem hlt)
      have hm0 : Hid (MidN w wr lo hi g c j ss ls ls[j].1 ss[j] ls[j].2.1 ls[j].2.2 k M 0) := by
        obtain ⟨⟨cur, hgc, hsz⟩, hk⟩ := HW.out
        obtain ⟨r, o⟩ := hk j hlt hjl (Nat.le_refl _)
        have := mul_step (m := 19) (show j < c by omega)
        refine ⟨?_, HDN.out, fun f hf => absurd hf (by omega)⟩
        exact ⟨there_row hgc _ _ (by omega), r 15 _ rfl, r 16 _ rfl, r 17 _ rfl, r 18 _ rfl, o, ⟨⟨cur, hgc, hsz⟩, fun q a b hq => hk q a b (by omega)⟩, HO.out⟩
      have hdj := HD.out j hjl
      have hbj := HB.out j hjl
      have HXI : Hid (∀ q (hq : q < ls.length), q < j → ls[j].2.2 ≤ ls[q].2.1 ∨ ls[q].2.2 ≤ ls[j].2.1) := fun q hq hjq => HX.out j q hjl hq (by omega)
      have HXJ : Hid (∀ q (hq : q < ls.length), j + 1 ≤ q → ls[j].2.2 ≤ ls[q].2.1 ∨ ls[q].2.2 ≤ ls[j].2.1) := fun q hq hjq => HX.out j q hjl hq (by omega)
      have HM2 : Hid (M + 15 + ss[j].cnt = k + msum (ss.take (j + 1))) := (by have h1 := HU.out; have h4 := HM.out; omega : _ = _)
      have HFIN : Hid (∀ W : World, DoneSt W g ss ls k j → W.rangeAt g (j * 19) (stC (ss[j].markAt M) ls[j].1) → OwnStnB W ls[j].2.1 ls[j].2.2 ls[j].1.a ls[j].1.b ls[j].1.c ls[j].1.d (ss[j].markAt M) → DoneSt W g ss ls k (j + 1)) := fun W hd hr ho i p q hij => by
        by_cases hij2 : i < j
        · exact hd i p q hij2
        · obtain rfl : i = j := by omega
          rw [← HM.out]
          exact ⟨hr, ho⟩
      clear HU HE HW HO HM HDN
      generalize ls[j].1 = u at hm0 HFIN
      generalize ls[j].2.1 = lj at hm0 hdj hbj HXJ HXI HFIN
      generalize ls[j].2.2 = hj2 at hm0 hdj hbj HXJ HXI HFIN
      generalize ss[j] = s at hm0 hMl htot HM2 HFIN
      have hc0 := cnt_pos s
      have hM0 : 1 ≤ M ∧ M + 15 + s.cnt ≤ 36000000 := ⟨hM.1, hMl⟩
      have HF0 : Hid (1 ≤ M + 15 + s.cnt ∧ M + 15 + s.cnt ≤ 36000000) := (by omega : _ ∧ _)
      clear hM hMl
      obtain ⟨v0, y0, z0⟩ := there_at (f := 0) hm0.out.mid.th (by omega)
      rw [Nat.add_zero] at y0 z0
      go_upto_region 6 with fail
      have hm1 : Hid (MidN w (wr.setCell ⟨g, j * 19, none⟩ (.int .i64 M)) lo hi g c j ss ls u s lj hj2 k M 1) := hm0.out.set HD.out hdj hg1 hg2 (by omega) M (by simp)
      clear hm0 y0 z0
      generalize wr.setCell ⟨g, j * 19, none⟩ (.int .i64 M) = W1 at hm1 ⊢
      obtain ⟨M1, e0⟩ : ∃ x, M + 1 = x := ⟨_, rfl⟩
      rw [e0]
      have hM1 : 1 ≤ M1 ∧ M1 + 14 + s.cnt ≤ 36000000 := by omega
      have E1 : Hid (M1 = M + 1) := (by omega : _ = _)
      clear e0 hM0
      obtain ⟨v1, y1, z1⟩ := there_at (f := 1) hm1.out.mid.th (by omega)
      go_upto_region 8 with fail
      have hm2 : Hid (MidN w (W1.setCell ⟨g, j * 19 + 1, none⟩ (.int .i64 M1)) lo hi g c j ss ls u s lj hj2 k M 2) := hm1.out.set HD.out hdj hg1 hg2 (by omega) M1 (by have := E1.out; push_cast; omega)
      clear hm1 y1 z1
      generalize W1.setCell ⟨g, j * 19 + 1, none⟩ (.int .i64 M1) = W2 at hm2 ⊢
      obtain ⟨M2, e1⟩ : ∃ x, M1 + 1 = x := ⟨_, rfl⟩
      rw [e1]
      have hM2 : 1 ≤ M2 ∧ M2 + 13 + s.cnt ≤ 36000000 := by omega
      have E2 : Hid (M2 = M + 2) := (by have := E1.out; omega : _ = _)
      clear e1 hM1
      clear E1
      obtain ⟨v2, y2, z2⟩ := there_at (f := 2) hm2.out.mid.th (by omega)
      go_upto_region 10 with fail
      have hm3 : Hid (MidN w (W2.setCell ⟨g, j * 19 + 2, none⟩ (.int .i64 M2)) lo hi g c j ss ls u s lj hj2 k M 3) := hm2.out.set HD.out hdj hg1 hg2 (by omega) M2 (by have := E2.out; push_cast; omega)
      clear hm2 y2 z2
      generalize W2.setCell ⟨g, j * 19 + 2, none⟩ (.int .i64 M2) = W3 at hm3 ⊢
      obtain ⟨M3, e2⟩ : ∃ x, M2 + 1 = x := ⟨_, rfl⟩
      rw [e2]
      have hM3 : 1 ≤ M3 ∧ M3 + 12 + s.cnt ≤ 36000000 := by omega
      have E3 : Hid (M3 = M + 3) := (by have := E2.out; omega : _ = _)
      clear e2 hM2
      clear E2
      obtain ⟨v3, y3, z3⟩ := there_at (f := 3) hm3.out.mid.th (by omega)
      go_upto_region 12 with fail
      have hm4 : Hid (MidN w (W3.setCell ⟨g, j * 19 + 3, none⟩ (.int .i64 M3)) lo hi g c j ss ls u s lj hj2 k M 4) := hm3.out.set HD.out hdj hg1 hg2 (by omega) M3 (by have := E3.out; push_cast; omega)
      clear hm3 y3 z3
      generalize W3.setCell ⟨g, j * 19 + 3, none⟩ (.int .i64 M3) = W4 at hm4 ⊢
      obtain ⟨M4, e3⟩ : ∃ x, M3 + 1 = x := ⟨_, rfl⟩
      rw [e3]
      have hM4 : 1 ≤ M4 ∧ M4 + 11 + s.cnt ≤ 36000000 := by omega
      have E4 : Hid (M4 = M + 4) := (by have := E3.out; omega : _ = _)
      clear e3 hM3
      clear E3
      obtain ⟨v4, y4, z4⟩ := there_at (f := 4) hm4.out.mid.th (by omega)
      go_upto_region 14 with fail
      have hm5 : Hid (MidN w (W4.setCell ⟨g, j * 19 + 3 + 1, none⟩ (.int .i64 M4)) lo hi g c j ss ls u s lj hj2 k M 5) := hm4.out.set HD.out hdj hg1 hg2 (by omega) M4 (by have := E4.out; push_cast; omega)
      clear hm4 y4 z4
      generalize W4.setCell ⟨g, j * 19 + 3 + 1, none⟩ (.int .i64 M4) = W5 at hm5 ⊢
      obtain ⟨M5, e4⟩ : ∃ x, M4 + 1 = x := ⟨_, rfl⟩
      rw [e4]
      have hM5 : 1 ≤ M5 ∧ M5 + 10 + s.cnt ≤ 36000000 := by omega
      have E5 : Hid (M5 = M + 5) := (by have := E4.out; omega : _ = _)
      clear e4 hM4
      clear E4
      obtain ⟨v5, y5, z5⟩ := there_at (f := 5) hm5.out.mid.th (by omega)
      go_upto_region 16 with fail
      have hm6 : Hid (MidN w (W5.setCell ⟨g, j * 19 + 3 + 2, none⟩ (.int .i64 M5)) lo hi g c j ss ls u s lj hj2 k M 6) := hm5.out.set HD.out hdj hg1 hg2 (by omega) M5 (by have := E5.out; push_cast; omega)
      clear hm5 y5 z5
      generalize W5.setCell ⟨g, j * 19 + 3 + 2, none⟩ (.int .i64 M5) = W6 at hm6 ⊢
      obtain ⟨M6, e5⟩ : ∃ x, M5 + 1 = x := ⟨_, rfl⟩
      rw [e5]
      have hM6 : 1 ≤ M6 ∧ M6 + 9 + s.cnt ≤ 36000000 := by omega
      have E6 : Hid (M6 = M + 6) := (by have := E5.out; omega : _ = _)
      clear e5 hM5
      clear E5
      obtain ⟨v6, y6, z6⟩ := there_at (f := 6) hm6.out.mid.th (by omega)
      go_upto_region 18 with fail
      have hm7 : Hid (MidN w (W6.setCell ⟨g, j * 19 + 3 + 3, none⟩ (.int .i64 M6)) lo hi g c j ss ls u s lj hj2 k M 7) := hm6.out.set HD.out hdj hg1 hg2 (by omega) M6 (by have := E6.out; push_cast; omega)
      clear hm6 y6 z6
      generalize W6.setCell ⟨g, j * 19 + 3 + 3, none⟩ (.int .i64 M6) = W7 at hm7 ⊢
      obtain ⟨M7, e6⟩ : ∃ x, M6 + 1 = x := ⟨_, rfl⟩
      rw [e6]
      have hM7 : 1 ≤ M7 ∧ M7 + 8 + s.cnt ≤ 36000000 := by omega
      have E7 : Hid (M7 = M + 7) := (by have := E6.out; omega : _ = _)
      clear e6 hM6
      clear E6
      obtain ⟨v7, y7, z7⟩ := there_at (f := 7) hm7.out.mid.th (by omega)
      go_upto_region 20 with fail
      have hm8 : Hid (MidN w (W7.setCell ⟨g, j * 19 + 7, none⟩ (.int .i64 M7)) lo hi g c j ss ls u s lj hj2 k M 8) := hm7.out.set HD.out hdj hg1 hg2 (by omega) M7 (by have := E7.out; push_cast; omega)
      clear hm7 y7 z7
      generalize W7.setCell ⟨g, j * 19 + 7, none⟩ (.int .i64 M7) = W8 at hm8 ⊢
      obtain ⟨M8, e7⟩ : ∃ x, M7 + 1 = x := ⟨_, rfl⟩
      rw [e7]
      have hM8 : 1 ≤ M8 ∧ M8 + 7 + s.cnt ≤ 36000000 := by omega
      have E8 : Hid (M8 = M + 8) := (by have := E7.out; omega : _ = _)
      clear e7 hM7
      clear E7
      obtain ⟨v8, y8, z8⟩ := there_at (f := 8) hm8.out.mid.th (by omega)
      go_upto_region 22 with fail
      have hm9 : Hid (MidN w (W8.setCell ⟨g, j * 19 + 7 + 1, none⟩ (.int .i64 M8)) lo hi g c j ss ls u s lj hj2 k M 9) := hm8.out.set HD.out hdj hg1 hg2 (by omega) M8 (by have := E8.out; push_cast; omega)
      clear hm8 y8 z8
      generalize W8.setCell ⟨g, j * 19 + 7 + 1, none⟩ (.int .i64 M8) = W9 at hm9 ⊢
      obtain ⟨M9, e8⟩ : ∃ x, M8 + 1 = x := ⟨_, rfl⟩
      rw [e8]
      have hM9 : 1 ≤ M9 ∧ M9 + 6 + s.cnt ≤ 36000000 := by omega
      have E9 : Hid (M9 = M + 9) := (by have := E8.out; omega : _ = _)
      clear e8 hM8
      clear E8
      obtain ⟨v9, y9, z9⟩ := there_at (f := 9) hm9.out.mid.th (by omega)
      go_upto_region 24 with fail
      have hm10 : Hid (MidN w (W9.setCell ⟨g, j * 19 + 7 + 2, none⟩ (.int .i64 M9)) lo hi g c j ss ls u s lj hj2 k M 10) := hm9.out.set HD.out hdj hg1 hg2 (by omega) M9 (by have := E9.out; push_cast; omega)
      clear hm9 y9 z9
      generalize W9.setCell ⟨g, j * 19 + 7 + 2, none⟩ (.int .i64 M9) = W10 at hm10 ⊢
      obtain ⟨M10, e9⟩ : ∃ x, M9 + 1 = x := ⟨_, rfl⟩
      rw [e9]
      have hM10 : 1 ≤ M10 ∧ M10 + 5 + s.cnt ≤ 36000000 := by omega
      have E10 : Hid (M10 = M + 10) := (by have := E9.out; omega : _ = _)
      clear e9 hM9
      clear E9
      obtain ⟨v10, y10, z10⟩ := there_at (f := 10) hm10.out.mid.th (by omega)
      go_upto_region 26 with fail
      have hm11 : Hid (MidN w (W10.setCell ⟨g, j * 19 + 7 + 3, none⟩ (.int .i64 M10)) lo hi g c j ss ls u s lj hj2 k M 11) := hm10.out.set HD.out hdj hg1 hg2 (by omega) M10 (by have := E10.out; push_cast; omega)
      clear hm10 y10 z10
      generalize W10.setCell ⟨g, j * 19 + 7 + 3, none⟩ (.int .i64 M10) = W11 at hm11 ⊢
      obtain ⟨M11, e10⟩ : ∃ x, M10 + 1 = x := ⟨_, rfl⟩
      rw [e10]
      have hM11 : 1 ≤ M11 ∧ M11 + 4 + s.cnt ≤ 36000000 := by omega
      have E11 : Hid (M11 = M + 11) := (by have := E10.out; omega : _ = _)
      clear e10 hM10
      clear E10
      obtain ⟨v11, y11, z11⟩ := there_at (f := 11) hm11.out.mid.th (by omega)
      go_upto_region 28 with fail
      have hm12 : Hid (MidN w (W11.setCell ⟨g, j * 19 + 11, none⟩ (.int .i64 M11)) lo hi g c j ss ls u s lj hj2 k M 12) := hm11.out.set HD.out hdj hg1 hg2 (by omega) M11 (by have := E11.out; push_cast; omega)
      clear hm11 y11 z11
      generalize W11.setCell ⟨g, j * 19 + 11, none⟩ (.int .i64 M11) = W12 at hm12 ⊢
      obtain ⟨M12, e11⟩ : ∃ x, M11 + 1 = x := ⟨_, rfl⟩
      rw [e11]
      have hM12 : 1 ≤ M12 ∧ M12 + 3 + s.cnt ≤ 36000000 := by omega
      have E12 : Hid (M12 = M + 12) := (by have := E11.out; omega : _ = _)
      clear e11 hM11
      clear E11
      obtain ⟨v12, y12, z12⟩ := there_at (f := 12) hm12.out.mid.th (by omega)
      go_upto_region 30 with fail
      have hm13 : Hid (MidN w (W12.setCell ⟨g, j * 19 + 12, none⟩ (.int .i64 M12)) lo hi g c j ss ls u s lj hj2 k M 13) := hm12.out.set HD.out hdj hg1 hg2 (by omega) M12 (by have := E12.out; push_cast; omega)
      clear hm12 y12 z12
      generalize W12.setCell ⟨g, j * 19 + 12, none⟩ (.int .i64 M12) = W13 at hm13 ⊢
      obtain ⟨M13, e12⟩ : ∃ x, M12 + 1 = x := ⟨_, rfl⟩
      rw [e12]
      have hM13 : 1 ≤ M13 ∧ M13 + 2 + s.cnt ≤ 36000000 := by omega
      have E13 : Hid (M13 = M + 13) := (by have := E12.out; omega : _ = _)
      clear e12 hM12
      clear E12
      obtain ⟨v13, y13, z13⟩ := there_at (f := 13) hm13.out.mid.th (by omega)
      go_upto_region 32 with fail
      have hm14 : Hid (MidN w (W13.setCell ⟨g, j * 19 + 13, none⟩ (.int .i64 M13)) lo hi g c j ss ls u s lj hj2 k M 14) := hm13.out.set HD.out hdj hg1 hg2 (by omega) M13 (by have := E13.out; push_cast; omega)
      clear hm13 y13 z13
      generalize W13.setCell ⟨g, j * 19 + 13, none⟩ (.int .i64 M13) = W14 at hm14 ⊢
      obtain ⟨M14, e13⟩ : ∃ x, M13 + 1 = x := ⟨_, rfl⟩
      rw [e13]
      have hM14 : 1 ≤ M14 ∧ M14 + 1 + s.cnt ≤ 36000000 := by omega
      have E14 : Hid (M14 = M + 14) := (by have := E13.out; omega : _ = _)
      clear e13 hM13
      clear E13
      obtain ⟨v14, y14, z14⟩ := there_at (f := 14) hm14.out.mid.th (by omega)
      go_upto_region 34 with fail
      have hm15 : Hid (MidN w (W14.setCell ⟨g, j * 19 + 14, none⟩ (.int .i64 M14)) lo hi g c j ss ls u s lj hj2 k M 15) := hm14.out.set HD.out hdj hg1 hg2 (by omega) M14 (by have := E14.out; push_cast; omega)
      clear hm14 y14 z14
      generalize W14.setCell ⟨g, j * 19 + 14, none⟩ (.int .i64 M14) = W15 at hm15 ⊢
      obtain ⟨M15, e14⟩ : ∃ x, M14 + 1 = x := ⟨_, rfl⟩
      rw [e14]
      have hM15 : 1 ≤ M15 ∧ M15 + 0 + s.cnt ≤ 36000000 := by omega
      have E15 : Hid (M15 = M + 15) := (by have := E14.out; omega : _ = _)
      clear e14 hM14
      clear E14
      obtain ⟨⟨hth, c15, c16, c17, c18, hown, hrest, honly⟩, hdone, hvals⟩ := hm15.out
      have HDD : Hid _ := hdone
      have HVV : Hid _ := hvals
      clear hdone hvals
      obtain ⟨l1, h1, l2, h2, l3, h3, l4, h4, ⟨a1, a2, a3, a4⟩, ⟨t1, t2, t3, t4⟩, o1, o2, o3, o4, e12, e13, e14, e23, e24, e34⟩ := hown.all
      have hle := hown.le
      have HR15 : Hid _ := hrest
      have HO15 : Hid _ := honly
      have P2 : Hid (OwnIB _ _ _ _ _) := o2
      have P3 : Hid (OwnGB _ _ _ _ _) := o3
      have P4 : Hid (OwnTB _ _ _ _ _) := o4
      have n1 : s.kn.length ≤ 1048576 := by unfold Stn.tot at htot; omega
      have n2 : s.ws.length ≤ 1048576 := by unfold Stn.tot at htot; omega
      have n3 : (s.gs.length : Int) + (wsum s.gs : Int) ≤ 1048576 := by unfold Stn.tot at htot; omega
      have n4 : s.os.length ≤ 1048576 := by unfold Stn.tot at htot; omega
      have ec : s.cnt = (s.kn.length : Int) + (s.ws.length : Int) + ((s.gs.length : Int) + (wsum s.gs : Int)) + (s.os.length : Int) := rfl
      have K1 : Hid (Calls Try.prog 103 #[u.a, .int .i64 M15] W15 fun e w' => e = .returned (.int .i64 (M15 + (s.kn.length : Int))) ∧ OwnIB w' l1 h1 u.a (countK M15 s.kn.length) ∧ Only W15 w' l1 h1) := markInts_big M15 (by omega) l1 h1 u.a s.kn W15 (by omega) o1
      have K2 : Hid (∀ W, OwnIB W l2 h2 u.b s.ws → Calls Try.prog 103 #[u.b, .int .i64 (M15 + (s.kn.length : Int))] W fun e w' => e = .returned (.int .i64 (M15 + (s.kn.length : Int) + (s.ws.length : Int))) ∧ OwnIB w' l2 h2 u.b (countK (M15 + (s.kn.length : Int)) s.ws.length) ∧ Only W w' l2 h2) := fun W o => markInts_big (M15 + (s.kn.length : Int)) (by omega) l2 h2 u.b s.ws W (by omega) o
      have K3 : Hid (∀ W, OwnGB W l3 h3 u.c s.gs → Calls Try.prog 104 #[u.c, .int .i64 (M15 + (s.kn.length : Int) + (s.ws.length : Int))] W fun e w' => e = .returned (.int .i64 (M15 + (s.kn.length : Int) + (s.ws.length : Int) + ((s.gs.length : Int) + (wsum s.gs : Int)))) ∧ OwnGB w' l3 h3 u.c (markG (M15 + (s.kn.length : Int) + (s.ws.length : Int)) s.gs) ∧ Only W w' l3 h3) := fun W o => markGlobS_big (M15 + (s.kn.length : Int) + (s.ws.length : Int)) (by omega) l3 h3 u.c s.gs W n3 o
      obtain ⟨mk, emk⟩ : ∃ m : Nat, M15 + (s.kn.length : Int) + (s.ws.length : Int) + ((s.gs.length : Int) + (wsum s.gs : Int)) = (m : Int) := ⟨(M15 + (s.kn.length : Int) + (s.ws.length : Int) + ((s.gs.length : Int) + (wsum s.gs : Int))).toNat, by omega⟩
      have K4 : Hid (∀ W, OwnTB W l4 h4 u.d s.os → Calls Try.prog 45 #[u.d, .int .i64 (M15 + (s.kn.length : Int) + (s.ws.length : Int) + ((s.gs.length : Int) + (wsum s.gs : Int)))] W fun e w' => e = .returned (.int .i64 (M15 + (s.kn.length : Int) + (s.ws.length : Int) + ((s.gs.length : Int) + (wsum s.gs : Int)) + (s.os.length : Int))) ∧ OwnTB w' l4 h4 u.d (marksK mk s.os.length) ∧ Only W w' l4 h4) := fun W o => by
        rw [emk]
        exact markStringS_big mk (by omega) l4 h4 u.d s.os W n4 o
      have EF : Hid (M15 + (s.kn.length : Int) + (s.ws.length : Int) + ((s.gs.length : Int) + (wsum s.gs : Int)) + (s.os.length : Int) = M + 15 + s.cnt) := (by have := E15.out; omega : _ = _)
      clear hth hown hrest honly o1 o2 o3 o4 ec htot hc0
      have EK : Hid (s.markAt M = { s.markAt M with kn := countK M15 s.kn.length, ws := countK (M15 + (s.kn.length : Int)) s.ws.length, gs := markG (M15 + (s.kn.length : Int) + (s.ws.length : Int)) s.gs, os := marksK mk s.os.length }) := (by
        have e := E15.out
        have e2 : mk = (M + 15 + (s.kn.length : Int) + (s.ws.length : Int) + ((s.gs.length : Int) + (wsum s.gs : Int))).toNat := by rw [← e]; omega
        rw [e2, e]
        rfl : _ = _)
      clear emk
      generalize M15 + (s.kn.length : Int) + (s.ws.length : Int) + ((s.gs.length : Int) + (wsum s.gs : Int)) + (s.os.length : Int) = ME at K4 EF
      generalize M15 + (s.kn.length : Int) + (s.ws.length : Int) + ((s.gs.length : Int) + (wsum s.gs : Int)) = MD at K3 K4
      generalize M15 + (s.kn.length : Int) + (s.ws.length : Int) = MC at K2 K3 EK
      generalize M15 + (s.kn.length : Int) = MB at K1 K2 EK
      have hgW : g < W15.heap.size := World.block_lt_of_cell? W15 _ c15
      have keep : Hid (∀ (X Y : World) (a b : Nat), Only X Y a b → lj ≤ a → b ≤ hj2 → g < X.heap.size → ∀ o, Y.cell? ⟨g, o, none⟩ = X.cell? ⟨g, o, none⟩) := fun X Y a b y h1 h2 hg o => by
        have e := y.block g hg (by omega)
        unfold World.cell?
        rw [e]
      clear hm15
      go_upto_region 35 with (go_at_call 103; refine K1.out.mono ?_; rintro e w1 ⟨rfl, m1, y1⟩; have X1 : Hid (OwnIB _ _ _ _ _) := m1; clear m1)
      have d16 := (keep.out _ _ _ _ y1 a1 t1 hgW (j * 19 + 16)).trans c16
      have d17 := (keep.out _ _ _ _ y1 a1 t1 hgW (j * 19 + 17)).trans c17
      have d18 := (keep.out _ _ _ _ y1 a1 t1 hgW (j * 19 + 18)).trans c18
      have q1 := y1.size
      have g1' : g < w1.heap.size := by omega
      have C15 : Hid _ := c15
      have C16 : Hid _ := c16
      have C17 : Hid _ := c17
      have C18 : Hid _ := c18
      clear c15 c16 c17 c18
      go_upto_region 36 with (go_at_call 103; refine (K2.out _ (P2.out.same (y1.same (by omega) (by omega)))).mono ?_; rintro e w2 ⟨rfl, m2, y2⟩; have X2 : Hid (OwnIB _ _ _ _ _) := m2; clear m2)
      have f17 := (keep.out _ _ _ _ y2 a2 t2 g1' (j * 19 + 17)).trans d17
      have f18 := (keep.out _ _ _ _ y2 a2 t2 g1' (j * 19 + 18)).trans d18
      have q2 := y2.size
      have g2' : g < w2.heap.size := by omega
      clear d16 d17 d18
      go_upto_region 37 with (go_at_call 104; refine (K3.out _ ((P3.out.same (y1.same (by omega) (by omega))).same (y2.same (by omega) (by omega)))).mono ?_; rintro e w3 ⟨rfl, m3, y3⟩; have X3 : Hid (OwnGB _ _ _ _ _) := m3; clear m3)
      have i18 := (keep.out _ _ _ _ y3 a3 t3 g2' (j * 19 + 18)).trans f18
      have q3 := y3.size
      clear f17 f18
      go_wp2_with (go_at_call 45; refine (K4.out _ (((P4.out.same (y1.same (by omega) (by omega))).same (y2.same (by omega) (by omega))).same (y3.same (by omega) (by omega)))).mono ?_; rintro e w4 ⟨rfl, m4, y4⟩; have X4 : Hid (OwnTB _ _ _ _ _) := m4; clear m4)
      have Y : Only W15 w4 lj hj2 := (((y1.mono a1 t1).trans (y2.mono a2 t2)).trans (y3.mono a3 t3)).trans (y4.mono a4 t4)
      have HRF : Hid (RestSt w4 lo hi g c ss ls (j + 1)) := RestSt.only HR15.out Y hdj (fun q hq hjq => HXJ.out q hq hjq)
      have HOF : Hid (Only w w4 lo hi) := HO15.out.trans (Y.mono hbj.1 hbj.2)
      have q4 := y4.size
      have hkk : ∀ o, w4.cell? ⟨g, o, none⟩ = W15.cell? ⟨g, o, none⟩ := fun o => keep.out _ _ _ _ Y (Nat.le_refl _) (Nat.le_refl _) hgW o
      have hrg : w4.rangeAt g (j * 19) (stC (s.markAt M) u) := fun i v hv => by
        match i, hv with
        | 0, hv => cases hv; exact (hkk _).trans (by simpa [Stn.markAt] using HVV.out 0 (by omega))
        | 1, hv => cases hv; exact (hkk _).trans (by simpa [Stn.markAt] using HVV.out 1 (by omega))
        | 2, hv => cases hv; exact (hkk _).trans (by simpa [Stn.markAt] using HVV.out 2 (by omega))
        | 3, hv => cases hv; exact (hkk _).trans (by simpa [Stn.markAt] using HVV.out 3 (by omega))
        | 4, hv => cases hv; exact (hkk _).trans (by simpa [Stn.markAt] using HVV.out 4 (by omega))
        | 5, hv => cases hv; exact (hkk _).trans (by simpa [Stn.markAt] using HVV.out 5 (by omega))
        | 6, hv => cases hv; exact (hkk _).trans (by simpa [Stn.markAt] using HVV.out 6 (by omega))
        | 7, hv => cases hv; exact (hkk _).trans (by simpa [Stn.markAt] using HVV.out 7 (by omega))
        | 8, hv => cases hv; exact (hkk _).trans (by simpa [Stn.markAt] using HVV.out 8 (by omega))
        | 9, hv => cases hv; exact (hkk _).trans (by simpa [Stn.markAt] using HVV.out 9 (by omega))
        | 10, hv => cases hv; exact (hkk _).trans (by simpa [Stn.markAt] using HVV.out 10 (by omega))
        | 11, hv => cases hv; exact (hkk _).trans (by simpa [Stn.markAt] using HVV.out 11 (by omega))
        | 12, hv => cases hv; exact (hkk _).trans (by simpa [Stn.markAt] using HVV.out 12 (by omega))
        | 13, hv => cases hv; exact (hkk _).trans (by simpa [Stn.markAt] using HVV.out 13 (by omega))
        | 14, hv => cases hv; exact (hkk _).trans (by simpa [Stn.markAt] using HVV.out 14 (by omega))
        | 15, hv => cases hv; exact (hkk _).trans C15.out
        | 16, hv => cases hv; exact (hkk _).trans C16.out
        | 17, hv => cases hv; exact (hkk _).trans C17.out
        | 18, hv => cases hv; exact (hkk _).trans C18.out
        | n + 19, hv => simp [stC] at hv
      have hon : OwnStnB w4 lj hj2 u.a u.b u.c u.d (s.markAt M) := by
        rw [EK.out]
        exact ⟨by omega, l1, h1, l2, h2, l3, h3, l4, h4, ⟨a1, a2, a3, a4⟩, ⟨t1, t2, t3, t4⟩, ((X1.out.same (y2.same (by omega) (by omega))).same (y3.same (by omega) (by omega))).same (y4.same (by omega) (by omega)), (X2.out.same (y3.same (by omega) (by omega))).same (y4.same (by omega) (by omega)), X3.out.same (y4.same (by omega) (by omega)), X4.out, e12, e13, e14, e23, e24, e34⟩
      have HDF : Hid (DoneSt w4 g ss ls k (j + 1)) := HFIN.out w4 (DoneSt.only HDD.out Y hdj hgW (fun q hq hjq => HXI.out q hq hjq)) hrg hon
      clear hrg hon hkk
      have EG : Hid (ME = k + msum (ss.take (j + 1))) := (EF.out.trans HM2.out : _ = _)
      have hME : 1 ≤ ME ∧ ME ≤ 36000000 := by have := EF.out; have := HF0.out; omega
      go_roundw
      case rel => exact ⟨j + 1, ME, by omega, by go_num, by go_num, hME, EG.out, HRF.out, HDF.out, HOF.out⟩
      case measure => simp [intOf]; omega
    · obtain rfl : j = ss.length := by omega
      have e1 := HM.out
      rw [List.take_length] at e1
      have E2 : Hid (k + msum ss = M) := (by omega : _ = _)
      clear e1
      go_wp2
      go_ret
      refine ⟨by rw [E2.out]; rfl, ?_, HO.out⟩
      · obtain ⟨⟨cur, hgc, hsz⟩, _⟩ := HW.out
        have hz := HO.out.size
        refine ⟨by omega, .inr ⟨g, c, cur, ls, by rw [markStL_len], hg1, hg2, hgc, hsz, by rw [markStL_len]; exact hg5, by rw [markStL_len]; exact HLL.out, fun q p1 p2 => ?_, HX.out⟩⟩
        rw [markStL_len] at p1
        have hb := HB.out q p2
        obtain ⟨r, o⟩ := HDN.out q p1 p2 p1
        rw [markStL_at k ss q p1]
        exact ⟨r, hb.1, hb.2, o, HD.out q p2⟩
end Go.Proofs.Ytklpaleghanhhaa
