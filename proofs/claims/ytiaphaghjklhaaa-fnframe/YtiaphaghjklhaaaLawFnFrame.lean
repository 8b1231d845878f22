/- FnFrame: at every code: a drawn body comes back from its frame, and is heard by a wire that heard whatever else ahead; what comes in two parts is heard as what comes at once; no condition. -/
import Derived.Test.YtiaphaghjklhaaaRows
import Derived.Test.YtiaphaghjklhaaaFrameA
import Derived.Test.YtiaphaghjklhaaaBox
import Derived.WalkKit
import Derived.WalkSpells
import Derived.ProofKit
import Derived.OpenShut
import Derived.ShutString
import Derived.ChangeOld
import Derived.Below
import Derived.Outline
import Derived.Deep.RegionHeld3
import Derived.Deep.RegionWith
import Derived.Deep.DeepCutAuto
import Derived.Deep.RegionLaw
namespace Go.Proofs.Ytiaphaghjklhaaa.fnFrame
open Go.ChangeShapes Go.WideShapes Go.ChangeAt Go.RowKit
open Go.ChangeMaps (open_string shut_string)
set_option linter.unusedVariables false

theorem own : ownKnob Try.prog.godebug = none := by kernel_rfl
theorem laidOut : laidOutB Try.prog = true := by kernel_rfl

set_option maxRecDepth 100000 in
set_option maxHeartbeats 25600000 in
/-- The walk: the law returns true, and nothing that was there has turned. -/
theorem walk (a0 : Option Addr) (len0 cap0 : Nat) (z0 : List Int) (a1 : Option Addr) (len1 cap1 : Nat) (z1 : List Int) (w : World) (w0 : IsRow .u8 w a0 len0 cap0 z0) (w1 : IsRow .u8 w a1 len1 cap1 z1) :
    Calls Try.prog 4 #[.slice a0 len0 cap0, .slice a1 len1 cap1] w fun e w' => e = .returned (.bool true) ∧ Below w.heap.size w w' := by
  by_cases hb0 : 1048576 < len0
  · have hl0 : (len0 : Int) ≤ 9223372036854775807 := by have := IsRow.len w0; omega
    go_enter Try.func4, Try.ntmps4
    go_wp2
    go_ret
    exact ⟨rfl, Below.refl _ _⟩
  by_cases hb1 : 1048576 < len1
  · have hl1 : (len1 : Int) ≤ 9223372036854775807 := by have := IsRow.len w1; omega
    go_enter Try.func4, Try.ntmps4
    go_wp2
    go_ret
    exact ⟨rfl, Below.refl _ _⟩
  have r0 := IsRow.rb w0 (by omega)
  have r1 := IsRow.rb w1 (by omega)
  go_enter Try.func4, Try.ntmps4
  go_upto_region 6 with (first
    | (go_at_call 15; refine (drawFrameText_any w.heap.size a0 len0 cap0 _ r0 (Nat.le_refl _)).mono ?_; rintro e v1 ⟨b, rfl, hb, hv1⟩)
    | (go_at_call 16; refine (frameText_any b _ (by unfold maxLen; omega)).mono ?_; rintro e v2 ⟨rfl, hv2⟩; have s2 := keepB hv1 (Nat.le_refl _) hv2)
    | (go_at_call 17; refine (drawFrameRead_any w.heap.size a1 len1 cap1 _ (r1.blw s2) s2.size).mono ?_; rintro e v3 ⟨u, rfl, hu, hv3⟩; have s3 := keepB s2 (Nat.le_refl _) hv3))
  have HU : Hid _ := fun w => frameRead_any u w (by unfold maxLen; omega)
  have HU2 : Hid _ := fun w => specFrameRead_any u w (by unfold maxLen; omega)
  unfold rdV at HU HU2
  have HUF : Hid _ := @frame_of_read u
  have hTL : (bytesOf (readL u.data.toList).1).size ≤ 200 := by rw [bytesOf_size]; have := readL_len u.data.toList; rw [list_length] at this; omega
  generalize bytesOf (readL u.data.toList).1 = T at HU HU2 HUF hTL
  generalize (readL u.data.toList).2 = C at HU HU2 HUF
  unfold textOutF at HU HU2
  clear hv1 hv2 hv3 s2
  go_upto_region 7 with (go_at_call 18; refine (HU.out _).mono ?_; rintro e v4 ⟨rfl, hv4⟩; have s4 := keepB s3 (Nat.le_refl _) hv4)
  have s4' : Below w.heap.size w (v4.alloc (.cells #[.string T, .int .i64 0, .int .i64 C] 27)) := s4.alloc s4.size _
  have hX4 : Hid _ := heap_alloc_new v4 (.cells #[.string T, .int .i64 0, .int .i64 C] 27)
  generalize v4.alloc (.cells #[.string T, .int .i64 0, .int .i64 C] 27) = A4 at s4' hX4 ⊢
  generalize v4.heap.size = X at hX4 ⊢
  clear s3 s4 hv4
  go_upto_region 8 with (go_at_call 19; refine (drawWireFeed_any w.heap.size a1 len1 cap1 _ (r1.blw s4') s4'.size).mono ?_; rintro x5 v5 ⟨wi, we, wd, ws, n, rfl, hws, hn, hv5⟩)
  have hX5 : Hid _ := blk1 (blk1 hX4.out hv5) (bl_alloc v5 (.cells #[.bool wi, .bool we, .bool wd, .string ws] 35))
  have hV5 : Hid _ := heap_alloc_new v5 (.cells #[.bool wi, .bool we, .bool wd, .string ws] 35)
  have s5 : Below w.heap.size w (v5.alloc (.cells #[.bool wi, .bool we, .bool wd, .string ws] 35)) := keepB (keepB s4' (Nat.le_refl _) hv5) (Nat.le_refl _) (bl_alloc v5 _)
  generalize v5.alloc (.cells #[.bool wi, .bool we, .bool wd, .string ws] 35) = A5 at s5 hX5 hV5 ⊢
  generalize v5.heap.size = V at hV5 ⊢
  clear hv5 s4' hX4
  obtain ⟨cv, _, _⟩ := cells_at hV5.out
  have c0 := cv 0 _ rfl
  have c1 := cv 1 _ rfl
  have c2 := cv 2 _ rfl
  have c3 := cv 3 _ rfl
  clear cv
  have HI : Hid _ := fun (t : ByteArray) (ht : t.size ≤ maxLen) (w : World) => wireFeed_any wi we wd ws t w (by unfold maxLen; omega) ht
  have HS : Hid _ := fun w => specWireFeed_any wi we wd ws n w (by unfold maxLen; omega) (by unfold maxLen; omega)
  have HLN : Hid _ := feedR_lenF (wrOf wi we wd ws) n
  have HRT : Hid _ := @feedR_right (wrOf wi we wd ws) n
  have HBF : Hid _ := feedR_buf (wrOf wi we wd ws) n
  have HI1 : Hid _ := HI.out n (by unfold maxLen; omega)
  obtain ⟨R, hR⟩ : ∃ R, Hid (feedR (wrOf wi we wd ws) n = R) := ⟨_, show _ = _ from rfl⟩
  rw [hR.out] at HS HLN HRT HBF HI1
  obtain ⟨y, fs, yc⟩ := R
  simp only [foV] at HS HI1 HBF HLN HRT
  obtain ⟨yb, hyb⟩ : ∃ yb, Hid (bytesOf y.buf = yb) := ⟨_, show _ = _ from rfl⟩
  obtain ⟨ss, hss⟩ : ∃ ss, Hid (fs.map bytesOf = ss) := ⟨_, show _ = _ from rfl⟩
  rw [hyb.out, hss.out] at HS HI1
  rw [hyb.out] at HBF
  rw [hss.out] at HLN
  go_upto_region 9 with (go_at_call 20; refine (HI1.out _).mono ?_; rintro e6 v6 ⟨vY, rfl, hoY, hv6⟩; obtain ⟨pY, cY, rfl⟩ := hoY.shape)
  have F7 : Hid (FB w X V v6.heap.size #[.string T, .int .i64 0, .int .i64 C] #[.bool wi, .bool we, .bool wd, .string ws] #[.bool y.inn, .bool y.esc, .bool y.bad, .string yb, .slice pY ss.length cY, .int .i64 yc] (v6.alloc (.cells #[.bool y.inn, .bool y.esc, .bool y.bad, .string yb, .slice pY ss.length cY, .int .i64 yc] 40))) :=
    ⟨blk1 (blk1 hX5.out hv6) (bl_alloc v6 _), blk1 (blk1 hV5.out hv6) (bl_alloc v6 _), heap_alloc_new _ _, keepB (keepB s5 (Nat.le_refl _) hv6) (Nat.le_refl _) (bl_alloc v6 _)⟩
  have O7 : Hid (OwnS (v6.alloc (.cells #[.bool y.inn, .bool y.esc, .bool y.bad, .string yb, .slice pY ss.length cY, .int .i64 yc] 40)) A5.heap.size (.slice pY ss.length cY) ss) := hoY.below (bl_alloc v6 _)
  generalize v6.alloc (.cells #[.bool y.inn, .bool y.esc, .bool y.bad, .string yb, .slice pY ss.length cY, .int .i64 yc] 40) = Z at F7 O7 ⊢
  generalize v6.heap.size = Y at F7 ⊢
  generalize A5.heap.size = bO at O7
  clear hoY hv6 s5 hX5 hV5 c0 c1 c2 c3
  go_upto_region 10 with (go_at_call 21; refine (drawFcs_any w.heap.size a0 len0 cap0 _ (r0.blw F7.out.bel) F7.out.bel.size).mono ?_; rintro e7 v7 ⟨f, rfl, hf, hv7⟩)
  have F8 : Hid _ := F7.out.below hv7
  have O8 : Hid (OwnS v7 bO (.slice pY ss.length cY) ss) := O7.out.below hv7
  clear F7 O7 hv7
  obtain ⟨F, hF⟩ : ∃ F, Hid (frameB b = F) := ⟨_, show _ = _ from rfl⟩
  have HT : Hid (∀ W, Calls Try.prog 22 #[.string b] W fun e w' => e = .returned (.string F) ∧ Below W.heap.size W w') := fun W => by rw [← hF.out]; exact specFrameText_any b W (by unfold maxLen; omega)
  rw [hF.out]
  have HK1 : Hid _ := fun W => fcs_any f W (by unfold maxLen; omega)
  have HK2 : Hid _ := fun W => specFcs_any f W (by unfold maxLen; omega)
  generalize fcsV f = Fc at HK1 HK2
  have HW1 : Hid _ := fun W => wireRight_any wi we wd ws W (by unfold maxLen; omega)
  have HW2 : Hid _ := fun W => specWireRight_any wi we wd ws W (by unfold maxLen; omega)
  generalize rightB wi we wd ws = rr at HW1 HW2
  have HLW : Hid (∀ (W : World) (b1 b2 : Nat) (v1 v2 : Value), OwnS W b1 v1 ss → OwnS W b2 v2 ss → Calls Try.prog 24 #[.agg #[.bool y.inn, .bool y.esc, .bool y.bad, .string yb, v1, .int .i64 yc], .agg #[.bool y.inn, .bool y.esc, .bool y.bad, .string yb, v2, .int .i64 yc]] W fun x w' => x = .returned (.bool true) ∧ Below W.heap.size W w') := fun W b1 b2 v1 v2 o1 o2 =>
    lwWire_same y.inn y.esc y.bad yb yc (by have := HBF.out; unfold maxLen; omega) (fun h => by rw [← right_eq, ← hyb.out, wr_parts]; exact HRT.out h) b1 b2 v1 v2 ss W HLN.out o1 o2
  have eF : (F.toList == F.toList) = true := by simp
  have eK : ((Fc : Int) != (Fc : Int)) = false := by simp
  have eR : (rr != rr) = false := by simp
  have FW : Hid (∀ W, Below v7.heap.size v7 W → FB w X V Y #[.string T, .int .i64 0, .int .i64 C] #[.bool wi, .bool we, .bool wd, .string ws] #[.bool y.inn, .bool y.esc, .bool y.bad, .string yb, .slice pY ss.length cY, .int .i64 yc] W) := fun W h => F8.out.below h
  have x0 := fun W h => (FW.out W h).cellX.1
  have x1 := fun W h => (FW.out W h).cellX.2.1
  have x2 := fun W h => (FW.out W h).cellX.2.2
  have q0 := fun W h => (FW.out W h).cellV.1
  have q1 := fun W h => (FW.out W h).cellV.2.1
  have q2 := fun W h => (FW.out W h).cellV.2.2.1
  have q3 := fun W h => (FW.out W h).cellV.2.2.2
  have y0 := fun W h => (FW.out W h).cellY.1
  have y1 := fun W h => (FW.out W h).cellY.2.1
  have y2 := fun W h => (FW.out W h).cellY.2.2.1
  have y3 := fun W h => (FW.out W h).cellY.2.2.2.1
  have y4 := fun W h => (FW.out W h).cellY.2.2.2.2.1
  have y5 := fun W h => (FW.out W h).cellY.2.2.2.2.2
  have ROW : Hid (∀ W, Below v7.heap.size v7 W → OwnS W bO (.slice pY ss.length cY) ss) := fun W h => O8.out.below h
  go_cut [74] (fun s74 wx => s74 = .bool false ∧ Below v7.heap.size v7 wx)
  case first =>
    go_region_held3 (fun w' => Below v7.heap.size v7 w') (first | assumption | exact Below.drew (Below.refl _ _) | exact keepB (by assumption) (Nat.le_refl _) hbq) (first
      | (go_at_call 22; refine (HT.out _).mono ?_; rintro e9 w9 ⟨rfl, hbq⟩)
      | (go_at_call 23; refine (HU2.out _).mono ?_; rintro e9 w9 ⟨rfl, hbq⟩)
      | (go_at_call 25; refine (HS.out _).mono ?_; rintro e9 w9 ⟨vS, rfl, hoS, hbq⟩; obtain ⟨pS, cS, rfl⟩ := hoS.shape)
      | (go_at_call 24; refine (HLW.out _ _ _ _ _ (ROW.out _ (by assumption)) hoS).mono ?_; rintro e9 w9 ⟨rfl, hbq⟩)
      | (go_at_call 26; refine (HK1.out _).mono ?_; rintro e9 w9 ⟨rfl, rfl⟩)
      | (go_at_call 27; refine (HK2.out _).mono ?_; rintro e9 w9 ⟨rfl, rfl⟩)
      | (go_at_call 28; refine (HW1.out _).mono ?_; rintro e9 w9 ⟨rfl, hbq⟩)
      | (go_at_call 29; refine (HW2.out _).mono ?_; rintro e9 w9 ⟨rfl, hbq⟩))
    go_wp2
    go_meet
    exact ⟨rfl, by assumption⟩
  case rest =>
    obtain ⟨rfl, hwc⟩ := hcut
    clear HT HU2 HS HK1 HK2 HW1 HW2 HLW eF eK eR
    have HFT : Hid (C = 0 → ∀ W, Calls Try.prog 16 #[.string T] W fun e w' => e = .returned (.string u) ∧ Below W.heap.size W w') := fun h W => by
      have := frameText_any T W (by unfold maxLen; omega)
      rwa [HUF.out h] at this
    have HRF : Hid (1 ≤ b.size ∧ b.size ≤ 60 → ∀ W, Calls Try.prog 18 #[.string F] W fun e w' => e = .returned (.agg #[.string b, .int .i64 0, .int .i64 0]) ∧ Below W.heap.size W w') := fun h W => by
      have hz := frameB_size b
      have := frameRead_any F W (by rw [← hF.out]; unfold maxLen; omega)
      rw [← hF.out, read_of_frame h.1 h.2, hF.out] at this
      exact this
    have eu : (u.toList == u.toList) = true := by simp
    have eb : (b.toList == b.toList) = true := by simp
    have qF : (F.toList == ([] : List UInt8)) = !decide (1 ≤ b.size ∧ b.size ≤ 60) := by
      rw [empty_iff, ← hF.out]
      by_cases h : 1 ≤ b.size ∧ b.size ≤ 60
      · rw [frameB_in b h.1 h.2, bytesOf_size, frameL_length]; simp [h]
      · rw [frameB_out b (by omega)]; simp [h]
    clear HUF HU
    go_upto_region 12 with fail
    go_cut [95] (fun s95 wx => s95 = .bool false ∧ Below v7.heap.size v7 wx)
    case first =>
      by_cases hC : C = 0
      · have HFT' : Hid _ := HFT.out hC
        have qC : (C == 0) = true := by simpa using hC
        clear hC
        by_cases hbb : 1 ≤ b.size ∧ b.size ≤ 60
        · rw [decide_eq_true hbb] at qF
          have HRF' : Hid _ := HRF.out hbb
          clear hbb
          go_wp2_with (first | (go_at_call 16; refine (HFT'.out _).mono ?_; rintro e9 w9 ⟨rfl, hb9⟩; have hw9 := keepB hwc (Nat.le_refl _) hb9) | (go_at_call 18; refine (HRF'.out _).mono ?_; rintro e10 w10 ⟨rfl, hb10⟩; have hw10 := keepB hw9 (Nat.le_refl _) hb10))
          go_meet
          exact ⟨rfl, hw10⟩
        · rw [decide_eq_false hbb] at qF
          clear hbb
          go_wp2_with (go_at_call 16; refine (HFT'.out _).mono ?_; rintro e9 w9 ⟨rfl, hb9⟩; have hw9 := keepB hwc (Nat.le_refl _) hb9)
          go_meet
          exact ⟨rfl, hw9⟩
      · have qC : (C == 0) = false := by simpa using hC
        clear hC
        by_cases hbb : 1 ≤ b.size ∧ b.size ≤ 60
        · rw [decide_eq_true hbb] at qF
          have HRF' : Hid _ := HRF.out hbb
          clear hbb
          go_wp2_with (go_at_call 18; refine (HRF'.out _).mono ?_; rintro e10 w10 ⟨rfl, hb10⟩; have hw10 := keepB hwc (Nat.le_refl _) hb10)
          go_meet
          exact ⟨rfl, hw10⟩
        · rw [decide_eq_false hbb] at qF
          clear hbb
          go_wp2
          go_meet
          exact ⟨rfl, hwc⟩
    case rest =>
      obtain ⟨rfl, hwd⟩ := hcut
      clear HFT HRF eu
      rename World => zd
      by_cases hyc : yc = 0
      · subst hyc
        go_upto_region 17 with (go_at_call 9; refine (lwAt_any w.heap.size a0 len0 cap0 0 ((n.size : Int) + 1) _ (r0.blw (FW.out _ hwd).bel) (by omega) (by omega)).mono ?_; rintro e11 w11 ⟨r, rfl, hr, rfl⟩)
        have hrn : r ≤ n.size := by omega
        obtain ⟨hr0, hy, hfs⟩ := feedR_ok hR.out
        obtain ⟨P1, hP1, hz1, sl1⟩ := slice_toL n r hrn
        obtain ⟨P2, hP2, hz2, sl2⟩ := slice_fromL n r hrn
        have HI2 : Hid _ := HI.out P1 (by unfold maxLen; omega)
        rw [feedR_in hr0 (by omega), hP1] at HI2
        obtain ⟨X0, hX0⟩ : ∃ X0, Hid (wrOf wi we wd ws = X0) := ⟨_, show _ = _ from rfl⟩
        rw [hX0.out] at HI2 hr0 hy hfs
        obtain ⟨g, hg⟩ : ∃ g, Hid (X0.feed (n.data.toList.take r) = g) := ⟨_, show _ = _ from rfl⟩
        obtain ⟨f1, hf1⟩ : ∃ f1, Hid (X0.feeds (n.data.toList.take r) = f1) := ⟨_, show _ = _ from rfl⟩
        obtain ⟨f2, hf2⟩ : ∃ f2, Hid (g.feeds (n.data.toList.drop r) = f2) := ⟨_, show _ = _ from rfl⟩
        have hgr : g.right = true := by rw [← hg.out]; exact Wr.feed_right _ X0 hr0
        have hgy : g.feed (n.data.toList.drop r) = y := by rw [hy, ← hg.out, ← Wr.feed_append, List.take_append_drop]
        have hf12 : Hid (f1.map bytesOf ++ f2.map bytesOf = ss) := show _ = _ by rw [← List.map_append, ← hf1.out, ← hf2.out, ← hg.out, ← Wr.feeds_append, List.take_append_drop, ← hfs, hss.out]
        rw [hg.out, hf1.out] at HI2
        obtain ⟨gb, hgb⟩ : ∃ gb, Hid (bytesOf g.buf = gb) := ⟨_, show _ = _ from rfl⟩
        have HI3 : Hid _ := fun W => wireFeed_any g.inn g.esc g.bad gb P2 W (by rw [← hgb.out, bytesOf_size]; have := right_len hgr; unfold maxLen; omega) (by unfold maxLen; omega)
        rw [← hgb.out, wr_parts, feedR_in hgr (by omega), hP2, hgy, hf2.out] at HI3
        simp only [foV] at HI2 HI3
        rw [hgb.out] at HI2 HI3
        rw [hyb.out] at HI3
        obtain ⟨s1, hs1⟩ : ∃ s1, Hid (f1.map bytesOf = s1) := ⟨_, show _ = _ from rfl⟩
        obtain ⟨s2, hs2⟩ : ∃ s2, Hid (f2.map bytesOf = s2) := ⟨_, show _ = _ from rfl⟩
        rw [hs1.out] at HI2 hf12
        rw [hs2.out] at HI3 hf12
        have hgi : Hid _ := hgr
        have hyr : Hid (y.right = true) := show _ = _ by rw [← hgy]; exact Wr.feed_right _ g hgr
        clear hr hr0 hy hfs hgr hgy hP1 hP2 hX0 hg hf1 hf2 hgb HRT HBF
        obtain ⟨c0, c1, c2, c3⟩ := (FW.out _ hwd).cellV
        have hVl := (Array.getElem?_eq_some_iff.1 (FW.out _ hwd).boxV).1
        have X0' : Hid _ := x0
        have Y0' : Hid (∀ W, Below v7.heap.size v7 W → _) := fun W h => (FW.out W h).cellY
        clear x0 x1 x2 q0 q1 q2 q3 y0 y1 y2 y3 y4 y5 X0'
        go_cut [14] (Box v7 g.inn g.esc g.bad gb s1)
        case first =>
          go_region_with ((go_at_call 20; refine (HI2.out _).mono ?_; rintro e12 w12 ⟨v12, rfl, ho12, hb12⟩; obtain ⟨p12, c12, rfl⟩ := ho12.shape; obtain ⟨hc12, hf12'⟩ := bcellF hb12))
          all_goals (go_wp2; go_meet)
          all_goals first | (have key := @Box.early v7 zd w12 g.inn g.esc g.bad gb s1 p12 c12 hwd hb12 ho12; exact key) | (have key := @Box.late v7 zd w12 g.inn g.esc g.bad gb s1 p12 c12 _ hwd hb12 ho12; exact key)
        case rest =>
          obtain ⟨G, bG, pG, cG, rfl, HG, HOG, hwe⟩ := hcut
          rename World => ze
          clear c0 c1 c2 c3 hVl hwd
          obtain ⟨cg, _, gl⟩ := cells_at HG.out
          have c0 := cg 0 _ rfl
          have c1 := cg 1 _ rfl
          have c2 := cg 2 _ rfl
          have c3 := cg 3 _ rfl
          clear cg
          go_upto_region 18 with fail
          go_cut [15] (Box ze y.inn y.esc y.bad yb s2)
          case first =>
            go_region_with ((go_at_call 20; refine (HI3.out _).mono ?_; rintro e12 w12 ⟨v12, rfl, ho12, hb12⟩; obtain ⟨p12, c12, rfl⟩ := ho12.shape; obtain ⟨hc12, hf12'⟩ := bcellF hb12))
            all_goals (go_wp2; go_meet)
            all_goals first | (have key := @Box.early ze ze w12 y.inn y.esc y.bad yb s2 p12 c12 (Below.refl _ _) hb12 ho12; exact key) | (have key := @Box.late ze ze w12 y.inn y.esc y.bad yb s2 p12 c12 _ (Below.refl _ _) hb12 ho12; exact key)
          case rest =>
            obtain ⟨D, bD, pD, cD, rfl, HDx, HOD, hwf⟩ := hcut
            rename World => zf
            clear c0 c1 c2 c3 gl
            go_upto_region 19 with fail
            have hzf : Below v7.heap.size v7 zf := keepB hwe (Nat.le_refl _) hwf
            have hGz : Hid _ := blk1 HG.out hwf
            have hYz : Hid _ := (FW.out zf hzf).boxY
            have OG : Hid (∀ W, Below zf.heap.size zf W → OwnS W bG (.slice pG s1.length cG) s1) := fun W h => (HOG.out.below hwf).below h
            have OD : Hid (∀ W, Below zf.heap.size zf W → OwnS W bD (.slice pD s2.length cD) s2) := fun W h => HOD.out.below h
            have OY : Hid (∀ W, Below zf.heap.size zf W → OwnS W bO (.slice pY ss.length cY) ss) := fun W h => (ROW.out zf hzf).below h
            have g4 := cellW hGz.out 4 _ rfl
            have d0 := cellW HDx.out 0 _ rfl
            have d1 := cellW HDx.out 1 _ rfl
            have d2 := cellW HDx.out 2 _ rfl
            have d3 := cellW HDx.out 3 _ rfl
            have d4 := cellW HDx.out 4 _ rfl
            have y0 := cellW hYz.out 0 _ rfl
            have y1 := cellW hYz.out 1 _ rfl
            have y2 := cellW hYz.out 2 _ rfl
            have y3 := cellW hYz.out 3 _ rfl
            have y4 := cellW hYz.out 4 _ rfl
            have hlen : s1.length + s2.length ≤ 100000 := by have h1 := congrArg List.length hf12.out; rw [List.length_append] at h1; have h2 := HLN.out; omega
            have hlen1 : ([] : List ByteArray).length + s1.length ≤ 100000 := by simp only [List.length_nil]; omega
            have ey : (yb.toList == yb.toList) = true := by simp
            have LT : Hid (∀ (W : World) (b1 b2 : Nat) (v1 v2 : Value), OwnS W b1 v1 ss → OwnS W b2 v2 ss → Calls Try.prog 30 #[v1, v2] W fun e w' => e = .returned (.bool true) ∧ Below W.heap.size W w') := fun W b1 b2 v1 v2 o1 o2 => lwTexts_same b1 b2 v1 v2 ss W (by rw [← hf12.out, List.length_append]; exact hlen) o1 o2
            go_cut [132] (fun s132 wx => s132 = .bool false ∧ Below zf.heap.size zf wx)
            case first =>
              go_region_held3 (fun w' => Below zf.heap.size zf w') (first | assumption | exact Below.drew (Below.refl _ _) | exact Below.drew (bl_alloc zf _) | exact keepB (by assumption) (Nat.le_refl _) hbq) (first
                | (have _ := hO2; go_at_call 30; refine (LT.out _ _ _ _ _ hO2 (OY.out _ (by assumption))).mono ?_; rintro e9 w9 ⟨rfl, hbq⟩)
                | (have _ := hO1; refine step_append_S (by kernel_rfl) (.tmp 124) (.tmp 126) rfl zf.heap.size va ([] ++ s1) rfl hO1 bD (.slice pD s2.length cD) s2 rfl (OD.out _ hS1) hlen hS1.size ?_; intro vb wb hO2 hg2; rw [List.nil_append, hf12.out] at hO2; have hS2 := below_grown hS1 (Nat.le_refl _) hO1 (Nat.le_refl _) hg2)
                | (refine step_append_S (by kernel_rfl) (.tmp 121) (.tmp 123) rfl zf.heap.size (.slice (some ⟨zf.heap.size, 0, none⟩) 0 0) [] rfl (own_emptyD zf _ (Nat.le_refl _)) bG (.slice pG s1.length cG) s1 rfl (OG.out _ (Below.drew (bl_alloc zf _))) hlen1 (Below.size (Below.drew (bl_alloc zf (.cells #[] 9)))) ?_; intro va wa hO1 hg1; have hS1 := below_grown (Below.drew (bl_alloc zf (.cells #[] 9))) (Nat.le_refl _) (own_emptyD zf zf.heap.size (Nat.le_refl _)) (Nat.le_refl _) hg1))
              go_wp2
              go_meet
              exact ⟨rfl, by assumption⟩
            case rest =>
              obtain ⟨rfl, hwg⟩ := hcut
              rename World => zg
              clear g4 d0 d1 d2 d3 d4 y0 y1 y2 y3 y4 OG OD hGz HDx HG HOG HOD LT
              have hYg : Hid _ := blk1 hYz.out hwg
              obtain ⟨cy, _, yl⟩ := cells_at hYg.out
              have y0 := cy 0 _ rfl
              have y1 := cy 1 _ rfl
              have y2 := cy 2 _ rfl
              have y3 := cy 3 _ rfl
              clear cy
              have HZ : Hid (∀ W, Calls Try.prog 20 #[.agg #[.bool y.inn, .bool y.esc, .bool y.bad, .string yb], .string F] W fun x w' => ∃ v, x = .returned (foV (feedR (wrOf y.inn y.esc y.bad yb) F) v) ∧ OwnS w' W.heap.size v ((feedR (wrOf y.inn y.esc y.bad yb) F).2.1.map bytesOf) ∧ Below W.heap.size W w') := fun W => wireFeed_any y.inn y.esc y.bad yb F W (by rw [← hyb.out, bytesOf_size]; have := right_len hyr.out; unfold maxLen; omega) (by rw [← hF.out]; have := frameB_size b; unfold maxLen; omega)
              have HLAST : Hid (1 ≤ b.size ∧ b.size ≤ 60 → ∃ pre, (feedR (wrOf y.inn y.esc y.bad yb) F).2.1.map bytesOf = pre ++ [b]) := fun h => by
                refine ⟨(y.hears 126).map bytesOf, ?_⟩
                have hzF := frameB_size b
                have e : F.data.toList = frameT b.data.toList := by rw [← hF.out]; unfold frameB; rw [bytesOf_list]
                rw [← hyb.out, wr_parts, feedR_in hyr.out (by rw [← hF.out]; omega)]
                show (y.feeds F.data.toList).map bytesOf = _
                rw [e, Wr.hears_frame y b.data.toList (by rw [list_length]; exact h.1) (by rw [list_length]; exact h.2), List.map_append]
                simp [bytesOf_data]
              have HL3 : Hid _ := feedR_lenF (wrOf y.inn y.esc y.bad yb) F
              obtain ⟨R3, hR3⟩ : ∃ R3, Hid (feedR (wrOf y.inn y.esc y.bad yb) F = R3) := ⟨_, show _ = _ from rfl⟩
              rw [hR3.out] at HZ HLAST HL3
              obtain ⟨y3, fs3, c3⟩ := R3
              simp only [foV] at HZ HLAST HL3
              obtain ⟨yb3, hyb3⟩ : ∃ yb3, Hid (bytesOf y3.buf = yb3) := ⟨_, show _ = _ from rfl⟩
              rw [hyb3.out] at HZ
              obtain ⟨ss3, hss3⟩ : ∃ ss3, Hid (fs3.map bytesOf = ss3) := ⟨_, show _ = _ from rfl⟩
              rw [hss3.out] at HZ HLAST HL3
              have hwz : Below w.heap.size w zg := keepB (FW.out zf hzf).bel (Nat.le_refl _) hwg
              clear hR3 hyb3 hss3 hyr FW ROW OY hYg hYz hgi hf12 hs1 hs2 HLN
              by_cases hbb : 1 ≤ b.size ∧ b.size ≤ 60
              · rw [decide_eq_true hbb] at qF
                obtain ⟨pre, hpre⟩ := HLAST.out hbb
                subst hpre
                have hpl : pre.length ≤ 10000 := by have := HL3.out; simp at this; omega
                clear HLAST hbb HL3
                go_wp2_with (go_at_call 20; refine (HZ.out _).mono ?_; rintro ez z1 ⟨vz, rfl, hoz, hbz⟩; obtain ⟨pz, cz, rfl⟩ := hoz.shape; obtain ⟨gz, rfl, _, hgz, qz, _⟩ := hoz.cell pre.length (by simp); rw [List.getElem_concat_length (by rfl)] at qz; have qz' := (bl_alloc z1 (.cells #[.bool y3.inn, .bool y3.esc, .bool y3.bad, .string yb3, .slice (some ⟨gz, 0, none⟩) (pre ++ [b]).length cz, .int .i64 c3] 40)).cell (p := ⟨gz, pre.length, none⟩) hgz; rw [qz] at qz'; have hln : (pre ++ [b]).length = pre.length + 1 := (by simp); rw [hln])
                go_ret
                exact ⟨rfl, keepB (keepB hwz (Nat.le_refl _) hbz) (Nat.le_refl _) (bl_alloc _ _)⟩
              · rw [decide_eq_false hbb] at qF
                clear HLAST hbb
                go_wp2_with (go_at_call 20; refine (HZ.out _).mono ?_; rintro ez z1 ⟨vz, rfl, hoz, hbz⟩; obtain ⟨pz, cz, rfl⟩ := hoz.shape)
                go_ret
                exact ⟨rfl, keepB (keepB hwz (Nat.le_refl _) hbz) (Nat.le_refl _) (bl_alloc _ _)⟩
      · have qy : (yc != 0) = true := by simpa using hyc
        clear hyc
        go_wp2
        go_ret
        exact ⟨rfl, (FW.out _ hwd).bel⟩

set_option maxRecDepth 100000 in
theorem lifted (os : Os) (started : os.Started) (H : Type) (enc : TypeId × Value → H) :
    ReturnsInHanded {} Try.checked os 4 .any (Rows.fnFrameSpec.pre6 enc Try.prog Try.f4 Rows.fnFrameRow.domain false) (Rows.fnFrameSpec.post enc Try.prog Try.f4 false true false false) := by
  refine returnsInHanded_of_change (C := Try.checked) own started (by kernel_rfl) Try.func4
    (ChangeSpec.witness6 (enc := enc) (C := Try.checked) false ⟨#[], #[.slice none 0 0, .slice none 0 0], []⟩ 8 (by kernel_rfl) (by kernel_rfl) (by kernel_rfl) (by kernel_rfl)) ?_
  intro W base args ds gs before hval0 hW hcnd _
  have hval : ∀ (j : Nat) t v, Try.f4.params[j]? = some t → args[j]? = some v → Value.okWide Try.prog W .any base t v := hval0
  have hW' := hW
  obtain ⟨p, q, hA0, hV, rfl, hfz, hnd⟩ := hW
  have hA : DataW.TrodAll enc Try.prog W 0 (fun _ => true) true Try.f4.params.toList args.toList ds p := hA0
  rw [Try.params4] at hA hval
  obtain ⟨v0, vs0, d0, ds0, p0, q0, hargs, rfl, rfl, h0, r0⟩ := trodAll_cons hA
  obtain ⟨v1, vs1, d1, ds1, p1, q1, rfl, rfl, rfl, h1, r1⟩ := trodAll_cons r0
  obtain ⟨rfl, rfl, rfl⟩ := trodAll_nil r1
  obtain rfl : args = #[v0, v1] := by cases args; simp_all
  obtain ⟨rfl, rfl⟩ := trodVars_none hV
  obtain ⟨a0, len0, cap0, rfl⟩ := okWide_slice Try.underlying22 (hval 0 22 v0 rfl rfl)
  have k0 := h0
  have lt0 : ∀ x ∈ p0, x.block < W.heap.size := by obtain ⟨m, hm⟩ := k0; exact DataW.trod_lt m _ _ _ hm
  obtain ⟨z0, w0⟩ : ∃ zs, IsRow .u8 W a0 len0 cap0 zs := by
    obtain ⟨fuel, hf⟩ := h0
    rcases open_ints Try.underlying22 Try.underlying5 (by kernel_rfl) hf with ⟨hcs, _⟩ | ⟨x, l, c, zs, hcs, _, hl, hm, hz, _, hcell, hwz⟩
    · simp [Value.cells] at hcs
      obtain ⟨rfl, rfl, rfl⟩ := hcs
      exact ⟨[], .inl ⟨rfl, rfl, rfl, rfl⟩⟩
    · simp [Value.cells] at hcs
      obtain ⟨rfl, rfl, rfl⟩ := hcs
      exact ⟨zs, .inr ⟨_, rfl, hl, hm, by simpa using hz, hcell, hwz⟩⟩
  obtain ⟨a1, len1, cap1, rfl⟩ := okWide_slice Try.underlying22 (hval 1 22 v1 rfl rfl)
  have k1 := h1
  have lt1 : ∀ x ∈ p1, x.block < W.heap.size := by obtain ⟨m, hm⟩ := k1; exact DataW.trod_lt m _ _ _ hm
  obtain ⟨z1, w1⟩ : ∃ zs, IsRow .u8 W a1 len1 cap1 zs := by
    obtain ⟨fuel, hf⟩ := h1
    rcases open_ints Try.underlying22 Try.underlying5 (by kernel_rfl) hf with ⟨hcs, _⟩ | ⟨x, l, c, zs, hcs, _, hl, hm, hz, _, hcell, hwz⟩
    · simp [Value.cells] at hcs
      obtain ⟨rfl, rfl, rfl⟩ := hcs
      exact ⟨[], .inl ⟨rfl, rfl, rfl, rfl⟩⟩
    · simp [Value.cells] at hcs
      obtain ⟨rfl, rfl, rfl⟩ := hcs
      exact ⟨zs, .inr ⟨_, rfl, hl, hm, by simpa using hz, hcell, hwz⟩⟩
  clear hA0 hval0
  refine (walk a0 len0 cap0 z0 a1 len1 cap1 z1 W w0 w1).mono fun e W' ⟨he, bel⟩ => ?_
  subst he
  exact ⟨_, rfl, _, _, _, [], _, [], hW', trodAll_mk1 (shut_bool Try.underlying4 _), (trodAll_cons_mk (Below.trod laidOut (by kernel_rfl) (of_decide_eq_true (by kernel_rfl)) k0 bel lt0) (trodAll_cons_mk (Below.trod laidOut (by kernel_rfl) (of_decide_eq_true (by kernel_rfl)) k1 bel lt1) trodAll_mk0)), rfl, bel.frame _, fun h => by cases h⟩

/-- The statement. -/
theorem proved : Rows.FnFrameSaid :=
  OpenClaim.holds_of_wide 4 Try.f4 rfl rfl rfl rfl rfl rfl rfl ⟨rfl, rfl, rfl, rfl, rfl⟩ rfl rfl rfl rfl rfl (by kernel_rfl) Try.func4 (by kernel_rfl)
    (of_decide_eq_true (by kernel_rfl)) (by unfold Func.isWrapper; first | (rw [if_pos (by decide +kernel)]; kernel_rfl) | (rw [if_neg (by decide +kernel)]; exact ⟨rfl, rfl⟩))
    (fun os started H enc _ => lifted os started H enc)
#print axioms proved
end Go.Proofs.Ytiaphaghjklhaaa.fnFrame
