/- A station is asked what an address told all, by the program and by the model: the same words, in memory of their own, and the station stays as it was. -/
import Derived.Test.YtancfnpmbddfoaaRows
import Derived.Test.YtancfnpmbddfoaaGlE
import Derived.Test.YtancfnpmbddfoaaGlA
import Derived.Test.YtancfnpmbddfoaaStnO
import Derived.Test.YtancfnpmbddfoaaGlC
import Derived.Test.YtancfnpmbddfoaaGlB
import Derived.Test.YtancfnpmbddfoaaLoadS
import Derived.Test.YtancfnpmbddfoaaTail
import Derived.WalkKit
import Derived.WalkSpells
import Derived.ProofKit
import Derived.OpenShut
import Derived.ShutString
import Derived.ChangeOld
import Derived.Below
import Derived.Outline
import Derived.Deep.RegionHeld3
import Derived.Deep.RegionWith
import Derived.Deep.DeepCutAuto
import Derived.Lib.SmallJoins
import Derived.Carry
namespace Go.Proofs.Ytancfnpmbddfoaa.fnExactGlobalOf
open Go.ChangeShapes Go.WideShapes Go.ChangeAt Go.RowKit
open Go.ChangeMaps (open_string shut_string)
set_option linter.unusedVariables false
set_option linter.unusedSimpArgs false

theorem own : ownKnob Try.prog.godebug = none := by kernel_rfl
theorem laidOut : laidOutB Try.prog = true := by kernel_rfl

set_option maxRecDepth 100000 in
set_option maxHeartbeats 1600000 in
/-- The walk: the law returns true, and nothing that was there has turned. -/
theorem walk (s0 : Stn) (p0 q0 r0 u0 : Option Addr) (c0 d0 e0 f0 : Nat) (a1 : Int) (w : World) (w0 : InI w p0 s0.kn ∧ InI w q0 s0.ws ∧ InG w r0 s0.gs ∧ InS w u0 s0.os) (w1 : (Lit.int .i64 a1).wf = true) :
    Calls Try.prog 8 #[.agg #[.int .i64 s0.ad, .int .i64 s0.bo, .int .i64 s0.st, .int .i64 s0.s.g, .int .i64 s0.s.o, .int .i64 s0.s.b, .int .i64 s0.s.h, .int .i64 s0.t.g, .int .i64 s0.t.o, .int .i64 s0.t.b, .int .i64 s0.t.h, .int .i64 s0.qu, .int .i64 s0.tr, .int .i64 s0.he, .int .i64 s0.po, .slice p0 s0.kn.length c0, .slice q0 s0.ws.length d0, .slice r0 s0.gs.length e0, .slice u0 s0.os.length f0], .int .i64 a1] w fun e w' => e = .returned (.bool true) ∧ Below w.heap.size w w' := by
  obtain ⟨i1, i2, i3, i4⟩ := w0
  have HSZ : Hid (∀ W, Below w.heap.size w W → Calls Try.prog 9 #[.agg #[.int .i64 s0.ad, .int .i64 s0.bo, .int .i64 s0.st, .int .i64 s0.s.g, .int .i64 s0.s.o, .int .i64 s0.s.b, .int .i64 s0.s.h, .int .i64 s0.t.g, .int .i64 s0.t.o, .int .i64 s0.t.b, .int .i64 s0.t.h, .int .i64 s0.qu, .int .i64 s0.tr, .int .i64 s0.he, .int .i64 s0.po, .slice p0 s0.kn.length c0, .slice q0 s0.ws.length d0, .slice r0 s0.gs.length e0, .slice u0 s0.os.length f0], .int .i64 1048576] W fun x w' => x = .returned (.int .i64 (if s0.tot ≤ 1048576 then 1048576 - s0.tot else -1)) ∧ Below W.heap.size W w') := fun W hW => szStation_any s0 p0 q0 r0 u0 c0 d0 e0 f0 W (i1.below hW) (i2.below hW) (i3.below hW) (i4.below hW)
  have hX : Hid _ := heap_alloc_new w (.cells #[.int .i64 s0.ad, .int .i64 s0.bo, .int .i64 s0.st, .int .i64 s0.s.g, .int .i64 s0.s.o, .int .i64 s0.s.b, .int .i64 s0.s.h, .int .i64 s0.t.g, .int .i64 s0.t.o, .int .i64 s0.t.b, .int .i64 s0.t.h, .int .i64 s0.qu, .int .i64 s0.tr, .int .i64 s0.he, .int .i64 s0.po, .slice p0 s0.kn.length c0, .slice q0 s0.ws.length d0, .slice r0 s0.gs.length e0, .slice u0 s0.os.length f0] 28)
  have hA0 := all_alloc w (.cells #[.int .i64 s0.ad, .int .i64 s0.bo, .int .i64 s0.st, .int .i64 s0.s.g, .int .i64 s0.s.o, .int .i64 s0.s.b, .int .i64 s0.s.h, .int .i64 s0.t.g, .int .i64 s0.t.o, .int .i64 s0.t.b, .int .i64 s0.t.h, .int .i64 s0.qu, .int .i64 s0.tr, .int .i64 s0.he, .int .i64 s0.po, .slice p0 s0.kn.length c0, .slice q0 s0.ws.length d0, .slice r0 s0.gs.length e0, .slice u0 s0.os.length f0] 28)
  by_cases hle : s0.tot ≤ 1048576
  case neg =>
    rw [if_neg hle] at HSZ
    clear hle i1 i2 i3 i4
    go_enter Try.func8, Try.ntmps8
    go_upto_region 2 with fail
    generalize w.alloc (.cells #[.int .i64 s0.ad, .int .i64 s0.bo, .int .i64 s0.st, .int .i64 s0.s.g, .int .i64 s0.s.o, .int .i64 s0.s.b, .int .i64 s0.s.h, .int .i64 s0.t.g, .int .i64 s0.t.o, .int .i64 s0.t.b, .int .i64 s0.t.h, .int .i64 s0.qu, .int .i64 s0.tr, .int .i64 s0.he, .int .i64 s0.po, .slice p0 s0.kn.length c0, .slice q0 s0.ws.length d0, .slice r0 s0.gs.length e0, .slice u0 s0.os.length f0] 28) = A at hX hA0 ⊢
    go_wp2_with (first
      | (refine wpList_load_rowG (by rfl) 28 (.tmp 2) rfl w.heap.size rfl _ _ _ _ hX.out Try.underlying28 rfl (by kernel_rfl) ?_)
      | (go_at_call 9; refine (HSZ.out _ hA0).mono ?_; rintro e v1 ⟨rfl, hb1⟩))
    go_ret
    exact ⟨rfl, keepB hA0 (Nat.le_refl _) hb1⟩
  rw [if_pos hle] at HSZ
  have h3 : ¬ (1048576 : Int) - s0.tot < 0 := by omega
  have b1 : s0.kn.length ≤ 1048576 := by unfold Stn.tot at hle; omega
  have b2 : s0.ws.length ≤ 1048576 := by unfold Stn.tot at hle; omega
  have b3 : s0.gs.length ≤ 1048576 := by unfold Stn.tot at hle; omega
  have b4 : s0.os.length ≤ 1048576 := by unfold Stn.tot at hle; omega
  have b5 : ∀ g ∈ s0.gs, g.2.length ≤ 1048576 := fun g hg => by have := wsum_each hg; unfold Stn.tot at hle; omega
  have b6 : ∀ b ∈ s0.os, b.size ≤ 9223372036854775807 := fun g hg => by have := bsum_each hg; unfold Stn.tot at hle; omega
  have HTO : Hid (∀ W, Below w.heap.size w W → Calls Try.prog 11 #[.agg #[.int .i64 s0.ad, .int .i64 s0.bo, .int .i64 s0.st, .int .i64 s0.s.g, .int .i64 s0.s.o, .int .i64 s0.s.b, .int .i64 s0.s.h, .int .i64 s0.t.g, .int .i64 s0.t.o, .int .i64 s0.t.b, .int .i64 s0.t.h, .int .i64 s0.qu, .int .i64 s0.tr, .int .i64 s0.he, .int .i64 s0.po, .slice p0 s0.kn.length c0, .slice q0 s0.ws.length d0, .slice r0 s0.gs.length e0, .slice u0 s0.os.length f0]] W fun x w' => ∃ v1 v2 v3 v4, x = .returned (.agg #[.int .i64 s0.ad, .int .i64 s0.bo, .int .i64 s0.st, .int .i64 s0.s.g, .int .i64 s0.s.o, .int .i64 s0.s.b, .int .i64 s0.s.h, .int .i64 s0.t.g, .int .i64 s0.t.o, .int .i64 s0.t.b, .int .i64 s0.t.h, .int .i64 s0.qu, .int .i64 s0.tr, .int .i64 s0.he, .int .i64 s0.po, v1, v2, v3, v4]) ∧ OwnStn w' W.heap.size v1 v2 v3 v4 s0 ∧ Below W.heap.size W w') := fun W hW => toStation_any s0 p0 q0 r0 u0 c0 d0 e0 f0 W b1 b2 b3 b5 b4 (i1.below hW) (i2.below hW) (i3.below hW) (i4.below hW)
  have HS : Hid (∀ (W : World) (B : Nat) (v1 v2 v3 v4 : Value), OwnStn W B v1 v2 v3 v4 s0 → Calls Try.prog 29 #[.agg #[.int .i64 s0.ad, .int .i64 s0.bo, .int .i64 s0.st, .int .i64 s0.s.g, .int .i64 s0.s.o, .int .i64 s0.s.b, .int .i64 s0.s.h, .int .i64 s0.t.g, .int .i64 s0.t.o, .int .i64 s0.t.b, .int .i64 s0.t.h, .int .i64 s0.qu, .int .i64 s0.tr, .int .i64 s0.he, .int .i64 s0.po, v1, v2, v3, v4], .int .i64 a1] W fun e w' => ∃ v, e = .returned v ∧ OwnI w' W.heap.size v (s0.globW a1) ∧ Below W.heap.size W w') := fun W B v1 v2 v3 v4 h => by
    obtain ⟨l1, h1, l2, h2, l3, h3, l4, h4, _, _, _, _, o3, _⟩ := h.all
    exact specGlobalOf_any s0 a1 v1 v2 v3 v4 W b1 b2 b3 b5 b4 b6 h.rows.1 h.rows.2.1 l3 o3.g h.rows.2.2.2
  have HI : Hid (∀ (W : World) (B : Nat) (v1 v2 v3 v4 : Value), OwnStn W B v1 v2 v3 v4 s0 → Calls Try.prog 30 #[.agg #[.int .i64 s0.ad, .int .i64 s0.bo, .int .i64 s0.st, .int .i64 s0.s.g, .int .i64 s0.s.o, .int .i64 s0.s.b, .int .i64 s0.s.h, .int .i64 s0.t.g, .int .i64 s0.t.o, .int .i64 s0.t.b, .int .i64 s0.t.h, .int .i64 s0.qu, .int .i64 s0.tr, .int .i64 s0.he, .int .i64 s0.po, v1, v2, v3, v4], .int .i64 a1] W fun e w' => ∃ v, e = .returned v ∧ OwnI w' W.heap.size v (s0.globW a1) ∧ Below W.heap.size W w') := fun W B v1 v2 v3 v4 h => by
    obtain ⟨l1, h1, l2, h2, l3, h3, l4, h4, _, _, _, _, o3, _⟩ := h.all
    exact globalOf_any s0 a1 v1 v2 v3 v4 W b1 b2 b3 b5 b4 b6 h.rows.1 h.rows.2.1 l3 o3.g h.rows.2.2.2
  have HMK : Hid (∀ (W : World) (B T : Nat) (v1 v2 v3 v4 : Value), OwnStnB W B T v1 v2 v3 v4 s0 → Calls Try.prog 25 #[.agg #[.int .i64 s0.ad, .int .i64 s0.bo, .int .i64 s0.st, .int .i64 s0.s.g, .int .i64 s0.s.o, .int .i64 s0.s.b, .int .i64 s0.s.h, .int .i64 s0.t.g, .int .i64 s0.t.o, .int .i64 s0.t.b, .int .i64 s0.t.h, .int .i64 s0.qu, .int .i64 s0.tr, .int .i64 s0.he, .int .i64 s0.po, v1, v2, v3, v4], .int .i64 1] W fun e w' => e = .returned (.int .i64 (1 + s0.cnt)) ∧ Only W w' B T) := fun W B T v1 v2 v3 v4 h => (markStation_any s0 B T v1 v2 v3 v4 W (by unfold Stn.tot at hle; unfold Stn.cnt; omega) h).mono fun e w' h => ⟨h.1, h.2.2⟩
  have hcnt : ¬ (1 : Int) + s0.cnt < 0 := by unfold Stn.cnt; omega
  have HE : Hid (∀ (W : World) (B C : Nat) (v1 v2 v3 v4 x1 x2 x3 x4 : Value), OwnStn W B v1 v2 v3 v4 s0 → OwnStn W C x1 x2 x3 x4 s0 → Calls Try.prog 13 #[.agg #[.int .i64 s0.ad, .int .i64 s0.bo, .int .i64 s0.st, .int .i64 s0.s.g, .int .i64 s0.s.o, .int .i64 s0.s.b, .int .i64 s0.s.h, .int .i64 s0.t.g, .int .i64 s0.t.o, .int .i64 s0.t.b, .int .i64 s0.t.h, .int .i64 s0.qu, .int .i64 s0.tr, .int .i64 s0.he, .int .i64 s0.po, v1, v2, v3, v4], .agg #[.int .i64 s0.ad, .int .i64 s0.bo, .int .i64 s0.st, .int .i64 s0.s.g, .int .i64 s0.s.o, .int .i64 s0.s.b, .int .i64 s0.s.h, .int .i64 s0.t.g, .int .i64 s0.t.o, .int .i64 s0.t.b, .int .i64 s0.t.h, .int .i64 s0.qu, .int .i64 s0.tr, .int .i64 s0.he, .int .i64 s0.po, x1, x2, x3, x4]] W fun x w' => x = .returned (.bool true) ∧ Below W.heap.size W w') := fun W B C v1 v2 v3 v4 x1 x2 x3 x4 h1 h2 => eqStation_same s0 v1 v2 v3 v4 x1 x2 x3 x4 W b1 b2 b3 b5 b4 h1.rows.1 h1.rows.2.1 h1.rows.2.2.1 h1.rows.2.2.2 h2.rows.1 h2.rows.2.1 h2.rows.2.2.1 h2.rows.2.2.2
  clear i1 i2 i3 i4 hle b1 b2 b3 b4 b5 b6
  have hvl := globW_len s0 a1
  generalize s0.globW a1 = V at HS HI hvl
  generalize s0.cnt = CN at HMK hcnt
  have HE2 : Hid (∀ (W : World) (x y : Value), RowI W x V → RowI W y V → Calls Try.prog 24 #[x, y] W fun e w' => e = .returned (.bool true) ∧ Below W.heap.size W w') := fun W x y h1 h2 => eqInt64S_same x y V W (by omega) h1 h2
  have HMI : Hid (∀ (W : World) (B : Nat) (x : Value), OwnI W B x V → Calls Try.prog 26 #[x, .int .i64 1] W fun e w' => e = .returned (.int .i64 (1 + (V.length : Int))) ∧ OwnI w' B x (countK 1 V.length) ∧ W.grownBy w' x.ownBlock) := fun W B x h => markInt64S_from 1 (by omega) B x V W (by omega) h
  have HHI : Hid (∀ (W : World) (B : Nat) (x : Value), OwnI W B x (countK 1 V.length) → Calls Try.prog 31 #[x, .int .i64 1] W fun e w' => e = .returned (.int .i64 (1 + (V.length : Int))) ∧ Below W.heap.size W w') := fun W B x h => heldInt64S_from 1 (by omega) B x V.length W (by omega) h
  clear hvl
  generalize V.length = nV at HMI HHI
  have hn0 : ¬ (1 : Int) + (nV : Int) < 0 := by omega
  have hn1 : ((1 : Int) + (nV : Int) != 1 + (nV : Int)) = false := by simp
  go_enter Try.func8, Try.ntmps8
  go_upto_region 2 with fail
  have zA : (w.alloc (.cells #[.int .i64 s0.ad, .int .i64 s0.bo, .int .i64 s0.st, .int .i64 s0.s.g, .int .i64 s0.s.o, .int .i64 s0.s.b, .int .i64 s0.s.h, .int .i64 s0.t.g, .int .i64 s0.t.o, .int .i64 s0.t.b, .int .i64 s0.t.h, .int .i64 s0.qu, .int .i64 s0.tr, .int .i64 s0.he, .int .i64 s0.po, .slice p0 s0.kn.length c0, .slice q0 s0.ws.length d0, .slice r0 s0.gs.length e0, .slice u0 s0.os.length f0] 28)).heap.size = w.heap.size + 1 := by simp
  generalize w.alloc (.cells #[.int .i64 s0.ad, .int .i64 s0.bo, .int .i64 s0.st, .int .i64 s0.s.g, .int .i64 s0.s.o, .int .i64 s0.s.b, .int .i64 s0.s.h, .int .i64 s0.t.g, .int .i64 s0.t.o, .int .i64 s0.t.b, .int .i64 s0.t.h, .int .i64 s0.qu, .int .i64 s0.tr, .int .i64 s0.he, .int .i64 s0.po, .slice p0 s0.kn.length c0, .slice q0 s0.ws.length d0, .slice r0 s0.gs.length e0, .slice u0 s0.os.length f0] 28) = A at hX hA0 zA ⊢
  go_upto_region 5 with (first
    | (refine wpList_load_rowG (by rfl) 28 (.tmp 2) rfl w.heap.size rfl _ _ _ _ hX.out Try.underlying28 rfl (by kernel_rfl) ?_)
    | (go_at_call 9; refine (HSZ.out _ hA0).mono ?_; rintro e v1 ⟨rfl, hb1⟩; have s1 : Below A.heap.size A v1 := hb1))
  have hX1 : Hid _ := blk hX.out s1
  have g1 := keepB hA0 (Nat.le_refl _) s1
  go_upto_region 6 with (first
    | (refine wpList_load_rowG (by rfl) 28 (.tmp 2) rfl w.heap.size rfl _ _ _ _ hX1.out Try.underlying28 rfl (by kernel_rfl) ?_)
    | (go_at_call 11; refine (HTO.out _ g1).mono ?_; rintro e v2 ⟨a1', a2', a3', a4', rfl, own2, hb2⟩; have s2 : Below A.heap.size A v2 := keepB s1 (Nat.le_refl _) hb2)
    | (go_at_call 29; refine (HS.out _ _ _ _ _ _ own2).mono ?_; rintro e v3 ⟨wv, rfl, oW, hb3⟩; have s3 : Below A.heap.size A v3 := keepB s2 (Nat.le_refl _) hb3))
  have hX3 : Hid _ := blk hX.out s3
  have g3 := keepB hA0 (Nat.le_refl _) s3
  have oW3 : Hid (OwnIB v3 v2.heap.size v3.heap.size wv V) := oW.ib
  have z3 : A.heap.size ≤ v3.heap.size := s3.size
  clear hX1 g1 own2 oW
  go_upto_region 7 with (first
    | (refine wpList_load_rowG (by rfl) 28 (.tmp 2) rfl w.heap.size rfl _ _ _ _ hX3.out Try.underlying28 rfl (by kernel_rfl) ?_)
    | (go_at_call 11; refine (HTO.out _ g3).mono ?_; rintro e v4 ⟨y1, y2, y3, y4, rfl, own4, hb4⟩; obtain ⟨ra4, rb4, rc4, rd4⟩ := own4.rows; obtain ⟨p4, c4, rfl, _⟩ := ra4; obtain ⟨q4, d4, rfl, _⟩ := rb4; obtain ⟨r4, e4, rfl, _⟩ := rc4; obtain ⟨u4, f4, rfl, _⟩ := rd4; have s4 : Below A.heap.size A v4 := keepB s3 (Nat.le_refl _) hb4)
    | (refine wpList_store_row rfl 34 (.tmp 7) (.tmp 23) rfl v4.heap.size #[.int .i64 s0.ad, .int .i64 s0.bo, .int .i64 s0.st, .int .i64 s0.s.g, .int .i64 s0.s.o, .int .i64 s0.s.b, .int .i64 s0.s.h, .int .i64 s0.t.g, .int .i64 s0.t.o, .int .i64 s0.t.b, .int .i64 s0.t.h, .int .i64 s0.qu, .int .i64 s0.tr, .int .i64 s0.he, .int .i64 s0.po, .slice p4 s0.kn.length c4, .slice q4 s0.ws.length d4, .slice r4 s0.gs.length e4, .slice u4 s0.os.length f4] rfl rfl _ _ (heap_alloc_new v4 _) (by kernel_rfl) rfl (by simp [Value.oneCell']) ?_))
  have hP : Hid _ := setRow_heap _ v4.heap.size _ #[.int .i64 s0.ad, .int .i64 s0.bo, .int .i64 s0.st, .int .i64 s0.s.g, .int .i64 s0.s.o, .int .i64 s0.s.b, .int .i64 s0.s.h, .int .i64 s0.t.g, .int .i64 s0.t.o, .int .i64 s0.t.b, .int .i64 s0.t.h, .int .i64 s0.qu, .int .i64 s0.tr, .int .i64 s0.he, .int .i64 s0.po, .slice p4 s0.kn.length c4, .slice q4 s0.ws.length d4, .slice r4 s0.gs.length e4, .slice u4 s0.os.length f4] _ _ (heap_alloc_new v4 (.cells #[.int .i64 0, .int .i64 0, .int .i64 0, .int .i64 0, .int .i64 0, .int .i64 0, .int .i64 0, .int .i64 0, .int .i64 0, .int .i64 0, .int .i64 0, .int .i64 0, .int .i64 0, .int .i64 0, .int .i64 0, .slice none 0 0, .slice none 0 0, .slice none 0 0, .slice none 0 0] 34))
  have hb5 : Below v4.heap.size v4 ((v4.alloc (.cells #[.int .i64 0, .int .i64 0, .int .i64 0, .int .i64 0, .int .i64 0, .int .i64 0, .int .i64 0, .int .i64 0, .int .i64 0, .int .i64 0, .int .i64 0, .int .i64 0, .int .i64 0, .int .i64 0, .int .i64 0, .slice none 0 0, .slice none 0 0, .slice none 0 0, .slice none 0 0] 34)).setRow v4.heap.size #[.int .i64 s0.ad, .int .i64 s0.bo, .int .i64 s0.st, .int .i64 s0.s.g, .int .i64 s0.s.o, .int .i64 s0.s.b, .int .i64 s0.s.h, .int .i64 s0.t.g, .int .i64 s0.t.o, .int .i64 s0.t.b, .int .i64 s0.t.h, .int .i64 s0.qu, .int .i64 s0.tr, .int .i64 s0.he, .int .i64 s0.po, .slice p4 s0.kn.length c4, .slice q4 s0.ws.length d4, .slice r4 s0.gs.length e4, .slice u4 s0.os.length f4]) := Below.setRow (all_alloc v4 _) (Nat.le_refl _) _
  generalize (v4.alloc (.cells #[.int .i64 0, .int .i64 0, .int .i64 0, .int .i64 0, .int .i64 0, .int .i64 0, .int .i64 0, .int .i64 0, .int .i64 0, .int .i64 0, .int .i64 0, .int .i64 0, .int .i64 0, .int .i64 0, .int .i64 0, .slice none 0 0, .slice none 0 0, .slice none 0 0, .slice none 0 0] 34)).setRow v4.heap.size #[.int .i64 s0.ad, .int .i64 s0.bo, .int .i64 s0.st, .int .i64 s0.s.g, .int .i64 s0.s.o, .int .i64 s0.s.b, .int .i64 s0.s.h, .int .i64 s0.t.g, .int .i64 s0.t.o, .int .i64 s0.t.b, .int .i64 s0.t.h, .int .i64 s0.qu, .int .i64 s0.tr, .int .i64 s0.he, .int .i64 s0.po, .slice p4 s0.kn.length c4, .slice q4 s0.ws.length d4, .slice r4 s0.gs.length e4, .slice u4 s0.os.length f4] = v5 at hP hb5 ⊢
  have s5 : Below A.heap.size A v5 := keepB s4 (Nat.le_refl _) hb5
  have o5 : Hid (OwnStnB v5 v3.heap.size v4.heap.size _ _ _ _ s0) := own4.top.below hb5
  have z4 : v3.heap.size ≤ v4.heap.size := hb4.size
  have z5 : v4.heap.size < v5.heap.size := (Array.getElem?_eq_some_iff.1 hP.out).1
  clear own4 hX3 g3
  go_upto_region 8 with (first
    | (refine wpList_load_rowG (by rfl) 34 (.tmp 7) rfl v4.heap.size rfl _ _ _ _ hP.out Try.underlying34 rfl (by kernel_rfl) ?_)
    | (go_at_call 30; refine (HI.out _ _ _ _ _ _ o5.out.stn).mono ?_; rintro e v6 ⟨gv, rfl, oG, hb6⟩; have s6 : Below A.heap.size A v6 := keepB s5 (Nat.le_refl _) hb6))
  have r36 := keepB (keepB hb4 (Nat.le_refl _) hb5) (Nat.le_refl _) hb6
  have oW6 : Hid (OwnIB v6 v2.heap.size v3.heap.size wv V) := oW3.out.same (Same.below r36 (Nat.le_refl _))
  have oG6 : Hid (OwnI v6 v5.heap.size gv V) := oG
  clear oG
  go_upto_region 10 with (go_at_call 24; refine (HE2.out _ _ _ oG6.out.row oW6.out.1.row).mono ?_; rintro e v7 ⟨rfl, hb7⟩)
  have s7 : Below A.heap.size A v7 := keepB s6 (Nat.le_refl _) hb7
  have hX6 : Hid _ := blk hX.out s7
  have hP6 : Hid _ := blk (blk hP.out hb6) hb7
  have o6 : Hid (OwnStnB v7 v3.heap.size v4.heap.size _ _ _ _ s0) := (o5.out.below hb6).below hb7
  have oW7 : Hid (OwnIB v7 v2.heap.size v3.heap.size wv V) := oW6.out.same (Same.below hb7 (Nat.le_trans (by omega) r36.size))
  have oG7 : Hid (OwnI v7 v5.heap.size gv V) := oG6.out.below hb7
  have g6 := keepB hA0 (Nat.le_refl _) s7
  have z7 : v5.heap.size ≤ v7.heap.size := Nat.le_trans hb6.size hb7.size
  have hR : Below v7.heap.size v7 v7.drew := Below.drew (Below.refl _ _)
  clear hP hX o5 oW6 oG6 r36 hb7 hb6 hb5 hb4 hb3 hb2 hb1
  refine wp_region_held_drew (S := (fun w' => Below v7.heap.size v7 w')) (by kernel_rfl) ?_ (fun hHeld => ?_)
  · (try dsimp only); exact hR
  refine yieldH (i := 0) (v := .agg #[.int .i64 s0.ad, .int .i64 s0.bo, .int .i64 s0.st, .int .i64 s0.s.g, .int .i64 s0.s.o, .int .i64 s0.s.b, .int .i64 s0.s.h, .int .i64 s0.t.g, .int .i64 s0.t.o, .int .i64 s0.t.b, .int .i64 s0.t.h, .int .i64 s0.qu, .int .i64 s0.tr, .int .i64 s0.he, .int .i64 s0.po, .slice p4 s0.kn.length c4, .slice q4 s0.ws.length d4, .slice r4 s0.gs.length e4, .slice u4 s0.os.length f4]) rfl (by kernel_rfl) (by kernel_rfl) (by kernel_rfl) (fun _ _ _ h => h) (by rfl) (fun W hW => exec_load_row 34 (.tmp 7) rfl v4.heap.size rfl _ _ _ _ (blk hP6.out hW) Try.underlying34 rfl (by kernel_rfl)) (by assumption) ?_
  try simp only [Act.put, List.setIfInBounds_toArray, List.set_cons_zero, List.set_cons_succ, List.getElem_toArray, List.getElem_cons_succ, List.getElem_cons_zero]
  refine yieldH (i := 1) (v := .agg #[.int .i64 s0.ad, .int .i64 s0.bo, .int .i64 s0.st, .int .i64 s0.s.g, .int .i64 s0.s.o, .int .i64 s0.s.b, .int .i64 s0.s.h, .int .i64 s0.t.g, .int .i64 s0.t.o, .int .i64 s0.t.b, .int .i64 s0.t.h, .int .i64 s0.qu, .int .i64 s0.tr, .int .i64 s0.he, .int .i64 s0.po, .slice p0 s0.kn.length c0, .slice q0 s0.ws.length d0, .slice r0 s0.gs.length e0, .slice u0 s0.os.length f0]) rfl (by kernel_rfl) (by kernel_rfl) (by kernel_rfl) (fun _ _ _ h => h) (by rfl) (fun W hW => exec_load_row 28 (.tmp 2) rfl w.heap.size rfl _ _ _ _ (blk hX6.out hW) Try.underlying28 rfl (by kernel_rfl)) (by assumption) ?_
  try simp only [Act.put, List.setIfInBounds_toArray, List.set_cons_zero, List.set_cons_succ, List.getElem_toArray, List.getElem_cons_succ, List.getElem_cons_zero]
  refine wpAnyH_ready (rs := [2]) (by kernel_rfl) (by simp) ?_
  refine AllReadyH.cons rfl (fun K hK => ?_) AllReadyH.nil
  go_simp
  go_at_call 11; refine (HTO.out _ (keepB g6 (Nat.le_refl _) hR)).mono ?_; rintro e7 v8 ⟨y1', y2', y3', y4', rfl, own7, hb7⟩; have t7 : Below v7.heap.size v7 v8 := keepB hR (Nat.le_refl _) hb7
  dsimp only
  refine hK.out _ _ ?_ (fun hHeld => ?_)
  · (try dsimp only); exact t7
  clear hK K
  try simp only [Act.put, List.setIfInBounds_toArray, List.set_cons_zero, List.set_cons_succ, List.getElem_toArray, List.getElem_cons_succ, List.getElem_cons_zero]
  refine wpAnyH_ready (rs := [3]) (by kernel_rfl) (by simp) ?_
  refine AllReadyH.cons rfl (fun K hK => ?_) AllReadyH.nil
  go_simp
  go_at_call 13; refine (HE.out _ _ _ _ _ _ _ _ _ _ _ (o6.out.stn.below t7) own7).mono ?_; rintro e8 v9 ⟨rfl, hb8⟩; have t8 : Below v7.heap.size v7 v9 := keepB t7 (Nat.le_refl _) hb8
  dsimp only
  refine hK.out _ _ ?_ (fun hHeld => ?_)
  · (try dsimp only); exact t8
  clear hK K
  try simp only [Act.put, List.setIfInBounds_toArray, List.set_cons_zero, List.set_cons_succ, List.getElem_toArray, List.getElem_cons_succ, List.getElem_cons_zero]
  first
    | (refine skipH (i := 4) rfl (by kernel_rfl) (by kernel_rfl) (by kernel_rfl) (fun _ _ _ h => h) (by rfl) (by assumption) ?_; try simp only [Act.put, List.setIfInBounds_toArray, List.set_cons_zero, List.set_cons_succ, List.getElem_toArray, List.getElem_cons_succ, List.getElem_cons_zero])
    | (refine yieldH (i := 4) (v := ?_) rfl (by kernel_rfl) (by kernel_rfl) (by kernel_rfl) (fun _ _ _ h => h) (by rfl) ?_ (by assumption) ?_; rotate_left; (intro w hSw; (try dsimp only at hSw); go_simp; (try with_reducible rfl)); try simp only [Act.put, List.setIfInBounds_toArray, List.set_cons_zero, List.set_cons_succ, List.getElem_toArray, List.getElem_cons_succ, List.getElem_cons_zero])
    | fail
  refine wpAnyH_done (by kernel_rfl) ?_ _
  go_upto_region 13 with fail
  have g8 := keepB g6 (Nat.le_refl _) t8
  have hX8 : Hid _ := blk hX6.out t8
  have hP8 : Hid _ := blk hP6.out t8
  have o8 : Hid (OwnStnB v9 v3.heap.size v4.heap.size _ _ _ _ s0) := o6.out.below t8
  have oW8 : Hid (OwnIB v9 v2.heap.size v3.heap.size wv V) := oW7.out.same (Same.below t8 (by omega))
  have oG8 : Hid (OwnIB v9 v5.heap.size v9.heap.size gv V) := (oG7.out.below t8).ib
  have z9 := t8.size
  clear hX6 hP6 o6 oW7 oG7 hR
  go_upto_region 14 with (first
    | (refine wpList_load_rowG (by rfl) 34 (.tmp 7) rfl v4.heap.size rfl _ _ _ _ hP8.out Try.underlying34 rfl (by kernel_rfl) ?_)
    | (go_at_call 25; refine (HMK.out _ _ _ _ _ _ _ o8.out).mono ?_; rintro e v10 ⟨rfl, y10⟩))
  have g10 : Below w.heap.size w v10 := g8.trans (y10.frame (by omega) (by omega))
  have hX10 : Hid _ := (y10.block w.heap.size (by omega) (by omega)).trans hX8.out
  have oW10 : Hid (OwnIB v10 v2.heap.size v3.heap.size wv V) := oW8.out.same (y10.same (by omega) (by omega))
  have oG10 : Hid (OwnIB v10 v5.heap.size v9.heap.size gv V) := oG8.out.same (y10.same (by omega) (by omega))
  have z10 := y10.size
  clear hX8 hP8 o8 oW8 oG8
  go_upto_region 17 with (go_at_call 24; refine (HE2.out _ _ _ oG10.out.1.row oW10.out.1.row).mono ?_; rintro e v11 ⟨rfl, hb11⟩)
  have oG11 : Hid (OwnI v11 v5.heap.size gv V) := oG10.out.1.below hb11
  have oW11 : Hid (OwnIB v11 v2.heap.size v3.heap.size wv V) := oW10.out.same (Same.below hb11 (by omega))
  have hX11 : Hid _ := blk hX10.out hb11
  have g11 := keepB g10 (Nat.le_refl _) hb11
  have z11 := hb11.size
  clear oG10 oW10 hX10
  go_upto_region 19 with (go_at_call 26; refine (HMI.out _ _ _ oG11.out).mono ?_; rintro e v12 ⟨rfl, m12, y12⟩)
  have k12 := Only.grown (lo := v5.heap.size) (hi := v11.heap.size) y12 (fun k e => OwnI.lt oG11.out k e)
  have g12 : Below w.heap.size w v12 := g11.trans (k12.frame (by omega) (by omega))
  have hX12 : Hid _ := (k12.block w.heap.size (by omega) (by omega)).trans hX11.out
  have oW12 : Hid (OwnIB v12 v2.heap.size v3.heap.size wv V) := oW11.out.same (k12.same (by omega) (by omega))
  have z12 := k12.size
  clear oG11 oW11 hX11
  go_upto_region 24 with (go_at_call 31; refine (HHI.out _ _ _ m12).mono ?_; rintro e v13 ⟨rfl, hb13⟩)
  have m13 := m12.below hb13
  have oW13 : Hid (OwnIB v13 v2.heap.size v3.heap.size wv V) := oW12.out.same (Same.below hb13 (by omega))
  have hX13 : Hid _ := blk hX12.out hb13
  have g13 := keepB g12 (Nat.le_refl _) hb13
  have z13 := hb13.size
  clear oW12 hX12 m12
  go_upto_region 25 with (first
    | (refine wpList_load_rowG (by rfl) 28 (.tmp 2) rfl w.heap.size rfl _ _ _ _ hX13.out Try.underlying28 rfl (by kernel_rfl) ?_)
    | (go_at_call 11; refine (HTO.out _ g13).mono ?_; rintro e v14 ⟨x1, x2, x3, x4, rfl, own14, hb14⟩)
    | (go_at_call 30; refine (HI.out _ _ _ _ _ _ own14).mono ?_; rintro e v15 ⟨hv, rfl, oH, hb15⟩))
  have r15 := keepB hb14 (Nat.le_refl _) hb15
  have m15 := m13.below r15
  have oW15 : Hid (OwnIB v15 v2.heap.size v3.heap.size wv V) := oW13.out.same (Same.below r15 (by omega))
  have g15 := keepB g13 (Nat.le_refl _) r15
  clear own14 oW13 hX13 m13
  go_wp2_with (first
    | (go_at_call 24; refine (HE2.out _ _ _ oH.row oW15.out.1.row).mono ?_; rintro e v16 ⟨rfl, hb16⟩)
    | (go_at_call 31; refine (HHI.out _ _ _ (m15.below hb16)).mono ?_; rintro e v17 ⟨rfl, hb17⟩))
  go_ret
  exact ⟨rfl, keepB (keepB g15 (Nat.le_refl _) hb16) (Nat.le_refl _) hb17⟩

set_option maxRecDepth 100000 in
theorem lifted (os : Os) (started : os.Started) (H : Type) (enc : TypeId × Value → H) :
    ReturnsInHanded {} Try.checked os 8 .any (Rows.fnExactGlobalOfSpec.pre6 enc Try.prog Try.f8 Rows.fnExactGlobalOfRow.domain false) (Rows.fnExactGlobalOfSpec.post enc Try.prog Try.f8 false true false false) := by
  refine returnsInHanded_of_change (C := Try.checked) own started (by kernel_rfl) Try.func8
    (ChangeSpec.witness6 (enc := enc) (C := Try.checked) false ⟨#[], #[.agg #[.int .i64 0, .int .i64 0, .int .i64 0, .int .i64 0, .int .i64 0, .int .i64 0, .int .i64 0, .int .i64 0, .int .i64 0, .int .i64 0, .int .i64 0, .int .i64 0, .int .i64 0, .int .i64 0, .int .i64 0, .slice none 0 0, .slice none 0 0, .slice none 0 0, .slice none 0 0], .int .i64 0], []⟩ 8 (by kernel_rfl) (by kernel_rfl) (by kernel_rfl) (by kernel_rfl)) ?_
  intro W base args ds gs before hval0 hW hcnd _
  have hval : ∀ (j : Nat) t v, Try.f8.params[j]? = some t → args[j]? = some v → Value.okWide Try.prog W .any base t v := hval0
  have hW' := hW
  obtain ⟨p, q, hA0, hV, rfl, hfz, hnd⟩ := hW
  have hA : DataW.TrodAll enc Try.prog W 0 (fun _ => true) true Try.f8.params.toList args.toList ds p := hA0
  rw [Try.params8] at hA hval
  obtain ⟨v0, vs0, d0, ds0, p0, q0, hargs, rfl, rfl, h0, r0⟩ := trodAll_cons hA
  obtain ⟨v1, vs1, d1, ds1, p1, q1, rfl, rfl, rfl, h1, r1⟩ := trodAll_cons r0
  obtain ⟨rfl, rfl, rfl⟩ := trodAll_nil r1
  obtain rfl : args = #[v0, v1] := by cases args; simp_all
  obtain ⟨rfl, rfl⟩ := trodVars_none hV
  have k0 := h0
  have lt0 : ∀ x ∈ p0, x.block < W.heap.size := by obtain ⟨m, hm⟩ := k0; exact DataW.trod_lt m _ _ _ hm
  obtain ⟨s0, pp0, qq0, rr0, uu0, cc0, dd0, ee0, ff0, rfl, w0⟩ := open_station (hval 0 28 v0 rfl rfl) h0
  obtain ⟨a1, rfl, rfl, rfl, w1⟩ := open_int Try.underlying2 (hval 1 2 v1 rfl rfl) h1
  clear hA0 hval0
  refine (walk s0 pp0 qq0 rr0 uu0 cc0 dd0 ee0 ff0 a1 W w0 w1).mono fun e W' ⟨he, bel⟩ => ?_
  subst he
  exact ⟨_, rfl, _, _, _, [], _, [], hW', trodAll_mk1 (shut_bool Try.underlying4 _), (trodAll_cons_mk (Below.trod laidOut (by kernel_rfl) (of_decide_eq_true (by kernel_rfl)) k0 bel lt0) (trodAll_cons_mk (shut_int Try.underlying2 w1) trodAll_mk0)), rfl, bel.frame _, fun h => by cases h⟩

/-- The statement. -/
theorem proved : Rows.FnExactGlobalOfSaid :=
  OpenClaim.holds_of_wide 8 Try.f8 rfl rfl rfl rfl rfl rfl rfl ⟨rfl, rfl, rfl, rfl, rfl⟩ rfl rfl rfl rfl rfl (by kernel_rfl) Try.func8 (by kernel_rfl)
    (of_decide_eq_true (by kernel_rfl)) (by unfold Func.isWrapper; first | (rw [if_pos (by decide +kernel)]; kernel_rfl) | (rw [if_neg (by decide +kernel)]; exact ⟨rfl, rfl⟩))
    (fun os started H enc _ => lifted os started H enc)
#print axioms proved
end Go.Proofs.Ytancfnpmbddfoaa.fnExactGlobalOf
