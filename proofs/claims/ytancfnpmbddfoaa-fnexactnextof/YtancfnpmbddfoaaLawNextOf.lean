/- The station is asked who is next, by the program and by the model: the same answer, and the station stays as it was. -/
import Derived.Test.YtancfnpmbddfoaaRows
import Derived.Test.YtancfnpmbddfoaaStnQ
import Derived.Test.YtancfnpmbddfoaaStnW
import Derived.Test.YtancfnpmbddfoaaStnO
import Derived.Test.YtancfnpmbddfoaaStnN
import Derived.Test.YtancfnpmbddfoaaLoadS
import Derived.Test.YtancfnpmbddfoaaTail
import Derived.WalkKit
import Derived.WalkSpells
import Derived.ProofKit
import Derived.OpenShut
import Derived.ShutString
import Derived.ChangeOld
import Derived.Below
import Derived.Outline
import Derived.Deep.RegionHeld3
import Derived.Deep.RegionWith
import Derived.Deep.DeepCutAuto
import Derived.Lib.SmallJoins
import Derived.Carry
namespace Go.Proofs.Ytancfnpmbddfoaa.fnExactNextOf
open Go.ChangeShapes Go.WideShapes Go.ChangeAt Go.RowKit
open Go.ChangeMaps (open_string shut_string)
set_option linter.unusedVariables false
set_option linter.unusedSimpArgs false

theorem own : ownKnob Try.prog.godebug = none := by kernel_rfl
theorem laidOut : laidOutB Try.prog = true := by kernel_rfl

set_option maxRecDepth 100000 in
set_option maxHeartbeats 1600000 in
/-- The walk: the law returns true, and nothing that was there has turned. -/
theorem walk (s0 : Stn) (p0 q0 r0 u0 : Option Addr) (c0 d0 e0 f0 : Nat) (w : World) (w0 : InI w p0 s0.kn ∧ InI w q0 s0.ws ∧ InG w r0 s0.gs ∧ InS w u0 s0.os) :
    Calls Try.prog 5 #[.agg #[.int .i64 s0.ad, .int .i64 s0.bo, .int .i64 s0.st, .int .i64 s0.s.g, .int .i64 s0.s.o, .int .i64 s0.s.b, .int .i64 s0.s.h, .int .i64 s0.t.g, .int .i64 s0.t.o, .int .i64 s0.t.b, .int .i64 s0.t.h, .int .i64 s0.qu, .int .i64 s0.tr, .int .i64 s0.he, .int .i64 s0.po, .slice p0 s0.kn.length c0, .slice q0 s0.ws.length d0, .slice r0 s0.gs.length e0, .slice u0 s0.os.length f0]] w fun e w' => e = .returned (.bool true) ∧ Below w.heap.size w w' := by
  obtain ⟨i1, i2, i3, i4⟩ := w0
  have HSZ : Hid (∀ W, Below w.heap.size w W → Calls Try.prog 9 #[.agg #[.int .i64 s0.ad, .int .i64 s0.bo, .int .i64 s0.st, .int .i64 s0.s.g, .int .i64 s0.s.o, .int .i64 s0.s.b, .int .i64 s0.s.h, .int .i64 s0.t.g, .int .i64 s0.t.o, .int .i64 s0.t.b, .int .i64 s0.t.h, .int .i64 s0.qu, .int .i64 s0.tr, .int .i64 s0.he, .int .i64 s0.po, .slice p0 s0.kn.length c0, .slice q0 s0.ws.length d0, .slice r0 s0.gs.length e0, .slice u0 s0.os.length f0], .int .i64 1048576] W fun x w' => x = .returned (.int .i64 (if s0.tot ≤ 1048576 then 1048576 - s0.tot else -1)) ∧ Below W.heap.size W w') := fun W hW => szStation_any s0 p0 q0 r0 u0 c0 d0 e0 f0 W (i1.below hW) (i2.below hW) (i3.below hW) (i4.below hW)
  have hX : Hid _ := heap_alloc_new w (.cells #[.int .i64 s0.ad, .int .i64 s0.bo, .int .i64 s0.st, .int .i64 s0.s.g, .int .i64 s0.s.o, .int .i64 s0.s.b, .int .i64 s0.s.h, .int .i64 s0.t.g, .int .i64 s0.t.o, .int .i64 s0.t.b, .int .i64 s0.t.h, .int .i64 s0.qu, .int .i64 s0.tr, .int .i64 s0.he, .int .i64 s0.po, .slice p0 s0.kn.length c0, .slice q0 s0.ws.length d0, .slice r0 s0.gs.length e0, .slice u0 s0.os.length f0] 28)
  have hA0 := all_alloc w (.cells #[.int .i64 s0.ad, .int .i64 s0.bo, .int .i64 s0.st, .int .i64 s0.s.g, .int .i64 s0.s.o, .int .i64 s0.s.b, .int .i64 s0.s.h, .int .i64 s0.t.g, .int .i64 s0.t.o, .int .i64 s0.t.b, .int .i64 s0.t.h, .int .i64 s0.qu, .int .i64 s0.tr, .int .i64 s0.he, .int .i64 s0.po, .slice p0 s0.kn.length c0, .slice q0 s0.ws.length d0, .slice r0 s0.gs.length e0, .slice u0 s0.os.length f0] 28)
  by_cases hle : s0.tot ≤ 1048576
  case neg =>
    rw [if_neg hle] at HSZ
    clear hle i1 i2 i3 i4
    go_enter Try.func5, Try.ntmps5
    go_upto_region 2 with fail
    generalize w.alloc (.cells #[.int .i64 s0.ad, .int .i64 s0.bo, .int .i64 s0.st, .int .i64 s0.s.g, .int .i64 s0.s.o, .int .i64 s0.s.b, .int .i64 s0.s.h, .int .i64 s0.t.g, .int .i64 s0.t.o, .int .i64 s0.t.b, .int .i64 s0.t.h, .int .i64 s0.qu, .int .i64 s0.tr, .int .i64 s0.he, .int .i64 s0.po, .slice p0 s0.kn.length c0, .slice q0 s0.ws.length d0, .slice r0 s0.gs.length e0, .slice u0 s0.os.length f0] 28) = A at hX hA0 ⊢
    go_wp2_with (first
      | (refine wpList_load_rowG (by rfl) 28 (.tmp 1) rfl w.heap.size rfl _ _ _ _ hX.out Try.underlying28 rfl (by kernel_rfl) ?_)
      | (go_at_call 9; refine (HSZ.out _ hA0).mono ?_; rintro e v1 ⟨rfl, hb1⟩))
    go_ret
    exact ⟨rfl, keepB hA0 (Nat.le_refl _) hb1⟩
  rw [if_pos hle] at HSZ
  have h3 : ¬ (1048576 : Int) - s0.tot < 0 := by omega
  have b1 : s0.kn.length ≤ 1048576 := by unfold Stn.tot at hle; omega
  have b2 : s0.ws.length ≤ 1048576 := by unfold Stn.tot at hle; omega
  have b3 : s0.gs.length ≤ 1048576 := by unfold Stn.tot at hle; omega
  have b4 : s0.os.length ≤ 1048576 := by unfold Stn.tot at hle; omega
  have b5 : ∀ g ∈ s0.gs, g.2.length ≤ 1048576 := fun g hg => by have := wsum_each hg; unfold Stn.tot at hle; omega
  have b6 : ∀ b ∈ s0.os, b.size ≤ 9223372036854775807 := fun g hg => by have := bsum_each hg; unfold Stn.tot at hle; omega
  have HTO : Hid (∀ W, Below w.heap.size w W → Calls Try.prog 11 #[.agg #[.int .i64 s0.ad, .int .i64 s0.bo, .int .i64 s0.st, .int .i64 s0.s.g, .int .i64 s0.s.o, .int .i64 s0.s.b, .int .i64 s0.s.h, .int .i64 s0.t.g, .int .i64 s0.t.o, .int .i64 s0.t.b, .int .i64 s0.t.h, .int .i64 s0.qu, .int .i64 s0.tr, .int .i64 s0.he, .int .i64 s0.po, .slice p0 s0.kn.length c0, .slice q0 s0.ws.length d0, .slice r0 s0.gs.length e0, .slice u0 s0.os.length f0]] W fun x w' => ∃ v1 v2 v3 v4, x = .returned (.agg #[.int .i64 s0.ad, .int .i64 s0.bo, .int .i64 s0.st, .int .i64 s0.s.g, .int .i64 s0.s.o, .int .i64 s0.s.b, .int .i64 s0.s.h, .int .i64 s0.t.g, .int .i64 s0.t.o, .int .i64 s0.t.b, .int .i64 s0.t.h, .int .i64 s0.qu, .int .i64 s0.tr, .int .i64 s0.he, .int .i64 s0.po, v1, v2, v3, v4]) ∧ OwnStn w' W.heap.size v1 v2 v3 v4 s0 ∧ Below W.heap.size W w') := fun W hW => toStation_any s0 p0 q0 r0 u0 c0 d0 e0 f0 W b1 b2 b3 b5 b4 (i1.below hW) (i2.below hW) (i3.below hW) (i4.below hW)
  have HS : Hid (∀ (W : World) (B : Nat) (v1 v2 v3 v4 : Value), OwnStn W B v1 v2 v3 v4 s0 → Calls Try.prog 19 #[.agg #[.int .i64 s0.ad, .int .i64 s0.bo, .int .i64 s0.st, .int .i64 s0.s.g, .int .i64 s0.s.o, .int .i64 s0.s.b, .int .i64 s0.s.h, .int .i64 s0.t.g, .int .i64 s0.t.o, .int .i64 s0.t.b, .int .i64 s0.t.h, .int .i64 s0.qu, .int .i64 s0.tr, .int .i64 s0.he, .int .i64 s0.po, v1, v2, v3, v4]] W fun e w' => e = .returned (.int .i64 s0.next) ∧ Below W.heap.size W w') := fun W B v1 v2 v3 v4 h => specNextOf_any s0 v1 v2 v3 v4 W b1 b2 b3 b5 b4 b6 h.rows.1 h.rows.2.1 h.rows.2.2.1 h.rows.2.2.2
  have HI : Hid (∀ (W : World) (B : Nat) (v1 v2 v3 v4 : Value), OwnStn W B v1 v2 v3 v4 s0 → Calls Try.prog 20 #[.agg #[.int .i64 s0.ad, .int .i64 s0.bo, .int .i64 s0.st, .int .i64 s0.s.g, .int .i64 s0.s.o, .int .i64 s0.s.b, .int .i64 s0.s.h, .int .i64 s0.t.g, .int .i64 s0.t.o, .int .i64 s0.t.b, .int .i64 s0.t.h, .int .i64 s0.qu, .int .i64 s0.tr, .int .i64 s0.he, .int .i64 s0.po, v1, v2, v3, v4]] W fun e w' => e = .returned (.int .i64 s0.next) ∧ Below W.heap.size W w') := fun W B v1 v2 v3 v4 h => nextOf_any s0 v1 v2 v3 v4 W b1 b2 b3 b5 b4 b6 h.rows.1 h.rows.2.1 h.rows.2.2.1 h.rows.2.2.2
  have HE : Hid (∀ (W : World) (B C : Nat) (v1 v2 v3 v4 x1 x2 x3 x4 : Value), OwnStn W B v1 v2 v3 v4 s0 → OwnStn W C x1 x2 x3 x4 s0 → Calls Try.prog 13 #[.agg #[.int .i64 s0.ad, .int .i64 s0.bo, .int .i64 s0.st, .int .i64 s0.s.g, .int .i64 s0.s.o, .int .i64 s0.s.b, .int .i64 s0.s.h, .int .i64 s0.t.g, .int .i64 s0.t.o, .int .i64 s0.t.b, .int .i64 s0.t.h, .int .i64 s0.qu, .int .i64 s0.tr, .int .i64 s0.he, .int .i64 s0.po, v1, v2, v3, v4], .agg #[.int .i64 s0.ad, .int .i64 s0.bo, .int .i64 s0.st, .int .i64 s0.s.g, .int .i64 s0.s.o, .int .i64 s0.s.b, .int .i64 s0.s.h, .int .i64 s0.t.g, .int .i64 s0.t.o, .int .i64 s0.t.b, .int .i64 s0.t.h, .int .i64 s0.qu, .int .i64 s0.tr, .int .i64 s0.he, .int .i64 s0.po, x1, x2, x3, x4]] W fun x w' => x = .returned (.bool true) ∧ Below W.heap.size W w') := fun W B C v1 v2 v3 v4 x1 x2 x3 x4 h1 h2 => eqStation_same s0 v1 v2 v3 v4 x1 x2 x3 x4 W b1 b2 b3 b5 b4 h1.rows.1 h1.rows.2.1 h1.rows.2.2.1 h1.rows.2.2.2 h2.rows.1 h2.rows.2.1 h2.rows.2.2.1 h2.rows.2.2.2
  clear i1 i2 i3 i4 hle b1 b2 b3 b4 b5 b6
  generalize s0.next = R at HS HI
  have eb : (R != R) = false := by simp
  go_enter Try.func5, Try.ntmps5
  go_upto_region 2 with fail
  generalize w.alloc (.cells #[.int .i64 s0.ad, .int .i64 s0.bo, .int .i64 s0.st, .int .i64 s0.s.g, .int .i64 s0.s.o, .int .i64 s0.s.b, .int .i64 s0.s.h, .int .i64 s0.t.g, .int .i64 s0.t.o, .int .i64 s0.t.b, .int .i64 s0.t.h, .int .i64 s0.qu, .int .i64 s0.tr, .int .i64 s0.he, .int .i64 s0.po, .slice p0 s0.kn.length c0, .slice q0 s0.ws.length d0, .slice r0 s0.gs.length e0, .slice u0 s0.os.length f0] 28) = A at hX hA0 ⊢
  go_upto_region 5 with (first
    | (refine wpList_load_rowG (by rfl) 28 (.tmp 1) rfl w.heap.size rfl _ _ _ _ hX.out Try.underlying28 rfl (by kernel_rfl) ?_)
    | (go_at_call 9; refine (HSZ.out _ hA0).mono ?_; rintro e v1 ⟨rfl, hb1⟩; have s1 : Below A.heap.size A v1 := hb1))
  have hX1 : Hid _ := blk hX.out s1
  have g1 := keepB hA0 (Nat.le_refl _) s1
  go_upto_region 6 with (first
    | (refine wpList_load_rowG (by rfl) 28 (.tmp 1) rfl w.heap.size rfl _ _ _ _ hX1.out Try.underlying28 rfl (by kernel_rfl) ?_)
    | (go_at_call 11; refine (HTO.out _ g1).mono ?_; rintro e v2 ⟨a1, a2, a3, a4, rfl, own2, hb2⟩; have s2 : Below A.heap.size A v2 := keepB s1 (Nat.le_refl _) hb2)
    | (go_at_call 19; refine (HS.out _ _ _ _ _ _ own2).mono ?_; rintro e v3 ⟨rfl, hb3⟩; have s3 : Below A.heap.size A v3 := keepB s2 (Nat.le_refl _) hb3))
  have hX3 : Hid _ := blk hX.out s3
  have g3 := keepB hA0 (Nat.le_refl _) s3
  clear hX1 g1 own2
  go_upto_region 7 with (first
    | (refine wpList_load_rowG (by rfl) 28 (.tmp 1) rfl w.heap.size rfl _ _ _ _ hX3.out Try.underlying28 rfl (by kernel_rfl) ?_)
    | (go_at_call 11; refine (HTO.out _ g3).mono ?_; rintro e v4 ⟨a1', a2', a3', a4', rfl, own4, hb4⟩; obtain ⟨ra4, rb4, rc4, rd4⟩ := own4.rows; obtain ⟨p4, c4, rfl, _⟩ := ra4; obtain ⟨q4, d4, rfl, _⟩ := rb4; obtain ⟨r4, e4, rfl, _⟩ := rc4; obtain ⟨u4, f4, rfl, _⟩ := rd4; have s4 : Below A.heap.size A v4 := keepB s3 (Nat.le_refl _) hb4)
    | (refine wpList_store_row rfl 34 (.tmp 5) (.tmp 16) rfl v4.heap.size #[.int .i64 s0.ad, .int .i64 s0.bo, .int .i64 s0.st, .int .i64 s0.s.g, .int .i64 s0.s.o, .int .i64 s0.s.b, .int .i64 s0.s.h, .int .i64 s0.t.g, .int .i64 s0.t.o, .int .i64 s0.t.b, .int .i64 s0.t.h, .int .i64 s0.qu, .int .i64 s0.tr, .int .i64 s0.he, .int .i64 s0.po, .slice p4 s0.kn.length c4, .slice q4 s0.ws.length d4, .slice r4 s0.gs.length e4, .slice u4 s0.os.length f4] rfl rfl _ _ (heap_alloc_new v4 _) (by kernel_rfl) rfl (by simp [Value.oneCell']) ?_))
  have hP : Hid _ := setRow_heap _ v4.heap.size _ #[.int .i64 s0.ad, .int .i64 s0.bo, .int .i64 s0.st, .int .i64 s0.s.g, .int .i64 s0.s.o, .int .i64 s0.s.b, .int .i64 s0.s.h, .int .i64 s0.t.g, .int .i64 s0.t.o, .int .i64 s0.t.b, .int .i64 s0.t.h, .int .i64 s0.qu, .int .i64 s0.tr, .int .i64 s0.he, .int .i64 s0.po, .slice p4 s0.kn.length c4, .slice q4 s0.ws.length d4, .slice r4 s0.gs.length e4, .slice u4 s0.os.length f4] _ _ (heap_alloc_new v4 (.cells #[.int .i64 0, .int .i64 0, .int .i64 0, .int .i64 0, .int .i64 0, .int .i64 0, .int .i64 0, .int .i64 0, .int .i64 0, .int .i64 0, .int .i64 0, .int .i64 0, .int .i64 0, .int .i64 0, .int .i64 0, .slice none 0 0, .slice none 0 0, .slice none 0 0, .slice none 0 0] 34))
  have hb5 : Below v4.heap.size v4 ((v4.alloc (.cells #[.int .i64 0, .int .i64 0, .int .i64 0, .int .i64 0, .int .i64 0, .int .i64 0, .int .i64 0, .int .i64 0, .int .i64 0, .int .i64 0, .int .i64 0, .int .i64 0, .int .i64 0, .int .i64 0, .int .i64 0, .slice none 0 0, .slice none 0 0, .slice none 0 0, .slice none 0 0] 34)).setRow v4.heap.size #[.int .i64 s0.ad, .int .i64 s0.bo, .int .i64 s0.st, .int .i64 s0.s.g, .int .i64 s0.s.o, .int .i64 s0.s.b, .int .i64 s0.s.h, .int .i64 s0.t.g, .int .i64 s0.t.o, .int .i64 s0.t.b, .int .i64 s0.t.h, .int .i64 s0.qu, .int .i64 s0.tr, .int .i64 s0.he, .int .i64 s0.po, .slice p4 s0.kn.length c4, .slice q4 s0.ws.length d4, .slice r4 s0.gs.length e4, .slice u4 s0.os.length f4]) := Below.setRow (all_alloc v4 _) (Nat.le_refl _) _
  generalize (v4.alloc (.cells #[.int .i64 0, .int .i64 0, .int .i64 0, .int .i64 0, .int .i64 0, .int .i64 0, .int .i64 0, .int .i64 0, .int .i64 0, .int .i64 0, .int .i64 0, .int .i64 0, .int .i64 0, .int .i64 0, .int .i64 0, .slice none 0 0, .slice none 0 0, .slice none 0 0, .slice none 0 0] 34)).setRow v4.heap.size #[.int .i64 s0.ad, .int .i64 s0.bo, .int .i64 s0.st, .int .i64 s0.s.g, .int .i64 s0.s.o, .int .i64 s0.s.b, .int .i64 s0.s.h, .int .i64 s0.t.g, .int .i64 s0.t.o, .int .i64 s0.t.b, .int .i64 s0.t.h, .int .i64 s0.qu, .int .i64 s0.tr, .int .i64 s0.he, .int .i64 s0.po, .slice p4 s0.kn.length c4, .slice q4 s0.ws.length d4, .slice r4 s0.gs.length e4, .slice u4 s0.os.length f4] = v5 at hP hb5 ⊢
  have s5 : Below A.heap.size A v5 := keepB s4 (Nat.le_refl _) hb5
  have o5 : Hid (OwnStn v5 _ _ _ _ _ s0) := own4.below hb5
  clear own4 hX3 g3
  go_upto_region 10 with (first
    | (refine wpList_load_rowG (by rfl) 34 (.tmp 5) rfl v4.heap.size rfl _ _ _ _ hP.out Try.underlying34 rfl (by kernel_rfl) ?_)
    | (go_at_call 20; refine (HI.out _ _ _ _ _ _ o5.out).mono ?_; rintro e v6 ⟨rfl, hb6⟩; have s6 : Below A.heap.size A v6 := keepB s5 (Nat.le_refl _) hb6))
  have hX6 : Hid _ := blk hX.out s6
  have hP6 : Hid _ := blk hP.out hb6
  have o6 : Hid (OwnStn v6 _ _ _ _ _ s0) := o5.out.below hb6
  have g6 := keepB hA0 (Nat.le_refl _) s6
  have hR : Below v6.heap.size v6 v6.drew := Below.drew (Below.refl _ _)
  clear hP hX o5 hb5 hb4 hb3 hb2 hb1
  refine wp_region_held_drew (S := (fun w' => Below v6.heap.size v6 w')) (by kernel_rfl) ?_ (fun hHeld => ?_)
  · (try dsimp only); exact hR
  refine yieldH (i := 0) (v := .agg #[.int .i64 s0.ad, .int .i64 s0.bo, .int .i64 s0.st, .int .i64 s0.s.g, .int .i64 s0.s.o, .int .i64 s0.s.b, .int .i64 s0.s.h, .int .i64 s0.t.g, .int .i64 s0.t.o, .int .i64 s0.t.b, .int .i64 s0.t.h, .int .i64 s0.qu, .int .i64 s0.tr, .int .i64 s0.he, .int .i64 s0.po, .slice p4 s0.kn.length c4, .slice q4 s0.ws.length d4, .slice r4 s0.gs.length e4, .slice u4 s0.os.length f4]) rfl (by kernel_rfl) (by kernel_rfl) (by kernel_rfl) (fun _ _ _ h => h) (by rfl) (fun W hW => exec_load_row 34 (.tmp 5) rfl v4.heap.size rfl _ _ _ _ (blk hP6.out hW) Try.underlying34 rfl (by kernel_rfl)) (by assumption) ?_
  try simp only [Act.put, List.setIfInBounds_toArray, List.set_cons_zero, List.set_cons_succ, List.getElem_toArray, List.getElem_cons_succ, List.getElem_cons_zero]
  refine yieldH (i := 1) (v := .agg #[.int .i64 s0.ad, .int .i64 s0.bo, .int .i64 s0.st, .int .i64 s0.s.g, .int .i64 s0.s.o, .int .i64 s0.s.b, .int .i64 s0.s.h, .int .i64 s0.t.g, .int .i64 s0.t.o, .int .i64 s0.t.b, .int .i64 s0.t.h, .int .i64 s0.qu, .int .i64 s0.tr, .int .i64 s0.he, .int .i64 s0.po, .slice p0 s0.kn.length c0, .slice q0 s0.ws.length d0, .slice r0 s0.gs.length e0, .slice u0 s0.os.length f0]) rfl (by kernel_rfl) (by kernel_rfl) (by kernel_rfl) (fun _ _ _ h => h) (by rfl) (fun W hW => exec_load_row 28 (.tmp 1) rfl w.heap.size rfl _ _ _ _ (blk hX6.out hW) Try.underlying28 rfl (by kernel_rfl)) (by assumption) ?_
  try simp only [Act.put, List.setIfInBounds_toArray, List.set_cons_zero, List.set_cons_succ, List.getElem_toArray, List.getElem_cons_succ, List.getElem_cons_zero]
  refine wpAnyH_ready (rs := [2]) (by kernel_rfl) (by simp) ?_
  refine AllReadyH.cons rfl (fun K hK => ?_) AllReadyH.nil
  go_simp
  go_at_call 11; refine (HTO.out _ (keepB g6 (Nat.le_refl _) hR)).mono ?_; rintro e7 v7 ⟨y1, y2, y3, y4, rfl, own7, hb7⟩; have t7 : Below v6.heap.size v6 v7 := keepB hR (Nat.le_refl _) hb7
  dsimp only
  refine hK.out _ _ ?_ (fun hHeld => ?_)
  · (try dsimp only); exact t7
  clear hK K
  try simp only [Act.put, List.setIfInBounds_toArray, List.set_cons_zero, List.set_cons_succ, List.getElem_toArray, List.getElem_cons_succ, List.getElem_cons_zero]
  refine wpAnyH_ready (rs := [3]) (by kernel_rfl) (by simp) ?_
  refine AllReadyH.cons rfl (fun K hK => ?_) AllReadyH.nil
  go_simp
  go_at_call 13; refine (HE.out _ _ _ _ _ _ _ _ _ _ _ (o6.out.below t7) own7).mono ?_; rintro e8 v8 ⟨rfl, hb8⟩; have t8 : Below v6.heap.size v6 v8 := keepB t7 (Nat.le_refl _) hb8
  dsimp only
  refine hK.out _ _ ?_ (fun hHeld => ?_)
  · (try dsimp only); exact t8
  clear hK K
  try simp only [Act.put, List.setIfInBounds_toArray, List.set_cons_zero, List.set_cons_succ, List.getElem_toArray, List.getElem_cons_succ, List.getElem_cons_zero]
  first
    | (refine skipH (i := 4) rfl (by kernel_rfl) (by kernel_rfl) (by kernel_rfl) (fun _ _ _ h => h) (by rfl) (by assumption) ?_; try simp only [Act.put, List.setIfInBounds_toArray, List.set_cons_zero, List.set_cons_succ, List.getElem_toArray, List.getElem_cons_succ, List.getElem_cons_zero])
    | (refine yieldH (i := 4) (v := ?_) rfl (by kernel_rfl) (by kernel_rfl) (by kernel_rfl) (fun _ _ _ h => h) (by rfl) ?_ (by assumption) ?_; rotate_left; (intro w hSw; (try dsimp only at hSw); go_simp; (try with_reducible rfl)); try simp only [Act.put, List.setIfInBounds_toArray, List.set_cons_zero, List.set_cons_succ, List.getElem_toArray, List.getElem_cons_succ, List.getElem_cons_zero])
    | fail
  refine wpAnyH_done (by kernel_rfl) ?_ _
  go_wp2
  go_ret
  exact ⟨rfl, keepB g6 (Nat.le_refl _) t8⟩

set_option maxRecDepth 100000 in
theorem lifted (os : Os) (started : os.Started) (H : Type) (enc : TypeId × Value → H) :
    ReturnsInHanded {} Try.checked os 5 .any (Rows.fnExactNextOfSpec.pre6 enc Try.prog Try.f5 Rows.fnExactNextOfRow.domain false) (Rows.fnExactNextOfSpec.post enc Try.prog Try.f5 false true false false) := by
  refine returnsInHanded_of_change (C := Try.checked) own started (by kernel_rfl) Try.func5
    (ChangeSpec.witness6 (enc := enc) (C := Try.checked) false ⟨#[], #[.agg #[.int .i64 0, .int .i64 0, .int .i64 0, .int .i64 0, .int .i64 0, .int .i64 0, .int .i64 0, .int .i64 0, .int .i64 0, .int .i64 0, .int .i64 0, .int .i64 0, .int .i64 0, .int .i64 0, .int .i64 0, .slice none 0 0, .slice none 0 0, .slice none 0 0, .slice none 0 0]], []⟩ 8 (by kernel_rfl) (by kernel_rfl) (by kernel_rfl) (by kernel_rfl)) ?_
  intro W base args ds gs before hval0 hW hcnd _
  have hval : ∀ (j : Nat) t v, Try.f5.params[j]? = some t → args[j]? = some v → Value.okWide Try.prog W .any base t v := hval0
  have hW' := hW
  obtain ⟨p, q, hA0, hV, rfl, hfz, hnd⟩ := hW
  have hA : DataW.TrodAll enc Try.prog W 0 (fun _ => true) true Try.f5.params.toList args.toList ds p := hA0
  rw [Try.params5] at hA hval
  obtain ⟨v0, vs0, d0, ds0, p0, q0, hargs, rfl, rfl, h0, r0⟩ := trodAll_cons hA
  obtain ⟨rfl, rfl, rfl⟩ := trodAll_nil r0
  obtain rfl : args = #[v0] := by cases args; simp_all
  obtain ⟨rfl, rfl⟩ := trodVars_none hV
  have k0 := h0
  have lt0 : ∀ x ∈ p0, x.block < W.heap.size := by obtain ⟨m, hm⟩ := k0; exact DataW.trod_lt m _ _ _ hm
  obtain ⟨s0, pp0, qq0, rr0, uu0, cc0, dd0, ee0, ff0, rfl, w0⟩ := open_station (hval 0 28 v0 rfl rfl) h0
  clear hA0 hval0
  refine (walk s0 pp0 qq0 rr0 uu0 cc0 dd0 ee0 ff0 W w0).mono fun e W' ⟨he, bel⟩ => ?_
  subst he
  exact ⟨_, rfl, _, _, _, [], _, [], hW', trodAll_mk1 (shut_bool Try.underlying4 _), (trodAll_cons_mk (Below.trod laidOut (by kernel_rfl) (of_decide_eq_true (by kernel_rfl)) k0 bel lt0) trodAll_mk0), rfl, bel.frame _, fun h => by cases h⟩

/-- The statement. -/
theorem proved : Rows.FnExactNextOfSaid :=
  OpenClaim.holds_of_wide 5 Try.f5 rfl rfl rfl rfl rfl rfl rfl ⟨rfl, rfl, rfl, rfl, rfl⟩ rfl rfl rfl rfl rfl (by kernel_rfl) Try.func5 (by kernel_rfl)
    (of_decide_eq_true (by kernel_rfl)) (by unfold Func.isWrapper; first | (rw [if_pos (by decide +kernel)]; kernel_rfl) | (rw [if_neg (by decide +kernel)]; exact ⟨rfl, rfl⟩))
    (fun os started H enc _ => lifted os started H enc)
#print axioms proved
end Go.Proofs.Ytancfnpmbddfoaa.fnExactNextOf
