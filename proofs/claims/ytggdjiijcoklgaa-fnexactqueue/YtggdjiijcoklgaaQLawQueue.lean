/- A text is put out at a station, by the program and by the model: the same, in memory of its own, and what was handed in stays as it was. -/
import Derived.Test.YtggdjiijcoklgaaRows
import Derived.Test.YtggdjiijcoklgaaQStnQ
import Derived.Test.YtggdjiijcoklgaaQStnW
import Derived.Test.YtggdjiijcoklgaaQOwnU
import Derived.Test.YtggdjiijcoklgaaQQueL
import Derived.Test.YtggdjiijcoklgaaQStnH
import Derived.Test.YtggdjiijcoklgaaQStnC
import Derived.Test.YtggdjiijcoklgaaQTail
import Derived.WalkKit
import Derived.WalkSpells
import Derived.ProofKit
import Derived.OpenShut
import Derived.ShutString
import Derived.ChangeOld
import Derived.Below
import Derived.Outline
import Derived.Deep.RegionHeld3
import Derived.Deep.RegionWith
import Derived.Deep.DeepCutAuto
import Derived.Lib.SmallJoins
import Derived.Carry
namespace Go.Proofs.Ytggdjiijcoklgaa.fnExactQueue
open Go.ChangeShapes Go.WideShapes Go.ChangeAt Go.RowKit
open Go.ChangeMaps (open_string shut_string)
set_option linter.unusedVariables false
set_option linter.unusedSimpArgs false

theorem own : ownKnob Try.prog.godebug = none := by kernel_rfl
theorem laidOut : laidOutB Try.prog = true := by kernel_rfl

set_option maxRecDepth 100000 in
set_option maxHeartbeats 1600000 in
/-- The walk: the law returns true, and nothing that was there has turned. -/
theorem walk (s0 : Stn) (p0 q0 r0 u0 : Option Addr) (c0 d0 e0 f0 : Nat) (a1 : ByteArray) (w : World) (w0 : InI w p0 s0.kn ∧ InI w q0 s0.ws ∧ InG w r0 s0.gs ∧ InS w u0 s0.os) (w1 : a1.size ≤ maxLen) :
    Calls Try.prog 3 #[.agg #[.int .i64 s0.ad, .int .i64 s0.bo, .int .i64 s0.st, .int .i64 s0.s.g, .int .i64 s0.s.o, .int .i64 s0.s.b, .int .i64 s0.s.h, .int .i64 s0.t.g, .int .i64 s0.t.o, .int .i64 s0.t.b, .int .i64 s0.t.h, .int .i64 s0.qu, .int .i64 s0.tr, .int .i64 s0.he, .int .i64 s0.po, .slice p0 s0.kn.length c0, .slice q0 s0.ws.length d0, .slice r0 s0.gs.length e0, .slice u0 s0.os.length f0], .string a1] w fun e w' => e = .returned (.bool true) ∧ Below w.heap.size w w' := by
  obtain ⟨i1, i2, i3, i4⟩ := w0
  have hX : Hid _ := heap_alloc_new w (.cells #[.int .i64 s0.ad, .int .i64 s0.bo, .int .i64 s0.st, .int .i64 s0.s.g, .int .i64 s0.s.o, .int .i64 s0.s.b, .int .i64 s0.s.h, .int .i64 s0.t.g, .int .i64 s0.t.o, .int .i64 s0.t.b, .int .i64 s0.t.h, .int .i64 s0.qu, .int .i64 s0.tr, .int .i64 s0.he, .int .i64 s0.po, .slice p0 s0.kn.length c0, .slice q0 s0.ws.length d0, .slice r0 s0.gs.length e0, .slice u0 s0.os.length f0] 28)
  have hA0 := all_alloc w (.cells #[.int .i64 s0.ad, .int .i64 s0.bo, .int .i64 s0.st, .int .i64 s0.s.g, .int .i64 s0.s.o, .int .i64 s0.s.b, .int .i64 s0.s.h, .int .i64 s0.t.g, .int .i64 s0.t.o, .int .i64 s0.t.b, .int .i64 s0.t.h, .int .i64 s0.qu, .int .i64 s0.tr, .int .i64 s0.he, .int .i64 s0.po, .slice p0 s0.kn.length c0, .slice q0 s0.ws.length d0, .slice r0 s0.gs.length e0, .slice u0 s0.os.length f0] 28)
  by_cases hzl : a1.size ≤ 1048576
  case neg =>
    have hz1 : (1048576 : Int) < (a1.size : Int) := by omega
    clear i1 i2 i3 i4 w1 hzl hX
    go_enter Try.func3, Try.ntmps3
    go_wp2
    go_ret
    exact ⟨rfl, hA0⟩
  have hz1 : ¬ (1048576 : Int) < (a1.size : Int) := by omega
  have HSZ : Hid (∀ W, Below w.heap.size w W → Calls Try.prog 7 #[.agg #[.int .i64 s0.ad, .int .i64 s0.bo, .int .i64 s0.st, .int .i64 s0.s.g, .int .i64 s0.s.o, .int .i64 s0.s.b, .int .i64 s0.s.h, .int .i64 s0.t.g, .int .i64 s0.t.o, .int .i64 s0.t.b, .int .i64 s0.t.h, .int .i64 s0.qu, .int .i64 s0.tr, .int .i64 s0.he, .int .i64 s0.po, .slice p0 s0.kn.length c0, .slice q0 s0.ws.length d0, .slice r0 s0.gs.length e0, .slice u0 s0.os.length f0], .int .i64 1048576] W fun x w' => x = .returned (.int .i64 (if s0.tot ≤ 1048576 then 1048576 - s0.tot else -1)) ∧ Below W.heap.size W w') := fun W hW => szStation_any s0 p0 q0 r0 u0 c0 d0 e0 f0 W (i1.below hW) (i2.below hW) (i3.below hW) (i4.below hW)
  by_cases hle : s0.tot ≤ 1048576
  case neg =>
    rw [if_neg hle] at HSZ
    clear hle i1 i2 i3 i4 w1 hzl
    go_enter Try.func3, Try.ntmps3
    go_upto_region 1 with fail
    generalize w.alloc (.cells #[.int .i64 s0.ad, .int .i64 s0.bo, .int .i64 s0.st, .int .i64 s0.s.g, .int .i64 s0.s.o, .int .i64 s0.s.b, .int .i64 s0.s.h, .int .i64 s0.t.g, .int .i64 s0.t.o, .int .i64 s0.t.b, .int .i64 s0.t.h, .int .i64 s0.qu, .int .i64 s0.tr, .int .i64 s0.he, .int .i64 s0.po, .slice p0 s0.kn.length c0, .slice q0 s0.ws.length d0, .slice r0 s0.gs.length e0, .slice u0 s0.os.length f0] 28) = A at hX hA0 ⊢
    go_wp2_with (first
      | (refine wpList_load_rowG (by rfl) 28 (.tmp 2) rfl w.heap.size rfl _ _ _ _ hX.out Try.underlying28 rfl (by kernel_rfl) ?_)
      | (go_at_call 7; refine (HSZ.out _ hA0).mono ?_; rintro e v1 ⟨rfl, hb1⟩))
    go_ret
    exact ⟨rfl, keepB hA0 (Nat.le_refl _) hb1⟩
  rw [if_pos hle] at HSZ
  have h3 : ¬ (1048576 : Int) - s0.tot < 0 := by omega
  have b1 : s0.kn.length ≤ 1048576 := by unfold Stn.tot at hle; omega
  have b2 : s0.ws.length ≤ 1048576 := by unfold Stn.tot at hle; omega
  have b3 : s0.gs.length ≤ 1048576 := by unfold Stn.tot at hle; omega
  have b4 : s0.os.length ≤ 1048576 := by unfold Stn.tot at hle; omega
  have b5 : ∀ g ∈ s0.gs, g.2.length ≤ 1048576 := fun g hg => by have := wsum_each hg; unfold Stn.tot at hle; omega
  have b6 : ∀ b ∈ s0.os, b.size ≤ 9223372036854775807 := fun g hg => by have := bsum_each hg; unfold Stn.tot at hle; omega
  have hcn : 0 ≤ s0.cnt ∧ s0.cnt ≤ 1048576 := by unfold Stn.tot at hle; unfold Stn.cnt; omega
  have HTO : Hid (∀ W, Below w.heap.size w W → Calls Try.prog 9 #[.agg #[.int .i64 s0.ad, .int .i64 s0.bo, .int .i64 s0.st, .int .i64 s0.s.g, .int .i64 s0.s.o, .int .i64 s0.s.b, .int .i64 s0.s.h, .int .i64 s0.t.g, .int .i64 s0.t.o, .int .i64 s0.t.b, .int .i64 s0.t.h, .int .i64 s0.qu, .int .i64 s0.tr, .int .i64 s0.he, .int .i64 s0.po, .slice p0 s0.kn.length c0, .slice q0 s0.ws.length d0, .slice r0 s0.gs.length e0, .slice u0 s0.os.length f0]] W fun x w' => ∃ v1 v2 v3 v4, x = .returned (.agg #[.int .i64 s0.ad, .int .i64 s0.bo, .int .i64 s0.st, .int .i64 s0.s.g, .int .i64 s0.s.o, .int .i64 s0.s.b, .int .i64 s0.s.h, .int .i64 s0.t.g, .int .i64 s0.t.o, .int .i64 s0.t.b, .int .i64 s0.t.h, .int .i64 s0.qu, .int .i64 s0.tr, .int .i64 s0.he, .int .i64 s0.po, v1, v2, v3, v4]) ∧ OwnStn w' W.heap.size v1 v2 v3 v4 s0 ∧ Below W.heap.size W w') := fun W hW => toStation_any s0 p0 q0 r0 u0 c0 d0 e0 f0 W b1 b2 b3 b5 b4 (i1.below hW) (i2.below hW) (i3.below hW) (i4.below hW)
  have HE : Hid (∀ (W : World) (B C : Nat) (v1 v2 v3 v4 x1 x2 x3 x4 : Value), OwnStn W B v1 v2 v3 v4 s0 → OwnStn W C x1 x2 x3 x4 s0 → Calls Try.prog 12 #[.agg #[.int .i64 s0.ad, .int .i64 s0.bo, .int .i64 s0.st, .int .i64 s0.s.g, .int .i64 s0.s.o, .int .i64 s0.s.b, .int .i64 s0.s.h, .int .i64 s0.t.g, .int .i64 s0.t.o, .int .i64 s0.t.b, .int .i64 s0.t.h, .int .i64 s0.qu, .int .i64 s0.tr, .int .i64 s0.he, .int .i64 s0.po, v1, v2, v3, v4], .agg #[.int .i64 s0.ad, .int .i64 s0.bo, .int .i64 s0.st, .int .i64 s0.s.g, .int .i64 s0.s.o, .int .i64 s0.s.b, .int .i64 s0.s.h, .int .i64 s0.t.g, .int .i64 s0.t.o, .int .i64 s0.t.b, .int .i64 s0.t.h, .int .i64 s0.qu, .int .i64 s0.tr, .int .i64 s0.he, .int .i64 s0.po, x1, x2, x3, x4]] W fun x w' => x = .returned (.bool true) ∧ Below W.heap.size W w') := fun W B C v1 v2 v3 v4 x1 x2 x3 x4 h1 h2 => eqStation_same s0 v1 v2 v3 v4 x1 x2 x3 x4 W b1 b2 b3 b5 b4 h1.rows.1 h1.rows.2.1 h1.rows.2.2.1 h1.rows.2.2.2 h2.rows.1 h2.rows.2.1 h2.rows.2.2.1 h2.rows.2.2.2
  have HS : Hid (∀ (W : World) (B : Nat) (v1 v2 v3 v4 : Value), OwnStn W B v1 v2 v3 v4 s0 → Calls Try.prog 8 #[.agg #[.int .i64 s0.ad, .int .i64 s0.bo, .int .i64 s0.st, .int .i64 s0.s.g, .int .i64 s0.s.o, .int .i64 s0.s.b, .int .i64 s0.s.h, .int .i64 s0.t.g, .int .i64 s0.t.o, .int .i64 s0.t.b, .int .i64 s0.t.h, .int .i64 s0.qu, .int .i64 s0.tr, .int .i64 s0.he, .int .i64 s0.po, v1, v2, v3, v4], .string a1] W fun e w' => ∃ u1 u2 u3 u4, e = .returned (.agg #[.int .i64 (queStn s0 a1).ad, .int .i64 (queStn s0 a1).bo, .int .i64 (queStn s0 a1).st, .int .i64 (queStn s0 a1).s.g, .int .i64 (queStn s0 a1).s.o, .int .i64 (queStn s0 a1).s.b, .int .i64 (queStn s0 a1).s.h, .int .i64 (queStn s0 a1).t.g, .int .i64 (queStn s0 a1).t.o, .int .i64 (queStn s0 a1).t.b, .int .i64 (queStn s0 a1).t.h, .int .i64 (queStn s0 a1).qu, .int .i64 (queStn s0 a1).tr, .int .i64 (queStn s0 a1).he, .int .i64 (queStn s0 a1).po, u1, u2, u3, u4, .slice none 0 0, .int .i64 (queCode s0 a1)]) ∧ OwnStn w' W.heap.size u1 u2 u3 u4 (queStn s0 a1) ∧ Below W.heap.size W w') := fun W B v1 v2 v3 v4 h => specQueue_any s0 a1 B v1 v2 v3 v4 W b1 b2 b3 b5 b4 b6 hzl h
  have HI : Hid (∀ (W : World) (B : Nat) (v1 v2 v3 v4 : Value), OwnStn W B v1 v2 v3 v4 s0 → Calls Try.prog 10 #[.agg #[.int .i64 s0.ad, .int .i64 s0.bo, .int .i64 s0.st, .int .i64 s0.s.g, .int .i64 s0.s.o, .int .i64 s0.s.b, .int .i64 s0.s.h, .int .i64 s0.t.g, .int .i64 s0.t.o, .int .i64 s0.t.b, .int .i64 s0.t.h, .int .i64 s0.qu, .int .i64 s0.tr, .int .i64 s0.he, .int .i64 s0.po, v1, v2, v3, v4], .string a1] W fun e w' => ∃ u1 u2 u3 u4, e = .returned (.agg #[.int .i64 (queStn s0 a1).ad, .int .i64 (queStn s0 a1).bo, .int .i64 (queStn s0 a1).st, .int .i64 (queStn s0 a1).s.g, .int .i64 (queStn s0 a1).s.o, .int .i64 (queStn s0 a1).s.b, .int .i64 (queStn s0 a1).s.h, .int .i64 (queStn s0 a1).t.g, .int .i64 (queStn s0 a1).t.o, .int .i64 (queStn s0 a1).t.b, .int .i64 (queStn s0 a1).t.h, .int .i64 (queStn s0 a1).qu, .int .i64 (queStn s0 a1).tr, .int .i64 (queStn s0 a1).he, .int .i64 (queStn s0 a1).po, u1, u2, u3, u4, .slice none 0 0, .int .i64 (queCode s0 a1)]) ∧ OwnStn w' W.heap.size u1 u2 u3 u4 (queStn s0 a1) ∧ Below W.heap.size W w') := fun W B v1 v2 v3 v4 h => queue_any s0 a1 B v1 v2 v3 v4 W b1 b2 b3 b5 b4 b6 hzl h
  have HMK : Hid (∀ (W : World) (B T : Nat) (v1 v2 v3 v4 : Value), OwnStnB W B T v1 v2 v3 v4 s0 → Calls Try.prog 13 #[.agg #[.int .i64 s0.ad, .int .i64 s0.bo, .int .i64 s0.st, .int .i64 s0.s.g, .int .i64 s0.s.o, .int .i64 s0.s.b, .int .i64 s0.s.h, .int .i64 s0.t.g, .int .i64 s0.t.o, .int .i64 s0.t.b, .int .i64 s0.t.h, .int .i64 s0.qu, .int .i64 s0.tr, .int .i64 s0.he, .int .i64 s0.po, v1, v2, v3, v4], .int .i64 1] W fun e w' => e = .returned (.int .i64 (1 + s0.cnt)) ∧ Only W w' B T) := fun W B T v1 v2 v3 v4 h => (markStation_any s0 B T v1 v2 v3 v4 W hcn.2 h).mono fun e w' h => ⟨h.1, h.2.2⟩
  have hps := que_small s0 a1
  generalize queStn s0 a1 = P at HS HI hps
  generalize queCode s0 a1 = C at HS HI
  have hk0 : ¬ (1 : Int) + s0.cnt < 0 := by omega
  generalize s0.cnt = CN at HMK hk0
  generalize 1 + CN = KK at HMK hk0
  have hkd : decide (KK < 0) = false := decide_eq_false hk0
  have HEO : Hid (∀ (W : World) (B D : Nat) (v1 v2 v3 v4 x1 x2 x3 x4 : Value), OwnStn W B v1 v2 v3 v4 P → OwnStn W D x1 x2 x3 x4 P → Calls Try.prog 11 #[.agg #[.int .i64 P.ad, .int .i64 P.bo, .int .i64 P.st, .int .i64 P.s.g, .int .i64 P.s.o, .int .i64 P.s.b, .int .i64 P.s.h, .int .i64 P.t.g, .int .i64 P.t.o, .int .i64 P.t.b, .int .i64 P.t.h, .int .i64 P.qu, .int .i64 P.tr, .int .i64 P.he, .int .i64 P.po, v1, v2, v3, v4, .slice none 0 0, .int .i64 C], .agg #[.int .i64 P.ad, .int .i64 P.bo, .int .i64 P.st, .int .i64 P.s.g, .int .i64 P.s.o, .int .i64 P.s.b, .int .i64 P.s.h, .int .i64 P.t.g, .int .i64 P.t.o, .int .i64 P.t.b, .int .i64 P.t.h, .int .i64 P.qu, .int .i64 P.tr, .int .i64 P.he, .int .i64 P.po, x1, x2, x3, x4, .slice none 0 0, .int .i64 C]] W fun e w' => e = .returned (.bool true) ∧ Below W.heap.size W w') := fun W B D v1 v2 v3 v4 x1 x2 x3 x4 h1 h2 => eqStationOut_nil P C v1 v2 v3 v4 x1 x2 x3 x4 W (by have := hps.kn; omega) (by have := hps.ws; omega) (by have := hps.gs; omega) (fun g hg => by have := hps.gw g hg; omega) (by have := hps.os; omega) h1.rows.1 h1.rows.2.1 h1.rows.2.2.1 h1.rows.2.2.2 h2.rows.1 h2.rows.2.1 h2.rows.2.2.1 h2.rows.2.2.2
  have hpc := small_cnt hps
  have HMO : Hid (∀ (W : World) (B T : Nat) (v1 v2 v3 v4 : Value), OwnStnB W B T v1 v2 v3 v4 P → Calls Try.prog 14 #[.agg #[.int .i64 P.ad, .int .i64 P.bo, .int .i64 P.st, .int .i64 P.s.g, .int .i64 P.s.o, .int .i64 P.s.b, .int .i64 P.s.h, .int .i64 P.t.g, .int .i64 P.t.o, .int .i64 P.t.b, .int .i64 P.t.h, .int .i64 P.qu, .int .i64 P.tr, .int .i64 P.he, .int .i64 P.po, v1, v2, v3, v4, .slice none 0 0, .int .i64 C], .int .i64 1] W fun e w' => e = .returned (.int .i64 (1 + P.cnt)) ∧ OwnStnB w' B T v1 v2 v3 v4 P.marked ∧ Only W w' B T) := fun W B T v1 v2 v3 v4 h => markStationOut_nil P C B T v1 v2 v3 v4 W hpc h
  have HHO : Hid (∀ (W : World) (B : Nat) (v1 v2 v3 v4 : Value), OwnStn W B v1 v2 v3 v4 P.marked → Calls Try.prog 15 #[.agg #[.int .i64 P.ad, .int .i64 P.bo, .int .i64 P.st, .int .i64 P.s.g, .int .i64 P.s.o, .int .i64 P.s.b, .int .i64 P.s.h, .int .i64 P.t.g, .int .i64 P.t.o, .int .i64 P.t.b, .int .i64 P.t.h, .int .i64 P.qu, .int .i64 P.tr, .int .i64 P.he, .int .i64 P.po, v1, v2, v3, v4, .slice none 0 0, .int .i64 C], .int .i64 1] W fun e w' => e = .returned (.int .i64 (1 + P.cnt)) ∧ Below W.heap.size W w') := fun W B v1 v2 v3 v4 h => heldStationOut_nil P C B v1 v2 v3 v4 W hpc h
  have hp0 : ¬ (1 : Int) + P.cnt < 0 := by unfold Stn.cnt; omega
  generalize P.marked = PM at HMO HHO
  generalize P.cnt = PN at HMO HHO hp0
  have hp1 : ((1 : Int) + PN != 1 + PN) = false := by simp
  clear i1 i2 i3 i4 w1 hle b1 b2 b3 b4 b5 b6 hps hpc hcn
  go_enter Try.func3, Try.ntmps3
  go_upto_region 1 with fail
  have zA0 : (w.alloc (.cells #[.int .i64 s0.ad, .int .i64 s0.bo, .int .i64 s0.st, .int .i64 s0.s.g, .int .i64 s0.s.o, .int .i64 s0.s.b, .int .i64 s0.s.h, .int .i64 s0.t.g, .int .i64 s0.t.o, .int .i64 s0.t.b, .int .i64 s0.t.h, .int .i64 s0.qu, .int .i64 s0.tr, .int .i64 s0.he, .int .i64 s0.po, .slice p0 s0.kn.length c0, .slice q0 s0.ws.length d0, .slice r0 s0.gs.length e0, .slice u0 s0.os.length f0] 28)).heap.size = w.heap.size + 1 := by simp
  generalize w.alloc (.cells #[.int .i64 s0.ad, .int .i64 s0.bo, .int .i64 s0.st, .int .i64 s0.s.g, .int .i64 s0.s.o, .int .i64 s0.s.b, .int .i64 s0.s.h, .int .i64 s0.t.g, .int .i64 s0.t.o, .int .i64 s0.t.b, .int .i64 s0.t.h, .int .i64 s0.qu, .int .i64 s0.tr, .int .i64 s0.he, .int .i64 s0.po, .slice p0 s0.kn.length c0, .slice q0 s0.ws.length d0, .slice r0 s0.gs.length e0, .slice u0 s0.os.length f0] 28) = A at hX hA0 zA0 ⊢
  have zA : w.heap.size + 1 ≤ A.heap.size := by omega
  clear zA0
  have hg := hA0
  go_upto_region 7 with (first
    | (refine wpList_load_rowG (by rfl) 28 (.tmp 2) rfl w.heap.size rfl _ _ _ _ hX.out Try.underlying28 rfl (by kernel_rfl) ?_)
    | (go_at_call 7; refine (HSZ.out _ hA0).mono ?_; rintro e v1 ⟨rfl, hb1⟩))
  have z_v1 : A.heap.size ≤ v1.heap.size := hb1.size
  replace hX : Hid _ := blk hX.out hb1
  replace hg : Below w.heap.size w v1 := keepB hg (Nat.le_refl _) hb1
  go_upto_region 8 with (first
    | (refine wpList_load_rowG (by rfl) 28 (.tmp 2) rfl w.heap.size rfl _ _ _ _ hX.out Try.underlying28 rfl (by kernel_rfl) ?_)
    | (go_at_call 9; refine (HTO.out _ hg).mono ?_; rintro e v2 ⟨y1, y2, y3, y4, rfl, own2, hb2⟩)
    | (go_at_call 8; refine (HS.out _ _ _ _ _ _ own2).mono ?_; rintro e v4 ⟨y5, y6, y7, y8, rfl, own4, hb4⟩; obtain ⟨ra5, rb5, rc5, rd5⟩ := own4.rows; obtain ⟨p5, c5, rfl, _⟩ := ra5; obtain ⟨q5, d5, rfl, _⟩ := rb5; obtain ⟨r5, e5, rfl, _⟩ := rc5; obtain ⟨u5, f5, rfl, _⟩ := rd5)
    | (refine wpList_store_row rfl 36 (.tmp 6) (.tmp 24) rfl v4.heap.size #[.int .i64 P.ad, .int .i64 P.bo, .int .i64 P.st, .int .i64 P.s.g, .int .i64 P.s.o, .int .i64 P.s.b, .int .i64 P.s.h, .int .i64 P.t.g, .int .i64 P.t.o, .int .i64 P.t.b, .int .i64 P.t.h, .int .i64 P.qu, .int .i64 P.tr, .int .i64 P.he, .int .i64 P.po, .slice p5 P.kn.length c5, .slice q5 P.ws.length d5, .slice r5 P.gs.length e5, .slice u5 P.os.length f5, .slice none 0 0, .int .i64 C] rfl rfl _ _ (heap_alloc_new v4 _) (by kernel_rfl) rfl (by simp [Value.oneCell']) ?_))
  clear own2
  have z_v2 : v1.heap.size ≤ v2.heap.size := hb2.size
  replace hX : Hid _ := blk hX.out hb2
  replace hg : Below w.heap.size w v2 := keepB hg (Nat.le_refl _) hb2
  have z_v4 : v2.heap.size ≤ v4.heap.size := hb4.size
  replace hX : Hid _ := blk hX.out hb4
  replace hg : Below w.heap.size w v4 := keepB hg (Nat.le_refl _) hb4
  have h6 : Hid _ := setRow_heap _ v4.heap.size _ #[.int .i64 P.ad, .int .i64 P.bo, .int .i64 P.st, .int .i64 P.s.g, .int .i64 P.s.o, .int .i64 P.s.b, .int .i64 P.s.h, .int .i64 P.t.g, .int .i64 P.t.o, .int .i64 P.t.b, .int .i64 P.t.h, .int .i64 P.qu, .int .i64 P.tr, .int .i64 P.he, .int .i64 P.po, .slice p5 P.kn.length c5, .slice q5 P.ws.length d5, .slice r5 P.gs.length e5, .slice u5 P.os.length f5, .slice none 0 0, .int .i64 C] _ _ (heap_alloc_new v4 (.cells #[.int .i64 0, .int .i64 0, .int .i64 0, .int .i64 0, .int .i64 0, .int .i64 0, .int .i64 0, .int .i64 0, .int .i64 0, .int .i64 0, .int .i64 0, .int .i64 0, .int .i64 0, .int .i64 0, .int .i64 0, .slice none 0 0, .slice none 0 0, .slice none 0 0, .slice none 0 0, .slice none 0 0, .int .i64 0] 36))
  have hb5 : Below v4.heap.size v4 ((v4.alloc (.cells #[.int .i64 0, .int .i64 0, .int .i64 0, .int .i64 0, .int .i64 0, .int .i64 0, .int .i64 0, .int .i64 0, .int .i64 0, .int .i64 0, .int .i64 0, .int .i64 0, .int .i64 0, .int .i64 0, .int .i64 0, .slice none 0 0, .slice none 0 0, .slice none 0 0, .slice none 0 0, .slice none 0 0, .int .i64 0] 36)).setRow v4.heap.size #[.int .i64 P.ad, .int .i64 P.bo, .int .i64 P.st, .int .i64 P.s.g, .int .i64 P.s.o, .int .i64 P.s.b, .int .i64 P.s.h, .int .i64 P.t.g, .int .i64 P.t.o, .int .i64 P.t.b, .int .i64 P.t.h, .int .i64 P.qu, .int .i64 P.tr, .int .i64 P.he, .int .i64 P.po, .slice p5 P.kn.length c5, .slice q5 P.ws.length d5, .slice r5 P.gs.length e5, .slice u5 P.os.length f5, .slice none 0 0, .int .i64 C]) := setRow_fresh _ _ _
  generalize ((v4.alloc (.cells #[.int .i64 0, .int .i64 0, .int .i64 0, .int .i64 0, .int .i64 0, .int .i64 0, .int .i64 0, .int .i64 0, .int .i64 0, .int .i64 0, .int .i64 0, .int .i64 0, .int .i64 0, .int .i64 0, .int .i64 0, .slice none 0 0, .slice none 0 0, .slice none 0 0, .slice none 0 0, .slice none 0 0, .int .i64 0] 36)).setRow v4.heap.size #[.int .i64 P.ad, .int .i64 P.bo, .int .i64 P.st, .int .i64 P.s.g, .int .i64 P.s.o, .int .i64 P.s.b, .int .i64 P.s.h, .int .i64 P.t.g, .int .i64 P.t.o, .int .i64 P.t.b, .int .i64 P.t.h, .int .i64 P.qu, .int .i64 P.tr, .int .i64 P.he, .int .i64 P.po, .slice p5 P.kn.length c5, .slice q5 P.ws.length d5, .slice r5 P.gs.length e5, .slice u5 P.os.length f5, .slice none 0 0, .int .i64 C]) = v5 at h6 hb5 ⊢
  have zz_v5 : v4.heap.size < v5.heap.size := (Array.getElem?_eq_some_iff.1 h6.out).1
  have oW : Hid (OwnStnB v4 v2.heap.size v4.heap.size _ _ _ _ P) := own4.top
  clear own4
  have z_v5 : v4.heap.size ≤ v5.heap.size := hb5.size
  replace hX : Hid _ := blk hX.out hb5
  replace oW : Hid (OwnStnB v5 v2.heap.size v4.heap.size _ _ _ _ P) := oW.out.below hb5
  replace hg : Below w.heap.size w v5 := keepB hg (Nat.le_refl _) hb5
  go_upto_region 9 with (first
    | (refine wpList_load_rowG (by rfl) 28 (.tmp 2) rfl w.heap.size rfl _ _ _ _ hX.out Try.underlying28 rfl (by kernel_rfl) ?_)
    | (go_at_call 9; refine (HTO.out _ hg).mono ?_; rintro e v6 ⟨y1, y2, y3, y4, rfl, own6, hb6⟩; obtain ⟨ra6, rb6, rc6, rd6⟩ := own6.rows; obtain ⟨p6, c6, rfl, _⟩ := ra6; obtain ⟨q6, d6, rfl, _⟩ := rb6; obtain ⟨r6, e6, rfl, _⟩ := rc6; obtain ⟨u6, f6, rfl, _⟩ := rd6)
    | (refine wpList_store_row rfl 33 (.tmp 7) (.tmp 26) rfl v6.heap.size #[.int .i64 s0.ad, .int .i64 s0.bo, .int .i64 s0.st, .int .i64 s0.s.g, .int .i64 s0.s.o, .int .i64 s0.s.b, .int .i64 s0.s.h, .int .i64 s0.t.g, .int .i64 s0.t.o, .int .i64 s0.t.b, .int .i64 s0.t.h, .int .i64 s0.qu, .int .i64 s0.tr, .int .i64 s0.he, .int .i64 s0.po, .slice p6 s0.kn.length c6, .slice q6 s0.ws.length d6, .slice r6 s0.gs.length e6, .slice u6 s0.os.length f6] rfl rfl _ _ (heap_alloc_new v6 _) (by kernel_rfl) rfl (by simp [Value.oneCell']) ?_))
  have z_v6 : v5.heap.size ≤ v6.heap.size := hb6.size
  replace hX : Hid _ := blk hX.out hb6
  replace h6 : Hid _ := blk h6.out hb6
  replace oW : Hid (OwnStnB v6 v2.heap.size v4.heap.size _ _ _ _ P) := oW.out.below hb6
  replace hg : Below w.heap.size w v6 := keepB hg (Nat.le_refl _) hb6
  have h7 : Hid _ := setRow_heap _ v6.heap.size _ #[.int .i64 s0.ad, .int .i64 s0.bo, .int .i64 s0.st, .int .i64 s0.s.g, .int .i64 s0.s.o, .int .i64 s0.s.b, .int .i64 s0.s.h, .int .i64 s0.t.g, .int .i64 s0.t.o, .int .i64 s0.t.b, .int .i64 s0.t.h, .int .i64 s0.qu, .int .i64 s0.tr, .int .i64 s0.he, .int .i64 s0.po, .slice p6 s0.kn.length c6, .slice q6 s0.ws.length d6, .slice r6 s0.gs.length e6, .slice u6 s0.os.length f6] _ _ (heap_alloc_new v6 (.cells #[.int .i64 0, .int .i64 0, .int .i64 0, .int .i64 0, .int .i64 0, .int .i64 0, .int .i64 0, .int .i64 0, .int .i64 0, .int .i64 0, .int .i64 0, .int .i64 0, .int .i64 0, .int .i64 0, .int .i64 0, .slice none 0 0, .slice none 0 0, .slice none 0 0, .slice none 0 0] 33))
  have hb7 : Below v6.heap.size v6 ((v6.alloc (.cells #[.int .i64 0, .int .i64 0, .int .i64 0, .int .i64 0, .int .i64 0, .int .i64 0, .int .i64 0, .int .i64 0, .int .i64 0, .int .i64 0, .int .i64 0, .int .i64 0, .int .i64 0, .int .i64 0, .int .i64 0, .slice none 0 0, .slice none 0 0, .slice none 0 0, .slice none 0 0] 33)).setRow v6.heap.size #[.int .i64 s0.ad, .int .i64 s0.bo, .int .i64 s0.st, .int .i64 s0.s.g, .int .i64 s0.s.o, .int .i64 s0.s.b, .int .i64 s0.s.h, .int .i64 s0.t.g, .int .i64 s0.t.o, .int .i64 s0.t.b, .int .i64 s0.t.h, .int .i64 s0.qu, .int .i64 s0.tr, .int .i64 s0.he, .int .i64 s0.po, .slice p6 s0.kn.length c6, .slice q6 s0.ws.length d6, .slice r6 s0.gs.length e6, .slice u6 s0.os.length f6]) := setRow_fresh _ _ _
  generalize ((v6.alloc (.cells #[.int .i64 0, .int .i64 0, .int .i64 0, .int .i64 0, .int .i64 0, .int .i64 0, .int .i64 0, .int .i64 0, .int .i64 0, .int .i64 0, .int .i64 0, .int .i64 0, .int .i64 0, .int .i64 0, .int .i64 0, .slice none 0 0, .slice none 0 0, .slice none 0 0, .slice none 0 0] 33)).setRow v6.heap.size #[.int .i64 s0.ad, .int .i64 s0.bo, .int .i64 s0.st, .int .i64 s0.s.g, .int .i64 s0.s.o, .int .i64 s0.s.b, .int .i64 s0.s.h, .int .i64 s0.t.g, .int .i64 s0.t.o, .int .i64 s0.t.b, .int .i64 s0.t.h, .int .i64 s0.qu, .int .i64 s0.tr, .int .i64 s0.he, .int .i64 s0.po, .slice p6 s0.kn.length c6, .slice q6 s0.ws.length d6, .slice r6 s0.gs.length e6, .slice u6 s0.os.length f6]) = v7 at h7 hb7 ⊢
  have zz_v7 : v6.heap.size < v7.heap.size := (Array.getElem?_eq_some_iff.1 h7.out).1
  have o7 : Hid (OwnStnB v6 v5.heap.size v6.heap.size _ _ _ _ s0) := own6.top
  clear own6
  have z_v7 : v6.heap.size ≤ v7.heap.size := hb7.size
  replace hX : Hid _ := blk hX.out hb7
  replace h6 : Hid _ := blk h6.out hb7
  replace oW : Hid (OwnStnB v7 v2.heap.size v4.heap.size _ _ _ _ P) := oW.out.below hb7
  replace o7 : Hid (OwnStnB v7 v5.heap.size v6.heap.size _ _ _ _ s0) := o7.out.below hb7
  replace hg : Below w.heap.size w v7 := keepB hg (Nat.le_refl _) hb7
  go_upto_region 10 with (first
    | (refine wpList_load_rowG (by first | rfl | (simp only [Region.wanted, yielded, hkd]; rfl) | simp [Region.wanted, yielded, hk0, hkd]) 33 (.tmp 7) rfl v6.heap.size rfl _ _ _ _ h7.out Try.underlying33 rfl (by kernel_rfl) ?_)
    | (go_at_call 10; refine (HI.out _ _ _ _ _ _ o7.out.stn).mono ?_; rintro e v9 ⟨y1, y2, y3, y4, rfl, own9, hb9⟩; obtain ⟨ra9, rb9, rc9, rd9⟩ := own9.rows; obtain ⟨p9, c9, rfl, _⟩ := ra9; obtain ⟨q9, d9, rfl, _⟩ := rb9; obtain ⟨r9, e9, rfl, _⟩ := rc9; obtain ⟨u9, f9, rfl, _⟩ := rd9)
    | (refine wpList_store_row rfl 36 (.tmp 8) (.tmp 29) rfl v9.heap.size #[.int .i64 P.ad, .int .i64 P.bo, .int .i64 P.st, .int .i64 P.s.g, .int .i64 P.s.o, .int .i64 P.s.b, .int .i64 P.s.h, .int .i64 P.t.g, .int .i64 P.t.o, .int .i64 P.t.b, .int .i64 P.t.h, .int .i64 P.qu, .int .i64 P.tr, .int .i64 P.he, .int .i64 P.po, .slice p9 P.kn.length c9, .slice q9 P.ws.length d9, .slice r9 P.gs.length e9, .slice u9 P.os.length f9, .slice none 0 0, .int .i64 C] rfl rfl _ _ (heap_alloc_new v9 _) (by kernel_rfl) rfl (by simp [Value.oneCell']) ?_))
  have z_v9 : v7.heap.size ≤ v9.heap.size := hb9.size
  replace hX : Hid _ := blk hX.out hb9
  replace h6 : Hid _ := blk h6.out hb9
  replace h7 : Hid _ := blk h7.out hb9
  replace oW : Hid (OwnStnB v9 v2.heap.size v4.heap.size _ _ _ _ P) := oW.out.below hb9
  replace o7 : Hid (OwnStnB v9 v5.heap.size v6.heap.size _ _ _ _ s0) := o7.out.below hb9
  replace hg : Below w.heap.size w v9 := keepB hg (Nat.le_refl _) hb9
  have h9 : Hid _ := setRow_heap _ v9.heap.size _ #[.int .i64 P.ad, .int .i64 P.bo, .int .i64 P.st, .int .i64 P.s.g, .int .i64 P.s.o, .int .i64 P.s.b, .int .i64 P.s.h, .int .i64 P.t.g, .int .i64 P.t.o, .int .i64 P.t.b, .int .i64 P.t.h, .int .i64 P.qu, .int .i64 P.tr, .int .i64 P.he, .int .i64 P.po, .slice p9 P.kn.length c9, .slice q9 P.ws.length d9, .slice r9 P.gs.length e9, .slice u9 P.os.length f9, .slice none 0 0, .int .i64 C] _ _ (heap_alloc_new v9 (.cells #[.int .i64 0, .int .i64 0, .int .i64 0, .int .i64 0, .int .i64 0, .int .i64 0, .int .i64 0, .int .i64 0, .int .i64 0, .int .i64 0, .int .i64 0, .int .i64 0, .int .i64 0, .int .i64 0, .int .i64 0, .slice none 0 0, .slice none 0 0, .slice none 0 0, .slice none 0 0, .slice none 0 0, .int .i64 0] 36))
  have hb10 : Below v9.heap.size v9 ((v9.alloc (.cells #[.int .i64 0, .int .i64 0, .int .i64 0, .int .i64 0, .int .i64 0, .int .i64 0, .int .i64 0, .int .i64 0, .int .i64 0, .int .i64 0, .int .i64 0, .int .i64 0, .int .i64 0, .int .i64 0, .int .i64 0, .slice none 0 0, .slice none 0 0, .slice none 0 0, .slice none 0 0, .slice none 0 0, .int .i64 0] 36)).setRow v9.heap.size #[.int .i64 P.ad, .int .i64 P.bo, .int .i64 P.st, .int .i64 P.s.g, .int .i64 P.s.o, .int .i64 P.s.b, .int .i64 P.s.h, .int .i64 P.t.g, .int .i64 P.t.o, .int .i64 P.t.b, .int .i64 P.t.h, .int .i64 P.qu, .int .i64 P.tr, .int .i64 P.he, .int .i64 P.po, .slice p9 P.kn.length c9, .slice q9 P.ws.length d9, .slice r9 P.gs.length e9, .slice u9 P.os.length f9, .slice none 0 0, .int .i64 C]) := setRow_fresh _ _ _
  generalize ((v9.alloc (.cells #[.int .i64 0, .int .i64 0, .int .i64 0, .int .i64 0, .int .i64 0, .int .i64 0, .int .i64 0, .int .i64 0, .int .i64 0, .int .i64 0, .int .i64 0, .int .i64 0, .int .i64 0, .int .i64 0, .int .i64 0, .slice none 0 0, .slice none 0 0, .slice none 0 0, .slice none 0 0, .slice none 0 0, .int .i64 0] 36)).setRow v9.heap.size #[.int .i64 P.ad, .int .i64 P.bo, .int .i64 P.st, .int .i64 P.s.g, .int .i64 P.s.o, .int .i64 P.s.b, .int .i64 P.s.h, .int .i64 P.t.g, .int .i64 P.t.o, .int .i64 P.t.b, .int .i64 P.t.h, .int .i64 P.qu, .int .i64 P.tr, .int .i64 P.he, .int .i64 P.po, .slice p9 P.kn.length c9, .slice q9 P.ws.length d9, .slice r9 P.gs.length e9, .slice u9 P.os.length f9, .slice none 0 0, .int .i64 C]) = v10 at h9 hb10 ⊢
  have zz_v10 : v9.heap.size < v10.heap.size := (Array.getElem?_eq_some_iff.1 h9.out).1
  have oG : Hid (OwnStnB v9 v7.heap.size v9.heap.size _ _ _ _ P) := own9.top
  clear own9
  have z_v10 : v9.heap.size ≤ v10.heap.size := hb10.size
  replace hX : Hid _ := blk hX.out hb10
  replace h6 : Hid _ := blk h6.out hb10
  replace h7 : Hid _ := blk h7.out hb10
  replace oW : Hid (OwnStnB v10 v2.heap.size v4.heap.size _ _ _ _ P) := oW.out.below hb10
  replace o7 : Hid (OwnStnB v10 v5.heap.size v6.heap.size _ _ _ _ s0) := o7.out.below hb10
  replace oG : Hid (OwnStnB v10 v7.heap.size v9.heap.size _ _ _ _ P) := oG.out.below hb10
  replace hg : Below w.heap.size w v10 := keepB hg (Nat.le_refl _) hb10
  go_upto_region 12 with (first
    | (refine wpList_load_rowG (by first | rfl | (simp only [Region.wanted, yielded, hkd]; rfl) | simp [Region.wanted, yielded, hk0, hkd]) 36 (.tmp 8) rfl v9.heap.size rfl _ _ _ _ h9.out Try.underlying36 rfl (by kernel_rfl) ?_)
    | (refine wpList_load_rowG (by first | rfl | (simp only [Region.wanted, yielded, hkd]; rfl) | simp [Region.wanted, yielded, hk0, hkd]) 36 (.tmp 6) rfl v4.heap.size rfl _ _ _ _ h6.out Try.underlying36 rfl (by kernel_rfl) ?_)
    | (go_at_call 11; refine (HEO.out _ _ _ _ _ _ _ _ _ _ _ oG.out.stn oW.out.stn).mono ?_; rintro e v11 ⟨rfl, hb11⟩))
  have z_v11 : v10.heap.size ≤ v11.heap.size := hb11.size
  replace hX : Hid _ := blk hX.out hb11
  replace h6 : Hid _ := blk h6.out hb11
  replace h7 : Hid _ := blk h7.out hb11
  replace h9 : Hid _ := blk h9.out hb11
  replace oW : Hid (OwnStnB v11 v2.heap.size v4.heap.size _ _ _ _ P) := oW.out.below hb11
  replace o7 : Hid (OwnStnB v11 v5.heap.size v6.heap.size _ _ _ _ s0) := o7.out.below hb11
  replace oG : Hid (OwnStnB v11 v7.heap.size v9.heap.size _ _ _ _ P) := oG.out.below hb11
  replace hg : Below w.heap.size w v11 := keepB hg (Nat.le_refl _) hb11
  have hR : Below v11.heap.size v11 v11.drew := Below.drew (Below.refl _ _)
  refine wp_region_held_drew (S := (fun w' => Below v11.heap.size v11 w')) (by kernel_rfl) ?_ (fun hHeld => ?_)
  · (try dsimp only); exact hR
  refine yieldH (i := 0) (v := .agg #[.int .i64 s0.ad, .int .i64 s0.bo, .int .i64 s0.st, .int .i64 s0.s.g, .int .i64 s0.s.o, .int .i64 s0.s.b, .int .i64 s0.s.h, .int .i64 s0.t.g, .int .i64 s0.t.o, .int .i64 s0.t.b, .int .i64 s0.t.h, .int .i64 s0.qu, .int .i64 s0.tr, .int .i64 s0.he, .int .i64 s0.po, .slice p6 s0.kn.length c6, .slice q6 s0.ws.length d6, .slice r6 s0.gs.length e6, .slice u6 s0.os.length f6]) rfl (by kernel_rfl) (by kernel_rfl) (by kernel_rfl) (fun _ _ _ h => h) (by rfl) (fun W hW => exec_load_row 33 (.tmp 7) rfl v6.heap.size rfl _ _ _ _ (blk h7.out hW) Try.underlying33 rfl (by kernel_rfl)) (by assumption) ?_
  try simp only [Act.put, List.setIfInBounds_toArray, List.set_cons_zero, List.set_cons_succ, List.getElem_toArray, List.getElem_cons_succ, List.getElem_cons_zero]
  refine yieldH (i := 1) (v := .agg #[.int .i64 s0.ad, .int .i64 s0.bo, .int .i64 s0.st, .int .i64 s0.s.g, .int .i64 s0.s.o, .int .i64 s0.s.b, .int .i64 s0.s.h, .int .i64 s0.t.g, .int .i64 s0.t.o, .int .i64 s0.t.b, .int .i64 s0.t.h, .int .i64 s0.qu, .int .i64 s0.tr, .int .i64 s0.he, .int .i64 s0.po, .slice p0 s0.kn.length c0, .slice q0 s0.ws.length d0, .slice r0 s0.gs.length e0, .slice u0 s0.os.length f0]) rfl (by kernel_rfl) (by kernel_rfl) (by kernel_rfl) (fun _ _ _ h => h) (by rfl) (fun W hW => exec_load_row 28 (.tmp 2) rfl w.heap.size rfl _ _ _ _ (blk hX.out hW) Try.underlying28 rfl (by kernel_rfl)) (by assumption) ?_
  try simp only [Act.put, List.setIfInBounds_toArray, List.set_cons_zero, List.set_cons_succ, List.getElem_toArray, List.getElem_cons_succ, List.getElem_cons_zero]
  refine wpAnyH_ready (rs := [2]) (by kernel_rfl) (by simp) ?_
  refine AllReadyH.cons rfl (fun K hK => ?_) AllReadyH.nil
  go_simp
  go_at_call 9; refine (HTO.out _ (keepB hg (Nat.le_refl _) hR)).mono ?_; rintro e7 v12 ⟨y1, y2, y3, y4, rfl, own12, hb12⟩; have t7 : Below v11.heap.size v11 v12 := keepB hR (Nat.le_refl _) hb12
  dsimp only
  refine hK.out _ _ ?_ (fun hHeld => ?_)
  · (try dsimp only); exact t7
  clear hK K
  try simp only [Act.put, List.setIfInBounds_toArray, List.set_cons_zero, List.set_cons_succ, List.getElem_toArray, List.getElem_cons_succ, List.getElem_cons_zero]
  refine wpAnyH_ready (rs := [3]) (by kernel_rfl) (by simp) ?_
  refine AllReadyH.cons rfl (fun K hK => ?_) AllReadyH.nil
  go_simp
  go_at_call 12; refine (HE.out _ _ _ _ _ _ _ _ _ _ _ (o7.out.stn.below t7) own12).mono ?_; rintro e8 v13 ⟨rfl, hb8'⟩; have t8 : Below v11.heap.size v11 v13 := keepB t7 (Nat.le_refl _) hb8'
  dsimp only
  refine hK.out _ _ ?_ (fun hHeld => ?_)
  · (try dsimp only); exact t8
  clear hK K
  try simp only [Act.put, List.setIfInBounds_toArray, List.set_cons_zero, List.set_cons_succ, List.getElem_toArray, List.getElem_cons_succ, List.getElem_cons_zero]
  first
    | (refine skipH (i := 4) rfl (by kernel_rfl) (by kernel_rfl) (by kernel_rfl) (fun _ _ _ h => h) (by rfl) (by assumption) ?_; try simp only [Act.put, List.setIfInBounds_toArray, List.set_cons_zero, List.set_cons_succ, List.getElem_toArray, List.getElem_cons_succ, List.getElem_cons_zero])
    | (refine yieldH (i := 4) (v := ?_) rfl (by kernel_rfl) (by kernel_rfl) (by kernel_rfl) (fun _ _ _ h => h) (by rfl) ?_ (by assumption) ?_; rotate_left; (intro w hSw; (try dsimp only at hSw); go_simp; (try with_reducible rfl)); try simp only [Act.put, List.setIfInBounds_toArray, List.set_cons_zero, List.set_cons_succ, List.getElem_toArray, List.getElem_cons_succ, List.getElem_cons_zero])
    | fail
  refine wpAnyH_done (by kernel_rfl) ?_ _
  go_upto_region 14 with fail
  have z_v13 : v11.heap.size ≤ v13.heap.size := t8.size
  replace hX : Hid _ := blk hX.out t8
  replace h6 : Hid _ := blk h6.out t8
  replace h7 : Hid _ := blk h7.out t8
  replace h9 : Hid _ := blk h9.out t8
  replace oW : Hid (OwnStnB v13 v2.heap.size v4.heap.size _ _ _ _ P) := oW.out.below t8
  replace o7 : Hid (OwnStnB v13 v5.heap.size v6.heap.size _ _ _ _ s0) := o7.out.below t8
  replace oG : Hid (OwnStnB v13 v7.heap.size v9.heap.size _ _ _ _ P) := oG.out.below t8
  replace hg : Below w.heap.size w v13 := keepB hg (Nat.le_refl _) t8
  go_upto_region 16 with (first
    | (refine wpList_load_rowG (by first | rfl | (simp only [Region.wanted, yielded, hkd]; rfl) | simp [Region.wanted, yielded, hk0, hkd]) 33 (.tmp 7) rfl v6.heap.size rfl _ _ _ _ h7.out Try.underlying33 rfl (by kernel_rfl) ?_)
    | (go_at_call 13; refine (HMK.out _ _ _ _ _ _ _ o7.out).mono ?_; rintro e v16 ⟨rfl, y16⟩))
  clear o7
  clear h7
  have z_v16 : v13.heap.size ≤ v16.heap.size := y16.size
  replace hX : Hid _ := (y16.block (w.heap.size) (by omega) (by omega)).trans hX.out
  replace h6 : Hid _ := (y16.block (v4.heap.size) (by omega) (by omega)).trans h6.out
  replace h9 : Hid _ := (y16.block (v9.heap.size) (by omega) (by omega)).trans h9.out
  replace oW : Hid (OwnStnB v16 v2.heap.size v4.heap.size _ _ _ _ P) := oW.out.same (y16.same (by omega) (by omega)) y16.size
  replace oG : Hid (OwnStnB v16 v7.heap.size v9.heap.size _ _ _ _ P) := oG.out.same (y16.same (by omega) (by omega)) y16.size
  replace hg : Below w.heap.size w v16 := hg.trans (y16.frame (by omega) (by omega))
  go_upto_region 18 with (first
    | (refine wpList_load_rowG (by first | rfl | (simp only [Region.wanted, yielded, hkd]; rfl) | simp [Region.wanted, yielded, hk0, hkd]) 36 (.tmp 8) rfl v9.heap.size rfl _ _ _ _ h9.out Try.underlying36 rfl (by kernel_rfl) ?_)
    | (refine wpList_load_rowG (by first | rfl | (simp only [Region.wanted, yielded, hkd]; rfl) | simp [Region.wanted, yielded, hk0, hkd]) 36 (.tmp 6) rfl v4.heap.size rfl _ _ _ _ h6.out Try.underlying36 rfl (by kernel_rfl) ?_)
    | (go_at_call 11; refine (HEO.out _ _ _ _ _ _ _ _ _ _ _ oG.out.stn oW.out.stn).mono ?_; rintro e v18 ⟨rfl, hb18⟩))
  have z_v18 : v16.heap.size ≤ v18.heap.size := hb18.size
  replace hX : Hid _ := blk hX.out hb18
  replace h6 : Hid _ := blk h6.out hb18
  replace h9 : Hid _ := blk h9.out hb18
  replace oW : Hid (OwnStnB v18 v2.heap.size v4.heap.size _ _ _ _ P) := oW.out.below hb18
  replace oG : Hid (OwnStnB v18 v7.heap.size v9.heap.size _ _ _ _ P) := oG.out.below hb18
  replace hg : Below w.heap.size w v18 := keepB hg (Nat.le_refl _) hb18
  go_upto_region 20 with (first
    | (refine wpList_load_rowG (by first | rfl | (simp only [Region.wanted, yielded, hkd]; rfl) | simp [Region.wanted, yielded, hk0, hkd]) 36 (.tmp 8) rfl v9.heap.size rfl _ _ _ _ h9.out Try.underlying36 rfl (by kernel_rfl) ?_)
    | (go_at_call 14; refine (HMO.out _ _ _ _ _ _ _ oG.out).mono ?_; rintro e v19 ⟨rfl, oM0, y19⟩))
  clear oG
  have z_v19 : v18.heap.size ≤ v19.heap.size := y19.size
  replace hX : Hid _ := (y19.block (w.heap.size) (by omega) (by omega)).trans hX.out
  replace h6 : Hid _ := (y19.block (v4.heap.size) (by omega) (by omega)).trans h6.out
  replace h9 : Hid _ := (y19.block (v9.heap.size) (by omega) (by omega)).trans h9.out
  replace oW : Hid (OwnStnB v19 v2.heap.size v4.heap.size _ _ _ _ P) := oW.out.same (y19.same (by omega) (by omega)) y19.size
  replace hg : Below w.heap.size w v19 := hg.trans (y19.frame (by omega) (by omega))
  have oM : Hid (OwnStnB v19 v7.heap.size v9.heap.size _ _ _ _ PM) := oM0
  clear oM0
  go_upto_region 26 with (first
    | (refine wpList_load_rowG (by first | rfl | (simp only [Region.wanted, yielded, hkd]; rfl) | simp [Region.wanted, yielded, hk0, hkd]) 36 (.tmp 8) rfl v9.heap.size rfl _ _ _ _ h9.out Try.underlying36 rfl (by kernel_rfl) ?_)
    | (go_at_call 15; refine (HHO.out _ _ _ _ _ _ oM.out.stn).mono ?_; rintro e v20 ⟨rfl, hb20⟩))
  have z_v20 : v19.heap.size ≤ v20.heap.size := hb20.size
  replace hX : Hid _ := blk hX.out hb20
  replace h6 : Hid _ := blk h6.out hb20
  replace h9 : Hid _ := blk h9.out hb20
  replace oW : Hid (OwnStnB v20 v2.heap.size v4.heap.size _ _ _ _ P) := oW.out.below hb20
  replace oM : Hid (OwnStnB v20 v7.heap.size v9.heap.size _ _ _ _ PM) := oM.out.below hb20
  replace hg : Below w.heap.size w v20 := keepB hg (Nat.le_refl _) hb20
  go_upto_region 27 with (first
    | (refine wpList_load_rowG (by rfl) 28 (.tmp 2) rfl w.heap.size rfl _ _ _ _ hX.out Try.underlying28 rfl (by kernel_rfl) ?_)
    | (go_at_call 9; refine (HTO.out _ hg).mono ?_; rintro e v21 ⟨y1, y2, y3, y4, rfl, own21, hb21⟩)
    | (go_at_call 10; refine (HI.out _ _ _ _ _ _ own21).mono ?_; rintro e v23 ⟨y5, y6, y7, y8, rfl, own23, hb23⟩; obtain ⟨ra13, rb13, rc13, rd13⟩ := own23.rows; obtain ⟨p13, c13, rfl, _⟩ := ra13; obtain ⟨q13, d13, rfl, _⟩ := rb13; obtain ⟨r13, e13, rfl, _⟩ := rc13; obtain ⟨u13, f13, rfl, _⟩ := rd13)
    | (refine wpList_store_row rfl 36 (.tmp 12) (.tmp 64) rfl v23.heap.size #[.int .i64 P.ad, .int .i64 P.bo, .int .i64 P.st, .int .i64 P.s.g, .int .i64 P.s.o, .int .i64 P.s.b, .int .i64 P.s.h, .int .i64 P.t.g, .int .i64 P.t.o, .int .i64 P.t.b, .int .i64 P.t.h, .int .i64 P.qu, .int .i64 P.tr, .int .i64 P.he, .int .i64 P.po, .slice p13 P.kn.length c13, .slice q13 P.ws.length d13, .slice r13 P.gs.length e13, .slice u13 P.os.length f13, .slice none 0 0, .int .i64 C] rfl rfl _ _ (heap_alloc_new v23 _) (by kernel_rfl) rfl (by simp [Value.oneCell']) ?_))
  clear own21
  have z_v21 : v20.heap.size ≤ v21.heap.size := hb21.size
  replace hX : Hid _ := blk hX.out hb21
  replace h6 : Hid _ := blk h6.out hb21
  replace h9 : Hid _ := blk h9.out hb21
  replace oW : Hid (OwnStnB v21 v2.heap.size v4.heap.size _ _ _ _ P) := oW.out.below hb21
  replace oM : Hid (OwnStnB v21 v7.heap.size v9.heap.size _ _ _ _ PM) := oM.out.below hb21
  replace hg : Below w.heap.size w v21 := keepB hg (Nat.le_refl _) hb21
  have z_v23 : v21.heap.size ≤ v23.heap.size := hb23.size
  replace hX : Hid _ := blk hX.out hb23
  replace h6 : Hid _ := blk h6.out hb23
  replace h9 : Hid _ := blk h9.out hb23
  replace oW : Hid (OwnStnB v23 v2.heap.size v4.heap.size _ _ _ _ P) := oW.out.below hb23
  replace oM : Hid (OwnStnB v23 v7.heap.size v9.heap.size _ _ _ _ PM) := oM.out.below hb23
  replace hg : Below w.heap.size w v23 := keepB hg (Nat.le_refl _) hb23
  have h13 : Hid _ := setRow_heap _ v23.heap.size _ #[.int .i64 P.ad, .int .i64 P.bo, .int .i64 P.st, .int .i64 P.s.g, .int .i64 P.s.o, .int .i64 P.s.b, .int .i64 P.s.h, .int .i64 P.t.g, .int .i64 P.t.o, .int .i64 P.t.b, .int .i64 P.t.h, .int .i64 P.qu, .int .i64 P.tr, .int .i64 P.he, .int .i64 P.po, .slice p13 P.kn.length c13, .slice q13 P.ws.length d13, .slice r13 P.gs.length e13, .slice u13 P.os.length f13, .slice none 0 0, .int .i64 C] _ _ (heap_alloc_new v23 (.cells #[.int .i64 0, .int .i64 0, .int .i64 0, .int .i64 0, .int .i64 0, .int .i64 0, .int .i64 0, .int .i64 0, .int .i64 0, .int .i64 0, .int .i64 0, .int .i64 0, .int .i64 0, .int .i64 0, .int .i64 0, .slice none 0 0, .slice none 0 0, .slice none 0 0, .slice none 0 0, .slice none 0 0, .int .i64 0] 36))
  have hb24 : Below v23.heap.size v23 ((v23.alloc (.cells #[.int .i64 0, .int .i64 0, .int .i64 0, .int .i64 0, .int .i64 0, .int .i64 0, .int .i64 0, .int .i64 0, .int .i64 0, .int .i64 0, .int .i64 0, .int .i64 0, .int .i64 0, .int .i64 0, .int .i64 0, .slice none 0 0, .slice none 0 0, .slice none 0 0, .slice none 0 0, .slice none 0 0, .int .i64 0] 36)).setRow v23.heap.size #[.int .i64 P.ad, .int .i64 P.bo, .int .i64 P.st, .int .i64 P.s.g, .int .i64 P.s.o, .int .i64 P.s.b, .int .i64 P.s.h, .int .i64 P.t.g, .int .i64 P.t.o, .int .i64 P.t.b, .int .i64 P.t.h, .int .i64 P.qu, .int .i64 P.tr, .int .i64 P.he, .int .i64 P.po, .slice p13 P.kn.length c13, .slice q13 P.ws.length d13, .slice r13 P.gs.length e13, .slice u13 P.os.length f13, .slice none 0 0, .int .i64 C]) := setRow_fresh _ _ _
  generalize ((v23.alloc (.cells #[.int .i64 0, .int .i64 0, .int .i64 0, .int .i64 0, .int .i64 0, .int .i64 0, .int .i64 0, .int .i64 0, .int .i64 0, .int .i64 0, .int .i64 0, .int .i64 0, .int .i64 0, .int .i64 0, .int .i64 0, .slice none 0 0, .slice none 0 0, .slice none 0 0, .slice none 0 0, .slice none 0 0, .int .i64 0] 36)).setRow v23.heap.size #[.int .i64 P.ad, .int .i64 P.bo, .int .i64 P.st, .int .i64 P.s.g, .int .i64 P.s.o, .int .i64 P.s.b, .int .i64 P.s.h, .int .i64 P.t.g, .int .i64 P.t.o, .int .i64 P.t.b, .int .i64 P.t.h, .int .i64 P.qu, .int .i64 P.tr, .int .i64 P.he, .int .i64 P.po, .slice p13 P.kn.length c13, .slice q13 P.ws.length d13, .slice r13 P.gs.length e13, .slice u13 P.os.length f13, .slice none 0 0, .int .i64 C]) = v24 at h13 hb24 ⊢
  have zz_v24 : v23.heap.size < v24.heap.size := (Array.getElem?_eq_some_iff.1 h13.out).1
  have oH : Hid (OwnStn v24 _ _ _ _ _ P) := own23.below hb24
  clear own23
  have z_v24 : v23.heap.size ≤ v24.heap.size := hb24.size
  replace hX : Hid _ := blk hX.out hb24
  replace h6 : Hid _ := blk h6.out hb24
  replace h9 : Hid _ := blk h9.out hb24
  replace oW : Hid (OwnStnB v24 v2.heap.size v4.heap.size _ _ _ _ P) := oW.out.below hb24
  replace oM : Hid (OwnStnB v24 v7.heap.size v9.heap.size _ _ _ _ PM) := oM.out.below hb24
  replace hg : Below w.heap.size w v24 := keepB hg (Nat.le_refl _) hb24
  go_upto_region 30 with (first
    | (refine wpList_load_rowG (by first | rfl | (simp only [Region.wanted, yielded, hkd]; rfl) | simp [Region.wanted, yielded, hk0, hkd]) 36 (.tmp 12) rfl v23.heap.size rfl _ _ _ _ h13.out Try.underlying36 rfl (by kernel_rfl) ?_)
    | (refine wpList_load_rowG (by first | rfl | (simp only [Region.wanted, yielded, hkd]; rfl) | simp [Region.wanted, yielded, hk0, hkd]) 36 (.tmp 6) rfl v4.heap.size rfl _ _ _ _ h6.out Try.underlying36 rfl (by kernel_rfl) ?_)
    | (go_at_call 11; refine (HEO.out _ _ _ _ _ _ _ _ _ _ _ oH.out oW.out.stn).mono ?_; rintro e v25 ⟨rfl, hb25⟩))
  have z_v25 : v24.heap.size ≤ v25.heap.size := hb25.size
  replace hX : Hid _ := blk hX.out hb25
  replace h6 : Hid _ := blk h6.out hb25
  replace h9 : Hid _ := blk h9.out hb25
  replace oW : Hid (OwnStnB v25 v2.heap.size v4.heap.size _ _ _ _ P) := oW.out.below hb25
  replace oM : Hid (OwnStnB v25 v7.heap.size v9.heap.size _ _ _ _ PM) := oM.out.below hb25
  replace hg : Below w.heap.size w v25 := keepB hg (Nat.le_refl _) hb25
  go_wp2_with (first
    | (refine wpList_load_rowG (by first | rfl | (simp only [Region.wanted, yielded, hkd]; rfl) | simp [Region.wanted, yielded, hk0, hkd]) 36 (.tmp 8) rfl v9.heap.size rfl _ _ _ _ h9.out Try.underlying36 rfl (by kernel_rfl) ?_)
    | (go_at_call 15; refine (HHO.out _ _ _ _ _ _ oM.out.stn).mono ?_; rintro e v26 ⟨rfl, hb26⟩))
  go_ret
  exact ⟨rfl, keepB hg (Nat.le_refl _) hb26⟩

set_option maxRecDepth 100000 in
theorem lifted (os : Os) (started : os.Started) (H : Type) (enc : TypeId × Value → H) :
    ReturnsInHanded {} Try.checked os 3 .any (Rows.fnExactQueueSpec.pre6 enc Try.prog Try.f3 Rows.fnExactQueueRow.domain false) (Rows.fnExactQueueSpec.post enc Try.prog Try.f3 false true false false) := by
  refine returnsInHanded_of_change (C := Try.checked) own started (by kernel_rfl) Try.func3
    (ChangeSpec.witness6 (enc := enc) (C := Try.checked) false ⟨#[], #[.agg #[.int .i64 0, .int .i64 0, .int .i64 0, .int .i64 0, .int .i64 0, .int .i64 0, .int .i64 0, .int .i64 0, .int .i64 0, .int .i64 0, .int .i64 0, .int .i64 0, .int .i64 0, .int .i64 0, .int .i64 0, .slice none 0 0, .slice none 0 0, .slice none 0 0, .slice none 0 0], .string ByteArray.empty], []⟩ 8 (by kernel_rfl) (by kernel_rfl) (by kernel_rfl) (by kernel_rfl)) ?_
  intro W base args ds gs before hval0 hW hcnd _
  have hval : ∀ (j : Nat) t v, Try.f3.params[j]? = some t → args[j]? = some v → Value.okWide Try.prog W .any base t v := hval0
  have hW' := hW
  obtain ⟨p, q, hA0, hV, rfl, hfz, hnd⟩ := hW
  have hA : DataW.TrodAll enc Try.prog W 0 (fun _ => true) true Try.f3.params.toList args.toList ds p := hA0
  rw [Try.params3] at hA hval
  obtain ⟨v0, vs0, d0, ds0, p0, q0, hargs, rfl, rfl, h0, r0⟩ := trodAll_cons hA
  obtain ⟨v1, vs1, d1, ds1, p1, q1, rfl, rfl, rfl, h1, r1⟩ := trodAll_cons r0
  obtain ⟨rfl, rfl, rfl⟩ := trodAll_nil r1
  obtain rfl : args = #[v0, v1] := by cases args; simp_all
  obtain ⟨rfl, rfl⟩ := trodVars_none hV
  have k0 := h0
  have lt0 : ∀ x ∈ p0, x.block < W.heap.size := by obtain ⟨m, hm⟩ := k0; exact DataW.trod_lt m _ _ _ hm
  obtain ⟨s0, pp0, qq0, rr0, uu0, cc0, dd0, ee0, ff0, rfl, w0⟩ := open_station (hval 0 28 v0 rfl rfl) h0
  obtain ⟨a1, rfl, rfl, rfl, w1⟩ := open_string Try.underlying9 (hval 1 9 v1 rfl rfl) h1
  clear hA0 hval0
  refine (walk s0 pp0 qq0 rr0 uu0 cc0 dd0 ee0 ff0 a1 W w0 w1).mono fun e W' ⟨he, bel⟩ => ?_
  subst he
  exact ⟨_, rfl, _, _, _, [], _, [], hW', trodAll_mk1 (shut_bool Try.underlying4 _), (trodAll_cons_mk (Below.trod laidOut (by kernel_rfl) (of_decide_eq_true (by kernel_rfl)) k0 bel lt0) (trodAll_cons_mk (shut_string Try.underlying9 w1) trodAll_mk0)), rfl, bel.frame _, fun h => by cases h⟩

/-- The statement. -/
theorem proved : Rows.FnExactQueueSaid :=
  OpenClaim.holds_of_wide 3 Try.f3 rfl rfl rfl rfl rfl rfl rfl ⟨rfl, rfl, rfl, rfl, rfl⟩ rfl rfl rfl rfl rfl (by kernel_rfl) Try.func3 (by kernel_rfl)
    (of_decide_eq_true (by kernel_rfl)) (by unfold Func.isWrapper; first | (rw [if_pos (by decide +kernel)]; kernel_rfl) | (rw [if_neg (by decide +kernel)]; exact ⟨rfl, rfl⟩))
    (fun os started H enc _ => lifted os started H enc)
#print axioms proved
end Go.Proofs.Ytggdjiijcoklgaa.fnExactQueue
