/- FnPath: at every code: a drawn right path comes back from its bytes; who went all of it and goes home comes through all that they came through, the last one first; no condition. -/
import Derived.Test.YtineecongiplgaaRows
import Derived.Test.YtineecongiplgaaQpPlainFrame
import Derived.Test.YtineecongiplgaaQpDrawP3
import Derived.Test.YtineecongiplgaaQpDrawP4
import Derived.Test.YtineecongiplgaaQpPaN
import Derived.Test.YtineecongiplgaaQpPaSi
import Derived.Test.YtineecongiplgaaQpPaSs
import Derived.Test.YtineecongiplgaaQpPaR
import Derived.Test.YtineecongiplgaaQpPaC
import Derived.Test.YtineecongiplgaaQpPaX
import Derived.Test.YtineecongiplgaaQpPaZ
import Derived.Test.YtineecongiplgaaQpRowB
import Derived.Test.YtineecongiplgaaQpPaSh
import Derived.Test.YtineecongiplgaaQpBox
import Derived.WalkKit
import Derived.WalkSpells
import Derived.ProofKit
import Derived.OpenShut
import Derived.ShutString
import Derived.ChangeOld
import Derived.Below
import Derived.Outline
import Derived.Deep.RegionHeld3
import Derived.Deep.RegionWith
import Derived.Deep.DeepCutAuto
import Derived.Deep.RegionLaw
import Derived.Deep.QuietTactic
import Derived.BigQuiet
namespace Go.Proofs.Ytineecongiplgaa.fnPath
open Go.ChangeShapes Go.WideShapes Go.ChangeAt Go.RowKit
open Go.ChangeMaps (open_string shut_string)
set_option linter.unusedVariables false
set_option linter.unusedSimpArgs false
set_option linter.unusedSimpArgs false

theorem own : ownKnob Try.prog.godebug = none := by kernel_rfl
theorem laidOut : laidOutB Try.prog = true := by kernel_rfl

theorem field_pout2 (c0 c1 c2 c3 : Value) (w : World) : (Instr.field 28 (.agg #[c0, c1, c2, c3]) 2).run Try.prog w = .ok c3 w := by kernel_rfl
set_option maxRecDepth 100000 in
set_option maxHeartbeats 6400000 in
/-- The walk: the law returns true, and nothing that was there has turned. -/
theorem walk (a0 : Option Addr) (len0 cap0 : Nat) (z0 : List Int) (a1 : Option Addr) (len1 cap1 : Nat) (z1 : List Int) (w : World) (w0 : IsRow .u8 w a0 len0 cap0 z0) (w1 : IsRow .u8 w a1 len1 cap1 z1) :
    Calls Try.prog 3 #[.slice a0 len0 cap0, .slice a1 len1 cap1] w fun e w' => e = .returned (.bool true) ∧ Below w.heap.size w w' := by
  by_cases hb0 : 1048576 < len0
  · have hl0 : (len0 : Int) ≤ 9223372036854775807 := by have := IsRow.len w0; omega
    go_enter Try.func3, Try.ntmps3
    go_wp2
    go_ret
    exact ⟨rfl, Below.refl _ _⟩
  by_cases hb1 : 1048576 < len1
  · have hl1 : (len1 : Int) ≤ 9223372036854775807 := by have := IsRow.len w1; omega
    go_enter Try.func3, Try.ntmps3
    go_wp2
    go_ret
    exact ⟨rfl, Below.refl _ _⟩
  have r0 := IsRow.rb w0 (by omega)
  have r1 := IsRow.rb w1 (by omega)
  have sw : Below w.heap.size w w := Below.refl _ _
  go_enter Try.func3, Try.ntmps3
  go_upto_region 4 with (go_at_call 7; refine (drawPathNew_any w.heap.size a0 len0 cap0 _ r0 (Nat.le_refl _)).mono ?_; rintro e v1 ⟨vh, zs, rfl, hO1, hzn, hv1⟩; obtain ⟨ph, ch, rfl⟩ := hO1.shape)
  replace sw : Below w.heap.size w v1 := hv1
  have oH : Hid (OwnI _ _ _ _) := hO1
  clear hO1 hv1
  have HPN : Hid (∀ (W : World) (B : Nat) (v : Value), OwnI W B v zs → Calls Try.prog 8 #[v] W fun e w' => ∃ u1 u2, e = .returned (.agg #[u1, u2, .int .i64 (newP zs).a, .int .i64 (newP zs).c]) ∧ OwnT w' W.heap.size u1 u2 (newP zs).t ∧ Below W.heap.size W w') := fun W B v h => pathNew_any zs B v W (by omega) h
  have HSN : Hid (∀ (W : World) (B : Nat) (v : Value), OwnI W B v zs → Calls Try.prog 16 #[v] W fun e w' => ∃ u1 u2, e = .returned (.agg #[u1, u2, .int .i64 (newP zs).a, .int .i64 (newP zs).c]) ∧ OwnT w' W.heap.size u1 u2 (newP zs).t ∧ Below W.heap.size W w') := fun W B v h => specPathNew_any zs B v W (by omega) h
  have HNok : Hid ((newP zs).c = 0 → (newP zs).t.path = true ∧ (newP zs).t = ⟨zs, []⟩) := newP_ok zs
  have hNl := newP_len zs
  generalize (newP zs).t = NT at HPN HSN HNok hNl
  generalize (newP zs).a = NA at HPN HSN
  generalize (newP zs).c = NC at HPN HSN HNok
  go_upto_region 5 with (go_at_call 8; refine (HPN.out _ _ _ oH.out).mono ?_; rintro e v2 ⟨m1, m2, rfl, own2, hb2⟩; obtain ⟨px1, qx1, rfl⟩ := own2.c.shape; obtain ⟨px2, qx2, rfl⟩ := own2.r.shape)
  replace oH : Hid (OwnI _ _ _ _) := oH.out.below hb2
  replace sw : Below w.heap.size w v2 := keepB sw (Nat.le_refl _) hb2
  have oX : Hid (OwnT _ _ _ _ _) := own2
  clear own2 hb2 HPN
  replace oH : Hid (OwnI _ _ _ _) := oH.out.below (all_alloc v2 (.cells #[.slice px1 NT.cs.length qx1, .slice px2 NT.rs.length qx2, .int .i64 NA, .int .i64 NC] 28))
  replace oX : Hid (OwnT _ _ _ _ _) := oX.out.below (all_alloc v2 (.cells #[.slice px1 NT.cs.length qx1, .slice px2 NT.rs.length qx2, .int .i64 NA, .int .i64 NC] 28))
  replace sw : Below w.heap.size w (v2.alloc (.cells #[.slice px1 NT.cs.length qx1, .slice px2 NT.rs.length qx2, .int .i64 NA, .int .i64 NC] 28)) := keepB sw (Nat.le_refl _) (all_alloc v2 (.cells #[.slice px1 NT.cs.length qx1, .slice px2 NT.rs.length qx2, .int .i64 NA, .int .i64 NC] 28))
  have bX : Hid _ := heap_alloc_new v2 (.cells #[.slice px1 NT.cs.length qx1, .slice px2 NT.rs.length qx2, .int .i64 NA, .int .i64 NC] 28)
  generalize v2.alloc (.cells #[.slice px1 NT.cs.length qx1, .slice px2 NT.rs.length qx2, .int .i64 NA, .int .i64 NC] 28) = A2 at bX oH oX sw ⊢
  generalize v2.heap.size = gbX at bX ⊢
  go_upto_region 6 with (go_at_call 9; refine (drawPathStep_any w.heap.size a1 len1 cap1 _ (r1.blw sw) sw.size).mono ?_; rintro e v3 ⟨ts, ps1, ps2, qs1, qs2, via, rfl, own3, hns, hb3⟩)
  replace bX : Hid _ := blk bX.out hb3
  replace oH : Hid (OwnI _ _ _ _) := oH.out.below hb3
  replace oX : Hid (OwnT _ _ _ _ _) := oX.out.below hb3
  replace sw : Below w.heap.size w v3 := keepB sw (Nat.le_refl _) hb3
  have oS : Hid (OwnT _ _ _ _ _) := own3
  clear own3 hb3
  replace bX : Hid _ := blk bX.out (all_alloc v3 (.cells #[.slice ps1 ts.cs.length qs1, .slice ps2 ts.rs.length qs2] 26))
  replace oH : Hid (OwnI _ _ _ _) := oH.out.below (all_alloc v3 (.cells #[.slice ps1 ts.cs.length qs1, .slice ps2 ts.rs.length qs2] 26))
  replace oX : Hid (OwnT _ _ _ _ _) := oX.out.below (all_alloc v3 (.cells #[.slice ps1 ts.cs.length qs1, .slice ps2 ts.rs.length qs2] 26))
  replace oS : Hid (OwnT _ _ _ _ _) := oS.out.below (all_alloc v3 (.cells #[.slice ps1 ts.cs.length qs1, .slice ps2 ts.rs.length qs2] 26))
  replace sw : Below w.heap.size w (v3.alloc (.cells #[.slice ps1 ts.cs.length qs1, .slice ps2 ts.rs.length qs2] 26)) := keepB sw (Nat.le_refl _) (all_alloc v3 (.cells #[.slice ps1 ts.cs.length qs1, .slice ps2 ts.rs.length qs2] 26))
  have bS : Hid _ := heap_alloc_new v3 (.cells #[.slice ps1 ts.cs.length qs1, .slice ps2 ts.rs.length qs2] 26)
  generalize v3.alloc (.cells #[.slice ps1 ts.cs.length qs1, .slice ps2 ts.rs.length qs2] 26) = A3 at bX bS oH oX oS sw ⊢
  generalize v3.heap.size = gbS at bS ⊢
  go_upto_region 7 with (go_at_call 10; refine (drawPathHome_any w.heap.size a0 len0 cap0 _ (r0.blw sw) sw.size).mono ?_; rintro e v4 ⟨th, pm1, pm2, qm1, qm2, rfl, own4, hnh, hb4⟩)
  replace bX : Hid _ := blk bX.out hb4
  replace bS : Hid _ := blk bS.out hb4
  replace oH : Hid (OwnI _ _ _ _) := oH.out.below hb4
  replace oX : Hid (OwnT _ _ _ _ _) := oX.out.below hb4
  replace oS : Hid (OwnT _ _ _ _ _) := oS.out.below hb4
  replace sw : Below w.heap.size w v4 := keepB sw (Nat.le_refl _) hb4
  have oM : Hid (OwnT _ _ _ _ _) := own4
  clear own4 hb4
  replace bX : Hid _ := blk bX.out (all_alloc v4 (.cells #[.slice pm1 th.cs.length qm1, .slice pm2 th.rs.length qm2] 26))
  replace bS : Hid _ := blk bS.out (all_alloc v4 (.cells #[.slice pm1 th.cs.length qm1, .slice pm2 th.rs.length qm2] 26))
  replace oH : Hid (OwnI _ _ _ _) := oH.out.below (all_alloc v4 (.cells #[.slice pm1 th.cs.length qm1, .slice pm2 th.rs.length qm2] 26))
  replace oX : Hid (OwnT _ _ _ _ _) := oX.out.below (all_alloc v4 (.cells #[.slice pm1 th.cs.length qm1, .slice pm2 th.rs.length qm2] 26))
  replace oS : Hid (OwnT _ _ _ _ _) := oS.out.below (all_alloc v4 (.cells #[.slice pm1 th.cs.length qm1, .slice pm2 th.rs.length qm2] 26))
  replace oM : Hid (OwnT _ _ _ _ _) := oM.out.below (all_alloc v4 (.cells #[.slice pm1 th.cs.length qm1, .slice pm2 th.rs.length qm2] 26))
  replace sw : Below w.heap.size w (v4.alloc (.cells #[.slice pm1 th.cs.length qm1, .slice pm2 th.rs.length qm2] 26)) := keepB sw (Nat.le_refl _) (all_alloc v4 (.cells #[.slice pm1 th.cs.length qm1, .slice pm2 th.rs.length qm2] 26))
  have bM : Hid _ := heap_alloc_new v4 (.cells #[.slice pm1 th.cs.length qm1, .slice pm2 th.rs.length qm2] 26)
  generalize v4.alloc (.cells #[.slice pm1 th.cs.length qm1, .slice pm2 th.rs.length qm2] 26) = A4 at bX bS bM oH oX oS oM sw ⊢
  generalize v4.heap.size = gbM at bM ⊢
  go_upto_region 8 with (go_at_call 11; refine (drawPathBytes_any w.heap.size a1 len1 cap1 _ (r1.blw sw) sw.size).mono ?_; rintro e v5 ⟨tb, pb1, pb2, qb1, qb2, rfl, own5, hnb, hb5⟩)
  replace bX : Hid _ := blk bX.out hb5
  replace bS : Hid _ := blk bS.out hb5
  replace bM : Hid _ := blk bM.out hb5
  replace oH : Hid (OwnI _ _ _ _) := oH.out.below hb5
  replace oX : Hid (OwnT _ _ _ _ _) := oX.out.below hb5
  replace oS : Hid (OwnT _ _ _ _ _) := oS.out.below hb5
  replace oM : Hid (OwnT _ _ _ _ _) := oM.out.below hb5
  replace sw : Below w.heap.size w v5 := keepB sw (Nat.le_refl _) hb5
  have oB : Hid (OwnT _ _ _ _ _) := own5
  clear own5 hb5
  replace bX : Hid _ := blk bX.out (all_alloc v5 (.cells #[.slice pb1 tb.cs.length qb1, .slice pb2 tb.rs.length qb2] 26))
  replace bS : Hid _ := blk bS.out (all_alloc v5 (.cells #[.slice pb1 tb.cs.length qb1, .slice pb2 tb.rs.length qb2] 26))
  replace bM : Hid _ := blk bM.out (all_alloc v5 (.cells #[.slice pb1 tb.cs.length qb1, .slice pb2 tb.rs.length qb2] 26))
  replace oH : Hid (OwnI _ _ _ _) := oH.out.below (all_alloc v5 (.cells #[.slice pb1 tb.cs.length qb1, .slice pb2 tb.rs.length qb2] 26))
  replace oX : Hid (OwnT _ _ _ _ _) := oX.out.below (all_alloc v5 (.cells #[.slice pb1 tb.cs.length qb1, .slice pb2 tb.rs.length qb2] 26))
  replace oS : Hid (OwnT _ _ _ _ _) := oS.out.below (all_alloc v5 (.cells #[.slice pb1 tb.cs.length qb1, .slice pb2 tb.rs.length qb2] 26))
  replace oM : Hid (OwnT _ _ _ _ _) := oM.out.below (all_alloc v5 (.cells #[.slice pb1 tb.cs.length qb1, .slice pb2 tb.rs.length qb2] 26))
  replace oB : Hid (OwnT _ _ _ _ _) := oB.out.below (all_alloc v5 (.cells #[.slice pb1 tb.cs.length qb1, .slice pb2 tb.rs.length qb2] 26))
  replace sw : Below w.heap.size w (v5.alloc (.cells #[.slice pb1 tb.cs.length qb1, .slice pb2 tb.rs.length qb2] 26)) := keepB sw (Nat.le_refl _) (all_alloc v5 (.cells #[.slice pb1 tb.cs.length qb1, .slice pb2 tb.rs.length qb2] 26))
  have bB : Hid _ := heap_alloc_new v5 (.cells #[.slice pb1 tb.cs.length qb1, .slice pb2 tb.rs.length qb2] 26)
  generalize v5.alloc (.cells #[.slice pb1 tb.cs.length qb1, .slice pb2 tb.rs.length qb2] 26) = A5 at bX bS bM bB oH oX oS oM oB sw ⊢
  generalize v5.heap.size = gbB at bB ⊢
  have HTI : Hid (∀ (W : World) (B : Nat) (v1 v2 : Value), OwnT W B v1 v2 tb → Calls Try.prog 12 #[.agg #[v1, v2]] W fun e w' => e = .returned (.string (pathB tb)) ∧ Below W.heap.size W w') := fun W B v1 v2 h => pathBytes_any tb B v1 v2 W (by omega) (by omega) h
  have HTS : Hid (∀ (W : World) (B : Nat) (v1 v2 : Value), OwnT W B v1 v2 tb → Calls Try.prog 21 #[.agg #[v1, v2]] W fun e w' => e = .returned (.string (pathB tb)) ∧ Below W.heap.size W w') := fun W B v1 v2 h => specPathBytes_any tb B v1 v2 W (by omega) (by omega) h
  have HRI : Hid (∀ (W : World) (p q : Option Addr) (c d B : Nat), OwnT W B (.slice p tb.cs.length c) (.slice q tb.rs.length d) tb → Calls Try.prog 23 #[.agg #[.slice p tb.cs.length c, .slice q tb.rs.length d]] W fun e w' => e = .returned (.bool tb.path) ∧ Below W.heap.size W w') := fun W p q c d B h => pathRight_any tb p q c d W (by omega) (by omega) h.c.row h.r.row
  have HRS : Hid (∀ (W : World) (p q : Option Addr) (c d B : Nat), OwnT W B (.slice p tb.cs.length c) (.slice q tb.rs.length d) tb → Calls Try.prog 24 #[.agg #[.slice p tb.cs.length c, .slice q tb.rs.length d]] W fun e w' => e = .returned (.bool tb.path) ∧ Below W.heap.size W w') := fun W p q c d B h => specPathRight_any tb p q c d W (by omega) (by omega) h.c.row h.r.row
  have HTB : Hid (tb.path = true → readPa (pathB tb) = ⟨tb, 0, 0⟩) := readPa_back tb
  have HTE : Hid (tb.path = false → pathB tb = ByteArray.empty) := fun h => by unfold pathB; rw [h]; rfl
  have hTz := pathB_small tb
  generalize pathB tb = T at HTI HTS HTB HTE hTz
  generalize tb.path = TR at HRI HRS HTB HTE
  have c0 := cellW bB.out 0 _ rfl A5 (Below.refl _ _)
  have c1 := cellW bB.out 1 _ rfl A5 (Below.refl _ _)
  go_upto_region 9 with (go_at_call 12; refine (HTI.out _ _ _ _ oB.out).mono ?_; rintro e v6 ⟨rfl, hb6⟩)
  replace bX : Hid _ := blk bX.out hb6
  replace bS : Hid _ := blk bS.out hb6
  replace bM : Hid _ := blk bM.out hb6
  replace bB : Hid _ := blk bB.out hb6
  replace oH : Hid (OwnI _ _ _ _) := oH.out.below hb6
  replace oX : Hid (OwnT _ _ _ _ _) := oX.out.below hb6
  replace oS : Hid (OwnT _ _ _ _ _) := oS.out.below hb6
  replace oM : Hid (OwnT _ _ _ _ _) := oM.out.below hb6
  replace oB : Hid (OwnT _ _ _ _ _) := oB.out.below hb6
  replace sw : Below w.heap.size w v6 := keepB sw (Nat.le_refl _) hb6
  clear hb6 c0 c1
  go_upto_region 10 with (go_at_call 13; refine (drawPathRead_any w.heap.size a0 len0 cap0 _ (r0.blw sw) sw.size).mono ?_; rintro e v7 ⟨u, rfl, hu, hb7⟩)
  replace bX : Hid _ := blk bX.out hb7
  replace bS : Hid _ := blk bS.out hb7
  replace bM : Hid _ := blk bM.out hb7
  replace bB : Hid _ := blk bB.out hb7
  replace oH : Hid (OwnI _ _ _ _) := oH.out.below hb7
  replace oX : Hid (OwnT _ _ _ _ _) := oX.out.below hb7
  replace oS : Hid (OwnT _ _ _ _ _) := oS.out.below hb7
  replace oM : Hid (OwnT _ _ _ _ _) := oM.out.below hb7
  replace oB : Hid (OwnT _ _ _ _ _) := oB.out.below hb7
  replace sw : Below w.heap.size w v7 := keepB sw (Nat.le_refl _) hb7
  clear hb7
  have HYI : Hid (∀ (W : World), Calls Try.prog 14 #[.string u] W fun e w' => ∃ u1 u2, e = .returned (.agg #[u1, u2, .int .i64 (readPa u).a, .int .i64 (readPa u).c]) ∧ OwnT w' W.heap.size u1 u2 (readPa u).t ∧ Below W.heap.size W w') := fun W => pathRead_any u W (by omega)
  have HYS : Hid (∀ (W : World), Calls Try.prog 22 #[.string u] W fun e w' => ∃ u1 u2, e = .returned (.agg #[u1, u2, .int .i64 (readPa u).a, .int .i64 (readPa u).c]) ∧ OwnT w' W.heap.size u1 u2 (readPa u).t ∧ Below W.heap.size W w') := fun W => by rw [readPa_readQa]; exact specPathRead_any u W (by omega)
  have HYok : Hid ((readPa u).c = 0 → (readPa u).t.path = true ∧ pathB (readPa u).t = u) := readPa_ok u
  have hYl := readPa_len u
  generalize (readPa u).t = YT at HYI HYS HYok hYl
  generalize (readPa u).a = YA at HYI HYS
  generalize (readPa u).c = YC at HYI HYS HYok
  go_upto_region 11 with (go_at_call 14; refine (HYI.out _).mono ?_; rintro e v8 ⟨m1, m2, rfl, own8, hb8⟩; obtain ⟨py1, qy1, rfl⟩ := own8.c.shape; obtain ⟨py2, qy2, rfl⟩ := own8.r.shape)
  replace bX : Hid _ := blk bX.out hb8
  replace bS : Hid _ := blk bS.out hb8
  replace bM : Hid _ := blk bM.out hb8
  replace bB : Hid _ := blk bB.out hb8
  replace oH : Hid (OwnI _ _ _ _) := oH.out.below hb8
  replace oX : Hid (OwnT _ _ _ _ _) := oX.out.below hb8
  replace oS : Hid (OwnT _ _ _ _ _) := oS.out.below hb8
  replace oM : Hid (OwnT _ _ _ _ _) := oM.out.below hb8
  replace oB : Hid (OwnT _ _ _ _ _) := oB.out.below hb8
  replace sw : Below w.heap.size w v8 := keepB sw (Nat.le_refl _) hb8
  have oY : Hid (OwnT _ _ _ _ _) := own8
  clear own8 hb8 HYI
  replace bX : Hid _ := blk bX.out (all_alloc v8 (.cells #[.slice py1 YT.cs.length qy1, .slice py2 YT.rs.length qy2, .int .i64 YA, .int .i64 YC] 28))
  replace bS : Hid _ := blk bS.out (all_alloc v8 (.cells #[.slice py1 YT.cs.length qy1, .slice py2 YT.rs.length qy2, .int .i64 YA, .int .i64 YC] 28))
  replace bM : Hid _ := blk bM.out (all_alloc v8 (.cells #[.slice py1 YT.cs.length qy1, .slice py2 YT.rs.length qy2, .int .i64 YA, .int .i64 YC] 28))
  replace bB : Hid _ := blk bB.out (all_alloc v8 (.cells #[.slice py1 YT.cs.length qy1, .slice py2 YT.rs.length qy2, .int .i64 YA, .int .i64 YC] 28))
  replace oH : Hid (OwnI _ _ _ _) := oH.out.below (all_alloc v8 (.cells #[.slice py1 YT.cs.length qy1, .slice py2 YT.rs.length qy2, .int .i64 YA, .int .i64 YC] 28))
  replace oX : Hid (OwnT _ _ _ _ _) := oX.out.below (all_alloc v8 (.cells #[.slice py1 YT.cs.length qy1, .slice py2 YT.rs.length qy2, .int .i64 YA, .int .i64 YC] 28))
  replace oS : Hid (OwnT _ _ _ _ _) := oS.out.below (all_alloc v8 (.cells #[.slice py1 YT.cs.length qy1, .slice py2 YT.rs.length qy2, .int .i64 YA, .int .i64 YC] 28))
  replace oM : Hid (OwnT _ _ _ _ _) := oM.out.below (all_alloc v8 (.cells #[.slice py1 YT.cs.length qy1, .slice py2 YT.rs.length qy2, .int .i64 YA, .int .i64 YC] 28))
  replace oB : Hid (OwnT _ _ _ _ _) := oB.out.below (all_alloc v8 (.cells #[.slice py1 YT.cs.length qy1, .slice py2 YT.rs.length qy2, .int .i64 YA, .int .i64 YC] 28))
  replace oY : Hid (OwnT _ _ _ _ _) := oY.out.below (all_alloc v8 (.cells #[.slice py1 YT.cs.length qy1, .slice py2 YT.rs.length qy2, .int .i64 YA, .int .i64 YC] 28))
  replace sw : Below w.heap.size w (v8.alloc (.cells #[.slice py1 YT.cs.length qy1, .slice py2 YT.rs.length qy2, .int .i64 YA, .int .i64 YC] 28)) := keepB sw (Nat.le_refl _) (all_alloc v8 (.cells #[.slice py1 YT.cs.length qy1, .slice py2 YT.rs.length qy2, .int .i64 YA, .int .i64 YC] 28))
  have bY : Hid _ := heap_alloc_new v8 (.cells #[.slice py1 YT.cs.length qy1, .slice py2 YT.rs.length qy2, .int .i64 YA, .int .i64 YC] 28)
  generalize v8.alloc (.cells #[.slice py1 YT.cs.length qy1, .slice py2 YT.rs.length qy2, .int .i64 YA, .int .i64 YC] 28) = V at bX bS bM bB bY oH oX oS oM oB oY sw ⊢
  generalize v8.heap.size = gbY at bY ⊢
  have HSI : Hid (∀ (W : World) (v1 v2 : Value) (B : Nat), OwnT W B v1 v2 ts → Calls Try.prog 17 #[.agg #[v1, v2], .int .i64 via] W fun e w' => ∃ u1 u2, e = .returned (.agg #[u1, u2, .int .i64 (stepP ts via).a, .int .i64 (stepP ts via).c]) ∧ OwnT w' W.heap.size u1 u2 (stepP ts via).t ∧ Below W.heap.size W w') := fun W v1 v2 B h => pathStep_any ts via B v1 v2 W (by omega) (by omega) h
  have HSS : Hid (∀ (W : World) (v1 v2 : Value) (B : Nat), OwnT W B v1 v2 ts → Calls Try.prog 18 #[.agg #[v1, v2], .int .i64 via] W fun e w' => ∃ u1 u2, e = .returned (.agg #[u1, u2, .int .i64 (stepP ts via).a, .int .i64 (stepP ts via).c]) ∧ OwnT w' W.heap.size u1 u2 (stepP ts via).t ∧ Below W.heap.size W w') := fun W v1 v2 B h => specPathStep_any ts via B v1 v2 W (by omega) (by omega) h
  have HSok : (stepP ts via).c = 0 → (stepP ts via).t.path = true := stepP_ok ts via
  have hSl := stepP_len ts via
  generalize (stepP ts via).t = ST at HSI HSS HSok hSl
  generalize (stepP ts via).a = SA at HSI HSS
  generalize (stepP ts via).c = SC at HSI HSS HSok
  have HMI : Hid (∀ (W : World) (v1 v2 : Value) (B : Nat), OwnT W B v1 v2 th → Calls Try.prog 19 #[.agg #[v1, v2]] W fun e w' => ∃ u1 u2, e = .returned (.agg #[u1, u2, .int .i64 (homeP th).a, .int .i64 (homeP th).c]) ∧ OwnT w' W.heap.size u1 u2 (homeP th).t ∧ Below W.heap.size W w') := fun W v1 v2 B h => pathHome_any th B v1 v2 W (by omega) (by omega) h
  have HMS : Hid (∀ (W : World) (v1 v2 : Value) (B : Nat), OwnT W B v1 v2 th → Calls Try.prog 20 #[.agg #[v1, v2]] W fun e w' => ∃ u1 u2, e = .returned (.agg #[u1, u2, .int .i64 (homeP th).a, .int .i64 (homeP th).c]) ∧ OwnT w' W.heap.size u1 u2 (homeP th).t ∧ Below W.heap.size W w') := fun W v1 v2 B h => specPathHome_any th B v1 v2 W (by omega) (by omega) h
  have HMok : (homeP th).c = 0 → (homeP th).t.path = true := homeP_ok th
  have hMl := homeP_len th
  generalize (homeP th).t = MT at HMI HMS HMok hMl
  generalize (homeP th).a = MA at HMI HMS
  generalize (homeP th).c = MC at HMI HMS HMok
  have HLN : Hid (∀ (W : World) (B B' : Nat) (x1 x2 y1 y2 : Value), OwnT W B x1 x2 NT → OwnT W B' y1 y2 NT → Calls Try.prog 15 #[.agg #[x1, x2, .int .i64 NA, .int .i64 NC], .agg #[y1, y2, .int .i64 NA, .int .i64 NC]] W fun e w' => e = .returned (.bool true) ∧ Below W.heap.size W w') := fun W B B' x1 x2 y1 y2 h1 h2 => lwPaths_same NT NA NC (fun h => (HNok.out h).1) x1 x2 y1 y2 W (by omega) (by omega) h1.c.row h1.r.row h2.c.row h2.r.row
  have HLS : Hid (∀ (W : World) (B B' : Nat) (x1 x2 y1 y2 : Value), OwnT W B x1 x2 ST → OwnT W B' y1 y2 ST → Calls Try.prog 15 #[.agg #[x1, x2, .int .i64 SA, .int .i64 SC], .agg #[y1, y2, .int .i64 SA, .int .i64 SC]] W fun e w' => e = .returned (.bool true) ∧ Below W.heap.size W w') := fun W B B' x1 x2 y1 y2 h1 h2 => lwPaths_same ST SA SC HSok x1 x2 y1 y2 W (by omega) (by omega) h1.c.row h1.r.row h2.c.row h2.r.row
  have HLM : Hid (∀ (W : World) (B B' : Nat) (x1 x2 y1 y2 : Value), OwnT W B x1 x2 MT → OwnT W B' y1 y2 MT → Calls Try.prog 15 #[.agg #[x1, x2, .int .i64 MA, .int .i64 MC], .agg #[y1, y2, .int .i64 MA, .int .i64 MC]] W fun e w' => e = .returned (.bool true) ∧ Below W.heap.size W w') := fun W B B' x1 x2 y1 y2 h1 h2 => lwPaths_same MT MA MC HMok x1 x2 y1 y2 W (by omega) (by omega) h1.c.row h1.r.row h2.c.row h2.r.row
  have HLY : Hid (∀ (W : World) (B B' : Nat) (x1 x2 y1 y2 : Value), OwnT W B x1 x2 YT → OwnT W B' y1 y2 YT → Calls Try.prog 15 #[.agg #[x1, x2, .int .i64 YA, .int .i64 YC], .agg #[y1, y2, .int .i64 YA, .int .i64 YC]] W fun e w' => e = .returned (.bool true) ∧ Below W.heap.size W w') := fun W B B' x1 x2 y1 y2 h1 h2 => lwPaths_same YT YA YC (fun h => (HYok.out h).1) x1 x2 y1 y2 W (by omega) (by omega) h1.c.row h1.r.row h2.c.row h2.r.row
  clear HSok HMok hSl hMl
  have eT : (T.toList == T.toList) = true := by simp
  have eR : (TR != TR) = false := by cases TR <;> rfl
  have cbX0 := cellW bX.out 0 _ rfl
  have cbX1 := cellW bX.out 1 _ rfl
  have cbX2 := cellW bX.out 2 _ rfl
  have cbX3 := cellW bX.out 3 _ rfl
  have cbS0 := cellW bS.out 0 _ rfl
  have cbS1 := cellW bS.out 1 _ rfl
  have cbM0 := cellW bM.out 0 _ rfl
  have cbM1 := cellW bM.out 1 _ rfl
  have cbB0 := cellW bB.out 0 _ rfl
  have cbB1 := cellW bB.out 1 _ rfl
  have cbY0 := cellW bY.out 0 _ rfl
  have cbY1 := cellW bY.out 1 _ rfl
  have cbY2 := cellW bY.out 2 _ rfl
  have cbY3 := cellW bY.out 3 _ rfl
  go_cut [90] (fun s90 wx => s90 = .bool false ∧ Below V.heap.size V wx)
  case first =>
    go_region_held3 (fun w' => Below V.heap.size V w') (first | assumption | exact Below.drew (Below.refl _ _) | exact keepB (by assumption) (Nat.le_refl _) hbq) (first
      | (go_at_call 15; refine (HLY.out _ _ _ _ _ _ _ (OwnT.below oY.out (by assumption)) ownY).mono ?_; rintro e9 w9 ⟨rfl, hbq⟩)
      | (go_at_call 15; refine (HLM.out _ _ _ _ _ _ _ (OwnT.below ownM1 hbM) ownM2).mono ?_; rintro e9 w9 ⟨rfl, hbq⟩)
      | (go_at_call 15; refine (HLS.out _ _ _ _ _ _ _ (OwnT.below ownS1 hbS) ownS2).mono ?_; rintro e9 w9 ⟨rfl, hbq⟩)
      | (go_at_call 15; refine (HLN.out _ _ _ _ _ _ _ (OwnT.below oX.out (by assumption)) ownN).mono ?_; rintro e9 w9 ⟨rfl, hbq⟩)
      | (go_at_call 16; refine (HSN.out _ _ _ (OwnI.below oH.out (by assumption))).mono ?_; rintro e9 w9 ⟨n1, n2, rfl, ownN, hbq⟩; obtain ⟨pn1, qn1, rfl⟩ := ownN.c.shape; obtain ⟨pn2, qn2, rfl⟩ := ownN.r.shape)
      | (go_at_call 17; refine (HSI.out _ _ _ _ (OwnT.below oS.out (by assumption))).mono ?_; rintro e9 w9 ⟨n3, n4, rfl, ownS1, hbq⟩; obtain ⟨pn3, qn3, rfl⟩ := ownS1.c.shape; obtain ⟨pn4, qn4, rfl⟩ := ownS1.r.shape)
      | (go_at_call 18; refine (HSS.out _ _ _ _ (OwnT.below oS.out (by assumption))).mono ?_; rintro e9 w9 ⟨n5, n6, rfl, ownS2, hbq⟩; have hbS := hbq; obtain ⟨pn5, qn5, rfl⟩ := ownS2.c.shape; obtain ⟨pn6, qn6, rfl⟩ := ownS2.r.shape)
      | (go_at_call 19; refine (HMI.out _ _ _ _ (OwnT.below oM.out (by assumption))).mono ?_; rintro e9 w9 ⟨n7, n8, rfl, ownM1, hbq⟩; obtain ⟨pn7, qn7, rfl⟩ := ownM1.c.shape; obtain ⟨pn8, qn8, rfl⟩ := ownM1.r.shape)
      | (go_at_call 20; refine (HMS.out _ _ _ _ (OwnT.below oM.out (by assumption))).mono ?_; rintro e9 w9 ⟨n9, n10, rfl, ownM2, hbq⟩; have hbM := hbq; obtain ⟨pn9, qn9, rfl⟩ := ownM2.c.shape; obtain ⟨pn10, qn10, rfl⟩ := ownM2.r.shape)
      | (go_at_call 21; refine (HTS.out _ _ _ _ (OwnT.below oB.out (by assumption))).mono ?_; rintro e9 w9 ⟨rfl, hbq⟩)
      | (go_at_call 22; refine (HYS.out _).mono ?_; rintro e9 w9 ⟨n11, n12, rfl, ownY, hbq⟩; obtain ⟨pn11, qn11, rfl⟩ := ownY.c.shape; obtain ⟨pn12, qn12, rfl⟩ := ownY.r.shape)
      | (go_at_call 23; refine (HRI.out _ _ _ _ _ _ (OwnT.below oB.out (by assumption))).mono ?_; rintro e9 w9 ⟨rfl, hbq⟩)
      | (go_at_call 24; refine (HRS.out _ _ _ _ _ _ (OwnT.below oB.out (by assumption))).mono ?_; rintro e9 w9 ⟨rfl, hbq⟩))
    go_wp2
    go_meet
    exact ⟨rfl, by assumption⟩
  case rest =>
  obtain ⟨rfl, hwc⟩ := hcut
  rename World => Z
  clear cbX0 cbX1 cbX2 cbX3 cbS0 cbS1 cbM0 cbM1 cbB0 cbB1 cbY0 cbY1 cbY2 cbY3 HLN HLS HLM HLY HSI HSS HMI HMS HTS HRI HRS HYS HSN eT eR
  clear bS bM oS oM
  replace bX : Hid _ := blk bX.out hwc
  replace bB : Hid _ := blk bB.out hwc
  replace bY : Hid _ := blk bY.out hwc
  replace oH : Hid (OwnI _ _ _ _) := oH.out.below hwc
  replace oX : Hid (OwnT _ _ _ _ _) := oX.out.below hwc
  replace oB : Hid (OwnT _ _ _ _ _) := oB.out.below hwc
  replace oY : Hid (OwnT _ _ _ _ _) := oY.out.below hwc
  replace sw : Below w.heap.size w Z := keepB sw (Nat.le_refl _) hwc
  clear hwc
  have HPT : Hid (TR = true → ∀ (W : World), Calls Try.prog 14 #[.string T] W fun e w' => ∃ u1 u2, e = .returned (.agg #[u1, u2, .int .i64 0, .int .i64 0]) ∧ OwnT w' W.heap.size u1 u2 tb ∧ Below W.heap.size W w') := fun h W => by
    have := pathRead_any T W (by omega)
    rw [HTB.out h] at this
    exact this
  have HTN : Hid (TR = true → (T.toList == ([] : List UInt8)) = false) := fun h => by
    rw [Bool.eq_false_iff]
    intro e
    have e1 : T = ByteArray.empty := bytes_of_list (by simpa using e)
    have e2 := HTB.out h
    rw [e1] at e2
    have e3 : (readPa ByteArray.empty).c = 3 := by unfold readPa; rw [if_neg (by decide), rdAll_empty, if_neg pathB_zero]
    rw [e2] at e3
    cases e3
  have HTY : Hid (TR = false → (T.toList == ([] : List UInt8)) = true) := fun h => by rw [HTE.out h, Lib.toList_data]; rfl
  have HLB : Hid (∀ (W : World) (B B' : Nat) (x1 x2 y1 y2 : Value), OwnT W B x1 x2 tb → OwnT W B' y1 y2 tb → Calls Try.prog 25 #[.agg #[x1, x2], .agg #[y1, y2]] W fun e w' => e = .returned (.bool true) ∧ Below W.heap.size W w') := fun W B B' x1 x2 y1 y2 h1 h2 => lwPath_same tb x1 x2 y1 y2 W (by omega) (by omega) h1.c.row h1.r.row h2.c.row h2.r.row
  have HYB : Hid (YC = 0 → ∀ (W : World) (B : Nat) (v1 v2 : Value), OwnT W B v1 v2 YT → Calls Try.prog 12 #[.agg #[v1, v2]] W fun e w' => e = .returned (.string u) ∧ Below W.heap.size W w') := fun h W B v1 v2 ho => by
    have := pathBytes_any YT B v1 v2 W (by omega) (by omega) ho
    rw [(HYok.out h).2] at this
    exact this
  have eu : (u.toList == u.toList) = true := by simp
  have hfld := field_pout
  clear HTB HTE HYok
  have cbB0 := cellW bB.out 0 _ rfl
  have cbB1 := cellW bB.out 1 _ rfl
  have cbY0 := cellW bY.out 0 _ rfl
  have cbY1 := cellW bY.out 1 _ rfl
  have cbY2 := cellW bY.out 2 _ rfl
  have cbY3 := cellW bY.out 3 _ rfl
  go_upto_region 13 with fail
  go_cut [112] (fun s112 wx => s112 = .bool false ∧ Below Z.heap.size Z wx)
  case first =>
    cases TR with
    | true =>
      have qT := HTN.out rfl
      have HPTr : Hid _ := HPT.out rfl
      by_cases hy : YC = 0
      · have ey : (YC == 0) = true := by simp [hy]
        have HYBr : Hid _ := HYB.out hy
        clear hy
        refine wp_region_held_drew (S := (fun w' => Below Z.heap.size Z w')) (by kernel_rfl) ?_ (fun hHeld => ?_)
        · (try dsimp only); exact Below.drew (Below.refl _ _)
        first
          | (refine skipH (i := 0) rfl (by kernel_rfl) (by kernel_rfl) (by kernel_rfl) (fun _ _ _ h => h) (by rfl) (by assumption) ?_; try simp only [Act.put, List.setIfInBounds_toArray, List.set_cons_zero, List.set_cons_succ, List.getElem_toArray, List.getElem_cons_succ, List.getElem_cons_zero])
          | (refine yieldH (i := 0) (v := ?_) rfl (by kernel_rfl) (by kernel_rfl) (by kernel_rfl) (fun _ _ _ h => h) (by rfl) ?_ (by assumption) ?_; rotate_left; (intro w hSw; (try dsimp only at hSw); go_simp; (try with_reducible rfl)); try simp only [Act.put, List.setIfInBounds_toArray, List.set_cons_zero, List.set_cons_succ, List.getElem_toArray, List.getElem_cons_succ, List.getElem_cons_zero])
          | fail
        first
          | (refine skipH (i := 1) rfl (by kernel_rfl) (by kernel_rfl) (by kernel_rfl) (fun _ _ _ h => h) (by rfl) (by assumption) ?_; try simp only [Act.put, List.setIfInBounds_toArray, List.set_cons_zero, List.set_cons_succ, List.getElem_toArray, List.getElem_cons_succ, List.getElem_cons_zero])
          | (refine yieldH (i := 1) (v := ?_) rfl (by kernel_rfl) (by kernel_rfl) (by kernel_rfl) (fun _ _ _ h => h) (by rfl) ?_ (by assumption) ?_; rotate_left; (intro w hSw; (try dsimp only at hSw); go_simp; (try with_reducible rfl)); try simp only [Act.put, List.setIfInBounds_toArray, List.set_cons_zero, List.set_cons_succ, List.getElem_toArray, List.getElem_cons_succ, List.getElem_cons_zero])
          | fail
        first
          | (refine skipH (i := 2) rfl (by kernel_rfl) (by kernel_rfl) (by kernel_rfl) (fun _ _ _ h => h) (by rfl) (by assumption) ?_; try simp only [Act.put, List.setIfInBounds_toArray, List.set_cons_zero, List.set_cons_succ, List.getElem_toArray, List.getElem_cons_succ, List.getElem_cons_zero])
          | (refine yieldH (i := 2) (v := ?_) rfl (by kernel_rfl) (by kernel_rfl) (by kernel_rfl) (fun _ _ _ h => h) (by rfl) ?_ (by assumption) ?_; rotate_left; (intro w hSw; (try dsimp only at hSw); go_simp; (try with_reducible rfl)); try simp only [Act.put, List.setIfInBounds_toArray, List.set_cons_zero, List.set_cons_succ, List.getElem_toArray, List.getElem_cons_succ, List.getElem_cons_zero])
          | fail
        first
          | (refine skipH (i := 3) rfl (by kernel_rfl) (by kernel_rfl) (by kernel_rfl) (fun _ _ _ h => h) (by rfl) (by assumption) ?_; try simp only [Act.put, List.setIfInBounds_toArray, List.set_cons_zero, List.set_cons_succ, List.getElem_toArray, List.getElem_cons_succ, List.getElem_cons_zero])
          | (refine yieldH (i := 3) (v := ?_) rfl (by kernel_rfl) (by kernel_rfl) (by kernel_rfl) (fun _ _ _ h => h) (by rfl) ?_ (by assumption) ?_; rotate_left; (intro w hSw; (try dsimp only at hSw); go_simp; (try with_reducible rfl)); try simp only [Act.put, List.setIfInBounds_toArray, List.set_cons_zero, List.set_cons_succ, List.getElem_toArray, List.getElem_cons_succ, List.getElem_cons_zero])
          | fail
        first
          | (refine skipH (i := 6) rfl (by kernel_rfl) (by kernel_rfl) (by kernel_rfl) (fun _ _ _ h => h) (by rfl) (by assumption) ?_; try simp only [Act.put, List.setIfInBounds_toArray, List.set_cons_zero, List.set_cons_succ, List.getElem_toArray, List.getElem_cons_succ, List.getElem_cons_zero])
          | (refine yieldH (i := 6) (v := ?_) rfl (by kernel_rfl) (by kernel_rfl) (by kernel_rfl) (fun _ _ _ h => h) (by rfl) ?_ (by assumption) ?_; rotate_left; (intro w hSw; (try dsimp only at hSw); go_simp; (try with_reducible rfl)); try simp only [Act.put, List.setIfInBounds_toArray, List.set_cons_zero, List.set_cons_succ, List.getElem_toArray, List.getElem_cons_succ, List.getElem_cons_zero])
          | fail
        refine wpAnyH_ready (rs := [4]) (by kernel_rfl) (by simp) ?_
        refine AllReadyH.cons rfl (fun K hK => ?_) AllReadyH.nil
        go_simp
        go_at_call 14; refine (HPTr.out _).mono ?_; rintro e9 w9 ⟨n1, n2, rfl, own9, hb9⟩; obtain ⟨pn1, qn1, rfl⟩ := own9.c.shape; obtain ⟨pn2, qn2, rfl⟩ := own9.r.shape; have k9 : Below Z.heap.size Z w9 := keepB (Below.drew (Below.refl _ _)) (Nat.le_refl _) hb9
        dsimp only
        refine hK.out _ _ ?_ (fun hHeld => ?_)
        · (try dsimp only); exact k9
        clear hK K
        try simp only [Act.put, List.setIfInBounds_toArray, List.set_cons_zero, List.set_cons_succ, List.getElem_toArray, List.getElem_cons_succ, List.getElem_cons_zero]
        first
          | (refine skipH (i := 5) rfl (by kernel_rfl) (by kernel_rfl) (by kernel_rfl) (fun _ _ _ h => h) (by rfl) (by assumption) ?_; try simp only [Act.put, List.setIfInBounds_toArray, List.set_cons_zero, List.set_cons_succ, List.getElem_toArray, List.getElem_cons_succ, List.getElem_cons_zero])
          | (refine yieldH (i := 5) (v := ?_) rfl (by kernel_rfl) (by kernel_rfl) (by kernel_rfl) (fun _ _ _ h => h) (by rfl) ?_ (by assumption) ?_; rotate_left; (intro w hSw; (try dsimp only at hSw); go_simp; (try with_reducible rfl)); try simp only [Act.put, List.setIfInBounds_toArray, List.set_cons_zero, List.set_cons_succ, List.getElem_toArray, List.getElem_cons_succ, List.getElem_cons_zero])
          | fail
        refine wpAnyH_ready (rs := [7]) (by kernel_rfl) (by simp) ?_
        refine AllReadyH.cons rfl (fun K hK => ?_) AllReadyH.nil
        go_simp
        go_at_call 25; refine (HLB.out _ _ _ _ _ _ _ own9 (OwnT.below oB.out k9)).mono ?_; rintro e10 w10 ⟨rfl, hb10⟩; have k10 : Below Z.heap.size Z w10 := keepB k9 (Nat.le_refl _) hb10
        dsimp only
        refine hK.out _ _ ?_ (fun hHeld => ?_)
        · (try dsimp only); exact k10
        clear hK K
        try simp only [Act.put, List.setIfInBounds_toArray, List.set_cons_zero, List.set_cons_succ, List.getElem_toArray, List.getElem_cons_succ, List.getElem_cons_zero]
        first
          | (refine skipH (i := 8) rfl (by kernel_rfl) (by kernel_rfl) (by kernel_rfl) (fun _ _ _ h => h) (by rfl) (by assumption) ?_; try simp only [Act.put, List.setIfInBounds_toArray, List.set_cons_zero, List.set_cons_succ, List.getElem_toArray, List.getElem_cons_succ, List.getElem_cons_zero])
          | (refine yieldH (i := 8) (v := ?_) rfl (by kernel_rfl) (by kernel_rfl) (by kernel_rfl) (fun _ _ _ h => h) (by rfl) ?_ (by assumption) ?_; rotate_left; (intro w hSw; (try dsimp only at hSw); go_simp; (try with_reducible rfl)); try simp only [Act.put, List.setIfInBounds_toArray, List.set_cons_zero, List.set_cons_succ, List.getElem_toArray, List.getElem_cons_succ, List.getElem_cons_zero])
          | fail
        first
          | (refine skipH (i := 9) rfl (by kernel_rfl) (by kernel_rfl) (by kernel_rfl) (fun _ _ _ h => h) (by rfl) (by assumption) ?_; try simp only [Act.put, List.setIfInBounds_toArray, List.set_cons_zero, List.set_cons_succ, List.getElem_toArray, List.getElem_cons_succ, List.getElem_cons_zero])
          | (refine yieldH (i := 9) (v := ?_) rfl (by kernel_rfl) (by kernel_rfl) (by kernel_rfl) (fun _ _ _ h => h) (by rfl) ?_ (by assumption) ?_; rotate_left; (intro w hSw; (try dsimp only at hSw); go_simp; (try with_reducible rfl)); try simp only [Act.put, List.setIfInBounds_toArray, List.set_cons_zero, List.set_cons_succ, List.getElem_toArray, List.getElem_cons_succ, List.getElem_cons_zero])
          | fail
        first
          | (refine skipH (i := 10) rfl (by kernel_rfl) (by kernel_rfl) (by kernel_rfl) (fun _ _ _ h => h) (by rfl) (by assumption) ?_; try simp only [Act.put, List.setIfInBounds_toArray, List.set_cons_zero, List.set_cons_succ, List.getElem_toArray, List.getElem_cons_succ, List.getElem_cons_zero])
          | (refine yieldH (i := 10) (v := ?_) rfl (by kernel_rfl) (by kernel_rfl) (by kernel_rfl) (fun _ _ _ h => h) (by rfl) ?_ (by assumption) ?_; rotate_left; (intro w hSw; (try dsimp only at hSw); go_simp; (try with_reducible rfl)); try simp only [Act.put, List.setIfInBounds_toArray, List.set_cons_zero, List.set_cons_succ, List.getElem_toArray, List.getElem_cons_succ, List.getElem_cons_zero])
          | fail
        first
          | (refine skipH (i := 11) rfl (by kernel_rfl) (by kernel_rfl) (by kernel_rfl) (fun _ _ _ h => h) (by rfl) (by assumption) ?_; try simp only [Act.put, List.setIfInBounds_toArray, List.set_cons_zero, List.set_cons_succ, List.getElem_toArray, List.getElem_cons_succ, List.getElem_cons_zero])
          | (refine yieldH (i := 11) (v := ?_) rfl (by kernel_rfl) (by kernel_rfl) (by kernel_rfl) (fun _ _ _ h => h) (by rfl) ?_ (by assumption) ?_; rotate_left; (intro w hSw; (try dsimp only at hSw); go_simp; (try with_reducible rfl)); try simp only [Act.put, List.setIfInBounds_toArray, List.set_cons_zero, List.set_cons_succ, List.getElem_toArray, List.getElem_cons_succ, List.getElem_cons_zero])
          | fail
        first
          | (refine skipH (i := 12) rfl (by kernel_rfl) (by kernel_rfl) (by kernel_rfl) (fun _ _ _ h => h) (by rfl) (by assumption) ?_; try simp only [Act.put, List.setIfInBounds_toArray, List.set_cons_zero, List.set_cons_succ, List.getElem_toArray, List.getElem_cons_succ, List.getElem_cons_zero])
          | (refine yieldH (i := 12) (v := ?_) rfl (by kernel_rfl) (by kernel_rfl) (by kernel_rfl) (fun _ _ _ h => h) (by rfl) ?_ (by assumption) ?_; rotate_left; (intro w hSw; (try dsimp only at hSw); go_simp; (try with_reducible rfl)); try simp only [Act.put, List.setIfInBounds_toArray, List.set_cons_zero, List.set_cons_succ, List.getElem_toArray, List.getElem_cons_succ, List.getElem_cons_zero])
          | fail
        first
          | (refine skipH (i := 13) rfl (by kernel_rfl) (by kernel_rfl) (by kernel_rfl) (fun _ _ _ h => h) (by rfl) (by assumption) ?_; try simp only [Act.put, List.setIfInBounds_toArray, List.set_cons_zero, List.set_cons_succ, List.getElem_toArray, List.getElem_cons_succ, List.getElem_cons_zero])
          | (refine yieldH (i := 13) (v := ?_) rfl (by kernel_rfl) (by kernel_rfl) (by kernel_rfl) (fun _ _ _ h => h) (by rfl) ?_ (by assumption) ?_; rotate_left; (intro w hSw; (try dsimp only at hSw); go_simp; (try with_reducible rfl)); try simp only [Act.put, List.setIfInBounds_toArray, List.set_cons_zero, List.set_cons_succ, List.getElem_toArray, List.getElem_cons_succ, List.getElem_cons_zero])
          | fail
        first
          | (refine skipH (i := 14) rfl (by kernel_rfl) (by kernel_rfl) (by kernel_rfl) (fun _ _ _ h => h) (by rfl) (by assumption) ?_; try simp only [Act.put, List.setIfInBounds_toArray, List.set_cons_zero, List.set_cons_succ, List.getElem_toArray, List.getElem_cons_succ, List.getElem_cons_zero])
          | (refine yieldH (i := 14) (v := ?_) rfl (by kernel_rfl) (by kernel_rfl) (by kernel_rfl) (fun _ _ _ h => h) (by rfl) ?_ (by assumption) ?_; rotate_left; (intro w hSw; (try dsimp only at hSw); go_simp; (try with_reducible rfl)); try simp only [Act.put, List.setIfInBounds_toArray, List.set_cons_zero, List.set_cons_succ, List.getElem_toArray, List.getElem_cons_succ, List.getElem_cons_zero])
          | fail
        first
          | (refine skipH (i := 15) rfl (by kernel_rfl) (by kernel_rfl) (by kernel_rfl) (fun _ _ _ h => h) (by rfl) (by assumption) ?_; try simp only [Act.put, List.setIfInBounds_toArray, List.set_cons_zero, List.set_cons_succ, List.getElem_toArray, List.getElem_cons_succ, List.getElem_cons_zero])
          | (refine yieldH (i := 15) (v := ?_) rfl (by kernel_rfl) (by kernel_rfl) (by kernel_rfl) (fun _ _ _ h => h) (by rfl) ?_ (by assumption) ?_; rotate_left; (intro w hSw; (try dsimp only at hSw); go_simp; (try with_reducible rfl)); try simp only [Act.put, List.setIfInBounds_toArray, List.set_cons_zero, List.set_cons_succ, List.getElem_toArray, List.getElem_cons_succ, List.getElem_cons_zero])
          | fail
        first
          | (refine skipH (i := 16) rfl (by kernel_rfl) (by kernel_rfl) (by kernel_rfl) (fun _ _ _ h => h) (by rfl) (by assumption) ?_; try simp only [Act.put, List.setIfInBounds_toArray, List.set_cons_zero, List.set_cons_succ, List.getElem_toArray, List.getElem_cons_succ, List.getElem_cons_zero])
          | (refine yieldH (i := 16) (v := ?_) rfl (by kernel_rfl) (by kernel_rfl) (by kernel_rfl) (fun _ _ _ h => h) (by rfl) ?_ (by assumption) ?_; rotate_left; (intro w hSw; (try dsimp only at hSw); go_simp; (try with_reducible rfl)); try simp only [Act.put, List.setIfInBounds_toArray, List.set_cons_zero, List.set_cons_succ, List.getElem_toArray, List.getElem_cons_succ, List.getElem_cons_zero])
          | fail
        first
          | (refine skipH (i := 18) rfl (by kernel_rfl) (by kernel_rfl) (by kernel_rfl) (fun _ _ _ h => h) (by rfl) (by assumption) ?_; try simp only [Act.put, List.setIfInBounds_toArray, List.set_cons_zero, List.set_cons_succ, List.getElem_toArray, List.getElem_cons_succ, List.getElem_cons_zero])
          | (refine yieldH (i := 18) (v := ?_) rfl (by kernel_rfl) (by kernel_rfl) (by kernel_rfl) (fun _ _ _ h => h) (by rfl) ?_ (by assumption) ?_; rotate_left; (intro w hSw; (try dsimp only at hSw); go_simp; (try with_reducible rfl)); try simp only [Act.put, List.setIfInBounds_toArray, List.set_cons_zero, List.set_cons_succ, List.getElem_toArray, List.getElem_cons_succ, List.getElem_cons_zero])
          | fail
        refine wpAnyH_ready (rs := [17]) (by kernel_rfl) (by simp) ?_
        refine AllReadyH.cons rfl (fun K hK => ?_) AllReadyH.nil
        go_simp
        go_at_call 12; refine (HYBr.out _ _ _ _ (OwnT.below oY.out k10)).mono ?_; rintro e11 w11 ⟨rfl, hb11⟩; have k11 : Below Z.heap.size Z w11 := keepB k10 (Nat.le_refl _) hb11
        dsimp only
        refine hK.out _ _ ?_ (fun hHeld => ?_)
        · (try dsimp only); exact k11
        clear hK K
        try simp only [Act.put, List.setIfInBounds_toArray, List.set_cons_zero, List.set_cons_succ, List.getElem_toArray, List.getElem_cons_succ, List.getElem_cons_zero]
        first
          | (refine skipH (i := 19) rfl (by kernel_rfl) (by kernel_rfl) (by kernel_rfl) (fun _ _ _ h => h) (by rfl) (by assumption) ?_; try simp only [Act.put, List.setIfInBounds_toArray, List.set_cons_zero, List.set_cons_succ, List.getElem_toArray, List.getElem_cons_succ, List.getElem_cons_zero])
          | (refine yieldH (i := 19) (v := ?_) rfl (by kernel_rfl) (by kernel_rfl) (by kernel_rfl) (fun _ _ _ h => h) (by rfl) ?_ (by assumption) ?_; rotate_left; (intro w hSw; (try dsimp only at hSw); go_simp; (try with_reducible rfl)); try simp only [Act.put, List.setIfInBounds_toArray, List.set_cons_zero, List.set_cons_succ, List.getElem_toArray, List.getElem_cons_succ, List.getElem_cons_zero])
          | fail
        first
          | (refine skipH (i := 20) rfl (by kernel_rfl) (by kernel_rfl) (by kernel_rfl) (fun _ _ _ h => h) (by rfl) (by assumption) ?_; try simp only [Act.put, List.setIfInBounds_toArray, List.set_cons_zero, List.set_cons_succ, List.getElem_toArray, List.getElem_cons_succ, List.getElem_cons_zero])
          | (refine yieldH (i := 20) (v := ?_) rfl (by kernel_rfl) (by kernel_rfl) (by kernel_rfl) (fun _ _ _ h => h) (by rfl) ?_ (by assumption) ?_; rotate_left; (intro w hSw; (try dsimp only at hSw); go_simp; (try with_reducible rfl)); try simp only [Act.put, List.setIfInBounds_toArray, List.set_cons_zero, List.set_cons_succ, List.getElem_toArray, List.getElem_cons_succ, List.getElem_cons_zero])
          | fail
        first
          | (refine skipH (i := 21) rfl (by kernel_rfl) (by kernel_rfl) (by kernel_rfl) (fun _ _ _ h => h) (by rfl) (by assumption) ?_; try simp only [Act.put, List.setIfInBounds_toArray, List.set_cons_zero, List.set_cons_succ, List.getElem_toArray, List.getElem_cons_succ, List.getElem_cons_zero])
          | (refine yieldH (i := 21) (v := ?_) rfl (by kernel_rfl) (by kernel_rfl) (by kernel_rfl) (fun _ _ _ h => h) (by rfl) ?_ (by assumption) ?_; rotate_left; (intro w hSw; (try dsimp only at hSw); go_simp; (try with_reducible rfl)); try simp only [Act.put, List.setIfInBounds_toArray, List.set_cons_zero, List.set_cons_succ, List.getElem_toArray, List.getElem_cons_succ, List.getElem_cons_zero])
          | fail
        refine wpAnyH_done (by kernel_rfl) ?_ _
        go_wp2
        go_meet
        exact ⟨rfl, by assumption⟩
      · have ey : (YC == 0) = false := by simp [hy]
        clear hy
        refine wp_region_held_drew (S := (fun w' => Below Z.heap.size Z w')) (by kernel_rfl) ?_ (fun hHeld => ?_)
        · (try dsimp only); exact Below.drew (Below.refl _ _)
        first
          | (refine skipH (i := 0) rfl (by kernel_rfl) (by kernel_rfl) (by kernel_rfl) (fun _ _ _ h => h) (by rfl) (by assumption) ?_; try simp only [Act.put, List.setIfInBounds_toArray, List.set_cons_zero, List.set_cons_succ, List.getElem_toArray, List.getElem_cons_succ, List.getElem_cons_zero])
          | (refine yieldH (i := 0) (v := ?_) rfl (by kernel_rfl) (by kernel_rfl) (by kernel_rfl) (fun _ _ _ h => h) (by rfl) ?_ (by assumption) ?_; rotate_left; (intro w hSw; (try dsimp only at hSw); go_simp; (try with_reducible rfl)); try simp only [Act.put, List.setIfInBounds_toArray, List.set_cons_zero, List.set_cons_succ, List.getElem_toArray, List.getElem_cons_succ, List.getElem_cons_zero])
          | fail
        first
          | (refine skipH (i := 1) rfl (by kernel_rfl) (by kernel_rfl) (by kernel_rfl) (fun _ _ _ h => h) (by rfl) (by assumption) ?_; try simp only [Act.put, List.setIfInBounds_toArray, List.set_cons_zero, List.set_cons_succ, List.getElem_toArray, List.getElem_cons_succ, List.getElem_cons_zero])
          | (refine yieldH (i := 1) (v := ?_) rfl (by kernel_rfl) (by kernel_rfl) (by kernel_rfl) (fun _ _ _ h => h) (by rfl) ?_ (by assumption) ?_; rotate_left; (intro w hSw; (try dsimp only at hSw); go_simp; (try with_reducible rfl)); try simp only [Act.put, List.setIfInBounds_toArray, List.set_cons_zero, List.set_cons_succ, List.getElem_toArray, List.getElem_cons_succ, List.getElem_cons_zero])
          | fail
        first
          | (refine skipH (i := 2) rfl (by kernel_rfl) (by kernel_rfl) (by kernel_rfl) (fun _ _ _ h => h) (by rfl) (by assumption) ?_; try simp only [Act.put, List.setIfInBounds_toArray, List.set_cons_zero, List.set_cons_succ, List.getElem_toArray, List.getElem_cons_succ, List.getElem_cons_zero])
          | (refine yieldH (i := 2) (v := ?_) rfl (by kernel_rfl) (by kernel_rfl) (by kernel_rfl) (fun _ _ _ h => h) (by rfl) ?_ (by assumption) ?_; rotate_left; (intro w hSw; (try dsimp only at hSw); go_simp; (try with_reducible rfl)); try simp only [Act.put, List.setIfInBounds_toArray, List.set_cons_zero, List.set_cons_succ, List.getElem_toArray, List.getElem_cons_succ, List.getElem_cons_zero])
          | fail
        first
          | (refine skipH (i := 3) rfl (by kernel_rfl) (by kernel_rfl) (by kernel_rfl) (fun _ _ _ h => h) (by rfl) (by assumption) ?_; try simp only [Act.put, List.setIfInBounds_toArray, List.set_cons_zero, List.set_cons_succ, List.getElem_toArray, List.getElem_cons_succ, List.getElem_cons_zero])
          | (refine yieldH (i := 3) (v := ?_) rfl (by kernel_rfl) (by kernel_rfl) (by kernel_rfl) (fun _ _ _ h => h) (by rfl) ?_ (by assumption) ?_; rotate_left; (intro w hSw; (try dsimp only at hSw); go_simp; (try with_reducible rfl)); try simp only [Act.put, List.setIfInBounds_toArray, List.set_cons_zero, List.set_cons_succ, List.getElem_toArray, List.getElem_cons_succ, List.getElem_cons_zero])
          | fail
        first
          | (refine skipH (i := 6) rfl (by kernel_rfl) (by kernel_rfl) (by kernel_rfl) (fun _ _ _ h => h) (by rfl) (by assumption) ?_; try simp only [Act.put, List.setIfInBounds_toArray, List.set_cons_zero, List.set_cons_succ, List.getElem_toArray, List.getElem_cons_succ, List.getElem_cons_zero])
          | (refine yieldH (i := 6) (v := ?_) rfl (by kernel_rfl) (by kernel_rfl) (by kernel_rfl) (fun _ _ _ h => h) (by rfl) ?_ (by assumption) ?_; rotate_left; (intro w hSw; (try dsimp only at hSw); go_simp; (try with_reducible rfl)); try simp only [Act.put, List.setIfInBounds_toArray, List.set_cons_zero, List.set_cons_succ, List.getElem_toArray, List.getElem_cons_succ, List.getElem_cons_zero])
          | fail
        refine wpAnyH_ready (rs := [4]) (by kernel_rfl) (by simp) ?_
        refine AllReadyH.cons rfl (fun K hK => ?_) AllReadyH.nil
        go_simp
        go_at_call 14; refine (HPTr.out _).mono ?_; rintro e9 w9 ⟨n1, n2, rfl, own9, hb9⟩; obtain ⟨pn1, qn1, rfl⟩ := own9.c.shape; obtain ⟨pn2, qn2, rfl⟩ := own9.r.shape; have k9 : Below Z.heap.size Z w9 := keepB (Below.drew (Below.refl _ _)) (Nat.le_refl _) hb9
        dsimp only
        refine hK.out _ _ ?_ (fun hHeld => ?_)
        · (try dsimp only); exact k9
        clear hK K
        try simp only [Act.put, List.setIfInBounds_toArray, List.set_cons_zero, List.set_cons_succ, List.getElem_toArray, List.getElem_cons_succ, List.getElem_cons_zero]
        first
          | (refine skipH (i := 5) rfl (by kernel_rfl) (by kernel_rfl) (by kernel_rfl) (fun _ _ _ h => h) (by rfl) (by assumption) ?_; try simp only [Act.put, List.setIfInBounds_toArray, List.set_cons_zero, List.set_cons_succ, List.getElem_toArray, List.getElem_cons_succ, List.getElem_cons_zero])
          | (refine yieldH (i := 5) (v := ?_) rfl (by kernel_rfl) (by kernel_rfl) (by kernel_rfl) (fun _ _ _ h => h) (by rfl) ?_ (by assumption) ?_; rotate_left; (intro w hSw; (try dsimp only at hSw); go_simp; (try with_reducible rfl)); try simp only [Act.put, List.setIfInBounds_toArray, List.set_cons_zero, List.set_cons_succ, List.getElem_toArray, List.getElem_cons_succ, List.getElem_cons_zero])
          | fail
        refine wpAnyH_ready (rs := [7]) (by kernel_rfl) (by simp) ?_
        refine AllReadyH.cons rfl (fun K hK => ?_) AllReadyH.nil
        go_simp
        go_at_call 25; refine (HLB.out _ _ _ _ _ _ _ own9 (OwnT.below oB.out k9)).mono ?_; rintro e10 w10 ⟨rfl, hb10⟩; have k10 : Below Z.heap.size Z w10 := keepB k9 (Nat.le_refl _) hb10
        dsimp only
        refine hK.out _ _ ?_ (fun hHeld => ?_)
        · (try dsimp only); exact k10
        clear hK K
        try simp only [Act.put, List.setIfInBounds_toArray, List.set_cons_zero, List.set_cons_succ, List.getElem_toArray, List.getElem_cons_succ, List.getElem_cons_zero]
        first
          | (refine skipH (i := 8) rfl (by kernel_rfl) (by kernel_rfl) (by kernel_rfl) (fun _ _ _ h => h) (by rfl) (by assumption) ?_; try simp only [Act.put, List.setIfInBounds_toArray, List.set_cons_zero, List.set_cons_succ, List.getElem_toArray, List.getElem_cons_succ, List.getElem_cons_zero])
          | (refine yieldH (i := 8) (v := ?_) rfl (by kernel_rfl) (by kernel_rfl) (by kernel_rfl) (fun _ _ _ h => h) (by rfl) ?_ (by assumption) ?_; rotate_left; (intro w hSw; (try dsimp only at hSw); go_simp; (try with_reducible rfl)); try simp only [Act.put, List.setIfInBounds_toArray, List.set_cons_zero, List.set_cons_succ, List.getElem_toArray, List.getElem_cons_succ, List.getElem_cons_zero])
          | fail
        first
          | (refine skipH (i := 9) rfl (by kernel_rfl) (by kernel_rfl) (by kernel_rfl) (fun _ _ _ h => h) (by rfl) (by assumption) ?_; try simp only [Act.put, List.setIfInBounds_toArray, List.set_cons_zero, List.set_cons_succ, List.getElem_toArray, List.getElem_cons_succ, List.getElem_cons_zero])
          | (refine yieldH (i := 9) (v := ?_) rfl (by kernel_rfl) (by kernel_rfl) (by kernel_rfl) (fun _ _ _ h => h) (by rfl) ?_ (by assumption) ?_; rotate_left; (intro w hSw; (try dsimp only at hSw); go_simp; (try with_reducible rfl)); try simp only [Act.put, List.setIfInBounds_toArray, List.set_cons_zero, List.set_cons_succ, List.getElem_toArray, List.getElem_cons_succ, List.getElem_cons_zero])
          | fail
        first
          | (refine skipH (i := 10) rfl (by kernel_rfl) (by kernel_rfl) (by kernel_rfl) (fun _ _ _ h => h) (by rfl) (by assumption) ?_; try simp only [Act.put, List.setIfInBounds_toArray, List.set_cons_zero, List.set_cons_succ, List.getElem_toArray, List.getElem_cons_succ, List.getElem_cons_zero])
          | (refine yieldH (i := 10) (v := ?_) rfl (by kernel_rfl) (by kernel_rfl) (by kernel_rfl) (fun _ _ _ h => h) (by rfl) ?_ (by assumption) ?_; rotate_left; (intro w hSw; (try dsimp only at hSw); go_simp; (try with_reducible rfl)); try simp only [Act.put, List.setIfInBounds_toArray, List.set_cons_zero, List.set_cons_succ, List.getElem_toArray, List.getElem_cons_succ, List.getElem_cons_zero])
          | fail
        first
          | (refine skipH (i := 11) rfl (by kernel_rfl) (by kernel_rfl) (by kernel_rfl) (fun _ _ _ h => h) (by rfl) (by assumption) ?_; try simp only [Act.put, List.setIfInBounds_toArray, List.set_cons_zero, List.set_cons_succ, List.getElem_toArray, List.getElem_cons_succ, List.getElem_cons_zero])
          | (refine yieldH (i := 11) (v := ?_) rfl (by kernel_rfl) (by kernel_rfl) (by kernel_rfl) (fun _ _ _ h => h) (by rfl) ?_ (by assumption) ?_; rotate_left; (intro w hSw; (try dsimp only at hSw); go_simp; (try with_reducible rfl)); try simp only [Act.put, List.setIfInBounds_toArray, List.set_cons_zero, List.set_cons_succ, List.getElem_toArray, List.getElem_cons_succ, List.getElem_cons_zero])
          | fail
        first
          | (refine skipH (i := 12) rfl (by kernel_rfl) (by kernel_rfl) (by kernel_rfl) (fun _ _ _ h => h) (by rfl) (by assumption) ?_; try simp only [Act.put, List.setIfInBounds_toArray, List.set_cons_zero, List.set_cons_succ, List.getElem_toArray, List.getElem_cons_succ, List.getElem_cons_zero])
          | (refine yieldH (i := 12) (v := ?_) rfl (by kernel_rfl) (by kernel_rfl) (by kernel_rfl) (fun _ _ _ h => h) (by rfl) ?_ (by assumption) ?_; rotate_left; (intro w hSw; (try dsimp only at hSw); go_simp; (try with_reducible rfl)); try simp only [Act.put, List.setIfInBounds_toArray, List.set_cons_zero, List.set_cons_succ, List.getElem_toArray, List.getElem_cons_succ, List.getElem_cons_zero])
          | fail
        first
          | (refine skipH (i := 13) rfl (by kernel_rfl) (by kernel_rfl) (by kernel_rfl) (fun _ _ _ h => h) (by rfl) (by assumption) ?_; try simp only [Act.put, List.setIfInBounds_toArray, List.set_cons_zero, List.set_cons_succ, List.getElem_toArray, List.getElem_cons_succ, List.getElem_cons_zero])
          | (refine yieldH (i := 13) (v := ?_) rfl (by kernel_rfl) (by kernel_rfl) (by kernel_rfl) (fun _ _ _ h => h) (by rfl) ?_ (by assumption) ?_; rotate_left; (intro w hSw; (try dsimp only at hSw); go_simp; (try with_reducible rfl)); try simp only [Act.put, List.setIfInBounds_toArray, List.set_cons_zero, List.set_cons_succ, List.getElem_toArray, List.getElem_cons_succ, List.getElem_cons_zero])
          | fail
        first
          | (refine skipH (i := 14) rfl (by kernel_rfl) (by kernel_rfl) (by kernel_rfl) (fun _ _ _ h => h) (by rfl) (by assumption) ?_; try simp only [Act.put, List.setIfInBounds_toArray, List.set_cons_zero, List.set_cons_succ, List.getElem_toArray, List.getElem_cons_succ, List.getElem_cons_zero])
          | (refine yieldH (i := 14) (v := ?_) rfl (by kernel_rfl) (by kernel_rfl) (by kernel_rfl) (fun _ _ _ h => h) (by rfl) ?_ (by assumption) ?_; rotate_left; (intro w hSw; (try dsimp only at hSw); go_simp; (try with_reducible rfl)); try simp only [Act.put, List.setIfInBounds_toArray, List.set_cons_zero, List.set_cons_succ, List.getElem_toArray, List.getElem_cons_succ, List.getElem_cons_zero])
          | fail
        first
          | (refine skipH (i := 15) rfl (by kernel_rfl) (by kernel_rfl) (by kernel_rfl) (fun _ _ _ h => h) (by rfl) (by assumption) ?_; try simp only [Act.put, List.setIfInBounds_toArray, List.set_cons_zero, List.set_cons_succ, List.getElem_toArray, List.getElem_cons_succ, List.getElem_cons_zero])
          | (refine yieldH (i := 15) (v := ?_) rfl (by kernel_rfl) (by kernel_rfl) (by kernel_rfl) (fun _ _ _ h => h) (by rfl) ?_ (by assumption) ?_; rotate_left; (intro w hSw; (try dsimp only at hSw); go_simp; (try with_reducible rfl)); try simp only [Act.put, List.setIfInBounds_toArray, List.set_cons_zero, List.set_cons_succ, List.getElem_toArray, List.getElem_cons_succ, List.getElem_cons_zero])
          | fail
        first
          | (refine skipH (i := 16) rfl (by kernel_rfl) (by kernel_rfl) (by kernel_rfl) (fun _ _ _ h => h) (by rfl) (by assumption) ?_; try simp only [Act.put, List.setIfInBounds_toArray, List.set_cons_zero, List.set_cons_succ, List.getElem_toArray, List.getElem_cons_succ, List.getElem_cons_zero])
          | (refine yieldH (i := 16) (v := ?_) rfl (by kernel_rfl) (by kernel_rfl) (by kernel_rfl) (fun _ _ _ h => h) (by rfl) ?_ (by assumption) ?_; rotate_left; (intro w hSw; (try dsimp only at hSw); go_simp; (try with_reducible rfl)); try simp only [Act.put, List.setIfInBounds_toArray, List.set_cons_zero, List.set_cons_succ, List.getElem_toArray, List.getElem_cons_succ, List.getElem_cons_zero])
          | fail
        first
          | (refine skipH (i := 18) rfl (by kernel_rfl) (by kernel_rfl) (by kernel_rfl) (fun _ _ _ h => h) (by rfl) (by assumption) ?_; try simp only [Act.put, List.setIfInBounds_toArray, List.set_cons_zero, List.set_cons_succ, List.getElem_toArray, List.getElem_cons_succ, List.getElem_cons_zero])
          | (refine yieldH (i := 18) (v := ?_) rfl (by kernel_rfl) (by kernel_rfl) (by kernel_rfl) (fun _ _ _ h => h) (by rfl) ?_ (by assumption) ?_; rotate_left; (intro w hSw; (try dsimp only at hSw); go_simp; (try with_reducible rfl)); try simp only [Act.put, List.setIfInBounds_toArray, List.set_cons_zero, List.set_cons_succ, List.getElem_toArray, List.getElem_cons_succ, List.getElem_cons_zero])
          | fail
        first
          | (refine skipH (i := 17) rfl (by kernel_rfl) (by kernel_rfl) (by kernel_rfl) (fun _ _ _ h => h) (by rfl) (by assumption) ?_; try simp only [Act.put, List.setIfInBounds_toArray, List.set_cons_zero, List.set_cons_succ, List.getElem_toArray, List.getElem_cons_succ, List.getElem_cons_zero])
          | (refine yieldH (i := 17) (v := ?_) rfl (by kernel_rfl) (by kernel_rfl) (by kernel_rfl) (fun _ _ _ h => h) (by rfl) ?_ (by assumption) ?_; rotate_left; (intro w hSw; (try dsimp only at hSw); go_simp; (try with_reducible rfl)); try simp only [Act.put, List.setIfInBounds_toArray, List.set_cons_zero, List.set_cons_succ, List.getElem_toArray, List.getElem_cons_succ, List.getElem_cons_zero])
          | fail
        first
          | (refine skipH (i := 19) rfl (by kernel_rfl) (by kernel_rfl) (by kernel_rfl) (fun _ _ _ h => h) (by rfl) (by assumption) ?_; try simp only [Act.put, List.setIfInBounds_toArray, List.set_cons_zero, List.set_cons_succ, List.getElem_toArray, List.getElem_cons_succ, List.getElem_cons_zero])
          | (refine yieldH (i := 19) (v := ?_) rfl (by kernel_rfl) (by kernel_rfl) (by kernel_rfl) (fun _ _ _ h => h) (by rfl) ?_ (by assumption) ?_; rotate_left; (intro w hSw; (try dsimp only at hSw); go_simp; (try with_reducible rfl)); try simp only [Act.put, List.setIfInBounds_toArray, List.set_cons_zero, List.set_cons_succ, List.getElem_toArray, List.getElem_cons_succ, List.getElem_cons_zero])
          | fail
        first
          | (refine skipH (i := 20) rfl (by kernel_rfl) (by kernel_rfl) (by kernel_rfl) (fun _ _ _ h => h) (by rfl) (by assumption) ?_; try simp only [Act.put, List.setIfInBounds_toArray, List.set_cons_zero, List.set_cons_succ, List.getElem_toArray, List.getElem_cons_succ, List.getElem_cons_zero])
          | (refine yieldH (i := 20) (v := ?_) rfl (by kernel_rfl) (by kernel_rfl) (by kernel_rfl) (fun _ _ _ h => h) (by rfl) ?_ (by assumption) ?_; rotate_left; (intro w hSw; (try dsimp only at hSw); go_simp; (try with_reducible rfl)); try simp only [Act.put, List.setIfInBounds_toArray, List.set_cons_zero, List.set_cons_succ, List.getElem_toArray, List.getElem_cons_succ, List.getElem_cons_zero])
          | fail
        first
          | (refine skipH (i := 21) rfl (by kernel_rfl) (by kernel_rfl) (by kernel_rfl) (fun _ _ _ h => h) (by rfl) (by assumption) ?_; try simp only [Act.put, List.setIfInBounds_toArray, List.set_cons_zero, List.set_cons_succ, List.getElem_toArray, List.getElem_cons_succ, List.getElem_cons_zero])
          | (refine yieldH (i := 21) (v := ?_) rfl (by kernel_rfl) (by kernel_rfl) (by kernel_rfl) (fun _ _ _ h => h) (by rfl) ?_ (by assumption) ?_; rotate_left; (intro w hSw; (try dsimp only at hSw); go_simp; (try with_reducible rfl)); try simp only [Act.put, List.setIfInBounds_toArray, List.set_cons_zero, List.set_cons_succ, List.getElem_toArray, List.getElem_cons_succ, List.getElem_cons_zero])
          | fail
        refine wpAnyH_done (by kernel_rfl) ?_ _
        go_wp2
        go_meet
        exact ⟨rfl, by assumption⟩
    | false =>
      have qT := HTY.out rfl
      by_cases hy : YC = 0
      · have ey : (YC == 0) = true := by simp [hy]
        have HYBr : Hid _ := HYB.out hy
        clear hy
        refine wp_region_held_drew (S := (fun w' => Below Z.heap.size Z w')) (by kernel_rfl) ?_ (fun hHeld => ?_)
        · (try dsimp only); exact Below.drew (Below.refl _ _)
        first
          | (refine skipH (i := 0) rfl (by kernel_rfl) (by kernel_rfl) (by kernel_rfl) (fun _ _ _ h => h) (by rfl) (by assumption) ?_; try simp only [Act.put, List.setIfInBounds_toArray, List.set_cons_zero, List.set_cons_succ, List.getElem_toArray, List.getElem_cons_succ, List.getElem_cons_zero])
          | (refine yieldH (i := 0) (v := ?_) rfl (by kernel_rfl) (by kernel_rfl) (by kernel_rfl) (fun _ _ _ h => h) (by rfl) ?_ (by assumption) ?_; rotate_left; (intro w hSw; (try dsimp only at hSw); go_simp; (try with_reducible rfl)); try simp only [Act.put, List.setIfInBounds_toArray, List.set_cons_zero, List.set_cons_succ, List.getElem_toArray, List.getElem_cons_succ, List.getElem_cons_zero])
          | fail
        first
          | (refine skipH (i := 1) rfl (by kernel_rfl) (by kernel_rfl) (by kernel_rfl) (fun _ _ _ h => h) (by rfl) (by assumption) ?_; try simp only [Act.put, List.setIfInBounds_toArray, List.set_cons_zero, List.set_cons_succ, List.getElem_toArray, List.getElem_cons_succ, List.getElem_cons_zero])
          | (refine yieldH (i := 1) (v := ?_) rfl (by kernel_rfl) (by kernel_rfl) (by kernel_rfl) (fun _ _ _ h => h) (by rfl) ?_ (by assumption) ?_; rotate_left; (intro w hSw; (try dsimp only at hSw); go_simp; (try with_reducible rfl)); try simp only [Act.put, List.setIfInBounds_toArray, List.set_cons_zero, List.set_cons_succ, List.getElem_toArray, List.getElem_cons_succ, List.getElem_cons_zero])
          | fail
        first
          | (refine skipH (i := 2) rfl (by kernel_rfl) (by kernel_rfl) (by kernel_rfl) (fun _ _ _ h => h) (by rfl) (by assumption) ?_; try simp only [Act.put, List.setIfInBounds_toArray, List.set_cons_zero, List.set_cons_succ, List.getElem_toArray, List.getElem_cons_succ, List.getElem_cons_zero])
          | (refine yieldH (i := 2) (v := ?_) rfl (by kernel_rfl) (by kernel_rfl) (by kernel_rfl) (fun _ _ _ h => h) (by rfl) ?_ (by assumption) ?_; rotate_left; (intro w hSw; (try dsimp only at hSw); go_simp; (try with_reducible rfl)); try simp only [Act.put, List.setIfInBounds_toArray, List.set_cons_zero, List.set_cons_succ, List.getElem_toArray, List.getElem_cons_succ, List.getElem_cons_zero])
          | fail
        first
          | (refine skipH (i := 3) rfl (by kernel_rfl) (by kernel_rfl) (by kernel_rfl) (fun _ _ _ h => h) (by rfl) (by assumption) ?_; try simp only [Act.put, List.setIfInBounds_toArray, List.set_cons_zero, List.set_cons_succ, List.getElem_toArray, List.getElem_cons_succ, List.getElem_cons_zero])
          | (refine yieldH (i := 3) (v := ?_) rfl (by kernel_rfl) (by kernel_rfl) (by kernel_rfl) (fun _ _ _ h => h) (by rfl) ?_ (by assumption) ?_; rotate_left; (intro w hSw; (try dsimp only at hSw); go_simp; (try with_reducible rfl)); try simp only [Act.put, List.setIfInBounds_toArray, List.set_cons_zero, List.set_cons_succ, List.getElem_toArray, List.getElem_cons_succ, List.getElem_cons_zero])
          | fail
        first
          | (refine skipH (i := 6) rfl (by kernel_rfl) (by kernel_rfl) (by kernel_rfl) (fun _ _ _ h => h) (by rfl) (by assumption) ?_; try simp only [Act.put, List.setIfInBounds_toArray, List.set_cons_zero, List.set_cons_succ, List.getElem_toArray, List.getElem_cons_succ, List.getElem_cons_zero])
          | (refine yieldH (i := 6) (v := ?_) rfl (by kernel_rfl) (by kernel_rfl) (by kernel_rfl) (fun _ _ _ h => h) (by rfl) ?_ (by assumption) ?_; rotate_left; (intro w hSw; (try dsimp only at hSw); go_simp; (try with_reducible rfl)); try simp only [Act.put, List.setIfInBounds_toArray, List.set_cons_zero, List.set_cons_succ, List.getElem_toArray, List.getElem_cons_succ, List.getElem_cons_zero])
          | fail
        first
          | (refine skipH (i := 4) rfl (by kernel_rfl) (by kernel_rfl) (by kernel_rfl) (fun _ _ _ h => h) (by rfl) (by assumption) ?_; try simp only [Act.put, List.setIfInBounds_toArray, List.set_cons_zero, List.set_cons_succ, List.getElem_toArray, List.getElem_cons_succ, List.getElem_cons_zero])
          | (refine yieldH (i := 4) (v := ?_) rfl (by kernel_rfl) (by kernel_rfl) (by kernel_rfl) (fun _ _ _ h => h) (by rfl) ?_ (by assumption) ?_; rotate_left; (intro w hSw; (try dsimp only at hSw); go_simp; (try with_reducible rfl)); try simp only [Act.put, List.setIfInBounds_toArray, List.set_cons_zero, List.set_cons_succ, List.getElem_toArray, List.getElem_cons_succ, List.getElem_cons_zero])
          | fail
        first
          | (refine skipH (i := 5) rfl (by kernel_rfl) (by kernel_rfl) (by kernel_rfl) (fun _ _ _ h => h) (by rfl) (by assumption) ?_; try simp only [Act.put, List.setIfInBounds_toArray, List.set_cons_zero, List.set_cons_succ, List.getElem_toArray, List.getElem_cons_succ, List.getElem_cons_zero])
          | (refine yieldH (i := 5) (v := ?_) rfl (by kernel_rfl) (by kernel_rfl) (by kernel_rfl) (fun _ _ _ h => h) (by rfl) ?_ (by assumption) ?_; rotate_left; (intro w hSw; (try dsimp only at hSw); go_simp; (try with_reducible rfl)); try simp only [Act.put, List.setIfInBounds_toArray, List.set_cons_zero, List.set_cons_succ, List.getElem_toArray, List.getElem_cons_succ, List.getElem_cons_zero])
          | fail
        first
          | (refine skipH (i := 7) rfl (by kernel_rfl) (by kernel_rfl) (by kernel_rfl) (fun _ _ _ h => h) (by rfl) (by assumption) ?_; try simp only [Act.put, List.setIfInBounds_toArray, List.set_cons_zero, List.set_cons_succ, List.getElem_toArray, List.getElem_cons_succ, List.getElem_cons_zero])
          | (refine yieldH (i := 7) (v := ?_) rfl (by kernel_rfl) (by kernel_rfl) (by kernel_rfl) (fun _ _ _ h => h) (by rfl) ?_ (by assumption) ?_; rotate_left; (intro w hSw; (try dsimp only at hSw); go_simp; (try with_reducible rfl)); try simp only [Act.put, List.setIfInBounds_toArray, List.set_cons_zero, List.set_cons_succ, List.getElem_toArray, List.getElem_cons_succ, List.getElem_cons_zero])
          | fail
        first
          | (refine skipH (i := 8) rfl (by kernel_rfl) (by kernel_rfl) (by kernel_rfl) (fun _ _ _ h => h) (by rfl) (by assumption) ?_; try simp only [Act.put, List.setIfInBounds_toArray, List.set_cons_zero, List.set_cons_succ, List.getElem_toArray, List.getElem_cons_succ, List.getElem_cons_zero])
          | (refine yieldH (i := 8) (v := ?_) rfl (by kernel_rfl) (by kernel_rfl) (by kernel_rfl) (fun _ _ _ h => h) (by rfl) ?_ (by assumption) ?_; rotate_left; (intro w hSw; (try dsimp only at hSw); go_simp; (try with_reducible rfl)); try simp only [Act.put, List.setIfInBounds_toArray, List.set_cons_zero, List.set_cons_succ, List.getElem_toArray, List.getElem_cons_succ, List.getElem_cons_zero])
          | fail
        first
          | (refine skipH (i := 9) rfl (by kernel_rfl) (by kernel_rfl) (by kernel_rfl) (fun _ _ _ h => h) (by rfl) (by assumption) ?_; try simp only [Act.put, List.setIfInBounds_toArray, List.set_cons_zero, List.set_cons_succ, List.getElem_toArray, List.getElem_cons_succ, List.getElem_cons_zero])
          | (refine yieldH (i := 9) (v := ?_) rfl (by kernel_rfl) (by kernel_rfl) (by kernel_rfl) (fun _ _ _ h => h) (by rfl) ?_ (by assumption) ?_; rotate_left; (intro w hSw; (try dsimp only at hSw); go_simp; (try with_reducible rfl)); try simp only [Act.put, List.setIfInBounds_toArray, List.set_cons_zero, List.set_cons_succ, List.getElem_toArray, List.getElem_cons_succ, List.getElem_cons_zero])
          | fail
        first
          | (refine skipH (i := 10) rfl (by kernel_rfl) (by kernel_rfl) (by kernel_rfl) (fun _ _ _ h => h) (by rfl) (by assumption) ?_; try simp only [Act.put, List.setIfInBounds_toArray, List.set_cons_zero, List.set_cons_succ, List.getElem_toArray, List.getElem_cons_succ, List.getElem_cons_zero])
          | (refine yieldH (i := 10) (v := ?_) rfl (by kernel_rfl) (by kernel_rfl) (by kernel_rfl) (fun _ _ _ h => h) (by rfl) ?_ (by assumption) ?_; rotate_left; (intro w hSw; (try dsimp only at hSw); go_simp; (try with_reducible rfl)); try simp only [Act.put, List.setIfInBounds_toArray, List.set_cons_zero, List.set_cons_succ, List.getElem_toArray, List.getElem_cons_succ, List.getElem_cons_zero])
          | fail
        first
          | (refine skipH (i := 11) rfl (by kernel_rfl) (by kernel_rfl) (by kernel_rfl) (fun _ _ _ h => h) (by rfl) (by assumption) ?_; try simp only [Act.put, List.setIfInBounds_toArray, List.set_cons_zero, List.set_cons_succ, List.getElem_toArray, List.getElem_cons_succ, List.getElem_cons_zero])
          | (refine yieldH (i := 11) (v := ?_) rfl (by kernel_rfl) (by kernel_rfl) (by kernel_rfl) (fun _ _ _ h => h) (by rfl) ?_ (by assumption) ?_; rotate_left; (intro w hSw; (try dsimp only at hSw); go_simp; (try with_reducible rfl)); try simp only [Act.put, List.setIfInBounds_toArray, List.set_cons_zero, List.set_cons_succ, List.getElem_toArray, List.getElem_cons_succ, List.getElem_cons_zero])
          | fail
        first
          | (refine skipH (i := 12) rfl (by kernel_rfl) (by kernel_rfl) (by kernel_rfl) (fun _ _ _ h => h) (by rfl) (by assumption) ?_; try simp only [Act.put, List.setIfInBounds_toArray, List.set_cons_zero, List.set_cons_succ, List.getElem_toArray, List.getElem_cons_succ, List.getElem_cons_zero])
          | (refine yieldH (i := 12) (v := ?_) rfl (by kernel_rfl) (by kernel_rfl) (by kernel_rfl) (fun _ _ _ h => h) (by rfl) ?_ (by assumption) ?_; rotate_left; (intro w hSw; (try dsimp only at hSw); go_simp; (try with_reducible rfl)); try simp only [Act.put, List.setIfInBounds_toArray, List.set_cons_zero, List.set_cons_succ, List.getElem_toArray, List.getElem_cons_succ, List.getElem_cons_zero])
          | fail
        first
          | (refine skipH (i := 13) rfl (by kernel_rfl) (by kernel_rfl) (by kernel_rfl) (fun _ _ _ h => h) (by rfl) (by assumption) ?_; try simp only [Act.put, List.setIfInBounds_toArray, List.set_cons_zero, List.set_cons_succ, List.getElem_toArray, List.getElem_cons_succ, List.getElem_cons_zero])
          | (refine yieldH (i := 13) (v := ?_) rfl (by kernel_rfl) (by kernel_rfl) (by kernel_rfl) (fun _ _ _ h => h) (by rfl) ?_ (by assumption) ?_; rotate_left; (intro w hSw; (try dsimp only at hSw); go_simp; (try with_reducible rfl)); try simp only [Act.put, List.setIfInBounds_toArray, List.set_cons_zero, List.set_cons_succ, List.getElem_toArray, List.getElem_cons_succ, List.getElem_cons_zero])
          | fail
        first
          | (refine skipH (i := 14) rfl (by kernel_rfl) (by kernel_rfl) (by kernel_rfl) (fun _ _ _ h => h) (by rfl) (by assumption) ?_; try simp only [Act.put, List.setIfInBounds_toArray, List.set_cons_zero, List.set_cons_succ, List.getElem_toArray, List.getElem_cons_succ, List.getElem_cons_zero])
          | (refine yieldH (i := 14) (v := ?_) rfl (by kernel_rfl) (by kernel_rfl) (by kernel_rfl) (fun _ _ _ h => h) (by rfl) ?_ (by assumption) ?_; rotate_left; (intro w hSw; (try dsimp only at hSw); go_simp; (try with_reducible rfl)); try simp only [Act.put, List.setIfInBounds_toArray, List.set_cons_zero, List.set_cons_succ, List.getElem_toArray, List.getElem_cons_succ, List.getElem_cons_zero])
          | fail
        first
          | (refine skipH (i := 15) rfl (by kernel_rfl) (by kernel_rfl) (by kernel_rfl) (fun _ _ _ h => h) (by rfl) (by assumption) ?_; try simp only [Act.put, List.setIfInBounds_toArray, List.set_cons_zero, List.set_cons_succ, List.getElem_toArray, List.getElem_cons_succ, List.getElem_cons_zero])
          | (refine yieldH (i := 15) (v := ?_) rfl (by kernel_rfl) (by kernel_rfl) (by kernel_rfl) (fun _ _ _ h => h) (by rfl) ?_ (by assumption) ?_; rotate_left; (intro w hSw; (try dsimp only at hSw); go_simp; (try with_reducible rfl)); try simp only [Act.put, List.setIfInBounds_toArray, List.set_cons_zero, List.set_cons_succ, List.getElem_toArray, List.getElem_cons_succ, List.getElem_cons_zero])
          | fail
        first
          | (refine skipH (i := 16) rfl (by kernel_rfl) (by kernel_rfl) (by kernel_rfl) (fun _ _ _ h => h) (by rfl) (by assumption) ?_; try simp only [Act.put, List.setIfInBounds_toArray, List.set_cons_zero, List.set_cons_succ, List.getElem_toArray, List.getElem_cons_succ, List.getElem_cons_zero])
          | (refine yieldH (i := 16) (v := ?_) rfl (by kernel_rfl) (by kernel_rfl) (by kernel_rfl) (fun _ _ _ h => h) (by rfl) ?_ (by assumption) ?_; rotate_left; (intro w hSw; (try dsimp only at hSw); go_simp; (try with_reducible rfl)); try simp only [Act.put, List.setIfInBounds_toArray, List.set_cons_zero, List.set_cons_succ, List.getElem_toArray, List.getElem_cons_succ, List.getElem_cons_zero])
          | fail
        first
          | (refine skipH (i := 18) rfl (by kernel_rfl) (by kernel_rfl) (by kernel_rfl) (fun _ _ _ h => h) (by rfl) (by assumption) ?_; try simp only [Act.put, List.setIfInBounds_toArray, List.set_cons_zero, List.set_cons_succ, List.getElem_toArray, List.getElem_cons_succ, List.getElem_cons_zero])
          | (refine yieldH (i := 18) (v := ?_) rfl (by kernel_rfl) (by kernel_rfl) (by kernel_rfl) (fun _ _ _ h => h) (by rfl) ?_ (by assumption) ?_; rotate_left; (intro w hSw; (try dsimp only at hSw); go_simp; (try with_reducible rfl)); try simp only [Act.put, List.setIfInBounds_toArray, List.set_cons_zero, List.set_cons_succ, List.getElem_toArray, List.getElem_cons_succ, List.getElem_cons_zero])
          | fail
        refine wpAnyH_ready (rs := [17]) (by kernel_rfl) (by simp) ?_
        refine AllReadyH.cons rfl (fun K hK => ?_) AllReadyH.nil
        go_simp
        go_at_call 12; refine (HYBr.out _ _ _ _ (OwnT.below oY.out (Below.drew (Below.refl _ _)))).mono ?_; rintro e11 w11 ⟨rfl, hb11⟩; have k11 : Below Z.heap.size Z w11 := keepB (Below.drew (Below.refl _ _)) (Nat.le_refl _) hb11
        dsimp only
        refine hK.out _ _ ?_ (fun hHeld => ?_)
        · (try dsimp only); exact k11
        clear hK K
        try simp only [Act.put, List.setIfInBounds_toArray, List.set_cons_zero, List.set_cons_succ, List.getElem_toArray, List.getElem_cons_succ, List.getElem_cons_zero]
        first
          | (refine skipH (i := 19) rfl (by kernel_rfl) (by kernel_rfl) (by kernel_rfl) (fun _ _ _ h => h) (by rfl) (by assumption) ?_; try simp only [Act.put, List.setIfInBounds_toArray, List.set_cons_zero, List.set_cons_succ, List.getElem_toArray, List.getElem_cons_succ, List.getElem_cons_zero])
          | (refine yieldH (i := 19) (v := ?_) rfl (by kernel_rfl) (by kernel_rfl) (by kernel_rfl) (fun _ _ _ h => h) (by rfl) ?_ (by assumption) ?_; rotate_left; (intro w hSw; (try dsimp only at hSw); go_simp; (try with_reducible rfl)); try simp only [Act.put, List.setIfInBounds_toArray, List.set_cons_zero, List.set_cons_succ, List.getElem_toArray, List.getElem_cons_succ, List.getElem_cons_zero])
          | fail
        first
          | (refine skipH (i := 20) rfl (by kernel_rfl) (by kernel_rfl) (by kernel_rfl) (fun _ _ _ h => h) (by rfl) (by assumption) ?_; try simp only [Act.put, List.setIfInBounds_toArray, List.set_cons_zero, List.set_cons_succ, List.getElem_toArray, List.getElem_cons_succ, List.getElem_cons_zero])
          | (refine yieldH (i := 20) (v := ?_) rfl (by kernel_rfl) (by kernel_rfl) (by kernel_rfl) (fun _ _ _ h => h) (by rfl) ?_ (by assumption) ?_; rotate_left; (intro w hSw; (try dsimp only at hSw); go_simp; (try with_reducible rfl)); try simp only [Act.put, List.setIfInBounds_toArray, List.set_cons_zero, List.set_cons_succ, List.getElem_toArray, List.getElem_cons_succ, List.getElem_cons_zero])
          | fail
        first
          | (refine skipH (i := 21) rfl (by kernel_rfl) (by kernel_rfl) (by kernel_rfl) (fun _ _ _ h => h) (by rfl) (by assumption) ?_; try simp only [Act.put, List.setIfInBounds_toArray, List.set_cons_zero, List.set_cons_succ, List.getElem_toArray, List.getElem_cons_succ, List.getElem_cons_zero])
          | (refine yieldH (i := 21) (v := ?_) rfl (by kernel_rfl) (by kernel_rfl) (by kernel_rfl) (fun _ _ _ h => h) (by rfl) ?_ (by assumption) ?_; rotate_left; (intro w hSw; (try dsimp only at hSw); go_simp; (try with_reducible rfl)); try simp only [Act.put, List.setIfInBounds_toArray, List.set_cons_zero, List.set_cons_succ, List.getElem_toArray, List.getElem_cons_succ, List.getElem_cons_zero])
          | fail
        refine wpAnyH_done (by kernel_rfl) ?_ _
        go_wp2
        go_meet
        exact ⟨rfl, by assumption⟩
      · have ey : (YC == 0) = false := by simp [hy]
        clear hy
        refine wp_region_held_drew (S := (fun w' => Below Z.heap.size Z w')) (by kernel_rfl) ?_ (fun hHeld => ?_)
        · (try dsimp only); exact Below.drew (Below.refl _ _)
        first
          | (refine skipH (i := 0) rfl (by kernel_rfl) (by kernel_rfl) (by kernel_rfl) (fun _ _ _ h => h) (by rfl) (by assumption) ?_; try simp only [Act.put, List.setIfInBounds_toArray, List.set_cons_zero, List.set_cons_succ, List.getElem_toArray, List.getElem_cons_succ, List.getElem_cons_zero])
          | (refine yieldH (i := 0) (v := ?_) rfl (by kernel_rfl) (by kernel_rfl) (by kernel_rfl) (fun _ _ _ h => h) (by rfl) ?_ (by assumption) ?_; rotate_left; (intro w hSw; (try dsimp only at hSw); go_simp; (try with_reducible rfl)); try simp only [Act.put, List.setIfInBounds_toArray, List.set_cons_zero, List.set_cons_succ, List.getElem_toArray, List.getElem_cons_succ, List.getElem_cons_zero])
          | fail
        first
          | (refine skipH (i := 1) rfl (by kernel_rfl) (by kernel_rfl) (by kernel_rfl) (fun _ _ _ h => h) (by rfl) (by assumption) ?_; try simp only [Act.put, List.setIfInBounds_toArray, List.set_cons_zero, List.set_cons_succ, List.getElem_toArray, List.getElem_cons_succ, List.getElem_cons_zero])
          | (refine yieldH (i := 1) (v := ?_) rfl (by kernel_rfl) (by kernel_rfl) (by kernel_rfl) (fun _ _ _ h => h) (by rfl) ?_ (by assumption) ?_; rotate_left; (intro w hSw; (try dsimp only at hSw); go_simp; (try with_reducible rfl)); try simp only [Act.put, List.setIfInBounds_toArray, List.set_cons_zero, List.set_cons_succ, List.getElem_toArray, List.getElem_cons_succ, List.getElem_cons_zero])
          | fail
        first
          | (refine skipH (i := 2) rfl (by kernel_rfl) (by kernel_rfl) (by kernel_rfl) (fun _ _ _ h => h) (by rfl) (by assumption) ?_; try simp only [Act.put, List.setIfInBounds_toArray, List.set_cons_zero, List.set_cons_succ, List.getElem_toArray, List.getElem_cons_succ, List.getElem_cons_zero])
          | (refine yieldH (i := 2) (v := ?_) rfl (by kernel_rfl) (by kernel_rfl) (by kernel_rfl) (fun _ _ _ h => h) (by rfl) ?_ (by assumption) ?_; rotate_left; (intro w hSw; (try dsimp only at hSw); go_simp; (try with_reducible rfl)); try simp only [Act.put, List.setIfInBounds_toArray, List.set_cons_zero, List.set_cons_succ, List.getElem_toArray, List.getElem_cons_succ, List.getElem_cons_zero])
          | fail
        first
          | (refine skipH (i := 3) rfl (by kernel_rfl) (by kernel_rfl) (by kernel_rfl) (fun _ _ _ h => h) (by rfl) (by assumption) ?_; try simp only [Act.put, List.setIfInBounds_toArray, List.set_cons_zero, List.set_cons_succ, List.getElem_toArray, List.getElem_cons_succ, List.getElem_cons_zero])
          | (refine yieldH (i := 3) (v := ?_) rfl (by kernel_rfl) (by kernel_rfl) (by kernel_rfl) (fun _ _ _ h => h) (by rfl) ?_ (by assumption) ?_; rotate_left; (intro w hSw; (try dsimp only at hSw); go_simp; (try with_reducible rfl)); try simp only [Act.put, List.setIfInBounds_toArray, List.set_cons_zero, List.set_cons_succ, List.getElem_toArray, List.getElem_cons_succ, List.getElem_cons_zero])
          | fail
        first
          | (refine skipH (i := 6) rfl (by kernel_rfl) (by kernel_rfl) (by kernel_rfl) (fun _ _ _ h => h) (by rfl) (by assumption) ?_; try simp only [Act.put, List.setIfInBounds_toArray, List.set_cons_zero, List.set_cons_succ, List.getElem_toArray, List.getElem_cons_succ, List.getElem_cons_zero])
          | (refine yieldH (i := 6) (v := ?_) rfl (by kernel_rfl) (by kernel_rfl) (by kernel_rfl) (fun _ _ _ h => h) (by rfl) ?_ (by assumption) ?_; rotate_left; (intro w hSw; (try dsimp only at hSw); go_simp; (try with_reducible rfl)); try simp only [Act.put, List.setIfInBounds_toArray, List.set_cons_zero, List.set_cons_succ, List.getElem_toArray, List.getElem_cons_succ, List.getElem_cons_zero])
          | fail
        first
          | (refine skipH (i := 4) rfl (by kernel_rfl) (by kernel_rfl) (by kernel_rfl) (fun _ _ _ h => h) (by rfl) (by assumption) ?_; try simp only [Act.put, List.setIfInBounds_toArray, List.set_cons_zero, List.set_cons_succ, List.getElem_toArray, List.getElem_cons_succ, List.getElem_cons_zero])
          | (refine yieldH (i := 4) (v := ?_) rfl (by kernel_rfl) (by kernel_rfl) (by kernel_rfl) (fun _ _ _ h => h) (by rfl) ?_ (by assumption) ?_; rotate_left; (intro w hSw; (try dsimp only at hSw); go_simp; (try with_reducible rfl)); try simp only [Act.put, List.setIfInBounds_toArray, List.set_cons_zero, List.set_cons_succ, List.getElem_toArray, List.getElem_cons_succ, List.getElem_cons_zero])
          | fail
        first
          | (refine skipH (i := 5) rfl (by kernel_rfl) (by kernel_rfl) (by kernel_rfl) (fun _ _ _ h => h) (by rfl) (by assumption) ?_; try simp only [Act.put, List.setIfInBounds_toArray, List.set_cons_zero, List.set_cons_succ, List.getElem_toArray, List.getElem_cons_succ, List.getElem_cons_zero])
          | (refine yieldH (i := 5) (v := ?_) rfl (by kernel_rfl) (by kernel_rfl) (by kernel_rfl) (fun _ _ _ h => h) (by rfl) ?_ (by assumption) ?_; rotate_left; (intro w hSw; (try dsimp only at hSw); go_simp; (try with_reducible rfl)); try simp only [Act.put, List.setIfInBounds_toArray, List.set_cons_zero, List.set_cons_succ, List.getElem_toArray, List.getElem_cons_succ, List.getElem_cons_zero])
          | fail
        first
          | (refine skipH (i := 7) rfl (by kernel_rfl) (by kernel_rfl) (by kernel_rfl) (fun _ _ _ h => h) (by rfl) (by assumption) ?_; try simp only [Act.put, List.setIfInBounds_toArray, List.set_cons_zero, List.set_cons_succ, List.getElem_toArray, List.getElem_cons_succ, List.getElem_cons_zero])
          | (refine yieldH (i := 7) (v := ?_) rfl (by kernel_rfl) (by kernel_rfl) (by kernel_rfl) (fun _ _ _ h => h) (by rfl) ?_ (by assumption) ?_; rotate_left; (intro w hSw; (try dsimp only at hSw); go_simp; (try with_reducible rfl)); try simp only [Act.put, List.setIfInBounds_toArray, List.set_cons_zero, List.set_cons_succ, List.getElem_toArray, List.getElem_cons_succ, List.getElem_cons_zero])
          | fail
        first
          | (refine skipH (i := 8) rfl (by kernel_rfl) (by kernel_rfl) (by kernel_rfl) (fun _ _ _ h => h) (by rfl) (by assumption) ?_; try simp only [Act.put, List.setIfInBounds_toArray, List.set_cons_zero, List.set_cons_succ, List.getElem_toArray, List.getElem_cons_succ, List.getElem_cons_zero])
          | (refine yieldH (i := 8) (v := ?_) rfl (by kernel_rfl) (by kernel_rfl) (by kernel_rfl) (fun _ _ _ h => h) (by rfl) ?_ (by assumption) ?_; rotate_left; (intro w hSw; (try dsimp only at hSw); go_simp; (try with_reducible rfl)); try simp only [Act.put, List.setIfInBounds_toArray, List.set_cons_zero, List.set_cons_succ, List.getElem_toArray, List.getElem_cons_succ, List.getElem_cons_zero])
          | fail
        first
          | (refine skipH (i := 9) rfl (by kernel_rfl) (by kernel_rfl) (by kernel_rfl) (fun _ _ _ h => h) (by rfl) (by assumption) ?_; try simp only [Act.put, List.setIfInBounds_toArray, List.set_cons_zero, List.set_cons_succ, List.getElem_toArray, List.getElem_cons_succ, List.getElem_cons_zero])
          | (refine yieldH (i := 9) (v := ?_) rfl (by kernel_rfl) (by kernel_rfl) (by kernel_rfl) (fun _ _ _ h => h) (by rfl) ?_ (by assumption) ?_; rotate_left; (intro w hSw; (try dsimp only at hSw); go_simp; (try with_reducible rfl)); try simp only [Act.put, List.setIfInBounds_toArray, List.set_cons_zero, List.set_cons_succ, List.getElem_toArray, List.getElem_cons_succ, List.getElem_cons_zero])
          | fail
        first
          | (refine skipH (i := 10) rfl (by kernel_rfl) (by kernel_rfl) (by kernel_rfl) (fun _ _ _ h => h) (by rfl) (by assumption) ?_; try simp only [Act.put, List.setIfInBounds_toArray, List.set_cons_zero, List.set_cons_succ, List.getElem_toArray, List.getElem_cons_succ, List.getElem_cons_zero])
          | (refine yieldH (i := 10) (v := ?_) rfl (by kernel_rfl) (by kernel_rfl) (by kernel_rfl) (fun _ _ _ h => h) (by rfl) ?_ (by assumption) ?_; rotate_left; (intro w hSw; (try dsimp only at hSw); go_simp; (try with_reducible rfl)); try simp only [Act.put, List.setIfInBounds_toArray, List.set_cons_zero, List.set_cons_succ, List.getElem_toArray, List.getElem_cons_succ, List.getElem_cons_zero])
          | fail
        first
          | (refine skipH (i := 11) rfl (by kernel_rfl) (by kernel_rfl) (by kernel_rfl) (fun _ _ _ h => h) (by rfl) (by assumption) ?_; try simp only [Act.put, List.setIfInBounds_toArray, List.set_cons_zero, List.set_cons_succ, List.getElem_toArray, List.getElem_cons_succ, List.getElem_cons_zero])
          | (refine yieldH (i := 11) (v := ?_) rfl (by kernel_rfl) (by kernel_rfl) (by kernel_rfl) (fun _ _ _ h => h) (by rfl) ?_ (by assumption) ?_; rotate_left; (intro w hSw; (try dsimp only at hSw); go_simp; (try with_reducible rfl)); try simp only [Act.put, List.setIfInBounds_toArray, List.set_cons_zero, List.set_cons_succ, List.getElem_toArray, List.getElem_cons_succ, List.getElem_cons_zero])
          | fail
        first
          | (refine skipH (i := 12) rfl (by kernel_rfl) (by kernel_rfl) (by kernel_rfl) (fun _ _ _ h => h) (by rfl) (by assumption) ?_; try simp only [Act.put, List.setIfInBounds_toArray, List.set_cons_zero, List.set_cons_succ, List.getElem_toArray, List.getElem_cons_succ, List.getElem_cons_zero])
          | (refine yieldH (i := 12) (v := ?_) rfl (by kernel_rfl) (by kernel_rfl) (by kernel_rfl) (fun _ _ _ h => h) (by rfl) ?_ (by assumption) ?_; rotate_left; (intro w hSw; (try dsimp only at hSw); go_simp; (try with_reducible rfl)); try simp only [Act.put, List.setIfInBounds_toArray, List.set_cons_zero, List.set_cons_succ, List.getElem_toArray, List.getElem_cons_succ, List.getElem_cons_zero])
          | fail
        first
          | (refine skipH (i := 13) rfl (by kernel_rfl) (by kernel_rfl) (by kernel_rfl) (fun _ _ _ h => h) (by rfl) (by assumption) ?_; try simp only [Act.put, List.setIfInBounds_toArray, List.set_cons_zero, List.set_cons_succ, List.getElem_toArray, List.getElem_cons_succ, List.getElem_cons_zero])
          | (refine yieldH (i := 13) (v := ?_) rfl (by kernel_rfl) (by kernel_rfl) (by kernel_rfl) (fun _ _ _ h => h) (by rfl) ?_ (by assumption) ?_; rotate_left; (intro w hSw; (try dsimp only at hSw); go_simp; (try with_reducible rfl)); try simp only [Act.put, List.setIfInBounds_toArray, List.set_cons_zero, List.set_cons_succ, List.getElem_toArray, List.getElem_cons_succ, List.getElem_cons_zero])
          | fail
        first
          | (refine skipH (i := 14) rfl (by kernel_rfl) (by kernel_rfl) (by kernel_rfl) (fun _ _ _ h => h) (by rfl) (by assumption) ?_; try simp only [Act.put, List.setIfInBounds_toArray, List.set_cons_zero, List.set_cons_succ, List.getElem_toArray, List.getElem_cons_succ, List.getElem_cons_zero])
          | (refine yieldH (i := 14) (v := ?_) rfl (by kernel_rfl) (by kernel_rfl) (by kernel_rfl) (fun _ _ _ h => h) (by rfl) ?_ (by assumption) ?_; rotate_left; (intro w hSw; (try dsimp only at hSw); go_simp; (try with_reducible rfl)); try simp only [Act.put, List.setIfInBounds_toArray, List.set_cons_zero, List.set_cons_succ, List.getElem_toArray, List.getElem_cons_succ, List.getElem_cons_zero])
          | fail
        first
          | (refine skipH (i := 15) rfl (by kernel_rfl) (by kernel_rfl) (by kernel_rfl) (fun _ _ _ h => h) (by rfl) (by assumption) ?_; try simp only [Act.put, List.setIfInBounds_toArray, List.set_cons_zero, List.set_cons_succ, List.getElem_toArray, List.getElem_cons_succ, List.getElem_cons_zero])
          | (refine yieldH (i := 15) (v := ?_) rfl (by kernel_rfl) (by kernel_rfl) (by kernel_rfl) (fun _ _ _ h => h) (by rfl) ?_ (by assumption) ?_; rotate_left; (intro w hSw; (try dsimp only at hSw); go_simp; (try with_reducible rfl)); try simp only [Act.put, List.setIfInBounds_toArray, List.set_cons_zero, List.set_cons_succ, List.getElem_toArray, List.getElem_cons_succ, List.getElem_cons_zero])
          | fail
        first
          | (refine skipH (i := 16) rfl (by kernel_rfl) (by kernel_rfl) (by kernel_rfl) (fun _ _ _ h => h) (by rfl) (by assumption) ?_; try simp only [Act.put, List.setIfInBounds_toArray, List.set_cons_zero, List.set_cons_succ, List.getElem_toArray, List.getElem_cons_succ, List.getElem_cons_zero])
          | (refine yieldH (i := 16) (v := ?_) rfl (by kernel_rfl) (by kernel_rfl) (by kernel_rfl) (fun _ _ _ h => h) (by rfl) ?_ (by assumption) ?_; rotate_left; (intro w hSw; (try dsimp only at hSw); go_simp; (try with_reducible rfl)); try simp only [Act.put, List.setIfInBounds_toArray, List.set_cons_zero, List.set_cons_succ, List.getElem_toArray, List.getElem_cons_succ, List.getElem_cons_zero])
          | fail
        first
          | (refine skipH (i := 18) rfl (by kernel_rfl) (by kernel_rfl) (by kernel_rfl) (fun _ _ _ h => h) (by rfl) (by assumption) ?_; try simp only [Act.put, List.setIfInBounds_toArray, List.set_cons_zero, List.set_cons_succ, List.getElem_toArray, List.getElem_cons_succ, List.getElem_cons_zero])
          | (refine yieldH (i := 18) (v := ?_) rfl (by kernel_rfl) (by kernel_rfl) (by kernel_rfl) (fun _ _ _ h => h) (by rfl) ?_ (by assumption) ?_; rotate_left; (intro w hSw; (try dsimp only at hSw); go_simp; (try with_reducible rfl)); try simp only [Act.put, List.setIfInBounds_toArray, List.set_cons_zero, List.set_cons_succ, List.getElem_toArray, List.getElem_cons_succ, List.getElem_cons_zero])
          | fail
        first
          | (refine skipH (i := 17) rfl (by kernel_rfl) (by kernel_rfl) (by kernel_rfl) (fun _ _ _ h => h) (by rfl) (by assumption) ?_; try simp only [Act.put, List.setIfInBounds_toArray, List.set_cons_zero, List.set_cons_succ, List.getElem_toArray, List.getElem_cons_succ, List.getElem_cons_zero])
          | (refine yieldH (i := 17) (v := ?_) rfl (by kernel_rfl) (by kernel_rfl) (by kernel_rfl) (fun _ _ _ h => h) (by rfl) ?_ (by assumption) ?_; rotate_left; (intro w hSw; (try dsimp only at hSw); go_simp; (try with_reducible rfl)); try simp only [Act.put, List.setIfInBounds_toArray, List.set_cons_zero, List.set_cons_succ, List.getElem_toArray, List.getElem_cons_succ, List.getElem_cons_zero])
          | fail
        first
          | (refine skipH (i := 19) rfl (by kernel_rfl) (by kernel_rfl) (by kernel_rfl) (fun _ _ _ h => h) (by rfl) (by assumption) ?_; try simp only [Act.put, List.setIfInBounds_toArray, List.set_cons_zero, List.set_cons_succ, List.getElem_toArray, List.getElem_cons_succ, List.getElem_cons_zero])
          | (refine yieldH (i := 19) (v := ?_) rfl (by kernel_rfl) (by kernel_rfl) (by kernel_rfl) (fun _ _ _ h => h) (by rfl) ?_ (by assumption) ?_; rotate_left; (intro w hSw; (try dsimp only at hSw); go_simp; (try with_reducible rfl)); try simp only [Act.put, List.setIfInBounds_toArray, List.set_cons_zero, List.set_cons_succ, List.getElem_toArray, List.getElem_cons_succ, List.getElem_cons_zero])
          | fail
        first
          | (refine skipH (i := 20) rfl (by kernel_rfl) (by kernel_rfl) (by kernel_rfl) (fun _ _ _ h => h) (by rfl) (by assumption) ?_; try simp only [Act.put, List.setIfInBounds_toArray, List.set_cons_zero, List.set_cons_succ, List.getElem_toArray, List.getElem_cons_succ, List.getElem_cons_zero])
          | (refine yieldH (i := 20) (v := ?_) rfl (by kernel_rfl) (by kernel_rfl) (by kernel_rfl) (fun _ _ _ h => h) (by rfl) ?_ (by assumption) ?_; rotate_left; (intro w hSw; (try dsimp only at hSw); go_simp; (try with_reducible rfl)); try simp only [Act.put, List.setIfInBounds_toArray, List.set_cons_zero, List.set_cons_succ, List.getElem_toArray, List.getElem_cons_succ, List.getElem_cons_zero])
          | fail
        first
          | (refine skipH (i := 21) rfl (by kernel_rfl) (by kernel_rfl) (by kernel_rfl) (fun _ _ _ h => h) (by rfl) (by assumption) ?_; try simp only [Act.put, List.setIfInBounds_toArray, List.set_cons_zero, List.set_cons_succ, List.getElem_toArray, List.getElem_cons_succ, List.getElem_cons_zero])
          | (refine yieldH (i := 21) (v := ?_) rfl (by kernel_rfl) (by kernel_rfl) (by kernel_rfl) (fun _ _ _ h => h) (by rfl) ?_ (by assumption) ?_; rotate_left; (intro w hSw; (try dsimp only at hSw); go_simp; (try with_reducible rfl)); try simp only [Act.put, List.setIfInBounds_toArray, List.set_cons_zero, List.set_cons_succ, List.getElem_toArray, List.getElem_cons_succ, List.getElem_cons_zero])
          | fail
        refine wpAnyH_done (by kernel_rfl) ?_ _
        go_wp2
        go_meet
        exact ⟨rfl, by assumption⟩
  case rest =>
  obtain ⟨rfl, hwc⟩ := hcut
  rename World => Y
  clear cbB0 cbB1 cbY0 cbY1 cbY2 cbY3 HPT HTN HTY HLB HYB HTI eu bB bY oB oY
  replace bX : Hid _ := blk bX.out hwc
  replace oH : Hid (OwnI _ _ _ _) := oH.out.below hwc
  replace oX : Hid (OwnT _ _ _ _ _) := oX.out.below hwc
  replace sw : Below w.heap.size w Y := keepB sw (Nat.le_refl _) hwc
  clear hwc
  by_cases hn : NC = 0
  case neg =>
    have en : (NC != 0) = true := by simpa using hn
    have cx3 := cellW bX.out 3 _ rfl Y (Below.refl _ _)
    clear hn
    go_wp2
    go_ret
    exact ⟨rfl, sw⟩
  subst hn
  obtain ⟨hNp, rfl⟩ := HNok.out rfl
  obtain ⟨⟨hza, _⟩, hz5⟩ := (Tb.path_iff _).1 hNp
  have hz5' : zs.length ≤ 5 := by simpa using hz5
  have HH : Hid (hopsB zs = true) := (by unfold hopsB; rw [hza, decide_eq_true hz5']; rfl : hopsB zs = true)
  clear HNok hNp hza hz5
  replace bX : Hid _ := bX.out
  simp only [List.length_nil] at bX oX hNl
  have HST : Hid (∀ (t t' : Tb) (v a c : Int), stepP t v = ⟨t', a, c⟩ → t.cs.length ≤ 5 → t.rs.length ≤ 5 → ∀ (W : World) (B : Nat) (v1 v2 : Value), OwnT W B v1 v2 t → Calls Try.prog 17 #[.agg #[v1, v2], .int .i64 v] W fun e w' => ∃ q1 q2 d1 d2, e = .returned (.agg #[.slice q1 t'.cs.length d1, .slice q2 t'.rs.length d2, .int .i64 a, .int .i64 c]) ∧ OwnT w' W.heap.size (.slice q1 t'.cs.length d1) (.slice q2 t'.rs.length d2) t' ∧ Below W.heap.size W w') := fun t t' v a c hs h1 h2 W B v1 v2 h => by
    refine (pathStep_any t v B v1 v2 W (by omega) (by omega) h).mono ?_
    rw [hs]
    rintro e w' ⟨u1, u2, rfl, ho, hb⟩
    obtain ⟨q1, d1, rfl⟩ := ho.c.shape
    obtain ⟨q2, d2, rfl⟩ := ho.r.shape
    exact ⟨q1, q2, d1, d2, rfl, ho, hb⟩
  have ex : ((0 : Int) != 0) = false := by simp
  have cx0 := cellW bX.out 0 _ rfl Y (Below.refl _ _)
  have cx1 := cellW bX.out 1 _ rfl Y (Below.refl _ _)
  have cx3 := cellW bX.out 3 _ rfl Y (Below.refl _ _)
  go_upto_region 18 with fail
  have hbA := all_alloc Y (.cells #[.slice px1 zs.length qx1, .slice px2 0 qx2] 26)
  have hBX : Hid _ := heap_alloc_new Y (.cells #[.slice px1 zs.length qx1, .slice px2 0 qx2] 26)
  have oXA := oX.out.below hbA
  obtain ⟨A, hAe⟩ : ∃ A, Y.alloc (.cells #[.slice px1 zs.length qx1, .slice px2 0 qx2] 26) = A := ⟨_, rfl⟩
  rw [hAe] at hbA hBX oXA ⊢
  obtain ⟨G, hG⟩ : ∃ G, Y.heap.size = G := ⟨_, rfl⟩
  have HGY : Hid (G = Y.heap.size) := hG.symm
  rw [hG] at hBX ⊢
  have hGA : G < A.heap.size := (Array.getElem?_eq_some_iff.1 hBX.out).1
  clear hAe hG cx0 cx1 cx3 ex
  go_wp2
  have hbA2 := all_alloc A (.cells #[] 2)
  have HI0 : Hid (OwnI _ _ _ []) := own_madeI A (G + 1) (by omega)
  have hB0 : Hid _ := blk hBX.out hbA2
  have hP0 : Hid (OwnT _ _ _ _ _) := oXA.below hbA2
  have hK0 : Below G Y (A.alloc (.cells #[] 2)) := by rw [HGY.out]; exact keepB hbA (Nat.le_refl _) hbA2
  clear oXA hBX hbA hbA2 bX oX
  obtain ⟨i0, hi, hz0, hz1, hz2⟩ := info_parts info64
  go_loopw [15, 16] (fun a i wr => ∃ (k : Nat) (vs : List Int) (p1 p2 : Option Addr) (c1 c2 B : Nat), i = .int .i64 k ∧ k ≤ zs.length ∧ vs.length = k ∧ Hid (vs.all addrB = true) ∧ Hid (wr.heap[G]? = some (.cells #[.slice p1 (zs.length - k) c1, .slice p2 k c2] 26 (0, 0))) ∧ Hid (OwnT wr B (.slice p1 (zs.length - k) c1) (.slice p2 k c2) ⟨zs.drop k, vs.reverse⟩) ∧ Hid (OwnI wr (G + 1) a vs) ∧ Below G Y wr) (fun _ i _ => zs.length - (intOf i).toNat)
  case atStart => exact ⟨0, [], px1, px2, qx1, qx2, _, rfl, Nat.zero_le _, rfl, rfl, hB0.out, hP0.out, HI0.out, hK0⟩
  case round =>
    clear hB0 hP0 HI0 hK0 hGA
    obtain ⟨k, vs, p1, p2, c1, c2, B, rfl, hk, hvl, HV, HB, HP, HO, hbel⟩ := hrel
    obtain ⟨pa, ca, rfl⟩ := HO.out.shape
    rw [hvl] at HO ⊢
    have hGw : G < wr.heap.size := (Array.getElem?_eq_some_iff.1 HB.out).1
    have swr : Below w.heap.size w wr := keepB sw (Nat.le_refl _) (by rw [← HGY.out]; exact hbel)
    by_cases hlt : k < zs.length
    · have HC0 : Hid (∀ v : Int, addrB v = true → Calls Try.prog 17 #[.agg #[.slice p1 (zs.length - k) c1, .slice p2 k c2], .int .i64 v] wr fun e w' => ∃ q1 q2 d1 d2, e = .returned (.agg #[.slice q1 (zs.length - (k + 1)) d1, .slice q2 (k + 1) d2, .int .i64 zs[k], .int .i64 0]) ∧ OwnT w' wr.heap.size (.slice q1 (zs.length - (k + 1)) d1) (.slice q2 (k + 1) d2) ⟨zs.drop (k + 1), (vs ++ [v]).reverse⟩ ∧ Below wr.heap.size wr w') := fun v hv => by
        have h0 := step_go HH.out HV.out hv k hlt hvl
        have h1 := HST.out _ _ _ _ _ h0 (by rw [List.length_drop]; omega) (by rw [List.length_reverse]; omega) wr B _ _ HP.out
        have e1 : (zs.drop (k + 1)).length = zs.length - (k + 1) := List.length_drop
        have e2 : (vs ++ [v]).reverse.length = k + 1 := by simp [hvl]
        simp only [e1, e2] at h1
        exact h1
      obtain ⟨gh, rfl, hg1, hg2, hcv⟩ := OwnI.cell (oH.out.below (by rw [← HGY.out]; exact hbel)) k hlt
      generalize zs[k] = H at HC0 hcv
      have hHH : (H != H) = false := by simp
      have ex : ((0 : Int) != 0) = false := by simp
      have z0 := cellW HB.out 0 _ rfl wr (Below.refl _ _)
      have z1 := cellW HB.out 1 _ rfl wr (Below.refl _ _)
      go_upto_region 24 with (first
        | (go_at_call 26; refine (lwAt_any w.heap.size a1 len1 cap1 k 8 _ (r1.blw swr) (by omega) (by omega)).mono ?_; rintro e w2 ⟨r, rfl, hr, rfl⟩; have hr8 : r < 8 := (by omega); have hw8 := wrap1 r (by omega); have hva : Hid (addrB (1 + (r : Int)) = true) := (by unfold addrB; simp; omega : addrB (1 + (r : Int)) = true))
        | (go_at_call 17; refine (HC0.out (1 + (r : Int)) hva.out).mono ?_; rintro e w3 ⟨q1, q2, d1, d2, rfl, own3, hb3⟩))
      clear HC0 HP z0 z1
      have hz3 := hb3.size
      have hb4 := all_alloc w3 (.cells #[.slice q1 (zs.length - (k + 1)) d1, .slice q2 (k + 1) d2, .int .i64 H, .int .i64 0] 28)
      have hV : Hid _ := heap_alloc_new w3 (.cells #[.slice q1 (zs.length - (k + 1)) d1, .slice q2 (k + 1) d2, .int .i64 H, .int .i64 0] 28)
      have hbV : Below wr.heap.size wr (w3.alloc (.cells #[.slice q1 (zs.length - (k + 1)) d1, .slice q2 (k + 1) d2, .int .i64 H, .int .i64 0] 28)) := keepB hb3 (Nat.le_refl _) hb4
      have ownV : Hid (OwnT _ _ _ _ _) := own3.below hb4
      clear own3 hb4
      obtain ⟨V, hVe⟩ : ∃ V, w3.alloc (.cells #[.slice q1 (zs.length - (k + 1)) d1, .slice q2 (k + 1) d2, .int .i64 H, .int .i64 0] 28) = V := ⟨_, rfl⟩
      rw [hVe] at hV hbV ownV ⊢
      obtain ⟨J, hJ⟩ : ∃ J, w3.heap.size = J := ⟨_, rfl⟩
      rw [hJ] at hV hz3 ⊢
      clear hVe hJ hb3
      have hJV : J < V.heap.size := (Array.getElem?_eq_some_iff.1 hV.out).1
      have HOV : Hid (OwnI _ _ _ _) := HO.out.below hbV
      have hltO := OwnI.lt HO.out
      have HBV : Hid _ := blk HB.out hbV
      have cv2 := cellW hV.out 2 _ rfl
      have cv3 := cellW hV.out 3 _ rfl
      have ch : ∀ W, Below V.heap.size V W → W.cell? ⟨gh, k, none⟩ = some (.int .i64 H) := fun W hW => ((keepB hbV (Nat.le_refl _) hW).cell (p := ⟨gh, k, none⟩) hg2).trans hcv.1
      clear hcv HB HO
      refine wp_region_held_drew (S := (fun w' => Below V.heap.size V w')) (by kernel_rfl) ?_ (fun hHeld => ?_)
      · (try dsimp only); exact Below.drew (Below.refl _ _)
      first
        | (refine skipH (i := 0) rfl (by kernel_rfl) (by kernel_rfl) (by kernel_rfl) (fun _ _ _ h => h) (by rfl) (by assumption) ?_; try simp only [Act.put, List.setIfInBounds_toArray, List.set_cons_zero, List.set_cons_succ, List.getElem_toArray, List.getElem_cons_succ, List.getElem_cons_zero])
        | (refine yieldH (i := 0) (v := ?_) rfl (by kernel_rfl) (by kernel_rfl) (by kernel_rfl) (fun _ _ _ h => h) (by rfl) ?_ (by assumption) ?_; rotate_left; (intro w hSw; (try dsimp only at hSw); go_simp; (try with_reducible rfl)); try simp only [Act.put, List.setIfInBounds_toArray, List.set_cons_zero, List.set_cons_succ, List.getElem_toArray, List.getElem_cons_succ, List.getElem_cons_zero])
        | fail
      first
        | (refine skipH (i := 1) rfl (by kernel_rfl) (by kernel_rfl) (by kernel_rfl) (fun _ _ _ h => h) (by rfl) (by assumption) ?_; try simp only [Act.put, List.setIfInBounds_toArray, List.set_cons_zero, List.set_cons_succ, List.getElem_toArray, List.getElem_cons_succ, List.getElem_cons_zero])
        | (refine yieldH (i := 1) (v := ?_) rfl (by kernel_rfl) (by kernel_rfl) (by kernel_rfl) (fun _ _ _ h => h) (by rfl) ?_ (by assumption) ?_; rotate_left; (intro w hSw; (try dsimp only at hSw); go_simp; (try with_reducible rfl)); try simp only [Act.put, List.setIfInBounds_toArray, List.set_cons_zero, List.set_cons_succ, List.getElem_toArray, List.getElem_cons_succ, List.getElem_cons_zero])
        | fail
      first
        | (refine skipH (i := 2) rfl (by kernel_rfl) (by kernel_rfl) (by kernel_rfl) (fun _ _ _ h => h) (by rfl) (by assumption) ?_; try simp only [Act.put, List.setIfInBounds_toArray, List.set_cons_zero, List.set_cons_succ, List.getElem_toArray, List.getElem_cons_succ, List.getElem_cons_zero])
        | (refine yieldH (i := 2) (v := ?_) rfl (by kernel_rfl) (by kernel_rfl) (by kernel_rfl) (fun _ _ _ h => h) (by rfl) ?_ (by assumption) ?_; rotate_left; (intro w hSw; (try dsimp only at hSw); go_simp; (try with_reducible rfl)); try simp only [Act.put, List.setIfInBounds_toArray, List.set_cons_zero, List.set_cons_succ, List.getElem_toArray, List.getElem_cons_succ, List.getElem_cons_zero])
        | fail
      first
        | (refine skipH (i := 3) rfl (by kernel_rfl) (by kernel_rfl) (by kernel_rfl) (fun _ _ _ h => h) (by rfl) (by assumption) ?_; try simp only [Act.put, List.setIfInBounds_toArray, List.set_cons_zero, List.set_cons_succ, List.getElem_toArray, List.getElem_cons_succ, List.getElem_cons_zero])
        | (refine yieldH (i := 3) (v := ?_) rfl (by kernel_rfl) (by kernel_rfl) (by kernel_rfl) (fun _ _ _ h => h) (by rfl) ?_ (by assumption) ?_; rotate_left; (intro w hSw; (try dsimp only at hSw); go_simp; (try with_reducible rfl)); try simp only [Act.put, List.setIfInBounds_toArray, List.set_cons_zero, List.set_cons_succ, List.getElem_toArray, List.getElem_cons_succ, List.getElem_cons_zero])
        | fail
      first
        | (refine skipH (i := 4) rfl (by kernel_rfl) (by kernel_rfl) (by kernel_rfl) (fun _ _ _ h => h) (by rfl) (by assumption) ?_; try simp only [Act.put, List.setIfInBounds_toArray, List.set_cons_zero, List.set_cons_succ, List.getElem_toArray, List.getElem_cons_succ, List.getElem_cons_zero])
        | (refine yieldH (i := 4) (v := ?_) rfl (by kernel_rfl) (by kernel_rfl) (by kernel_rfl) (fun _ _ _ h => h) (by rfl) ?_ (by assumption) ?_; rotate_left; (intro w hSw; (try dsimp only at hSw); go_simp; (try with_reducible rfl)); try simp only [Act.put, List.setIfInBounds_toArray, List.set_cons_zero, List.set_cons_succ, List.getElem_toArray, List.getElem_cons_succ, List.getElem_cons_zero])
        | fail
      first
        | (refine skipH (i := 5) rfl (by kernel_rfl) (by kernel_rfl) (by kernel_rfl) (fun _ _ _ h => h) (by rfl) (by assumption) ?_; try simp only [Act.put, List.setIfInBounds_toArray, List.set_cons_zero, List.set_cons_succ, List.getElem_toArray, List.getElem_cons_succ, List.getElem_cons_zero])
        | (refine yieldH (i := 5) (v := ?_) rfl (by kernel_rfl) (by kernel_rfl) (by kernel_rfl) (fun _ _ _ h => h) (by rfl) ?_ (by assumption) ?_; rotate_left; (intro w hSw; (try dsimp only at hSw); go_simp; (try with_reducible rfl)); try simp only [Act.put, List.setIfInBounds_toArray, List.set_cons_zero, List.set_cons_succ, List.getElem_toArray, List.getElem_cons_succ, List.getElem_cons_zero])
        | fail
      first
        | (refine skipH (i := 6) rfl (by kernel_rfl) (by kernel_rfl) (by kernel_rfl) (fun _ _ _ h => h) (by rfl) (by assumption) ?_; try simp only [Act.put, List.setIfInBounds_toArray, List.set_cons_zero, List.set_cons_succ, List.getElem_toArray, List.getElem_cons_succ, List.getElem_cons_zero])
        | (refine yieldH (i := 6) (v := ?_) rfl (by kernel_rfl) (by kernel_rfl) (by kernel_rfl) (fun _ _ _ h => h) (by rfl) ?_ (by assumption) ?_; rotate_left; (intro w hSw; (try dsimp only at hSw); go_simp; (try with_reducible rfl)); try simp only [Act.put, List.setIfInBounds_toArray, List.set_cons_zero, List.set_cons_succ, List.getElem_toArray, List.getElem_cons_succ, List.getElem_cons_zero])
        | fail
      first
        | (refine skipH (i := 7) rfl (by kernel_rfl) (by kernel_rfl) (by kernel_rfl) (fun _ _ _ h => h) (by rfl) (by assumption) ?_; try simp only [Act.put, List.setIfInBounds_toArray, List.set_cons_zero, List.set_cons_succ, List.getElem_toArray, List.getElem_cons_succ, List.getElem_cons_zero])
        | (refine yieldH (i := 7) (v := ?_) rfl (by kernel_rfl) (by kernel_rfl) (by kernel_rfl) (fun _ _ _ h => h) (by rfl) ?_ (by assumption) ?_; rotate_left; (intro w hSw; (try dsimp only at hSw); go_simp; (try with_reducible rfl)); try simp only [Act.put, List.setIfInBounds_toArray, List.set_cons_zero, List.set_cons_succ, List.getElem_toArray, List.getElem_cons_succ, List.getElem_cons_zero])
        | fail
      first
        | (refine skipH (i := 8) rfl (by kernel_rfl) (by kernel_rfl) (by kernel_rfl) (fun _ _ _ h => h) (by rfl) (by assumption) ?_; try simp only [Act.put, List.setIfInBounds_toArray, List.set_cons_zero, List.set_cons_succ, List.getElem_toArray, List.getElem_cons_succ, List.getElem_cons_zero])
        | (refine yieldH (i := 8) (v := ?_) rfl (by kernel_rfl) (by kernel_rfl) (by kernel_rfl) (fun _ _ _ h => h) (by rfl) ?_ (by assumption) ?_; rotate_left; (intro w hSw; (try dsimp only at hSw); go_simp; (try with_reducible rfl)); try simp only [Act.put, List.setIfInBounds_toArray, List.set_cons_zero, List.set_cons_succ, List.getElem_toArray, List.getElem_cons_succ, List.getElem_cons_zero])
        | fail
      first
        | (refine skipH (i := 9) rfl (by kernel_rfl) (by kernel_rfl) (by kernel_rfl) (fun _ _ _ h => h) (by rfl) (by assumption) ?_; try simp only [Act.put, List.setIfInBounds_toArray, List.set_cons_zero, List.set_cons_succ, List.getElem_toArray, List.getElem_cons_succ, List.getElem_cons_zero])
        | (refine yieldH (i := 9) (v := ?_) rfl (by kernel_rfl) (by kernel_rfl) (by kernel_rfl) (fun _ _ _ h => h) (by rfl) ?_ (by assumption) ?_; rotate_left; (intro w hSw; (try dsimp only at hSw); go_simp; (try with_reducible rfl)); try simp only [Act.put, List.setIfInBounds_toArray, List.set_cons_zero, List.set_cons_succ, List.getElem_toArray, List.getElem_cons_succ, List.getElem_cons_zero])
        | fail
      first
        | (refine skipH (i := 10) rfl (by kernel_rfl) (by kernel_rfl) (by kernel_rfl) (fun _ _ _ h => h) (by rfl) (by assumption) ?_; try simp only [Act.put, List.setIfInBounds_toArray, List.set_cons_zero, List.set_cons_succ, List.getElem_toArray, List.getElem_cons_succ, List.getElem_cons_zero])
        | (refine yieldH (i := 10) (v := ?_) rfl (by kernel_rfl) (by kernel_rfl) (by kernel_rfl) (fun _ _ _ h => h) (by rfl) ?_ (by assumption) ?_; rotate_left; (intro w hSw; (try dsimp only at hSw); go_simp; (try with_reducible rfl)); try simp only [Act.put, List.setIfInBounds_toArray, List.set_cons_zero, List.set_cons_succ, List.getElem_toArray, List.getElem_cons_succ, List.getElem_cons_zero])
        | fail
      first
        | (refine skipH (i := 11) rfl (by kernel_rfl) (by kernel_rfl) (by kernel_rfl) (fun _ _ _ h => h) (by rfl) (by assumption) ?_; try simp only [Act.put, List.setIfInBounds_toArray, List.set_cons_zero, List.set_cons_succ, List.getElem_toArray, List.getElem_cons_succ, List.getElem_cons_zero])
        | (refine yieldH (i := 11) (v := ?_) rfl (by kernel_rfl) (by kernel_rfl) (by kernel_rfl) (fun _ _ _ h => h) (by rfl) ?_ (by assumption) ?_; rotate_left; (intro w hSw; (try dsimp only at hSw); go_simp; (try with_reducible rfl)); try simp only [Act.put, List.setIfInBounds_toArray, List.set_cons_zero, List.set_cons_succ, List.getElem_toArray, List.getElem_cons_succ, List.getElem_cons_zero])
        | fail
      refine wpAnyH_done (by kernel_rfl) ?_ _
      clear cv2 cv3 ch
      replace hV : Hid _ := blk hV.out (Below.drew (Below.refl V.heap.size V))
      replace HBV : Hid _ := blk HBV.out (Below.drew (Below.refl V.heap.size V))
      replace HOV : Hid (OwnI _ _ _ _) := HOV.out.below (Below.drew (Below.refl V.heap.size V))
      replace ownV : Hid (OwnT _ _ _ _ _) := ownV.out.below (Below.drew (Below.refl V.heap.size V))
      have hbD : Below wr.heap.size wr V.drew := keepB hbV (Nat.le_refl _) (Below.drew (Below.refl V.heap.size V))
      have hJD : J < V.drew.heap.size := hJV
      clear hbV hJV hHeld
      generalize V.drew = D at hV HBV HOV ownV hbD hJD ⊢
      have hO1 : OwnI (D.alloc (.cells #[.int .i64 (1 + (r : Int))] 2)) (G + 1) (.slice pa k ca) vs := HOV.out.below (all_alloc _ _)
      have hD1 : Hid (OwnT (D.alloc (.cells #[.int .i64 (1 + (r : Int))] 2)) _ _ _ _) := ownV.out.below (all_alloc _ _)
      have hB1 : Hid _ := blk HBV.out (all_alloc D (.cells #[.int .i64 (1 + (r : Int))] 2))
      have hV1 : Hid _ := blk hV.out (all_alloc D (.cells #[.int .i64 (1 + (r : Int))] 2))
      go_wp2_with (at_builtin; refine wpList_append_own _ rfl (.tmp 144) (.tmp 146) 23 rfl (G + 1) 2 i0 (.int .i64 0) 1 8 Try.underlying23 hi hz0 hz1 hz2 rfl (by decide) _ _ _ rfl hO1 ⟨D.heap.size, 0, none⟩ 1 1 [_] rfl rfl (cells_newG _ _ _ _ rfl) (by intro x hx; simp at hx; subst hx; rfl) (by unfold maxLen; omega) (by omega) (by simp; omega) ?_; intro v' w4 hown' hgrow _; have hB4 : Hid _ := (hgrow.block G (by simp; omega) (fun e => by have := (hltO G e.symm).1; omega)).trans hB1.out; have hV4 : Hid _ := (hgrow.block J (by simp; omega) (fun e => by have := (hltO J e.symm).2; omega)).trans hV1.out; have y0 := cellW hV4.out 0 _ rfl w4 (Below.refl _ _); have y1 := cellW hV4.out 1 _ rfl w4 (Below.refl _ _); have z0 := cellW hB4.out 0 _ rfl w4 (Below.refl _ _); have z1 := cellW hB4.out 1 _ rfl w4 (Below.refl _ _); have g0 := frozenW hB4.out 0 w4 (Below.refl _ _); have g1 := frozenW hB4.out 1 w4 (Below.refl _ _))
      go_roundw
      case rel =>
        have hO4 : OwnI w4 (G + 1) v' (vs ++ [1 + (r : Int)]) := OwnI.of hown' (by rw [List.length_append, hvl]; rfl) (by rw [List.map_append]; rfl)
        have hne : ∀ a b, (Value.slice pa k ca).ownBlock = some a → wr.heap.size ≤ b → a ≠ b := fun a b ha hb e => by have := (hltO a ha).2; omega
        have hT4 : OwnT w4 wr.heap.size (.slice q1 (zs.length - (k + 1)) d1) (.slice q2 (k + 1) d2) ⟨zs.drop (k + 1), (vs ++ [1 + (r : Int)]).reverse⟩ := ⟨OwnI.grownT hD1.out.c hgrow (fun a b ha hb => hne a b ha (OwnI.lt hD1.out.c b hb).1), OwnI.grownT hD1.out.r hgrow (fun a b ha hb => hne a b ha (OwnI.lt hD1.out.r b hb).1), hD1.out.ne⟩
        have hG4 : Below G Y w4 := (keepB (keepB hbel (by rw [HGY.out]; exact Nat.le_refl _) hbD) (by rw [HGY.out]; exact Nat.le_refl _) (all_alloc D (.cells #[.int .i64 (1 + (r : Int))] 2))).grown hgrow (by simp; omega) (fun k e => by have := (hltO k e).1; omega)
        refine ⟨k + 1, vs ++ [1 + (r : Int)], q1, q2, d1, d2, wr.heap.size, by go_num, by omega, by rw [List.length_append, hvl]; rfl, (by rw [List.all_append, HV.out, Bool.true_and]; simpa using hva.out : (vs ++ [1 + (r : Int)]).all addrB = true), ?_, ?_, ?_, ?_⟩
        · exact blk_set (blk_set hB4.out 0 _) 1 _
        · exact OwnT.farT (OwnT.farT hT4 (by simp only; omega) _) (by simp only; omega) _
        · exact OwnI.farT (OwnI.farT hO4 (by simp only; omega) _) (by simp only; omega) _
        · exact Below.setCell (Below.setCell hG4 (by simp only; exact Nat.le_refl _) _) (by simp only; exact Nat.le_refl _) _
      case measure => simp [intOf]; omega
    · obtain rfl : k = zs.length := by omega
      rw [Nat.sub_self] at HB HP
      have hv5 : vs.length ≤ 5 := by omega
      have HC0 : Hid (∀ W : World, W = wr → Calls Try.prog 19 #[.agg #[.slice p1 0 c1, .slice p2 zs.length c2]] W fun e w' => ∃ q1 q2 d1 d2, e = .returned (.agg #[.slice q1 zs.length d1, .slice q2 0 d2, .int .i64 0, .int .i64 0]) ∧ OwnT w' wr.heap.size (.slice q1 zs.length d1) (.slice q2 0 d2) ⟨vs.reverse, []⟩ ∧ Below wr.heap.size wr w') := fun W hW => by
        subst hW
        have h0 := home_go HV.out hv5
        have hP := HP.out
        have e1 : vs.reverse.length = zs.length := by rw [List.length_reverse, hvl]
        rw [List.drop_length] at hP
        have h1 := pathHome_any ⟨[], vs.reverse⟩ _ _ _ W (by simp) (by rw [List.length_reverse]; omega) hP
        refine h1.mono ?_
        rw [h0]
        rintro e w' ⟨u1, u2, rfl, ho, hb⟩
        obtain ⟨q1, d1, rfl⟩ := ho.c.shape
        obtain ⟨q2, d2, rfl⟩ := ho.r.shape
        simp only [e1, List.length_nil] at ho ⊢
        exact ⟨q1, q2, d1, d2, rfl, ho, hb⟩
      have z0 := cellW HB.out 0 _ rfl wr (Below.refl _ _)
      have z1 := cellW HB.out 1 _ rfl wr (Below.refl _ _)
      have hltO := OwnI.lt HO.out
      go_upto_region 29 with (go_at_call 19; refine (HC0.out _ rfl).mono ?_; rintro e w3 ⟨q1, q2, d1, d2, rfl, own3, hb3⟩; have hB3 : Hid _ := blk HB.out hb3; have y0 := cellW hB3.out 0 _ rfl w3 (Below.refl _ _); have y1 := cellW hB3.out 1 _ rfl w3 (Below.refl _ _); have g0 := frozenW hB3.out 0 w3 (Below.refl _ _); have g1 := frozenW hB3.out 1 w3 (Below.refl _ _))
      have HB2 : Hid (((w3.setCell ⟨G, 0, none⟩ (.slice q1 zs.length d1)).setCell ⟨G, 1, none⟩ (.slice q2 0 d2)).heap[G]? = some (.cells #[.slice q1 zs.length d1, .slice q2 0 d2] 26 (0, 0))) := blk_set (blk_set hB3.out 0 _) 1 _
      have HT2 : Hid (OwnT ((w3.setCell ⟨G, 0, none⟩ (.slice q1 zs.length d1)).setCell ⟨G, 1, none⟩ (.slice q2 0 d2)) wr.heap.size (.slice q1 zs.length d1) (.slice q2 0 d2) ⟨vs.reverse, []⟩) := OwnT.farT (OwnT.farT own3 (by simp only; omega) _) (by simp only; omega) _
      have HO2 : Hid (OwnI ((w3.setCell ⟨G, 0, none⟩ (.slice q1 zs.length d1)).setCell ⟨G, 1, none⟩ (.slice q2 0 d2)) (G + 1) (.slice pa zs.length ca) vs) := OwnI.farT (OwnI.farT (HO.out.below hb3) (by simp only; omega) _) (by simp only; omega) _
      have hK2 : Below G Y ((w3.setCell ⟨G, 0, none⟩ (.slice q1 zs.length d1)).setCell ⟨G, 1, none⟩ (.slice q2 0 d2)) := Below.setCell (Below.setCell (keepB hbel (by rw [HGY.out]; exact Nat.le_refl _) hb3) (by simp only; exact Nat.le_refl _) _) (by simp only; exact Nat.le_refl _) _
      clear own3 hb3 hB3 y0 y1 g0 g1 z0 z1 HB HP HO hbel HC0 hltO swr hGw
      generalize (w3.setCell ⟨G, 0, none⟩ (.slice q1 zs.length d1)).setCell ⟨G, 1, none⟩ (.slice q2 0 d2) = W2 at HB2 HT2 HO2 hK2 ⊢
      have HVL : Hid (vs.length = zs.length) := hvl
      clear hvl hlt
      generalize wr.heap.size = B2 at HT2
      have hnn : (zs.length : Int) ≤ 5 := by omega
      go_wp2
      go_loopw [19] (fun i wr => ∃ (k : Nat) (p1 p2 : Option Addr) (c1 c2 B : Nat), i = .int .i64 ((k : Int) - 1) ∧ k ≤ zs.length ∧ Hid (wr.heap[G]? = some (.cells #[.slice p1 k c1, .slice p2 (zs.length - k) c2] 26 (0, 0))) ∧ Hid (OwnT wr B (.slice p1 k c1) (.slice p2 (zs.length - k) c2) ⟨(vs.take k).reverse, List.replicate (zs.length - k) 1⟩) ∧ Hid (OwnI wr (G + 1) (.slice pa zs.length ca) vs) ∧ Below G Y wr) (fun i _ => ((intOf i) + 1).toNat)
      case atStart => exact ⟨zs.length, q1, q2, d1, d2, _, rfl, Nat.le_refl _, by rw [Nat.sub_self]; exact HB2.out, by rw [Nat.sub_self, show (vs.take zs.length) = vs by rw [← HVL.out, List.take_length]]; exact HT2.out, HO2.out, hK2⟩
      case round =>
        clear HB2 HT2 HO2 hK2
        obtain ⟨k, p1, p2, c1, c2, B, rfl, hk, HB, HP, HO, hbel⟩ := hrel
        have hGw : G < wr.heap.size := (Array.getElem?_eq_some_iff.1 HB.out).1
        by_cases hlt : 0 < k
        · obtain ⟨m, rfl⟩ : ∃ m, k = m + 1 := ⟨k - 1, by omega⟩
          have hmn : m < zs.length := by omega
          have hmv : m < vs.length := by rw [HVL.out]; exact hmn
          have em : (((m + 1 : Nat) : Int) - 1) = (m : Int) := by omega
          rw [em]
          have HC0 : Hid (∀ W : World, W = wr → Calls Try.prog 17 #[.agg #[.slice p1 (m + 1) c1, .slice p2 (zs.length - (m + 1)) c2], .int .i64 1] W fun e w' => ∃ q1 q2 d1 d2, e = .returned (.agg #[.slice q1 m d1, .slice q2 (zs.length - m) d2, .int .i64 vs[m], .int .i64 0]) ∧ OwnT w' wr.heap.size (.slice q1 m d1) (.slice q2 (zs.length - m) d2) ⟨(vs.take m).reverse, List.replicate (zs.length - m) 1⟩ ∧ Below wr.heap.size wr w') := fun W hW => by
            subst hW
            have h0 := step_back HV.out hv5 m hmv
            have e0 : vs.length - 1 - m = zs.length - (m + 1) := by rw [HVL.out]; omega
            have e9 : vs.length - m = zs.length - m := by rw [HVL.out]
            rw [e0, e9] at h0
            have h1 := HST.out _ _ _ _ _ h0 (by rw [List.length_reverse, List.length_take]; omega) (by rw [List.length_replicate]; omega) W B _ _ HP.out
            have e1 : (vs.take m).reverse.length = m := by rw [List.length_reverse, List.length_take]; omega
            have e2 : (List.replicate (zs.length - m) (1 : Int)).length = zs.length - m := List.length_replicate
            simp only [e1, e2] at h1
            exact h1
          obtain ⟨ga, rfl, hg1, hg2, hcv⟩ := OwnI.cell HO.out m hmv
          generalize vs[m] = H at HC0 hcv
          have hHH : (H != H) = false := by simp
          have ex : ((0 : Int) != 0) = false := by simp
          have hm0 : (0 : Int) ≤ (m : Int) := by omega
          have z0 := cellW HB.out 0 _ rfl wr (Below.refl _ _)
          have z1 := cellW HB.out 1 _ rfl wr (Below.refl _ _)
          go_upto_region 33 with (go_at_call 17; refine (HC0.out _ rfl).mono ?_; rintro e w3 ⟨q1, q2, d1, d2, rfl, own3, hb3⟩)
          clear HC0 HP z0 z1
          have hz3 := hb3.size
          have hb4 := all_alloc w3 (.cells #[.slice q1 m d1, .slice q2 (zs.length - m) d2, .int .i64 H, .int .i64 0] 28)
          have hV : Hid _ := heap_alloc_new w3 (.cells #[.slice q1 m d1, .slice q2 (zs.length - m) d2, .int .i64 H, .int .i64 0] 28)
          have hbV : Below wr.heap.size wr (w3.alloc (.cells #[.slice q1 m d1, .slice q2 (zs.length - m) d2, .int .i64 H, .int .i64 0] 28)) := keepB hb3 (Nat.le_refl _) hb4
          have ownV : Hid (OwnT _ _ _ _ _) := own3.below hb4
          clear own3 hb4
          obtain ⟨V, hVe⟩ : ∃ V, w3.alloc (.cells #[.slice q1 m d1, .slice q2 (zs.length - m) d2, .int .i64 H, .int .i64 0] 28) = V := ⟨_, rfl⟩
          rw [hVe] at hV hbV ownV ⊢
          obtain ⟨J, hJ⟩ : ∃ J, w3.heap.size = J := ⟨_, rfl⟩
          rw [hJ] at hV hz3 ⊢
          clear hVe hJ hb3
          have HOV : Hid (OwnI _ _ _ _) := HO.out.below hbV
          have HBV : Hid _ := blk HB.out hbV
          have cv2 := cellW hV.out 2 _ rfl
          have cv3 := cellW hV.out 3 _ rfl
          have ch : ∀ W, Below V.heap.size V W → W.cell? ⟨ga, m, none⟩ = some (.int .i64 H) := fun W hW => ((keepB hbV (Nat.le_refl _) hW).cell (p := ⟨ga, m, none⟩) hg2).trans hcv.1
          clear hcv HB HO
          refine wp_region_held_drew (S := (fun w' => Below V.heap.size V w')) (by kernel_rfl) ?_ (fun hHeld => ?_)
          · (try dsimp only); exact Below.drew (Below.refl _ _)
          first
            | (refine skipH (i := 0) rfl (by kernel_rfl) (by kernel_rfl) (by kernel_rfl) (fun _ _ _ h => h) (by rfl) (by assumption) ?_; try simp only [Act.put, List.setIfInBounds_toArray, List.set_cons_zero, List.set_cons_succ, List.getElem_toArray, List.getElem_cons_succ, List.getElem_cons_zero])
            | (refine yieldH (i := 0) (v := ?_) rfl (by kernel_rfl) (by kernel_rfl) (by kernel_rfl) (fun _ _ _ h => h) (by rfl) ?_ (by assumption) ?_; rotate_left; (intro w hSw; (try dsimp only at hSw); go_simp; (try with_reducible rfl)); try simp only [Act.put, List.setIfInBounds_toArray, List.set_cons_zero, List.set_cons_succ, List.getElem_toArray, List.getElem_cons_succ, List.getElem_cons_zero])
            | fail
          first
            | (refine skipH (i := 1) rfl (by kernel_rfl) (by kernel_rfl) (by kernel_rfl) (fun _ _ _ h => h) (by rfl) (by assumption) ?_; try simp only [Act.put, List.setIfInBounds_toArray, List.set_cons_zero, List.set_cons_succ, List.getElem_toArray, List.getElem_cons_succ, List.getElem_cons_zero])
            | (refine yieldH (i := 1) (v := ?_) rfl (by kernel_rfl) (by kernel_rfl) (by kernel_rfl) (fun _ _ _ h => h) (by rfl) ?_ (by assumption) ?_; rotate_left; (intro w hSw; (try dsimp only at hSw); go_simp; (try with_reducible rfl)); try simp only [Act.put, List.setIfInBounds_toArray, List.set_cons_zero, List.set_cons_succ, List.getElem_toArray, List.getElem_cons_succ, List.getElem_cons_zero])
            | fail
          first
            | (refine skipH (i := 2) rfl (by kernel_rfl) (by kernel_rfl) (by kernel_rfl) (fun _ _ _ h => h) (by rfl) (by assumption) ?_; try simp only [Act.put, List.setIfInBounds_toArray, List.set_cons_zero, List.set_cons_succ, List.getElem_toArray, List.getElem_cons_succ, List.getElem_cons_zero])
            | (refine yieldH (i := 2) (v := ?_) rfl (by kernel_rfl) (by kernel_rfl) (by kernel_rfl) (fun _ _ _ h => h) (by rfl) ?_ (by assumption) ?_; rotate_left; (intro w hSw; (try dsimp only at hSw); go_simp; (try with_reducible rfl)); try simp only [Act.put, List.setIfInBounds_toArray, List.set_cons_zero, List.set_cons_succ, List.getElem_toArray, List.getElem_cons_succ, List.getElem_cons_zero])
            | fail
          first
            | (refine skipH (i := 3) rfl (by kernel_rfl) (by kernel_rfl) (by kernel_rfl) (fun _ _ _ h => h) (by rfl) (by assumption) ?_; try simp only [Act.put, List.setIfInBounds_toArray, List.set_cons_zero, List.set_cons_succ, List.getElem_toArray, List.getElem_cons_succ, List.getElem_cons_zero])
            | (refine yieldH (i := 3) (v := ?_) rfl (by kernel_rfl) (by kernel_rfl) (by kernel_rfl) (fun _ _ _ h => h) (by rfl) ?_ (by assumption) ?_; rotate_left; (intro w hSw; (try dsimp only at hSw); go_simp; (try with_reducible rfl)); try simp only [Act.put, List.setIfInBounds_toArray, List.set_cons_zero, List.set_cons_succ, List.getElem_toArray, List.getElem_cons_succ, List.getElem_cons_zero])
            | fail
          first
            | (refine skipH (i := 4) rfl (by kernel_rfl) (by kernel_rfl) (by kernel_rfl) (fun _ _ _ h => h) (by rfl) (by assumption) ?_; try simp only [Act.put, List.setIfInBounds_toArray, List.set_cons_zero, List.set_cons_succ, List.getElem_toArray, List.getElem_cons_succ, List.getElem_cons_zero])
            | (refine yieldH (i := 4) (v := ?_) rfl (by kernel_rfl) (by kernel_rfl) (by kernel_rfl) (fun _ _ _ h => h) (by rfl) ?_ (by assumption) ?_; rotate_left; (intro w hSw; (try dsimp only at hSw); go_simp; (try with_reducible rfl)); try simp only [Act.put, List.setIfInBounds_toArray, List.set_cons_zero, List.set_cons_succ, List.getElem_toArray, List.getElem_cons_succ, List.getElem_cons_zero])
            | fail
          first
            | (refine skipH (i := 5) rfl (by kernel_rfl) (by kernel_rfl) (by kernel_rfl) (fun _ _ _ h => h) (by rfl) (by assumption) ?_; try simp only [Act.put, List.setIfInBounds_toArray, List.set_cons_zero, List.set_cons_succ, List.getElem_toArray, List.getElem_cons_succ, List.getElem_cons_zero])
            | (refine yieldH (i := 5) (v := ?_) rfl (by kernel_rfl) (by kernel_rfl) (by kernel_rfl) (fun _ _ _ h => h) (by rfl) ?_ (by assumption) ?_; rotate_left; (intro w hSw; (try dsimp only at hSw); go_simp; (try with_reducible rfl)); try simp only [Act.put, List.setIfInBounds_toArray, List.set_cons_zero, List.set_cons_succ, List.getElem_toArray, List.getElem_cons_succ, List.getElem_cons_zero])
            | fail
          first
            | (refine skipH (i := 6) rfl (by kernel_rfl) (by kernel_rfl) (by kernel_rfl) (fun _ _ _ h => h) (by rfl) (by assumption) ?_; try simp only [Act.put, List.setIfInBounds_toArray, List.set_cons_zero, List.set_cons_succ, List.getElem_toArray, List.getElem_cons_succ, List.getElem_cons_zero])
            | (refine yieldH (i := 6) (v := ?_) rfl (by kernel_rfl) (by kernel_rfl) (by kernel_rfl) (fun _ _ _ h => h) (by rfl) ?_ (by assumption) ?_; rotate_left; (intro w hSw; (try dsimp only at hSw); go_simp; (try with_reducible rfl)); try simp only [Act.put, List.setIfInBounds_toArray, List.set_cons_zero, List.set_cons_succ, List.getElem_toArray, List.getElem_cons_succ, List.getElem_cons_zero])
            | fail
          first
            | (refine skipH (i := 7) rfl (by kernel_rfl) (by kernel_rfl) (by kernel_rfl) (fun _ _ _ h => h) (by rfl) (by assumption) ?_; try simp only [Act.put, List.setIfInBounds_toArray, List.set_cons_zero, List.set_cons_succ, List.getElem_toArray, List.getElem_cons_succ, List.getElem_cons_zero])
            | (refine yieldH (i := 7) (v := ?_) rfl (by kernel_rfl) (by kernel_rfl) (by kernel_rfl) (fun _ _ _ h => h) (by rfl) ?_ (by assumption) ?_; rotate_left; (intro w hSw; (try dsimp only at hSw); go_simp; (try with_reducible rfl)); try simp only [Act.put, List.setIfInBounds_toArray, List.set_cons_zero, List.set_cons_succ, List.getElem_toArray, List.getElem_cons_succ, List.getElem_cons_zero])
            | fail
          first
            | (refine skipH (i := 8) rfl (by kernel_rfl) (by kernel_rfl) (by kernel_rfl) (fun _ _ _ h => h) (by rfl) (by assumption) ?_; try simp only [Act.put, List.setIfInBounds_toArray, List.set_cons_zero, List.set_cons_succ, List.getElem_toArray, List.getElem_cons_succ, List.getElem_cons_zero])
            | (refine yieldH (i := 8) (v := ?_) rfl (by kernel_rfl) (by kernel_rfl) (by kernel_rfl) (fun _ _ _ h => h) (by rfl) ?_ (by assumption) ?_; rotate_left; (intro w hSw; (try dsimp only at hSw); go_simp; (try with_reducible rfl)); try simp only [Act.put, List.setIfInBounds_toArray, List.set_cons_zero, List.set_cons_succ, List.getElem_toArray, List.getElem_cons_succ, List.getElem_cons_zero])
            | fail
          first
            | (refine skipH (i := 9) rfl (by kernel_rfl) (by kernel_rfl) (by kernel_rfl) (fun _ _ _ h => h) (by rfl) (by assumption) ?_; try simp only [Act.put, List.setIfInBounds_toArray, List.set_cons_zero, List.set_cons_succ, List.getElem_toArray, List.getElem_cons_succ, List.getElem_cons_zero])
            | (refine yieldH (i := 9) (v := ?_) rfl (by kernel_rfl) (by kernel_rfl) (by kernel_rfl) (fun _ _ _ h => h) (by rfl) ?_ (by assumption) ?_; rotate_left; (intro w hSw; (try dsimp only at hSw); go_simp; (try with_reducible rfl)); try simp only [Act.put, List.setIfInBounds_toArray, List.set_cons_zero, List.set_cons_succ, List.getElem_toArray, List.getElem_cons_succ, List.getElem_cons_zero])
            | fail
          first
            | (refine skipH (i := 10) rfl (by kernel_rfl) (by kernel_rfl) (by kernel_rfl) (fun _ _ _ h => h) (by rfl) (by assumption) ?_; try simp only [Act.put, List.setIfInBounds_toArray, List.set_cons_zero, List.set_cons_succ, List.getElem_toArray, List.getElem_cons_succ, List.getElem_cons_zero])
            | (refine yieldH (i := 10) (v := ?_) rfl (by kernel_rfl) (by kernel_rfl) (by kernel_rfl) (fun _ _ _ h => h) (by rfl) ?_ (by assumption) ?_; rotate_left; (intro w hSw; (try dsimp only at hSw); go_simp; (try with_reducible rfl)); try simp only [Act.put, List.setIfInBounds_toArray, List.set_cons_zero, List.set_cons_succ, List.getElem_toArray, List.getElem_cons_succ, List.getElem_cons_zero])
            | fail
          first
            | (refine skipH (i := 11) rfl (by kernel_rfl) (by kernel_rfl) (by kernel_rfl) (fun _ _ _ h => h) (by rfl) (by assumption) ?_; try simp only [Act.put, List.setIfInBounds_toArray, List.set_cons_zero, List.set_cons_succ, List.getElem_toArray, List.getElem_cons_succ, List.getElem_cons_zero])
            | (refine yieldH (i := 11) (v := ?_) rfl (by kernel_rfl) (by kernel_rfl) (by kernel_rfl) (fun _ _ _ h => h) (by rfl) ?_ (by assumption) ?_; rotate_left; (intro w hSw; (try dsimp only at hSw); go_simp; (try with_reducible rfl)); try simp only [Act.put, List.setIfInBounds_toArray, List.set_cons_zero, List.set_cons_succ, List.getElem_toArray, List.getElem_cons_succ, List.getElem_cons_zero])
            | fail
          refine wpAnyH_done (by kernel_rfl) ?_ _
          clear cv2 cv3 ch
          replace hV : Hid _ := blk hV.out (Below.drew (Below.refl V.heap.size V))
          replace HBV : Hid _ := blk HBV.out (Below.drew (Below.refl V.heap.size V))
          replace HOV : Hid (OwnI _ _ _ _) := HOV.out.below (Below.drew (Below.refl V.heap.size V))
          replace ownV : Hid (OwnT _ _ _ _ _) := ownV.out.below (Below.drew (Below.refl V.heap.size V))
          have hbD : Below wr.heap.size wr V.drew := keepB hbV (Nat.le_refl _) (Below.drew (Below.refl V.heap.size V))
          clear hbV hHeld
          generalize V.drew = D at hV HBV HOV ownV hbD ⊢
          have y0 := cellW hV.out 0 _ rfl D (Below.refl _ _)
          have y1 := cellW hV.out 1 _ rfl D (Below.refl _ _)
          have z0 := cellW HBV.out 0 _ rfl D (Below.refl _ _)
          have z1 := cellW HBV.out 1 _ rfl D (Below.refl _ _)
          have g0 := frozenW HBV.out 0 D (Below.refl _ _)
          have g1 := frozenW HBV.out 1 D (Below.refl _ _)
          go_wp2
          go_roundw
          case rel =>
            refine ⟨m, q1, q2, d1, d2, wr.heap.size, by go_num, by omega, ?_, ?_, ?_, ?_⟩
            · exact blk_set (blk_set HBV.out 0 _) 1 _
            · exact OwnT.farT (OwnT.farT ownV.out (by simp only; omega) _) (by simp only; omega) _
            · exact OwnI.farT (OwnI.farT HOV.out (by simp only; omega) _) (by simp only; omega) _
            · exact Below.setCell (Below.setCell (keepB hbel (by rw [HGY.out]; exact Nat.le_refl _) hbD) (by simp only; exact Nat.le_refl _) _) (by simp only; exact Nat.le_refl _) _
          case measure => simp [intOf] <;> omega
        · obtain rfl : k = 0 := by omega
          rw [Nat.sub_zero] at HB HP
          have em : (((0 : Nat) : Int) - 1) = -1 := by omega
          rw [em]
          have HC0 : Hid (∀ W : World, W = wr → Calls Try.prog 17 #[.agg #[.slice p1 0 c1, .slice p2 zs.length c2], .int .i64 1] W fun e w' => ∃ q1 q2 d1 d2, e = .returned (.agg #[.slice q1 0 d1, .slice q2 0 d2, .int .i64 0, .int .i64 6]) ∧ Below wr.heap.size wr w') := fun W hW => by
            subst hW
            have h0 := step_end zs.length (by omega)
            have h1 := HST.out _ _ _ _ _ h0 (by simp) (by rw [List.length_replicate]; omega) W B _ _ HP.out
            refine h1.mono ?_
            rintro e w' ⟨q1, q2, d1, d2, rfl, ho, hb⟩
            exact ⟨q1, q2, d1, d2, rfl, hb⟩
          have z0 := cellW HB.out 0 _ rfl wr (Below.refl _ _)
          have z1 := cellW HB.out 1 _ rfl wr (Below.refl _ _)
          have hf2 := field_pout2
          go_wp2_with (go_at_call 17; refine (HC0.out _ rfl).mono ?_; rintro e w3 ⟨q1, q2, d1, d2, rfl, hb3⟩)
          go_ret
          exact ⟨rfl, keepB sw (Nat.le_refl _) (keepB (by rw [← HGY.out]; exact hbel) (Nat.le_refl _) hb3)⟩

set_option maxRecDepth 100000 in
theorem lifted (os : Os) (started : os.Started) (H : Type) (enc : TypeId × Value → H) :
    ReturnsInHanded {} Try.checked os 3 .any (Rows.fnPathSpec.pre6 enc Try.prog Try.f3 Rows.fnPathRow.domain false) (Rows.fnPathSpec.post enc Try.prog Try.f3 false true false false) := by
  refine returnsInHanded_of_change (C := Try.checked) own started (by kernel_rfl) Try.func3
    (ChangeSpec.witness6 (enc := enc) (C := Try.checked) false ⟨#[], #[.slice none 0 0, .slice none 0 0], []⟩ 8 (by kernel_rfl) (by kernel_rfl) (by kernel_rfl) (by kernel_rfl)) ?_
  intro W base args ds gs before hval0 hW hcnd _
  have hval : ∀ (j : Nat) t v, Try.f3.params[j]? = some t → args[j]? = some v → Value.okWide Try.prog W .any base t v := hval0
  have hW' := hW
  obtain ⟨p, q, hA0, hV, rfl, hfz, hnd⟩ := hW
  have hA : DataW.TrodAll enc Try.prog W 0 (fun _ => true) true Try.f3.params.toList args.toList ds p := hA0
  rw [Try.params3] at hA hval
  obtain ⟨v0, vs0, d0, ds0, p0, q0, hargs, rfl, rfl, h0, r0⟩ := trodAll_cons hA
  obtain ⟨v1, vs1, d1, ds1, p1, q1, rfl, rfl, rfl, h1, r1⟩ := trodAll_cons r0
  obtain ⟨rfl, rfl, rfl⟩ := trodAll_nil r1
  obtain rfl : args = #[v0, v1] := by cases args; simp_all
  obtain ⟨rfl, rfl⟩ := trodVars_none hV
  obtain ⟨a0, len0, cap0, rfl⟩ := okWide_slice Try.underlying22 (hval 0 22 v0 rfl rfl)
  have k0 := h0
  have lt0 : ∀ x ∈ p0, x.block < W.heap.size := by obtain ⟨m, hm⟩ := k0; exact DataW.trod_lt m _ _ _ hm
  obtain ⟨z0, w0⟩ : ∃ zs, IsRow .u8 W a0 len0 cap0 zs := by
    obtain ⟨fuel, hf⟩ := h0
    rcases open_ints Try.underlying22 Try.underlying5 (by kernel_rfl) hf with ⟨hcs, _⟩ | ⟨x, l, c, zs, hcs, _, hl, hm, hz, _, hcell, hwz⟩
    · simp [Value.cells] at hcs
      obtain ⟨rfl, rfl, rfl⟩ := hcs
      exact ⟨[], .inl ⟨rfl, rfl, rfl, rfl⟩⟩
    · simp [Value.cells] at hcs
      obtain ⟨rfl, rfl, rfl⟩ := hcs
      exact ⟨zs, .inr ⟨_, rfl, hl, hm, by simpa using hz, hcell, hwz⟩⟩
  obtain ⟨a1, len1, cap1, rfl⟩ := okWide_slice Try.underlying22 (hval 1 22 v1 rfl rfl)
  have k1 := h1
  have lt1 : ∀ x ∈ p1, x.block < W.heap.size := by obtain ⟨m, hm⟩ := k1; exact DataW.trod_lt m _ _ _ hm
  obtain ⟨z1, w1⟩ : ∃ zs, IsRow .u8 W a1 len1 cap1 zs := by
    obtain ⟨fuel, hf⟩ := h1
    rcases open_ints Try.underlying22 Try.underlying5 (by kernel_rfl) hf with ⟨hcs, _⟩ | ⟨x, l, c, zs, hcs, _, hl, hm, hz, _, hcell, hwz⟩
    · simp [Value.cells] at hcs
      obtain ⟨rfl, rfl, rfl⟩ := hcs
      exact ⟨[], .inl ⟨rfl, rfl, rfl, rfl⟩⟩
    · simp [Value.cells] at hcs
      obtain ⟨rfl, rfl, rfl⟩ := hcs
      exact ⟨zs, .inr ⟨_, rfl, hl, hm, by simpa using hz, hcell, hwz⟩⟩
  clear hA0 hval0
  refine (walk a0 len0 cap0 z0 a1 len1 cap1 z1 W w0 w1).mono fun e W' ⟨he, bel⟩ => ?_
  subst he
  exact ⟨_, rfl, _, _, _, [], _, [], hW', trodAll_mk1 (shut_bool Try.underlying4 _), (trodAll_cons_mk (Below.trod laidOut (by kernel_rfl) (of_decide_eq_true (by kernel_rfl)) k0 bel lt0) (trodAll_cons_mk (Below.trod laidOut (by kernel_rfl) (of_decide_eq_true (by kernel_rfl)) k1 bel lt1) trodAll_mk0)), rfl, bel.frame _, fun h => by cases h⟩

/-- The statement. -/
theorem proved : Rows.FnPathSaid :=
  OpenClaim.holds_of_wide 3 Try.f3 rfl rfl rfl rfl rfl rfl rfl ⟨rfl, rfl, rfl, rfl, rfl⟩ rfl rfl rfl rfl rfl (by kernel_rfl) Try.func3 (by kernel_rfl)
    (of_decide_eq_true (by kernel_rfl)) (by unfold Func.isWrapper; first | (rw [if_pos (by decide +kernel)]; kernel_rfl) | (rw [if_neg (by decide +kernel)]; exact ⟨rfl, rfl⟩))
    (fun os started H enc _ => lifted os started H enc)
#print axioms proved
end Go.Proofs.Ytineecongiplgaa.fnPath
