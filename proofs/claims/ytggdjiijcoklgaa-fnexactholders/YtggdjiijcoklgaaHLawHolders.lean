/- Who holds: the program and the model tell the same addresses, in memory of their own, and what was handed in stays as it was. -/
import Derived.Test.YtggdjiijcoklgaaRows
import Derived.Test.YtggdjiijcoklgaaHSegZ
import Derived.Test.YtggdjiijcoklgaaHStnO
import Derived.Test.YtggdjiijcoklgaaHSegE
import Derived.Test.YtggdjiijcoklgaaHSegO
import Derived.Test.YtggdjiijcoklgaaHSegH
import Derived.Test.YtggdjiijcoklgaaHOutS
import Derived.Test.YtggdjiijcoklgaaHTail
import Derived.Test.YtggdjiijcoklgaaHNewS
import Derived.WalkKit
import Derived.WalkSpells
import Derived.ProofKit
import Derived.OpenShut
import Derived.ShutString
import Derived.ChangeOld
import Derived.Below
import Derived.Outline
import Derived.Deep.RegionHeld3
import Derived.Deep.RegionWith
import Derived.Deep.DeepCutAuto
import Derived.Lib.SmallJoins
import Derived.Carry
namespace Go.Proofs.Ytggdjiijcoklgaa.fnExactHolders
open Go.ChangeShapes Go.WideShapes Go.ChangeAt Go.RowKit
open Go.ChangeMaps (open_string shut_string)
set_option linter.unusedVariables false
set_option linter.unusedSimpArgs false

theorem own : ownKnob Try.prog.godebug = none := by kernel_rfl
theorem laidOut : laidOutB Try.prog = true := by kernel_rfl

set_option maxRecDepth 100000 in
set_option maxHeartbeats 1600000 in
/-- The walk: the law returns true, and nothing that was there has turned. -/
theorem walk (s0 : Seg) (p0 q0 r0 : Option Addr) (c0 d0 e0 : Nat) (w : World) (w0 : InSt w p0 s0.ss ∧ InBo w q0 s0.us ∧ InN w r0 s0.ns) :
    Calls Try.prog 6 #[.agg #[.slice p0 s0.ss.length c0, .slice q0 s0.us.length d0, .slice r0 s0.ns.length e0]] w fun e w' => e = .returned (.bool true) ∧ Below w.heap.size w w' := by
  obtain ⟨i1, i2, i3⟩ := w0
  have hX : Hid _ := heap_alloc_new w (.cells #[.slice p0 s0.ss.length c0, .slice q0 s0.us.length d0, .slice r0 s0.ns.length e0] 48)
  have hA0 := all_alloc w (.cells #[.slice p0 s0.ss.length c0, .slice q0 s0.us.length d0, .slice r0 s0.ns.length e0] 48)
  have HSZ : Hid (∀ W, Below w.heap.size w W → Calls Try.prog 16 #[.agg #[.slice p0 s0.ss.length c0, .slice q0 s0.us.length d0, .slice r0 s0.ns.length e0], .int .i64 1048576] W fun x w' => x = .returned (.int .i64 (if s0.tot ≤ 1048576 then 1048576 - s0.tot else -1)) ∧ Below W.heap.size W w') := fun W hW => szSegment_any s0 p0 q0 r0 c0 d0 e0 W (i1.below hW) (i2.below hW) (i3.below hW)
  by_cases hle : s0.tot ≤ 1048576
  case neg =>
    rw [if_neg hle] at HSZ
    clear hle i1 i2 i3
    go_enter Try.func6, Try.ntmps6
    go_upto_region 1 with fail
    generalize w.alloc (.cells #[.slice p0 s0.ss.length c0, .slice q0 s0.us.length d0, .slice r0 s0.ns.length e0] 48) = A at hX hA0 ⊢
    go_wp2_with (first
      | (refine wpList_load_rowG (by first | rfl | (simp only [Region.wanted, yielded, hkd]; rfl)) 48 (.tmp 1) rfl w.heap.size rfl _ _ _ _ hX.out Try.underlying48 rfl (by kernel_rfl) ?_)
      | (go_at_call 16; refine (HSZ.out _ hA0).mono ?_; rintro e v1 ⟨rfl, hb1⟩))
    go_ret
    exact ⟨rfl, keepB hA0 (Nat.le_refl _) hb1⟩
  rw [if_pos hle] at HSZ
  have h3 : ¬ (1048576 : Int) - s0.tot < 0 := by omega
  have HTO : Hid (∀ W, Below w.heap.size w W → Calls Try.prog 18 #[.agg #[.slice p0 s0.ss.length c0, .slice q0 s0.us.length d0, .slice r0 s0.ns.length e0]] W fun x w' => ∃ v1 v2 v3, x = .returned (.agg #[v1, v2, v3]) ∧ OwnSegB w' W.heap.size w'.heap.size v1 v2 v3 s0 ∧ Below W.heap.size W w') := fun W hW => toSegment_any s0 p0 q0 r0 c0 d0 e0 W hle (i1.below hW) (i2.below hW) (i3.below hW)
  have HE : Hid (∀ (W : World) (v1 v2 v3 x1 x2 x3 : Value), RowSeg W v1 v2 v3 s0 → RowSeg W x1 x2 x3 s0 → Calls Try.prog 20 #[.agg #[v1, v2, v3], .agg #[x1, x2, x3]] W fun x w' => x = .returned (.bool true) ∧ Below W.heap.size W w') := fun W v1 v2 v3 x1 x2 x3 h1 h2 => eqSegment_same s0 v1 v2 v3 x1 x2 x3 W hle h1 h2
  have HS : Hid (∀ (W : World) (v1 v2 v3 : Value), RowSeg W v1 v2 v3 s0 → Calls Try.prog 29 #[.agg #[v1, v2, v3]] W fun e w' => ∃ v, e = .returned v ∧ OwnI w' W.heap.size v s0.holders ∧ Below W.heap.size W w') := fun W v1 v2 v3 h => specHolders_any s0 v1 v2 v3 W hle h
  have HI : Hid (∀ (W : World) (v1 v2 v3 : Value), RowSeg W v1 v2 v3 s0 → Calls Try.prog 30 #[.agg #[v1, v2, v3]] W fun e w' => ∃ v, e = .returned v ∧ OwnI w' W.heap.size v s0.holders ∧ Below W.heap.size W w') := fun W v1 v2 v3 h => holders_any s0 v1 v2 v3 W hle h
  have hhl := holders_len s0
  have HMK : Hid (∀ (W : World) (lo hi : Nat) (v1 v2 v3 : Value), OwnSegB W lo hi v1 v2 v3 s0 → Calls Try.prog 31 #[.agg #[v1, v2, v3], .int .i64 1] W fun e w' => (∃ K : Int, 1 ≤ K ∧ e = .returned (.int .i64 K)) ∧ Only W w' lo hi) := fun W lo hi v1 v2 v3 h => markSegment_big s0 lo hi v1 v2 v3 W hle h
  generalize s0.holders = H at HS HI hhl
  have HEQ : Hid (∀ (W : World) (x y : Value), RowI W x H → RowI W y H → Calls Try.prog 25 #[x, y] W fun e w' => e = .returned (.bool true) ∧ Below W.heap.size W w') := fun W x y h1 h2 => eqInt64S_same x y H W (by omega) h1 h2
  have HMI : Hid (∀ (W : World) (lo hi : Nat) (x : Value), OwnIB W lo hi x H → Calls Try.prog 26 #[x, .int .i64 1] W fun e w' => e = .returned (.int .i64 (1 + (H.length : Int))) ∧ OwnIB w' lo hi x (countK 1 H.length) ∧ Only W w' lo hi) := fun W lo hi x h => markInts_B 1 (by omega) lo hi x H W (by omega) h
  have HHI : Hid (∀ (W : World) (lo hi : Nat) (x : Value), OwnIB W lo hi x (countK 1 H.length) → Calls Try.prog 32 #[x, .int .i64 1] W fun e w' => e = .returned (.int .i64 (1 + (H.length : Int))) ∧ Below W.heap.size W w') := fun W lo hi x h => heldInt64S_from 1 (by omega) lo x H.length W (by omega) h.1
  have hp0 : ¬ (1 : Int) + (H.length : Int) < 0 := by omega
  generalize countK 1 H.length = HK at HMI HHI
  obtain ⟨PN, ePN⟩ : ∃ PN, (1 : Int) + (H.length : Int) = PN := ⟨_, rfl⟩
  rw [ePN] at HMI HHI hp0
  have hp1 : (PN != PN) = false := by simp
  clear i1 i2 i3 hle hhl ePN
  go_enter Try.func6, Try.ntmps6
  go_upto_region 1 with fail
  have zA0 : (w.alloc (.cells #[.slice p0 s0.ss.length c0, .slice q0 s0.us.length d0, .slice r0 s0.ns.length e0] 48)).heap.size = w.heap.size + 1 := by simp
  generalize w.alloc (.cells #[.slice p0 s0.ss.length c0, .slice q0 s0.us.length d0, .slice r0 s0.ns.length e0] 48) = A at hX hA0 zA0 ⊢
  have zA : w.heap.size + 1 ≤ A.heap.size := by omega
  clear zA0
  have hg := hA0
  go_upto_region 5 with (first
    | (refine wpList_load_rowG (by first | rfl | (simp only [Region.wanted, yielded, hkd]; rfl)) 48 (.tmp 1) rfl w.heap.size rfl _ _ _ _ hX.out Try.underlying48 rfl (by kernel_rfl) ?_)
    | (go_at_call 16; refine (HSZ.out _ hA0).mono ?_; rintro e v1 ⟨rfl, hb1⟩))
  have z_v1 : A.heap.size ≤ v1.heap.size := hb1.size
  replace hX : Hid _ := blk hX.out hb1
  replace hg : Below w.heap.size w v1 := keepB hg (Nat.le_refl _) hb1
  go_upto_region 6 with (first
    | (refine wpList_load_rowG (by first | rfl | (simp only [Region.wanted, yielded, hkd]; rfl)) 48 (.tmp 1) rfl w.heap.size rfl _ _ _ _ hX.out Try.underlying48 rfl (by kernel_rfl) ?_)
    | (go_at_call 18; refine (HTO.out _ hg).mono ?_; rintro e v2 ⟨y1, y2, y3, rfl, own2, hb2⟩)
    | (go_at_call 29; refine (HS.out _ _ _ _ own2.row).mono ?_; rintro e v3 ⟨xW, rfl, ownW, hb3⟩))
  clear own2
  have z_v2 : v1.heap.size ≤ v2.heap.size := hb2.size
  replace hX : Hid _ := blk hX.out hb2
  replace hg : Below w.heap.size w v2 := keepB hg (Nat.le_refl _) hb2
  have z_v3 : v2.heap.size ≤ v3.heap.size := hb3.size
  replace hX : Hid _ := blk hX.out hb3
  replace hg : Below w.heap.size w v3 := keepB hg (Nat.le_refl _) hb3
  have oW : Hid (OwnIB v3 v2.heap.size v3.heap.size xW H) := ownW.ib
  clear ownW
  go_upto_region 7 with (first
    | (refine wpList_load_rowG (by first | rfl | (simp only [Region.wanted, yielded, hkd]; rfl)) 48 (.tmp 1) rfl w.heap.size rfl _ _ _ _ hX.out Try.underlying48 rfl (by kernel_rfl) ?_)
    | (go_at_call 18; refine (HTO.out _ hg).mono ?_; rintro e v6 ⟨y1, y2, y3, rfl, own6, hb6⟩; obtain ⟨⟨p6, c6, rfl, _⟩, ⟨q6, d6, rfl, _⟩, ⟨r6, e6, rfl, _⟩⟩ := own6.row)
    | (refine wpList_store_row rfl 54 (.tmp 5) (.tmp 20) rfl v6.heap.size #[.slice p6 s0.ss.length c6, .slice q6 s0.us.length d6, .slice r6 s0.ns.length e6] rfl rfl _ _ (heap_alloc_new v6 _) (by kernel_rfl) rfl (by simp [Value.oneCell']) ?_))
  have z_v6 : v3.heap.size ≤ v6.heap.size := hb6.size
  replace hX : Hid _ := blk hX.out hb6
  replace oW : Hid (OwnIB v6 v2.heap.size v3.heap.size xW H) := oW.out.same (Same.below hb6 (by omega))
  replace hg : Below w.heap.size w v6 := keepB hg (Nat.le_refl _) hb6
  have h7 : Hid _ := setRow_heap _ v6.heap.size _ #[.slice p6 s0.ss.length c6, .slice q6 s0.us.length d6, .slice r6 s0.ns.length e6] _ _ (heap_alloc_new v6 (.cells #[.slice none 0 0, .slice none 0 0, .slice none 0 0] 54))
  have hb7 : Below v6.heap.size v6 ((v6.alloc (.cells #[.slice none 0 0, .slice none 0 0, .slice none 0 0] 54)).setRow v6.heap.size #[.slice p6 s0.ss.length c6, .slice q6 s0.us.length d6, .slice r6 s0.ns.length e6]) := setRow_fresh _ _ _
  generalize ((v6.alloc (.cells #[.slice none 0 0, .slice none 0 0, .slice none 0 0] 54)).setRow v6.heap.size #[.slice p6 s0.ss.length c6, .slice q6 s0.us.length d6, .slice r6 s0.ns.length e6]) = v7 at h7 hb7 ⊢
  have zz_v7 : v6.heap.size < v7.heap.size := (Array.getElem?_eq_some_iff.1 h7.out).1
  have o7 : Hid (OwnSegB v6 v3.heap.size v6.heap.size _ _ _ s0) := own6
  clear own6
  have z_v7 : v6.heap.size ≤ v7.heap.size := hb7.size
  replace hX : Hid _ := blk hX.out hb7
  replace oW : Hid (OwnIB v7 v2.heap.size v3.heap.size xW H) := oW.out.same (Same.below hb7 (by omega))
  replace o7 : Hid (OwnSegB v7 v3.heap.size v6.heap.size _ _ _ s0) := o7.out.below hb7
  replace hg : Below w.heap.size w v7 := keepB hg (Nat.le_refl _) hb7
  go_upto_region 8 with (first
    | (refine wpList_load_rowG (by first | rfl | (simp only [Region.wanted, yielded, hkd]; rfl) | simp [Region.wanted, yielded, hk0, hkd]) 54 (.tmp 5) rfl v6.heap.size rfl _ _ _ _ h7.out Try.underlying54 rfl (by kernel_rfl) ?_)
    | (go_at_call 30; refine (HI.out _ _ _ _ o7.out.row).mono ?_; rintro e v8 ⟨xG, rfl, ownG, hb8⟩))
  have z_v8 : v7.heap.size ≤ v8.heap.size := hb8.size
  replace hX : Hid _ := blk hX.out hb8
  replace h7 : Hid _ := blk h7.out hb8
  replace oW : Hid (OwnIB v8 v2.heap.size v3.heap.size xW H) := oW.out.same (Same.below hb8 (by omega))
  replace o7 : Hid (OwnSegB v8 v3.heap.size v6.heap.size _ _ _ s0) := o7.out.below hb8
  replace hg : Below w.heap.size w v8 := keepB hg (Nat.le_refl _) hb8
  have oG : Hid (OwnIB v8 v7.heap.size v8.heap.size xG H) := ownG.ib
  clear ownG
  go_upto_region 10 with (first
    | (go_at_call 25; refine (HEQ.out _ _ _ oG.out.1.row oW.out.1.row).mono ?_; rintro e v9 ⟨rfl, hb9⟩))
  have z_v9 : v8.heap.size ≤ v9.heap.size := hb9.size
  replace hX : Hid _ := blk hX.out hb9
  replace h7 : Hid _ := blk h7.out hb9
  replace oW : Hid (OwnIB v9 v2.heap.size v3.heap.size xW H) := oW.out.same (Same.below hb9 (by omega))
  replace o7 : Hid (OwnSegB v9 v3.heap.size v6.heap.size _ _ _ s0) := o7.out.below hb9
  replace oG : Hid (OwnIB v9 v7.heap.size v8.heap.size xG H) := oG.out.same (Same.below hb9 (by omega))
  replace hg : Below w.heap.size w v9 := keepB hg (Nat.le_refl _) hb9
  have hR : Below v9.heap.size v9 v9.drew := Below.drew (Below.refl _ _)
  refine wp_region_held_drew (S := (fun w' => Below v9.heap.size v9 w')) (by kernel_rfl) ?_ (fun hHeld => ?_)
  · (try dsimp only); exact hR
  refine yieldH (i := 0) (v := .agg #[.slice p6 s0.ss.length c6, .slice q6 s0.us.length d6, .slice r6 s0.ns.length e6]) rfl (by kernel_rfl) (by kernel_rfl) (by kernel_rfl) (fun _ _ _ h => h) (by rfl) (fun W hW => exec_load_row 54 (.tmp 5) rfl v6.heap.size rfl _ _ _ _ (blk h7.out hW) Try.underlying54 rfl (by kernel_rfl)) (by assumption) ?_
  try simp only [Act.put, List.setIfInBounds_toArray, List.set_cons_zero, List.set_cons_succ, List.getElem_toArray, List.getElem_cons_succ, List.getElem_cons_zero]
  refine yieldH (i := 1) (v := .agg #[.slice p0 s0.ss.length c0, .slice q0 s0.us.length d0, .slice r0 s0.ns.length e0]) rfl (by kernel_rfl) (by kernel_rfl) (by kernel_rfl) (fun _ _ _ h => h) (by rfl) (fun W hW => exec_load_row 48 (.tmp 1) rfl w.heap.size rfl _ _ _ _ (blk hX.out hW) Try.underlying48 rfl (by kernel_rfl)) (by assumption) ?_
  try simp only [Act.put, List.setIfInBounds_toArray, List.set_cons_zero, List.set_cons_succ, List.getElem_toArray, List.getElem_cons_succ, List.getElem_cons_zero]
  refine wpAnyH_ready (rs := [2]) (by kernel_rfl) (by simp) ?_
  refine AllReadyH.cons rfl (fun K hK => ?_) AllReadyH.nil
  go_simp
  go_at_call 18; refine (HTO.out _ (keepB hg (Nat.le_refl _) hR)).mono ?_; rintro e7 vE ⟨y1, y2, y3, rfl, ownE, hbE⟩; have t7 : Below v9.heap.size v9 vE := keepB hR (Nat.le_refl _) hbE
  dsimp only
  refine hK.out _ _ ?_ (fun hHeld => ?_)
  · (try dsimp only); exact t7
  clear hK K
  try simp only [Act.put, List.setIfInBounds_toArray, List.set_cons_zero, List.set_cons_succ, List.getElem_toArray, List.getElem_cons_succ, List.getElem_cons_zero]
  refine wpAnyH_ready (rs := [3]) (by kernel_rfl) (by simp) ?_
  refine AllReadyH.cons rfl (fun K hK => ?_) AllReadyH.nil
  go_simp
  go_at_call 20; refine (HE.out _ _ _ _ _ _ _ (o7.out.row.below t7) ownE.row).mono ?_; rintro e8 v10 ⟨rfl, hb8'⟩; have t8 : Below v9.heap.size v9 v10 := keepB t7 (Nat.le_refl _) hb8'
  dsimp only
  refine hK.out _ _ ?_ (fun hHeld => ?_)
  · (try dsimp only); exact t8
  clear hK K
  try simp only [Act.put, List.setIfInBounds_toArray, List.set_cons_zero, List.set_cons_succ, List.getElem_toArray, List.getElem_cons_succ, List.getElem_cons_zero]
  first
    | (refine skipH (i := 4) rfl (by kernel_rfl) (by kernel_rfl) (by kernel_rfl) (fun _ _ _ h => h) (by rfl) (by assumption) ?_; try simp only [Act.put, List.setIfInBounds_toArray, List.set_cons_zero, List.set_cons_succ, List.getElem_toArray, List.getElem_cons_succ, List.getElem_cons_zero])
    | (refine yieldH (i := 4) (v := ?_) rfl (by kernel_rfl) (by kernel_rfl) (by kernel_rfl) (fun _ _ _ h => h) (by rfl) ?_ (by assumption) ?_; rotate_left; (intro w hSw; (try dsimp only at hSw); go_simp; (try with_reducible rfl)); try simp only [Act.put, List.setIfInBounds_toArray, List.set_cons_zero, List.set_cons_succ, List.getElem_toArray, List.getElem_cons_succ, List.getElem_cons_zero])
    | fail
  refine wpAnyH_done (by kernel_rfl) ?_ _
  go_upto_region 12 with fail
  have z_v10 : v9.heap.size ≤ v10.heap.size := t8.size
  replace hX : Hid _ := blk hX.out t8
  replace h7 : Hid _ := blk h7.out t8
  replace oW : Hid (OwnIB v10 v2.heap.size v3.heap.size xW H) := oW.out.same (Same.below t8 (by omega))
  replace o7 : Hid (OwnSegB v10 v3.heap.size v6.heap.size _ _ _ s0) := o7.out.below t8
  replace oG : Hid (OwnIB v10 v7.heap.size v8.heap.size xG H) := oG.out.same (Same.below t8 (by omega))
  replace hg : Below w.heap.size w v10 := keepB hg (Nat.le_refl _) t8
  go_upto_region 14 with (first
    | (refine wpList_load_rowG (by first | rfl | (simp only [Region.wanted, yielded, hkd]; rfl) | simp [Region.wanted, yielded, hk0, hkd]) 54 (.tmp 5) rfl v6.heap.size rfl _ _ _ _ h7.out Try.underlying54 rfl (by kernel_rfl) ?_)
    | (go_at_call 31; refine (HMK.out _ _ _ _ _ _ o7.out).mono ?_; rintro e v11 ⟨⟨KK, hkk, rfl⟩, y11⟩))
  clear o7 h7
  have z_v11 : v10.heap.size ≤ v11.heap.size := y11.size
  replace hX : Hid _ := (y11.block (w.heap.size) (by omega) (by omega)).trans hX.out
  replace oW : Hid (OwnIB v11 v2.heap.size v3.heap.size xW H) := oW.out.same (y11.same (by omega) (by omega))
  replace oG : Hid (OwnIB v11 v7.heap.size v8.heap.size xG H) := oG.out.same (y11.same (by omega) (by omega))
  replace hg : Below w.heap.size w v11 := hg.trans (y11.frame (by omega) (by omega))
  have hk0 : ¬ KK < 0 := by omega
  have hkd : decide (KK < 0) = false := decide_eq_false hk0
  go_upto_region 16 with (first
    | (go_at_call 25; refine (HEQ.out _ _ _ oG.out.1.row oW.out.1.row).mono ?_; rintro e v12 ⟨rfl, hb12⟩))
  have z_v12 : v11.heap.size ≤ v12.heap.size := hb12.size
  replace hX : Hid _ := blk hX.out hb12
  replace oW : Hid (OwnIB v12 v2.heap.size v3.heap.size xW H) := oW.out.same (Same.below hb12 (by omega))
  replace oG : Hid (OwnIB v12 v7.heap.size v8.heap.size xG H) := oG.out.same (Same.below hb12 (by omega))
  replace hg : Below w.heap.size w v12 := keepB hg (Nat.le_refl _) hb12
  go_upto_region 18 with (first
    | (go_at_call 26; refine (HMI.out _ _ _ _ oG.out).mono ?_; rintro e v13 ⟨rfl, oM0, y13⟩))
  clear oG
  have z_v13 : v12.heap.size ≤ v13.heap.size := y13.size
  replace hX : Hid _ := (y13.block (w.heap.size) (by omega) (by omega)).trans hX.out
  replace oW : Hid (OwnIB v13 v2.heap.size v3.heap.size xW H) := oW.out.same (y13.same (by omega) (by omega))
  replace hg : Below w.heap.size w v13 := hg.trans (y13.frame (by omega) (by omega))
  have oM : Hid (OwnIB v13 v7.heap.size v8.heap.size xG HK) := oM0
  clear oM0
  go_upto_region 24 with (first
    | (go_at_call 32; refine (HHI.out _ _ _ _ oM.out).mono ?_; rintro e v14 ⟨rfl, hb14⟩))
  have z_v14 : v13.heap.size ≤ v14.heap.size := hb14.size
  replace hX : Hid _ := blk hX.out hb14
  replace oW : Hid (OwnIB v14 v2.heap.size v3.heap.size xW H) := oW.out.same (Same.below hb14 (by omega))
  replace oM : Hid (OwnIB v14 v7.heap.size v8.heap.size xG HK) := oM.out.same (Same.below hb14 (by omega))
  replace hg : Below w.heap.size w v14 := keepB hg (Nat.le_refl _) hb14
  go_upto_region 25 with (first
    | (refine wpList_load_rowG (by first | rfl | (simp only [Region.wanted, yielded, hkd]; rfl)) 48 (.tmp 1) rfl w.heap.size rfl _ _ _ _ hX.out Try.underlying48 rfl (by kernel_rfl) ?_)
    | (go_at_call 18; refine (HTO.out _ hg).mono ?_; rintro e v15 ⟨y1, y2, y3, rfl, own15, hb15⟩)
    | (go_at_call 30; refine (HI.out _ _ _ _ own15.row).mono ?_; rintro e v16 ⟨xH, rfl, ownH, hb16⟩))
  clear own15
  have z_v15 : v14.heap.size ≤ v15.heap.size := hb15.size
  replace hX : Hid _ := blk hX.out hb15
  replace oW : Hid (OwnIB v15 v2.heap.size v3.heap.size xW H) := oW.out.same (Same.below hb15 (by omega))
  replace oM : Hid (OwnIB v15 v7.heap.size v8.heap.size xG HK) := oM.out.same (Same.below hb15 (by omega))
  replace hg : Below w.heap.size w v15 := keepB hg (Nat.le_refl _) hb15
  have z_v16 : v15.heap.size ≤ v16.heap.size := hb16.size
  replace hX : Hid _ := blk hX.out hb16
  replace oW : Hid (OwnIB v16 v2.heap.size v3.heap.size xW H) := oW.out.same (Same.below hb16 (by omega))
  replace oM : Hid (OwnIB v16 v7.heap.size v8.heap.size xG HK) := oM.out.same (Same.below hb16 (by omega))
  replace hg : Below w.heap.size w v16 := keepB hg (Nat.le_refl _) hb16
  go_upto_region 27 with (first
    | (go_at_call 25; refine (HEQ.out _ _ _ ownH.row oW.out.1.row).mono ?_; rintro e v17 ⟨rfl, hb17⟩))
  have z_v17 : v16.heap.size ≤ v17.heap.size := hb17.size
  replace hX : Hid _ := blk hX.out hb17
  replace oW : Hid (OwnIB v17 v2.heap.size v3.heap.size xW H) := oW.out.same (Same.below hb17 (by omega))
  replace oM : Hid (OwnIB v17 v7.heap.size v8.heap.size xG HK) := oM.out.same (Same.below hb17 (by omega))
  replace hg : Below w.heap.size w v17 := keepB hg (Nat.le_refl _) hb17
  go_wp2_with (go_at_call 32; refine (HHI.out _ _ _ _ oM.out).mono ?_; rintro e v18 ⟨rfl, hb18⟩)
  go_ret
  exact ⟨rfl, keepB hg (Nat.le_refl _) hb18⟩

set_option maxRecDepth 100000 in
theorem lifted (os : Os) (started : os.Started) (H : Type) (enc : TypeId × Value → H) :
    ReturnsInHanded {} Try.checked os 6 .any (Rows.fnExactHoldersSpec.pre6 enc Try.prog Try.f6 Rows.fnExactHoldersRow.domain false) (Rows.fnExactHoldersSpec.post enc Try.prog Try.f6 false true false false) := by
  refine returnsInHanded_of_change (C := Try.checked) own started (by kernel_rfl) Try.func6
    (ChangeSpec.witness6 (enc := enc) (C := Try.checked) false ⟨#[], #[.agg #[.slice none 0 0, .slice none 0 0, .slice none 0 0]], []⟩ 8 (by kernel_rfl) (by kernel_rfl) (by kernel_rfl) (by kernel_rfl)) ?_
  intro W base args ds gs before hval0 hW hcnd _
  have hval : ∀ (j : Nat) t v, Try.f6.params[j]? = some t → args[j]? = some v → Value.okWide Try.prog W .any base t v := hval0
  have hW' := hW
  obtain ⟨p, q, hA0, hV, rfl, hfz, hnd⟩ := hW
  have hA : DataW.TrodAll enc Try.prog W 0 (fun _ => true) true Try.f6.params.toList args.toList ds p := hA0
  rw [Try.params6] at hA hval
  obtain ⟨v0, vs0, d0, ds0, p0, q0, hargs, rfl, rfl, h0, r0⟩ := trodAll_cons hA
  obtain ⟨rfl, rfl, rfl⟩ := trodAll_nil r0
  obtain rfl : args = #[v0] := by cases args; simp_all
  obtain ⟨rfl, rfl⟩ := trodVars_none hV
  have k0 := h0
  have lt0 : ∀ x ∈ p0, x.block < W.heap.size := by obtain ⟨m, hm⟩ := k0; exact DataW.trod_lt m _ _ _ hm
  obtain ⟨s0, pp0, qq0, rr0, cc0, dd0, ee0, rfl, w0⟩ := open_segment (hval 0 48 v0 rfl rfl) h0
  clear hA0 hval0
  refine (walk s0 pp0 qq0 rr0 cc0 dd0 ee0 W w0).mono fun e W' ⟨he, bel⟩ => ?_
  subst he
  exact ⟨_, rfl, _, _, _, [], _, [], hW', trodAll_mk1 (shut_bool Try.underlying4 _), (trodAll_cons_mk (Below.trod laidOut (by kernel_rfl) (of_decide_eq_true (by kernel_rfl)) k0 bel lt0) trodAll_mk0), rfl, bel.frame _, fun h => by cases h⟩

/-- The statement. -/
theorem proved : Rows.FnExactHoldersSaid :=
  OpenClaim.holds_of_wide 6 Try.f6 rfl rfl rfl rfl rfl rfl rfl ⟨rfl, rfl, rfl, rfl, rfl⟩ rfl rfl rfl rfl rfl (by kernel_rfl) Try.func6 (by kernel_rfl)
    (of_decide_eq_true (by kernel_rfl)) (by unfold Func.isWrapper; first | (rw [if_pos (by decide +kernel)]; kernel_rfl) | (rw [if_neg (by decide +kernel)]; exact ⟨rfl, rfl⟩))
    (fun os started H enc _ => lifted os started H enc)
#print axioms proved
end Go.Proofs.Ytggdjiijcoklgaa.fnExactHolders
