/- MasterTick: at every argument the program answers as the model, every field; it writes into no argument and its answer owns its memory; no condition. -/
import Derived.Test.YtghchcipobcpjaaRows
import Derived.Test.YtghchcipobcpjaaQtTickP
import Derived.Test.YtghchcipobcpjaaQtSpT
import Derived.Test.YtghchcipobcpjaaQtMoL
import Derived.Test.YtghchcipobcpjaaQtMstL
import Derived.Test.YtghchcipobcpjaaQtLoadS
import Derived.Test.YtghchcipobcpjaaQtTail
import Derived.Test.YtghchcipobcpjaaQtTabIn
import Derived.WalkKit
import Derived.WalkSpells
import Derived.ProofKit
import Derived.OpenShut
import Derived.ShutString
import Derived.ChangeOld
import Derived.Below
import Derived.Outline
import Derived.Deep.RegionHeld3
import Derived.Deep.RegionWith
import Derived.Deep.DeepCutAuto
import Derived.Lib.SmallJoins
import Derived.Carry
namespace Go.Proofs.Ytghchcipobcpjaa.fnExactMasterTick
open Go.ChangeShapes Go.WideShapes Go.ChangeAt Go.RowKit
open Go.ChangeMaps (open_string shut_string)
set_option linter.unusedVariables false
set_option linter.unusedSimpArgs false

theorem own : ownKnob Try.prog.godebug = none := by kernel_rfl
theorem laidOut : laidOutB Try.prog = true := by kernel_rfl

set_option maxRecDepth 100000 in
set_option maxHeartbeats 1600000 in
/-- The walk: the law returns true, and nothing that was there has turned. -/
theorem walk (s0 : Mst) (p0 q0 : Option Addr) (c0 d0 : Nat) (w : World) (w0 : InW w p0 s0.op ∧ InD w q0 s0.dn ∧ ∀ x ∈ s0.dn, (Lit.int .i64 x.i).wf = true) :
    Calls Try.prog 4 #[.agg #[.int .i64 s0.nx, .slice p0 s0.op.length c0, .slice q0 s0.dn.length d0]] w fun e w' => e = .returned (.bool true) ∧ Below w.heap.size w w' := by
  obtain ⟨i1, i2, i3⟩ := w0
  have hX : Hid _ := heap_alloc_new w (.cells #[.int .i64 s0.nx, .slice p0 s0.op.length c0, .slice q0 s0.dn.length d0] 25)
  have hA0 := all_alloc w (.cells #[.int .i64 s0.nx, .slice p0 s0.op.length c0, .slice q0 s0.dn.length d0] 25)
  have HSZ : Hid (∀ W, Below w.heap.size w W → Calls Try.prog 5 #[.agg #[.int .i64 s0.nx, .slice p0 s0.op.length c0, .slice q0 s0.dn.length d0], .int .i64 1048576] W fun x w' => x = .returned (.int .i64 (if s0.tot ≤ 1048576 then 1048576 - s0.tot else -1)) ∧ Below W.heap.size W w') := fun W hW => szMaster_any s0 p0 q0 c0 d0 W (i1.below hW) (i2.below hW)
  by_cases hle : s0.tot ≤ 1048576
  case neg =>
    rw [if_neg hle] at HSZ
    clear hle i1 i2 i3
    go_enter Try.func4, Try.ntmps4
    go_upto_region 1 with fail
    generalize w.alloc (.cells #[.int .i64 s0.nx, .slice p0 s0.op.length c0, .slice q0 s0.dn.length d0] 25) = A at hX hA0 ⊢
    go_wp2_with (first
      | (refine wpList_load_rowG (by first | rfl | (simp only [Region.wanted, yielded, hkd]; rfl)) 25 (.tmp 1) rfl w.heap.size rfl _ _ _ _ hX.out Try.underlying25 rfl (by kernel_rfl) ?_)
      | (go_at_call 5; refine (HSZ.out _ hA0).mono ?_; rintro e v1 ⟨rfl, hb1⟩))
    go_ret
    exact ⟨rfl, keepB hA0 (Nat.le_refl _) hb1⟩
  rw [if_pos hle] at HSZ
  have h3 : ¬ (1048576 : Int) - s0.tot < 0 := by omega
  have qq1 := csum_pos Wt.sz s0.op
  have qq3 := csum_pos Dn.sz s0.dn
  have hbl : s0.op.length ≤ 1048576 ∧ s0.dn.length ≤ 1048576 := by unfold Mst.tot at hle; omega
  have HTO : Hid (∀ W, Below w.heap.size w W → Calls Try.prog 7 #[.agg #[.int .i64 s0.nx, .slice p0 s0.op.length c0, .slice q0 s0.dn.length d0]] W fun x w' => ∃ v1 v2, x = .returned (.agg #[.int .i64 s0.nx, v1, v2]) ∧ OwnMst w' W.heap.size w'.heap.size v1 v2 s0 ∧ Below W.heap.size W w') := fun W hW => toMaster_any s0 p0 q0 c0 d0 W hle (i1.below hW) (i2.below hW)
  have HE : Hid (∀ (W : World) (v1 v2 x1 x2 : Value), RowMst W v1 v2 s0 → RowMst W x1 x2 s0 → Calls Try.prog 10 #[.agg #[.int .i64 s0.nx, v1, v2], .agg #[.int .i64 s0.nx, x1, x2]] W fun x w' => x = .returned (.bool true) ∧ Below W.heap.size W w') := fun W v1 v2 x1 x2 h1 h2 => eqMaster_same s0 v1 v2 x1 x2 W hle h1 h2
  have HS : Hid (∀ (W : World) (v1 v2 : Value), RowMst W v1 v2 s0 → Calls Try.prog 14 #[.agg #[.int .i64 s0.nx, v1, v2]] W fun e w' => ∃ u1 u2 u3, e = .returned (.agg #[.int .i64 (tickM s0).m.nx, u1, u2, u3, .int .i64 (tickM s0).id, .int .i64 (tickM s0).co]) ∧ OwnMo w' W.heap.size w'.heap.size u1 u2 u3 (tickM s0) ∧ Below W.heap.size W w') := fun W v1 v2 h => specMasterTick_any s0 v1 v2 W hle h
  have HI : Hid (∀ (W : World) (v1 v2 : Value), RowMst W v1 v2 s0 → Calls Try.prog 15 #[.agg #[.int .i64 s0.nx, v1, v2]] W fun e w' => ∃ u1 u2 u3, e = .returned (.agg #[.int .i64 (tickM s0).m.nx, u1, u2, u3, .int .i64 (tickM s0).id, .int .i64 (tickM s0).co]) ∧ OwnMo w' W.heap.size w'.heap.size u1 u2 u3 (tickM s0) ∧ Below W.heap.size W w') := fun W v1 v2 h => masterTick_any s0 v1 v2 W hle i3 h
  have HMK : Hid (∀ (W : World) (B T : Nat) (v1 v2 : Value), OwnMst W B T v1 v2 s0 → Calls Try.prog 11 #[.agg #[.int .i64 s0.nx, v1, v2], .int .i64 1] W fun e w' => (∃ K : Int, 1 ≤ K ∧ e = .returned (.int .i64 K)) ∧ OnlyR W w' B T) := fun W B T v1 v2 h => by
    obtain ⟨m, a, b, o1, o2⟩ := h.all
    exact (markMaster_at s0 B m m T v1 v2 W hbl.1 hbl.2 (.inl (Nat.le_refl _)) o1 o2).mono fun e w' hh => ⟨⟨_, by omega, hh.1⟩, hh.2.2.2.only (fun k hk => by omega)⟩
  obtain ⟨hm1, hm2, hm3, hm4⟩ := tickM_small s0
  generalize tickM s0 = M at HS HI hm1 hm2 hm3 hm4
  have HEO : Hid (∀ (W : World) (v1 v2 v3 x1 x2 x3 : Value), RowMo W v1 v2 v3 M → RowMo W x1 x2 x3 M → Calls Try.prog 9 #[.agg #[.int .i64 M.m.nx, v1, v2, v3, .int .i64 M.id, .int .i64 M.co], .agg #[.int .i64 M.m.nx, x1, x2, x3, .int .i64 M.id, .int .i64 M.co]] W fun e w' => e = .returned (.bool true) ∧ Below W.heap.size W w') := fun W v1 v2 v3 x1 x2 x3 h1 h2 => eqMasterOut_same M v1 v2 v3 x1 x2 x3 W (by omega) ⟨by omega, by omega, by omega⟩ h1 h2 (fun W' hW' => eqMaster_same M.m v1 v2 x1 x2 W' (by omega) (h1.m.below hW') (h2.m.below hW'))
  have HMO : Hid (∀ (W : World) (B T : Nat) (v1 v2 v3 : Value), OwnMo W B T v1 v2 v3 M → Calls Try.prog 12 #[.agg #[.int .i64 M.m.nx, v1, v2, v3, .int .i64 M.id, .int .i64 M.co], .int .i64 1] W fun e w' => e = .returned (.int .i64 (1 + 4 * (M.m.op.length : Int) + 2 * (M.m.dn.length : Int) + (M.se.length : Int))) ∧ OwnMo w' B T v1 v2 v3 M.mark ∧ OnlyR W w' B T) := fun W B T v1 v2 v3 h => markMasterOut_at M B T v1 v2 v3 W (by omega) (by omega) (by omega) h
  have HHO : Hid (∀ (W : World) (v1 v2 v3 : Value), RowMo W v1 v2 v3 M.mark → Calls Try.prog 13 #[.agg #[.int .i64 M.m.nx, v1, v2, v3, .int .i64 M.id, .int .i64 M.co], .int .i64 1] W fun e w' => e = .returned (.int .i64 (1 + 4 * (M.m.op.length : Int) + 2 * (M.m.dn.length : Int) + (M.se.length : Int))) ∧ Below W.heap.size W w') := fun W v1 v2 v3 h => heldMasterOut_at M v1 v2 v3 W (by omega) (by omega) (by omega) h
  generalize M.mark = MM at HMO HHO
  obtain ⟨PN, ePN⟩ : ∃ PN, 1 + 4 * (M.m.op.length : Int) + 2 * (M.m.dn.length : Int) + (M.se.length : Int) = PN := ⟨_, rfl⟩
  rw [ePN] at HMO HHO
  have hp0 : ¬ PN < 0 := by omega
  have hp1 : (PN != PN) = false := by simp
  clear ePN hm1 hm2 hm3 hm4 qq1 qq3 hbl i1 i2 i3 hle
  go_enter Try.func4, Try.ntmps4
  go_upto_region 1 with fail
  have zA0 : (w.alloc (.cells #[.int .i64 s0.nx, .slice p0 s0.op.length c0, .slice q0 s0.dn.length d0] 25)).heap.size = w.heap.size + 1 := by simp
  generalize w.alloc (.cells #[.int .i64 s0.nx, .slice p0 s0.op.length c0, .slice q0 s0.dn.length d0] 25) = A at hX hA0 zA0 ⊢
  have zA : w.heap.size + 1 ≤ A.heap.size := by omega
  clear zA0
  have hg := hA0
  go_upto_region 5 with (first
    | (refine wpList_load_rowG (by first | rfl | (simp only [Region.wanted, yielded, hkd]; rfl)) 25 (.tmp 1) rfl w.heap.size rfl _ _ _ _ hX.out Try.underlying25 rfl (by kernel_rfl) ?_)
    | (go_at_call 5; refine (HSZ.out _ hA0).mono ?_; rintro e v1 ⟨rfl, hb1⟩))
  have z_v1 : A.heap.size ≤ v1.heap.size := hb1.size
  replace hX : Hid _ := blk hX.out hb1
  replace hg : Below w.heap.size w v1 := keepB hg (Nat.le_refl _) hb1
  go_upto_region 6 with (first
    | (refine wpList_load_rowG (by first | rfl | (simp only [Region.wanted, yielded, hkd]; rfl)) 25 (.tmp 1) rfl w.heap.size rfl _ _ _ _ hX.out Try.underlying25 rfl (by kernel_rfl) ?_)
    | (go_at_call 7; refine (HTO.out _ hg).mono ?_; rintro e v2 ⟨y1, y2, rfl, own2, hb2⟩)
    | (go_at_call 14; refine (HS.out _ _ _ own2.row).mono ?_; rintro e v4 ⟨y5, y6, y7, rfl, own4, hb4⟩; obtain ⟨⟨⟨p5, c5, rfl, _⟩, ⟨q5, d5, rfl, _⟩⟩, bb5, hs5⟩ := own4.row; obtain ⟨r5, e5, rfl⟩ := OwnSr.shape hs5; clear hs5)
    | (refine wpList_store_row rfl 33 (.tmp 4) (.tmp 18) rfl v4.heap.size #[.int .i64 M.m.nx, .slice p5 M.m.op.length c5, .slice q5 M.m.dn.length d5, .slice r5 M.se.length e5, .int .i64 M.id, .int .i64 M.co] rfl rfl _ _ (heap_alloc_new v4 _) (by kernel_rfl) rfl (by simp [Value.oneCell']) ?_))
  clear own2
  have z_v2 : v1.heap.size ≤ v2.heap.size := hb2.size
  replace hX : Hid _ := blk hX.out hb2
  replace hg : Below w.heap.size w v2 := keepB hg (Nat.le_refl _) hb2
  have z_v4 : v2.heap.size ≤ v4.heap.size := hb4.size
  replace hX : Hid _ := blk hX.out hb4
  replace hg : Below w.heap.size w v4 := keepB hg (Nat.le_refl _) hb4
  have h6 : Hid _ := setRow_heap _ v4.heap.size _ #[.int .i64 M.m.nx, .slice p5 M.m.op.length c5, .slice q5 M.m.dn.length d5, .slice r5 M.se.length e5, .int .i64 M.id, .int .i64 M.co] _ _ (heap_alloc_new v4 (.cells #[.int .i64 0, .slice none 0 0, .slice none 0 0, .slice none 0 0, .int .i64 0, .int .i64 0] 33))
  have hb5 : Below v4.heap.size v4 ((v4.alloc (.cells #[.int .i64 0, .slice none 0 0, .slice none 0 0, .slice none 0 0, .int .i64 0, .int .i64 0] 33)).setRow v4.heap.size #[.int .i64 M.m.nx, .slice p5 M.m.op.length c5, .slice q5 M.m.dn.length d5, .slice r5 M.se.length e5, .int .i64 M.id, .int .i64 M.co]) := rcRow_fresh _ _ _
  generalize ((v4.alloc (.cells #[.int .i64 0, .slice none 0 0, .slice none 0 0, .slice none 0 0, .int .i64 0, .int .i64 0] 33)).setRow v4.heap.size #[.int .i64 M.m.nx, .slice p5 M.m.op.length c5, .slice q5 M.m.dn.length d5, .slice r5 M.se.length e5, .int .i64 M.id, .int .i64 M.co]) = v5 at h6 hb5 ⊢
  have zz_v5 : v4.heap.size < v5.heap.size := (Array.getElem?_eq_some_iff.1 h6.out).1
  have oW : Hid (OwnMo v4 v2.heap.size v4.heap.size _ _ _ M) := own4
  clear own4
  have z_v5 : v4.heap.size ≤ v5.heap.size := hb5.size
  replace hX : Hid _ := blk hX.out hb5
  replace oW : Hid (OwnMo v5 v2.heap.size v4.heap.size _ _ _ M) := oW.out.below hb5
  replace hg : Below w.heap.size w v5 := keepB hg (Nat.le_refl _) hb5
  go_upto_region 7 with (first
    | (refine wpList_load_rowG (by first | rfl | (simp only [Region.wanted, yielded, hkd]; rfl)) 25 (.tmp 1) rfl w.heap.size rfl _ _ _ _ hX.out Try.underlying25 rfl (by kernel_rfl) ?_)
    | (go_at_call 7; refine (HTO.out _ hg).mono ?_; rintro e v6 ⟨y1, y2, rfl, own6, hb6⟩; obtain ⟨⟨p6, c6, rfl, _⟩, ⟨q6, d6, rfl, _⟩⟩ := own6.row)
    | (refine wpList_store_row rfl 30 (.tmp 5) (.tmp 20) rfl v6.heap.size #[.int .i64 s0.nx, .slice p6 s0.op.length c6, .slice q6 s0.dn.length d6] rfl rfl _ _ (heap_alloc_new v6 _) (by kernel_rfl) rfl (by simp [Value.oneCell']) ?_))
  have z_v6 : v5.heap.size ≤ v6.heap.size := hb6.size
  replace hX : Hid _ := blk hX.out hb6
  replace h6 : Hid _ := blk h6.out hb6
  replace oW : Hid (OwnMo v6 v2.heap.size v4.heap.size _ _ _ M) := oW.out.below hb6
  replace hg : Below w.heap.size w v6 := keepB hg (Nat.le_refl _) hb6
  have h7 : Hid _ := setRow_heap _ v6.heap.size _ #[.int .i64 s0.nx, .slice p6 s0.op.length c6, .slice q6 s0.dn.length d6] _ _ (heap_alloc_new v6 (.cells #[.int .i64 0, .slice none 0 0, .slice none 0 0] 30))
  have hb7 : Below v6.heap.size v6 ((v6.alloc (.cells #[.int .i64 0, .slice none 0 0, .slice none 0 0] 30)).setRow v6.heap.size #[.int .i64 s0.nx, .slice p6 s0.op.length c6, .slice q6 s0.dn.length d6]) := rcRow_fresh _ _ _
  generalize ((v6.alloc (.cells #[.int .i64 0, .slice none 0 0, .slice none 0 0] 30)).setRow v6.heap.size #[.int .i64 s0.nx, .slice p6 s0.op.length c6, .slice q6 s0.dn.length d6]) = v7 at h7 hb7 ⊢
  have zz_v7 : v6.heap.size < v7.heap.size := (Array.getElem?_eq_some_iff.1 h7.out).1
  have o7 : Hid (OwnMst v6 v5.heap.size v6.heap.size _ _ s0) := own6
  clear own6
  have z_v7 : v6.heap.size ≤ v7.heap.size := hb7.size
  replace hX : Hid _ := blk hX.out hb7
  replace h6 : Hid _ := blk h6.out hb7
  replace oW : Hid (OwnMo v7 v2.heap.size v4.heap.size _ _ _ M) := oW.out.below hb7
  replace o7 : Hid (OwnMst v7 v5.heap.size v6.heap.size _ _ s0) := o7.out.below hb7
  replace hg : Below w.heap.size w v7 := keepB hg (Nat.le_refl _) hb7
  go_upto_region 8 with (first
    | (refine wpList_load_rowG (by first | rfl | (simp only [Region.wanted, yielded, hkd]; rfl) | simp [Region.wanted, yielded, hk0, hkd]) 30 (.tmp 5) rfl v6.heap.size rfl _ _ _ _ h7.out Try.underlying30 rfl (by kernel_rfl) ?_)
    | (go_at_call 15; refine (HI.out _ _ _ o7.out.row).mono ?_; rintro e v9 ⟨y1, y2, y3, rfl, own9, hb9⟩; obtain ⟨⟨⟨p9, c9, rfl, _⟩, ⟨q9, d9, rfl, _⟩⟩, bb9, hs9⟩ := own9.row; obtain ⟨r9, e9, rfl⟩ := OwnSr.shape hs9; clear hs9)
    | (refine wpList_store_row rfl 33 (.tmp 6) (.tmp 22) rfl v9.heap.size #[.int .i64 M.m.nx, .slice p9 M.m.op.length c9, .slice q9 M.m.dn.length d9, .slice r9 M.se.length e9, .int .i64 M.id, .int .i64 M.co] rfl rfl _ _ (heap_alloc_new v9 _) (by kernel_rfl) rfl (by simp [Value.oneCell']) ?_))
  have z_v9 : v7.heap.size ≤ v9.heap.size := hb9.size
  replace hX : Hid _ := blk hX.out hb9
  replace h6 : Hid _ := blk h6.out hb9
  replace h7 : Hid _ := blk h7.out hb9
  replace oW : Hid (OwnMo v9 v2.heap.size v4.heap.size _ _ _ M) := oW.out.below hb9
  replace o7 : Hid (OwnMst v9 v5.heap.size v6.heap.size _ _ s0) := o7.out.below hb9
  replace hg : Below w.heap.size w v9 := keepB hg (Nat.le_refl _) hb9
  have h9 : Hid _ := setRow_heap _ v9.heap.size _ #[.int .i64 M.m.nx, .slice p9 M.m.op.length c9, .slice q9 M.m.dn.length d9, .slice r9 M.se.length e9, .int .i64 M.id, .int .i64 M.co] _ _ (heap_alloc_new v9 (.cells #[.int .i64 0, .slice none 0 0, .slice none 0 0, .slice none 0 0, .int .i64 0, .int .i64 0] 33))
  have hb10 : Below v9.heap.size v9 ((v9.alloc (.cells #[.int .i64 0, .slice none 0 0, .slice none 0 0, .slice none 0 0, .int .i64 0, .int .i64 0] 33)).setRow v9.heap.size #[.int .i64 M.m.nx, .slice p9 M.m.op.length c9, .slice q9 M.m.dn.length d9, .slice r9 M.se.length e9, .int .i64 M.id, .int .i64 M.co]) := rcRow_fresh _ _ _
  generalize ((v9.alloc (.cells #[.int .i64 0, .slice none 0 0, .slice none 0 0, .slice none 0 0, .int .i64 0, .int .i64 0] 33)).setRow v9.heap.size #[.int .i64 M.m.nx, .slice p9 M.m.op.length c9, .slice q9 M.m.dn.length d9, .slice r9 M.se.length e9, .int .i64 M.id, .int .i64 M.co]) = v10 at h9 hb10 ⊢
  have zz_v10 : v9.heap.size < v10.heap.size := (Array.getElem?_eq_some_iff.1 h9.out).1
  have oG : Hid (OwnMo v9 v7.heap.size v9.heap.size _ _ _ M) := own9
  clear own9
  have z_v10 : v9.heap.size ≤ v10.heap.size := hb10.size
  replace hX : Hid _ := blk hX.out hb10
  replace h6 : Hid _ := blk h6.out hb10
  replace h7 : Hid _ := blk h7.out hb10
  replace oW : Hid (OwnMo v10 v2.heap.size v4.heap.size _ _ _ M) := oW.out.below hb10
  replace o7 : Hid (OwnMst v10 v5.heap.size v6.heap.size _ _ s0) := o7.out.below hb10
  replace oG : Hid (OwnMo v10 v7.heap.size v9.heap.size _ _ _ M) := oG.out.below hb10
  replace hg : Below w.heap.size w v10 := keepB hg (Nat.le_refl _) hb10
  go_upto_region 10 with (first
    | (refine wpList_load_rowG (by first | rfl | (simp only [Region.wanted, yielded, hkd]; rfl) | simp [Region.wanted, yielded, hk0, hkd]) 33 (.tmp 6) rfl v9.heap.size rfl _ _ _ _ h9.out Try.underlying33 rfl (by kernel_rfl) ?_)
    | (refine wpList_load_rowG (by first | rfl | (simp only [Region.wanted, yielded, hkd]; rfl) | simp [Region.wanted, yielded, hk0, hkd]) 33 (.tmp 4) rfl v4.heap.size rfl _ _ _ _ h6.out Try.underlying33 rfl (by kernel_rfl) ?_)
    | (go_at_call 9; refine (HEO.out _ _ _ _ _ _ _ oG.out.row oW.out.row).mono ?_; rintro e v11 ⟨rfl, hb11⟩))
  have z_v11 : v10.heap.size ≤ v11.heap.size := hb11.size
  replace hX : Hid _ := blk hX.out hb11
  replace h6 : Hid _ := blk h6.out hb11
  replace h7 : Hid _ := blk h7.out hb11
  replace h9 : Hid _ := blk h9.out hb11
  replace oW : Hid (OwnMo v11 v2.heap.size v4.heap.size _ _ _ M) := oW.out.below hb11
  replace o7 : Hid (OwnMst v11 v5.heap.size v6.heap.size _ _ s0) := o7.out.below hb11
  replace oG : Hid (OwnMo v11 v7.heap.size v9.heap.size _ _ _ M) := oG.out.below hb11
  replace hg : Below w.heap.size w v11 := keepB hg (Nat.le_refl _) hb11
  have hR : Below v11.heap.size v11 v11.drew := Below.drew (Below.refl _ _)
  refine wp_region_held_drew (S := (fun w' => Below v11.heap.size v11 w')) (by kernel_rfl) ?_ (fun hHeld => ?_)
  · (try dsimp only); exact hR
  refine yieldH (i := 0) (v := .agg #[.int .i64 s0.nx, .slice p6 s0.op.length c6, .slice q6 s0.dn.length d6]) rfl (by kernel_rfl) (by kernel_rfl) (by kernel_rfl) (fun _ _ _ h => h) (by rfl) (fun W hW => exec_load_row 30 (.tmp 5) rfl v6.heap.size rfl _ _ _ _ (blk h7.out hW) Try.underlying30 rfl (by kernel_rfl)) (by assumption) ?_
  try simp only [Act.put, List.setIfInBounds_toArray, List.set_cons_zero, List.set_cons_succ, List.getElem_toArray, List.getElem_cons_succ, List.getElem_cons_zero]
  refine yieldH (i := 1) (v := .agg #[.int .i64 s0.nx, .slice p0 s0.op.length c0, .slice q0 s0.dn.length d0]) rfl (by kernel_rfl) (by kernel_rfl) (by kernel_rfl) (fun _ _ _ h => h) (by rfl) (fun W hW => exec_load_row 25 (.tmp 1) rfl w.heap.size rfl _ _ _ _ (blk hX.out hW) Try.underlying25 rfl (by kernel_rfl)) (by assumption) ?_
  try simp only [Act.put, List.setIfInBounds_toArray, List.set_cons_zero, List.set_cons_succ, List.getElem_toArray, List.getElem_cons_succ, List.getElem_cons_zero]
  refine wpAnyH_ready (rs := [2]) (by kernel_rfl) (by simp) ?_
  refine AllReadyH.cons rfl (fun K hK => ?_) AllReadyH.nil
  go_simp
  go_at_call 7; refine (HTO.out _ (keepB hg (Nat.le_refl _) hR)).mono ?_; rintro e7 v12 ⟨y1, y2, rfl, own12, hb12⟩; have t7 : Below v11.heap.size v11 v12 := keepB hR (Nat.le_refl _) hb12
  dsimp only
  refine hK.out _ _ ?_ (fun hHeld => ?_)
  · (try dsimp only); exact t7
  clear hK K
  try simp only [Act.put, List.setIfInBounds_toArray, List.set_cons_zero, List.set_cons_succ, List.getElem_toArray, List.getElem_cons_succ, List.getElem_cons_zero]
  refine wpAnyH_ready (rs := [3]) (by kernel_rfl) (by simp) ?_
  refine AllReadyH.cons rfl (fun K hK => ?_) AllReadyH.nil
  go_simp
  go_at_call 10; refine (HE.out _ _ _ _ _ (o7.out.row.below t7) own12.row).mono ?_; rintro e8 v13 ⟨rfl, hb8'⟩; have t8 : Below v11.heap.size v11 v13 := keepB t7 (Nat.le_refl _) hb8'
  dsimp only
  refine hK.out _ _ ?_ (fun hHeld => ?_)
  · (try dsimp only); exact t8
  clear hK K
  try simp only [Act.put, List.setIfInBounds_toArray, List.set_cons_zero, List.set_cons_succ, List.getElem_toArray, List.getElem_cons_succ, List.getElem_cons_zero]
  first
    | (refine skipH (i := 4) rfl (by kernel_rfl) (by kernel_rfl) (by kernel_rfl) (fun _ _ _ h => h) (by rfl) (by assumption) ?_; try simp only [Act.put, List.setIfInBounds_toArray, List.set_cons_zero, List.set_cons_succ, List.getElem_toArray, List.getElem_cons_succ, List.getElem_cons_zero])
    | (refine yieldH (i := 4) (v := ?_) rfl (by kernel_rfl) (by kernel_rfl) (by kernel_rfl) (fun _ _ _ h => h) (by rfl) ?_ (by assumption) ?_; rotate_left; (intro w hSw; (try dsimp only at hSw); go_simp; (try with_reducible rfl)); try simp only [Act.put, List.setIfInBounds_toArray, List.set_cons_zero, List.set_cons_succ, List.getElem_toArray, List.getElem_cons_succ, List.getElem_cons_zero])
    | fail
  refine wpAnyH_done (by kernel_rfl) ?_ _
  go_upto_region 12 with fail
  have z_v13 : v11.heap.size ≤ v13.heap.size := t8.size
  replace hX : Hid _ := blk hX.out t8
  replace h6 : Hid _ := blk h6.out t8
  replace h7 : Hid _ := blk h7.out t8
  replace h9 : Hid _ := blk h9.out t8
  replace oW : Hid (OwnMo v13 v2.heap.size v4.heap.size _ _ _ M) := oW.out.below t8
  replace o7 : Hid (OwnMst v13 v5.heap.size v6.heap.size _ _ s0) := o7.out.below t8
  replace oG : Hid (OwnMo v13 v7.heap.size v9.heap.size _ _ _ M) := oG.out.below t8
  replace hg : Below w.heap.size w v13 := keepB hg (Nat.le_refl _) t8
  go_upto_region 14 with (first
    | (refine wpList_load_rowG (by first | rfl | (simp only [Region.wanted, yielded, hkd]; rfl) | simp [Region.wanted, yielded, hk0, hkd]) 30 (.tmp 5) rfl v6.heap.size rfl _ _ _ _ h7.out Try.underlying30 rfl (by kernel_rfl) ?_)
    | (go_at_call 11; refine (HMK.out _ _ _ _ _ o7.out).mono ?_; rintro e v16 ⟨⟨KK, hkk, rfl⟩, y16⟩))
  clear o7
  clear h7
  have z_v16 : v13.heap.size ≤ v16.heap.size := y16.size
  replace hX : Hid _ := (y16.block (w.heap.size) (by omega) (by omega)).trans hX.out
  replace h6 : Hid _ := (y16.block (v4.heap.size) (by omega) (by omega)).trans h6.out
  replace h9 : Hid _ := (y16.block (v9.heap.size) (by omega) (by omega)).trans h9.out
  replace oW : Hid (OwnMo v16 v2.heap.size v4.heap.size _ _ _ M) := oW.out.same (y16.same (by omega) (by omega)) y16.size
  replace oG : Hid (OwnMo v16 v7.heap.size v9.heap.size _ _ _ M) := oG.out.same (y16.same (by omega) (by omega)) y16.size
  replace hg : Below w.heap.size w v16 := hg.trans (y16.frame (by omega) (by omega))
  have hk0 : ¬ KK < 0 := by omega
  have hkd : decide (KK < 0) = false := decide_eq_false hk0
  go_upto_region 16 with (first
    | (refine wpList_load_rowG (by first | rfl | (simp only [Region.wanted, yielded, hkd]; rfl) | simp [Region.wanted, yielded, hk0, hkd]) 33 (.tmp 6) rfl v9.heap.size rfl _ _ _ _ h9.out Try.underlying33 rfl (by kernel_rfl) ?_)
    | (refine wpList_load_rowG (by first | rfl | (simp only [Region.wanted, yielded, hkd]; rfl) | simp [Region.wanted, yielded, hk0, hkd]) 33 (.tmp 4) rfl v4.heap.size rfl _ _ _ _ h6.out Try.underlying33 rfl (by kernel_rfl) ?_)
    | (go_at_call 9; refine (HEO.out _ _ _ _ _ _ _ oG.out.row oW.out.row).mono ?_; rintro e v18 ⟨rfl, hb18⟩))
  have z_v18 : v16.heap.size ≤ v18.heap.size := hb18.size
  replace hX : Hid _ := blk hX.out hb18
  replace h6 : Hid _ := blk h6.out hb18
  replace h9 : Hid _ := blk h9.out hb18
  replace oW : Hid (OwnMo v18 v2.heap.size v4.heap.size _ _ _ M) := oW.out.below hb18
  replace oG : Hid (OwnMo v18 v7.heap.size v9.heap.size _ _ _ M) := oG.out.below hb18
  replace hg : Below w.heap.size w v18 := keepB hg (Nat.le_refl _) hb18
  go_upto_region 18 with (first
    | (refine wpList_load_rowG (by first | rfl | (simp only [Region.wanted, yielded, hkd]; rfl) | simp [Region.wanted, yielded, hk0, hkd]) 33 (.tmp 6) rfl v9.heap.size rfl _ _ _ _ h9.out Try.underlying33 rfl (by kernel_rfl) ?_)
    | (go_at_call 12; refine (HMO.out _ _ _ _ _ _ oG.out).mono ?_; rintro e v19 ⟨rfl, oM0, y19⟩))
  clear oG
  have z_v19 : v18.heap.size ≤ v19.heap.size := y19.size
  replace hX : Hid _ := (y19.block (w.heap.size) (by omega) (by omega)).trans hX.out
  replace h6 : Hid _ := (y19.block (v4.heap.size) (by omega) (by omega)).trans h6.out
  replace h9 : Hid _ := (y19.block (v9.heap.size) (by omega) (by omega)).trans h9.out
  replace oW : Hid (OwnMo v19 v2.heap.size v4.heap.size _ _ _ M) := oW.out.same (y19.same (by omega) (by omega)) y19.size
  replace hg : Below w.heap.size w v19 := hg.trans (y19.frame (by omega) (by omega))
  have oM : Hid (OwnMo v19 v7.heap.size v9.heap.size _ _ _ MM) := oM0
  clear oM0
  go_upto_region 24 with (first
    | (refine wpList_load_rowG (by first | rfl | (simp only [Region.wanted, yielded, hkd]; rfl) | simp [Region.wanted, yielded, hk0, hkd]) 33 (.tmp 6) rfl v9.heap.size rfl _ _ _ _ h9.out Try.underlying33 rfl (by kernel_rfl) ?_)
    | (go_at_call 13; refine (HHO.out _ _ _ _ oM.out.row).mono ?_; rintro e v20 ⟨rfl, hb20⟩))
  have z_v20 : v19.heap.size ≤ v20.heap.size := hb20.size
  replace hX : Hid _ := blk hX.out hb20
  replace h6 : Hid _ := blk h6.out hb20
  replace h9 : Hid _ := blk h9.out hb20
  replace oW : Hid (OwnMo v20 v2.heap.size v4.heap.size _ _ _ M) := oW.out.below hb20
  replace oM : Hid (OwnMo v20 v7.heap.size v9.heap.size _ _ _ MM) := oM.out.below hb20
  replace hg : Below w.heap.size w v20 := keepB hg (Nat.le_refl _) hb20
  go_upto_region 25 with (first
    | (refine wpList_load_rowG (by first | rfl | (simp only [Region.wanted, yielded, hkd]; rfl)) 25 (.tmp 1) rfl w.heap.size rfl _ _ _ _ hX.out Try.underlying25 rfl (by kernel_rfl) ?_)
    | (go_at_call 7; refine (HTO.out _ hg).mono ?_; rintro e v21 ⟨y1, y2, rfl, own21, hb21⟩)
    | (go_at_call 15; refine (HI.out _ _ _ own21.row).mono ?_; rintro e v23 ⟨y5, y6, y7, rfl, own23, hb23⟩; obtain ⟨⟨⟨p13, c13, rfl, _⟩, ⟨q13, d13, rfl, _⟩⟩, bb13, hs13⟩ := own23.row; obtain ⟨r13, e13, rfl⟩ := OwnSr.shape hs13; clear hs13)
    | (refine wpList_store_row rfl 33 (.tmp 10) (.tmp 56) rfl v23.heap.size #[.int .i64 M.m.nx, .slice p13 M.m.op.length c13, .slice q13 M.m.dn.length d13, .slice r13 M.se.length e13, .int .i64 M.id, .int .i64 M.co] rfl rfl _ _ (heap_alloc_new v23 _) (by kernel_rfl) rfl (by simp [Value.oneCell']) ?_))
  clear own21
  have z_v21 : v20.heap.size ≤ v21.heap.size := hb21.size
  replace hX : Hid _ := blk hX.out hb21
  replace h6 : Hid _ := blk h6.out hb21
  replace h9 : Hid _ := blk h9.out hb21
  replace oW : Hid (OwnMo v21 v2.heap.size v4.heap.size _ _ _ M) := oW.out.below hb21
  replace oM : Hid (OwnMo v21 v7.heap.size v9.heap.size _ _ _ MM) := oM.out.below hb21
  replace hg : Below w.heap.size w v21 := keepB hg (Nat.le_refl _) hb21
  have z_v23 : v21.heap.size ≤ v23.heap.size := hb23.size
  replace hX : Hid _ := blk hX.out hb23
  replace h6 : Hid _ := blk h6.out hb23
  replace h9 : Hid _ := blk h9.out hb23
  replace oW : Hid (OwnMo v23 v2.heap.size v4.heap.size _ _ _ M) := oW.out.below hb23
  replace oM : Hid (OwnMo v23 v7.heap.size v9.heap.size _ _ _ MM) := oM.out.below hb23
  replace hg : Below w.heap.size w v23 := keepB hg (Nat.le_refl _) hb23
  have h13 : Hid _ := setRow_heap _ v23.heap.size _ #[.int .i64 M.m.nx, .slice p13 M.m.op.length c13, .slice q13 M.m.dn.length d13, .slice r13 M.se.length e13, .int .i64 M.id, .int .i64 M.co] _ _ (heap_alloc_new v23 (.cells #[.int .i64 0, .slice none 0 0, .slice none 0 0, .slice none 0 0, .int .i64 0, .int .i64 0] 33))
  have hb24 : Below v23.heap.size v23 ((v23.alloc (.cells #[.int .i64 0, .slice none 0 0, .slice none 0 0, .slice none 0 0, .int .i64 0, .int .i64 0] 33)).setRow v23.heap.size #[.int .i64 M.m.nx, .slice p13 M.m.op.length c13, .slice q13 M.m.dn.length d13, .slice r13 M.se.length e13, .int .i64 M.id, .int .i64 M.co]) := rcRow_fresh _ _ _
  generalize ((v23.alloc (.cells #[.int .i64 0, .slice none 0 0, .slice none 0 0, .slice none 0 0, .int .i64 0, .int .i64 0] 33)).setRow v23.heap.size #[.int .i64 M.m.nx, .slice p13 M.m.op.length c13, .slice q13 M.m.dn.length d13, .slice r13 M.se.length e13, .int .i64 M.id, .int .i64 M.co]) = v24 at h13 hb24 ⊢
  have zz_v24 : v23.heap.size < v24.heap.size := (Array.getElem?_eq_some_iff.1 h13.out).1
  have oH : Hid (RowMo v24 _ _ _ M) := own23.row.below hb24
  clear own23
  have z_v24 : v23.heap.size ≤ v24.heap.size := hb24.size
  replace hX : Hid _ := blk hX.out hb24
  replace h6 : Hid _ := blk h6.out hb24
  replace h9 : Hid _ := blk h9.out hb24
  replace oW : Hid (OwnMo v24 v2.heap.size v4.heap.size _ _ _ M) := oW.out.below hb24
  replace oM : Hid (OwnMo v24 v7.heap.size v9.heap.size _ _ _ MM) := oM.out.below hb24
  replace hg : Below w.heap.size w v24 := keepB hg (Nat.le_refl _) hb24
  go_upto_region 27 with (first
    | (refine wpList_load_rowG (by first | rfl | (simp only [Region.wanted, yielded, hkd]; rfl) | simp [Region.wanted, yielded, hk0, hkd]) 33 (.tmp 10) rfl v23.heap.size rfl _ _ _ _ h13.out Try.underlying33 rfl (by kernel_rfl) ?_)
    | (refine wpList_load_rowG (by first | rfl | (simp only [Region.wanted, yielded, hkd]; rfl) | simp [Region.wanted, yielded, hk0, hkd]) 33 (.tmp 4) rfl v4.heap.size rfl _ _ _ _ h6.out Try.underlying33 rfl (by kernel_rfl) ?_)
    | (go_at_call 9; refine (HEO.out _ _ _ _ _ _ _ oH.out oW.out.row).mono ?_; rintro e v25 ⟨rfl, hb25⟩))
  have z_v25 : v24.heap.size ≤ v25.heap.size := hb25.size
  replace hX : Hid _ := blk hX.out hb25
  replace h6 : Hid _ := blk h6.out hb25
  replace h9 : Hid _ := blk h9.out hb25
  replace oW : Hid (OwnMo v25 v2.heap.size v4.heap.size _ _ _ M) := oW.out.below hb25
  replace oM : Hid (OwnMo v25 v7.heap.size v9.heap.size _ _ _ MM) := oM.out.below hb25
  replace hg : Below w.heap.size w v25 := keepB hg (Nat.le_refl _) hb25
  go_wp2_with (first
    | (refine wpList_load_rowG (by first | rfl | (simp only [Region.wanted, yielded, hkd]; rfl) | simp [Region.wanted, yielded, hk0, hkd]) 33 (.tmp 6) rfl v9.heap.size rfl _ _ _ _ h9.out Try.underlying33 rfl (by kernel_rfl) ?_)
    | (go_at_call 13; refine (HHO.out _ _ _ _ oM.out.row).mono ?_; rintro e v26 ⟨rfl, hb26⟩))
  go_ret
  exact ⟨rfl, keepB hg (Nat.le_refl _) hb26⟩

set_option maxRecDepth 100000 in
theorem lifted (os : Os) (started : os.Started) (H : Type) (enc : TypeId × Value → H) :
    ReturnsInHanded {} Try.checked os 4 .any (Rows.fnExactMasterTickSpec.pre6 enc Try.prog Try.f4 Rows.fnExactMasterTickRow.domain false) (Rows.fnExactMasterTickSpec.post enc Try.prog Try.f4 false true false false) := by
  refine returnsInHanded_of_change (C := Try.checked) own started (by kernel_rfl) Try.func4
    (ChangeSpec.witness6 (enc := enc) (C := Try.checked) false ⟨#[], #[.agg #[.int .i64 0, .slice none 0 0, .slice none 0 0]], []⟩ 8 (by kernel_rfl) (by kernel_rfl) (by kernel_rfl) (by kernel_rfl)) ?_
  intro W base args ds gs before hval0 hW hcnd _
  have hval : ∀ (j : Nat) t v, Try.f4.params[j]? = some t → args[j]? = some v → Value.okWide Try.prog W .any base t v := hval0
  have hW' := hW
  obtain ⟨p, q, hA0, hV, rfl, hfz, hnd⟩ := hW
  have hA : DataW.TrodAll enc Try.prog W 0 (fun _ => true) true Try.f4.params.toList args.toList ds p := hA0
  rw [Try.params4] at hA hval
  obtain ⟨v0, vs0, d0, ds0, p0, q0, hargs, rfl, rfl, h0, r0⟩ := trodAll_cons hA
  obtain ⟨rfl, rfl, rfl⟩ := trodAll_nil r0
  obtain rfl : args = #[v0] := by cases args; simp_all
  obtain ⟨rfl, rfl⟩ := trodVars_none hV
  have k0 := h0
  have lt0 : ∀ x ∈ p0, x.block < W.heap.size := by obtain ⟨m, hm⟩ := k0; exact DataW.trod_lt m _ _ _ hm
  obtain ⟨s0, pp0, qq0, cc0, dd0, rfl, w0⟩ := open_masterw (hval 0 25 v0 rfl rfl) h0
  clear hA0 hval0
  refine (walk s0 pp0 qq0 cc0 dd0 W w0).mono fun e W' ⟨he, bel⟩ => ?_
  subst he
  exact ⟨_, rfl, _, _, _, [], _, [], hW', trodAll_mk1 (shut_bool Try.underlying4 _), (trodAll_cons_mk (Below.trod laidOut (by kernel_rfl) (of_decide_eq_true (by kernel_rfl)) k0 bel lt0) trodAll_mk0), rfl, bel.frame _, fun h => by cases h⟩

/-- The statement. -/
theorem proved : Rows.FnExactMasterTickSaid :=
  OpenClaim.holds_of_wide 4 Try.f4 rfl rfl rfl rfl rfl rfl rfl ⟨rfl, rfl, rfl, rfl, rfl⟩ rfl rfl rfl rfl rfl (by kernel_rfl) Try.func4 (by kernel_rfl)
    (of_decide_eq_true (by kernel_rfl)) (by unfold Func.isWrapper; first | (rw [if_pos (by decide +kernel)]; kernel_rfl) | (rw [if_neg (by decide +kernel)]; exact ⟨rfl, rfl⟩))
    (fun os started H enc _ => lifted os started H enc)
#print axioms proved
end Go.Proofs.Ytghchcipobcpjaa.fnExactMasterTick
