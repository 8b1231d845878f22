/- For all addresses SegmentNew answers as the model; they stay as they were, and the answer owns its memory. -/
import Derived.Test.YtimocipgikefoaaRows
import Derived.Test.YtimocipgikefoaaQnSegV
import Derived.Test.YtimocipgikefoaaQnSegZ
import Derived.Test.YtimocipgikefoaaQnSegN
import Derived.Test.YtimocipgikefoaaQnSegE
import Derived.Test.YtimocipgikefoaaQnSegO
import Derived.Test.YtimocipgikefoaaQnSegA
import Derived.Test.YtimocipgikefoaaQnOutS
import Derived.Test.YtimocipgikefoaaQnTail
import Derived.Test.YtimocipgikefoaaQnNewS
import Derived.WalkKit
import Derived.WalkSpells
import Derived.ProofKit
import Derived.OpenShut
import Derived.ShutString
import Derived.ChangeOld
import Derived.Below
import Derived.Outline
import Derived.Deep.RegionHeld3
import Derived.Deep.RegionWith
import Derived.Deep.DeepCutAuto
namespace Go.Proofs.Ytimocipgikefoaa.fnExactSegmentNew
open Go.ChangeShapes Go.WideShapes Go.ChangeAt Go.RowKit
open Go.ChangeMaps (open_string shut_string)
set_option linter.unusedVariables false
set_option linter.unusedSimpArgs false

theorem own : ownKnob Try.prog.godebug = none := by kernel_rfl
theorem laidOut : laidOutB Try.prog = true := by kernel_rfl

set_option maxRecDepth 100000 in
set_option maxHeartbeats 1600000 in
/-- The walk: the law returns true, and nothing that was there has turned. -/
theorem walk (p0 : Option Addr) (zs0 : List Int) (c0 : Nat) (w : World) (w0 : InI w p0 zs0) :
    Calls Try.prog 4 #[.slice p0 zs0.length c0] w fun e w' => e = .returned (.bool true) ∧ Below w.heap.size w w' := by
  have hnl1 := w0.1
  by_cases hle : zs0.length ≤ 1048576
  case neg =>
    have hle' : (1048576 : Int) < zs0.length := by omega
    clear hle
    go_enter Try.func4, Try.ntmps4
    go_wp2
    go_ret
    exact ⟨rfl, Below.refl _ _⟩
  have hle' : ¬ (1048576 : Int) < zs0.length := by omega
  have HTO : Hid (∀ W, Below w.heap.size w W → Calls Try.prog 30 #[.slice p0 zs0.length c0] W fun x w' => ∃ v, x = .returned v ∧ OwnI w' W.heap.size v zs0 ∧ Below W.heap.size W w') := fun W hW => toInt64S_any p0 c0 zs0 W hle (w0.below hW)
  have HS : Hid (∀ (W : World) (x : Value), RowI W x zs0 → Calls Try.prog 29 #[x] W fun e w' => ∃ v1 v2, e = .returned (.agg #[v1, v2, .slice none 0 0, .slice none 0 0, .int .i64 (snCode zs0)]) ∧ OwnSegB w' W.heap.size w'.heap.size v1 v2 (.slice none 0 0) (snSeg zs0) ∧ Below W.heap.size W w') := fun W x h => specSegmentNew_any x zs0 W hle h
  have HI : Hid (∀ (W : World) (x : Value), RowI W x zs0 → Calls Try.prog 31 #[x] W fun e w' => ∃ v1 v2, e = .returned (.agg #[v1, v2, .slice none 0 0, .slice none 0 0, .int .i64 (snCode zs0)]) ∧ OwnSegB w' W.heap.size w'.heap.size v1 v2 (.slice none 0 0) (snSeg zs0) ∧ Below W.heap.size W w') := fun W x h => segmentNew_any x zs0 W hle h
  obtain ⟨ht, hcn⟩ := snSeg_small zs0
  generalize snSeg zs0 = S at HS HI ht hcn
  generalize snCode zs0 = C at HS HI
  have hc0 := S.cnt_pos
  have HE : Hid (∀ (W : World) (v1 v2 v3 u1 u2 u3 : Value), RowSeg W v1 v2 v3 S → RowSeg W u1 u2 u3 S → Calls Try.prog 32 #[.agg #[v1, v2, v3, .slice none 0 0, .int .i64 C], .agg #[u1, u2, u3, .slice none 0 0, .int .i64 C]] W fun e w' => e = .returned (.bool true) ∧ Below W.heap.size W w') := fun W v1 v2 v3 u1 u2 u3 h1 h2 => eqSegmentOut_nil S C v1 v2 v3 u1 u2 u3 W ht h1 h2
  have HM : Hid (∀ (W : World) (lo hi : Nat) (v1 v2 v3 : Value), OwnSegB W lo hi v1 v2 v3 S → Calls Try.prog 35 #[.agg #[v1, v2, v3, .slice none 0 0, .int .i64 C], .int .i64 1] W fun e w' => e = .returned (.int .i64 (1 + S.cnt)) ∧ OwnSegB w' lo hi v1 v2 v3 S.marked ∧ Only W w' lo hi) := fun W lo hi v1 v2 v3 h => markSegmentOut_nil S C lo hi v1 v2 v3 W ht h
  have HH : Hid (∀ (W : World) (lo hi : Nat) (v1 v2 v3 : Value), OwnSegB W lo hi v1 v2 v3 S.marked → Calls Try.prog 36 #[.agg #[v1, v2, v3, .slice none 0 0, .int .i64 C], .int .i64 1] W fun e w' => e = .returned (.int .i64 (1 + S.cnt)) ∧ Below W.heap.size W w') := fun W lo hi v1 v2 v3 h => heldSegmentOut_nil S C lo hi v1 v2 v3 W ht hcn h
  have HEQ : Hid (∀ (W : World) (x y : Value), RowI W x zs0 → RowI W y zs0 → Calls Try.prog 33 #[x, y] W fun e w' => e = .returned (.bool true) ∧ Below W.heap.size W w') := fun W x y h1 h2 => eqInt64S_same x y zs0 W (by omega) h1 h2
  have HMI : Hid (∀ (W : World) (lo hi : Nat) (x : Value), OwnIB W lo hi x zs0 → Calls Try.prog 34 #[x, .int .i64 1] W fun e w' => (∃ K : Int, 1 ≤ K ∧ e = .returned (.int .i64 K)) ∧ Only W w' lo hi) := fun W lo hi x h => (markInts_B 1 (by omega) lo hi x zs0 W (by omega) h).mono fun e w' hh => ⟨⟨1 + (zs0.length : Int), by omega, hh.1⟩, hh.2.2⟩
  have hp0 : ¬ (1 : Int) + S.cnt < 0 := by omega
  generalize S.marked = SM at HM HH
  obtain ⟨PN, ePN⟩ : ∃ PN, (1 : Int) + S.cnt = PN := ⟨_, rfl⟩
  rw [ePN] at HM HH hp0
  have hp1 : (PN != PN) = false := by simp
  clear ePN hc0 hcn ht hnl1 hle
  have hg : Below w.heap.size w w := Below.refl _ _
  go_enter Try.func4, Try.ntmps4
  go_upto_region 4 with (first
    | (go_at_call 30; refine (HTO.out _ hg).mono ?_; rintro e v2 ⟨y1, rfl, own2, hb2⟩; obtain ⟨pa, ca, rfl⟩ := own2.shape)
    | (go_at_call 29; refine (HS.out _ _ own2.row).mono ?_; rintro e v4 ⟨y5, y6, rfl, own4, hb4⟩; obtain ⟨⟨p5, c5, rfl, _⟩, ⟨q5, d5, rfl, _⟩, _⟩ := own4.row)
    | (refine wpList_store_row rfl 50 (.tmp 3) (.tmp 15) rfl v4.heap.size #[.slice p5 S.ss.length c5, .slice q5 S.us.length d5, .slice none 0 0, .slice none 0 0, .int .i64 C] rfl rfl _ _ (heap_alloc_new v4 _) (by kernel_rfl) rfl (by simp [Value.oneCell']) ?_))
  clear own2
  have z_v2 : w.heap.size ≤ v2.heap.size := hb2.size
  replace hg : Below w.heap.size w v2 := keepB hg (Nat.le_refl _) hb2
  have z_v4 : v2.heap.size ≤ v4.heap.size := hb4.size
  replace hg : Below w.heap.size w v4 := keepB hg (Nat.le_refl _) hb4
  have h6 : Hid _ := setRow_heap _ v4.heap.size _ #[.slice p5 S.ss.length c5, .slice q5 S.us.length d5, .slice none 0 0, .slice none 0 0, .int .i64 C] _ _ (heap_alloc_new v4 (.cells #[.slice none 0 0, .slice none 0 0, .slice none 0 0, .slice none 0 0, .int .i64 0] 50))
  have hb5 : Below v4.heap.size v4 ((v4.alloc (.cells #[.slice none 0 0, .slice none 0 0, .slice none 0 0, .slice none 0 0, .int .i64 0] 50)).setRow v4.heap.size #[.slice p5 S.ss.length c5, .slice q5 S.us.length d5, .slice none 0 0, .slice none 0 0, .int .i64 C]) := setRow_fresh _ _ _
  generalize ((v4.alloc (.cells #[.slice none 0 0, .slice none 0 0, .slice none 0 0, .slice none 0 0, .int .i64 0] 50)).setRow v4.heap.size #[.slice p5 S.ss.length c5, .slice q5 S.us.length d5, .slice none 0 0, .slice none 0 0, .int .i64 C]) = v5 at h6 hb5 ⊢
  have zz_v5 : v4.heap.size < v5.heap.size := (Array.getElem?_eq_some_iff.1 h6.out).1
  have oW : Hid (OwnSegB v4 v2.heap.size v4.heap.size _ _ _ S) := own4
  clear own4
  have z_v5 : v4.heap.size ≤ v5.heap.size := hb5.size
  replace oW : Hid (OwnSegB v5 v2.heap.size v4.heap.size _ _ _ S) := oW.out.below hb5
  replace hg : Below w.heap.size w v5 := keepB hg (Nat.le_refl _) hb5
  go_upto_region 5 with (first
    | (go_at_call 30; refine (HTO.out _ hg).mono ?_; rintro e v6 ⟨xX, rfl, ownX, hb6⟩; obtain ⟨px, cx, rfl⟩ := ownX.shape))
  have z_v6 : v5.heap.size ≤ v6.heap.size := hb6.size
  replace h6 : Hid _ := blk h6.out hb6
  replace oW : Hid (OwnSegB v6 v2.heap.size v4.heap.size _ _ _ S) := oW.out.below hb6
  replace hg : Below w.heap.size w v6 := keepB hg (Nat.le_refl _) hb6
  have oX : Hid (OwnIB v6 v5.heap.size v6.heap.size _ zs0) := ownX.ib
  clear ownX
  go_upto_region 6 with (first
    | (go_at_call 31; refine (HI.out _ _ oX.out.1.row).mono ?_; rintro e v8 ⟨y5, y6, rfl, own8, hb8⟩; obtain ⟨⟨p8, c8, rfl, _⟩, ⟨q8, d8, rfl, _⟩, _⟩ := own8.row)
    | (refine wpList_store_row rfl 50 (.tmp 5) (.tmp 19) rfl v8.heap.size #[.slice p8 S.ss.length c8, .slice q8 S.us.length d8, .slice none 0 0, .slice none 0 0, .int .i64 C] rfl rfl _ _ (heap_alloc_new v8 _) (by kernel_rfl) rfl (by simp [Value.oneCell']) ?_))
  have z_v8 : v6.heap.size ≤ v8.heap.size := hb8.size
  replace h6 : Hid _ := blk h6.out hb8
  replace oW : Hid (OwnSegB v8 v2.heap.size v4.heap.size _ _ _ S) := oW.out.below hb8
  replace oX : Hid (OwnIB v8 v5.heap.size v6.heap.size _ zs0) := oX.out.same (Same.below hb8 (by omega))
  replace hg : Below w.heap.size w v8 := keepB hg (Nat.le_refl _) hb8
  have h9 : Hid _ := setRow_heap _ v8.heap.size _ #[.slice p8 S.ss.length c8, .slice q8 S.us.length d8, .slice none 0 0, .slice none 0 0, .int .i64 C] _ _ (heap_alloc_new v8 (.cells #[.slice none 0 0, .slice none 0 0, .slice none 0 0, .slice none 0 0, .int .i64 0] 50))
  have hb9 : Below v8.heap.size v8 ((v8.alloc (.cells #[.slice none 0 0, .slice none 0 0, .slice none 0 0, .slice none 0 0, .int .i64 0] 50)).setRow v8.heap.size #[.slice p8 S.ss.length c8, .slice q8 S.us.length d8, .slice none 0 0, .slice none 0 0, .int .i64 C]) := setRow_fresh _ _ _
  generalize ((v8.alloc (.cells #[.slice none 0 0, .slice none 0 0, .slice none 0 0, .slice none 0 0, .int .i64 0] 50)).setRow v8.heap.size #[.slice p8 S.ss.length c8, .slice q8 S.us.length d8, .slice none 0 0, .slice none 0 0, .int .i64 C]) = v9 at h9 hb9 ⊢
  have zz_v9 : v8.heap.size < v9.heap.size := (Array.getElem?_eq_some_iff.1 h9.out).1
  have oG : Hid (OwnSegB v8 v6.heap.size v8.heap.size _ _ _ S) := own8
  clear own8
  have z_v9 : v8.heap.size ≤ v9.heap.size := hb9.size
  replace h6 : Hid _ := blk h6.out hb9
  replace oW : Hid (OwnSegB v9 v2.heap.size v4.heap.size _ _ _ S) := oW.out.below hb9
  replace oX : Hid (OwnIB v9 v5.heap.size v6.heap.size _ zs0) := oX.out.same (Same.below hb9 (by omega))
  replace oG : Hid (OwnSegB v9 v6.heap.size v8.heap.size _ _ _ S) := oG.out.below hb9
  replace hg : Below w.heap.size w v9 := keepB hg (Nat.le_refl _) hb9
  go_upto_region 8 with (first
    | (refine wpList_load_rowG (by first | rfl | (simp only [Region.wanted, yielded, hkd]; rfl) | simp [Region.wanted, yielded, hk0, hkd]) 50 (.tmp 5) rfl v8.heap.size rfl _ _ _ _ h9.out Try.underlying50 rfl (by kernel_rfl) ?_)
    | (refine wpList_load_rowG (by first | rfl | (simp only [Region.wanted, yielded, hkd]; rfl) | simp [Region.wanted, yielded, hk0, hkd]) 50 (.tmp 3) rfl v4.heap.size rfl _ _ _ _ h6.out Try.underlying50 rfl (by kernel_rfl) ?_)
    | (go_at_call 32; refine (HE.out _ _ _ _ _ _ _ oG.out.row oW.out.row).mono ?_; rintro e v10 ⟨rfl, hb10⟩))
  have z_v10 : v9.heap.size ≤ v10.heap.size := hb10.size
  replace h6 : Hid _ := blk h6.out hb10
  replace h9 : Hid _ := blk h9.out hb10
  replace oW : Hid (OwnSegB v10 v2.heap.size v4.heap.size _ _ _ S) := oW.out.below hb10
  replace oX : Hid (OwnIB v10 v5.heap.size v6.heap.size _ zs0) := oX.out.same (Same.below hb10 (by omega))
  replace oG : Hid (OwnSegB v10 v6.heap.size v8.heap.size _ _ _ S) := oG.out.below hb10
  replace hg : Below w.heap.size w v10 := keepB hg (Nat.le_refl _) hb10
  go_upto_region 10 with (first
    | (go_at_call 30; refine (HTO.out _ hg).mono ?_; rintro e v11 ⟨xE, rfl, ownE, hb11⟩; obtain ⟨pe, ce, rfl⟩ := ownE.shape)
    | (go_at_call 33; refine (HEQ.out _ _ _ (oX.out.1.row.below hb11) ownE.row).mono ?_; rintro e v12 ⟨rfl, hb12⟩))
  clear ownE
  have z_v11 : v10.heap.size ≤ v11.heap.size := hb11.size
  replace h6 : Hid _ := blk h6.out hb11
  replace h9 : Hid _ := blk h9.out hb11
  replace oW : Hid (OwnSegB v11 v2.heap.size v4.heap.size _ _ _ S) := oW.out.below hb11
  replace oX : Hid (OwnIB v11 v5.heap.size v6.heap.size _ zs0) := oX.out.same (Same.below hb11 (by omega))
  replace oG : Hid (OwnSegB v11 v6.heap.size v8.heap.size _ _ _ S) := oG.out.below hb11
  replace hg : Below w.heap.size w v11 := keepB hg (Nat.le_refl _) hb11
  have z_v12 : v11.heap.size ≤ v12.heap.size := hb12.size
  replace h6 : Hid _ := blk h6.out hb12
  replace h9 : Hid _ := blk h9.out hb12
  replace oW : Hid (OwnSegB v12 v2.heap.size v4.heap.size _ _ _ S) := oW.out.below hb12
  replace oX : Hid (OwnIB v12 v5.heap.size v6.heap.size _ zs0) := oX.out.same (Same.below hb12 (by omega))
  replace oG : Hid (OwnSegB v12 v6.heap.size v8.heap.size _ _ _ S) := oG.out.below hb12
  replace hg : Below w.heap.size w v12 := keepB hg (Nat.le_refl _) hb12
  go_upto_region 12 with (first
    | (go_at_call 34; refine (HMI.out _ _ _ _ oX.out).mono ?_; rintro e v13 ⟨⟨KK, hkk, rfl⟩, y13⟩))
  clear oX
  have z_v13 : v12.heap.size ≤ v13.heap.size := y13.size
  replace h6 : Hid _ := (y13.block (v4.heap.size) (by omega) (by omega)).trans h6.out
  replace h9 : Hid _ := (y13.block (v8.heap.size) (by omega) (by omega)).trans h9.out
  replace oW : Hid (OwnSegB v13 v2.heap.size v4.heap.size _ _ _ S) := oW.out.same (y13.same (by omega) (by omega)) y13.size
  replace oG : Hid (OwnSegB v13 v6.heap.size v8.heap.size _ _ _ S) := oG.out.same (y13.same (by omega) (by omega)) y13.size
  replace hg : Below w.heap.size w v13 := hg.trans (y13.frame (by omega) (by omega))
  have hk0 : ¬ KK < 0 := by omega
  have hkd : decide (KK < 0) = false := decide_eq_false hk0
  go_upto_region 14 with (first
    | (refine wpList_load_rowG (by first | rfl | (simp only [Region.wanted, yielded, hkd]; rfl) | simp [Region.wanted, yielded, hk0, hkd]) 50 (.tmp 5) rfl v8.heap.size rfl _ _ _ _ h9.out Try.underlying50 rfl (by kernel_rfl) ?_)
    | (refine wpList_load_rowG (by first | rfl | (simp only [Region.wanted, yielded, hkd]; rfl) | simp [Region.wanted, yielded, hk0, hkd]) 50 (.tmp 3) rfl v4.heap.size rfl _ _ _ _ h6.out Try.underlying50 rfl (by kernel_rfl) ?_)
    | (go_at_call 32; refine (HE.out _ _ _ _ _ _ _ oG.out.row oW.out.row).mono ?_; rintro e v14 ⟨rfl, hb14⟩))
  have z_v14 : v13.heap.size ≤ v14.heap.size := hb14.size
  replace h6 : Hid _ := blk h6.out hb14
  replace h9 : Hid _ := blk h9.out hb14
  replace oW : Hid (OwnSegB v14 v2.heap.size v4.heap.size _ _ _ S) := oW.out.below hb14
  replace oG : Hid (OwnSegB v14 v6.heap.size v8.heap.size _ _ _ S) := oG.out.below hb14
  replace hg : Below w.heap.size w v14 := keepB hg (Nat.le_refl _) hb14
  go_upto_region 16 with (first
    | (refine wpList_load_rowG (by first | rfl | (simp only [Region.wanted, yielded, hkd]; rfl) | simp [Region.wanted, yielded, hk0, hkd]) 50 (.tmp 5) rfl v8.heap.size rfl _ _ _ _ h9.out Try.underlying50 rfl (by kernel_rfl) ?_)
    | (go_at_call 35; refine (HM.out _ _ _ _ _ _ oG.out).mono ?_; rintro e v15 ⟨rfl, oM0, y15⟩))
  clear oG
  have z_v15 : v14.heap.size ≤ v15.heap.size := y15.size
  replace h6 : Hid _ := (y15.block (v4.heap.size) (by omega) (by omega)).trans h6.out
  replace h9 : Hid _ := (y15.block (v8.heap.size) (by omega) (by omega)).trans h9.out
  replace oW : Hid (OwnSegB v15 v2.heap.size v4.heap.size _ _ _ S) := oW.out.same (y15.same (by omega) (by omega)) y15.size
  replace hg : Below w.heap.size w v15 := hg.trans (y15.frame (by omega) (by omega))
  have oM : Hid (OwnSegB v15 v6.heap.size v8.heap.size _ _ _ SM) := oM0
  clear oM0
  go_upto_region 22 with (first
    | (refine wpList_load_rowG (by first | rfl | (simp only [Region.wanted, yielded, hkd]; rfl) | simp [Region.wanted, yielded, hk0, hkd]) 50 (.tmp 5) rfl v8.heap.size rfl _ _ _ _ h9.out Try.underlying50 rfl (by kernel_rfl) ?_)
    | (go_at_call 36; refine (HH.out _ _ _ _ _ _ oM.out).mono ?_; rintro e v16 ⟨rfl, hb16⟩))
  have z_v16 : v15.heap.size ≤ v16.heap.size := hb16.size
  replace h6 : Hid _ := blk h6.out hb16
  replace h9 : Hid _ := blk h9.out hb16
  replace oW : Hid (OwnSegB v16 v2.heap.size v4.heap.size _ _ _ S) := oW.out.below hb16
  replace oM : Hid (OwnSegB v16 v6.heap.size v8.heap.size _ _ _ SM) := oM.out.below hb16
  replace hg : Below w.heap.size w v16 := keepB hg (Nat.le_refl _) hb16
  go_upto_region 23 with (first
    | (go_at_call 30; refine (HTO.out _ hg).mono ?_; rintro e v17 ⟨y1, rfl, own17, hb17⟩; obtain ⟨pb, cb, rfl⟩ := own17.shape)
    | (go_at_call 31; refine (HI.out _ _ own17.row).mono ?_; rintro e v18 ⟨y5, y6, rfl, own18, hb18⟩; obtain ⟨⟨p18, c18, rfl, _⟩, ⟨q18, d18, rfl, _⟩, _⟩ := own18.row)
    | (refine wpList_store_row rfl 50 (.tmp 9) (.tmp 53) rfl v18.heap.size #[.slice p18 S.ss.length c18, .slice q18 S.us.length d18, .slice none 0 0, .slice none 0 0, .int .i64 C] rfl rfl _ _ (heap_alloc_new v18 _) (by kernel_rfl) rfl (by simp [Value.oneCell']) ?_))
  clear own17
  have z_v17 : v16.heap.size ≤ v17.heap.size := hb17.size
  replace h6 : Hid _ := blk h6.out hb17
  replace h9 : Hid _ := blk h9.out hb17
  replace oW : Hid (OwnSegB v17 v2.heap.size v4.heap.size _ _ _ S) := oW.out.below hb17
  replace oM : Hid (OwnSegB v17 v6.heap.size v8.heap.size _ _ _ SM) := oM.out.below hb17
  replace hg : Below w.heap.size w v17 := keepB hg (Nat.le_refl _) hb17
  have z_v18 : v17.heap.size ≤ v18.heap.size := hb18.size
  replace h6 : Hid _ := blk h6.out hb18
  replace h9 : Hid _ := blk h9.out hb18
  replace oW : Hid (OwnSegB v18 v2.heap.size v4.heap.size _ _ _ S) := oW.out.below hb18
  replace oM : Hid (OwnSegB v18 v6.heap.size v8.heap.size _ _ _ SM) := oM.out.below hb18
  replace hg : Below w.heap.size w v18 := keepB hg (Nat.le_refl _) hb18
  have h19 : Hid _ := setRow_heap _ v18.heap.size _ #[.slice p18 S.ss.length c18, .slice q18 S.us.length d18, .slice none 0 0, .slice none 0 0, .int .i64 C] _ _ (heap_alloc_new v18 (.cells #[.slice none 0 0, .slice none 0 0, .slice none 0 0, .slice none 0 0, .int .i64 0] 50))
  have hb19 : Below v18.heap.size v18 ((v18.alloc (.cells #[.slice none 0 0, .slice none 0 0, .slice none 0 0, .slice none 0 0, .int .i64 0] 50)).setRow v18.heap.size #[.slice p18 S.ss.length c18, .slice q18 S.us.length d18, .slice none 0 0, .slice none 0 0, .int .i64 C]) := setRow_fresh _ _ _
  generalize ((v18.alloc (.cells #[.slice none 0 0, .slice none 0 0, .slice none 0 0, .slice none 0 0, .int .i64 0] 50)).setRow v18.heap.size #[.slice p18 S.ss.length c18, .slice q18 S.us.length d18, .slice none 0 0, .slice none 0 0, .int .i64 C]) = v19 at h19 hb19 ⊢
  have zz_v19 : v18.heap.size < v19.heap.size := (Array.getElem?_eq_some_iff.1 h19.out).1
  have oH : Hid (OwnSegB v18 _ _ _ _ _ S) := own18
  clear own18
  have z_v19 : v18.heap.size ≤ v19.heap.size := hb19.size
  replace h6 : Hid _ := blk h6.out hb19
  replace h9 : Hid _ := blk h9.out hb19
  replace oW : Hid (OwnSegB v19 v2.heap.size v4.heap.size _ _ _ S) := oW.out.below hb19
  replace oM : Hid (OwnSegB v19 v6.heap.size v8.heap.size _ _ _ SM) := oM.out.below hb19
  replace oH : Hid (OwnSegB v19 _ _ _ _ _ S) := oH.out.below hb19
  replace hg : Below w.heap.size w v19 := keepB hg (Nat.le_refl _) hb19
  go_upto_region 26 with (first
    | (refine wpList_load_rowG (by first | rfl | (simp only [Region.wanted, yielded, hkd]; rfl) | simp [Region.wanted, yielded, hk0, hkd]) 50 (.tmp 9) rfl v18.heap.size rfl _ _ _ _ h19.out Try.underlying50 rfl (by kernel_rfl) ?_)
    | (refine wpList_load_rowG (by first | rfl | (simp only [Region.wanted, yielded, hkd]; rfl) | simp [Region.wanted, yielded, hk0, hkd]) 50 (.tmp 3) rfl v4.heap.size rfl _ _ _ _ h6.out Try.underlying50 rfl (by kernel_rfl) ?_)
    | (go_at_call 32; refine (HE.out _ _ _ _ _ _ _ oH.out.row oW.out.row).mono ?_; rintro e v20 ⟨rfl, hb20⟩))
  have z_v20 : v19.heap.size ≤ v20.heap.size := hb20.size
  replace h6 : Hid _ := blk h6.out hb20
  replace h9 : Hid _ := blk h9.out hb20
  replace h19 : Hid _ := blk h19.out hb20
  replace oW : Hid (OwnSegB v20 v2.heap.size v4.heap.size _ _ _ S) := oW.out.below hb20
  replace oM : Hid (OwnSegB v20 v6.heap.size v8.heap.size _ _ _ SM) := oM.out.below hb20
  replace oH : Hid (OwnSegB v20 _ _ _ _ _ S) := oH.out.below hb20
  replace hg : Below w.heap.size w v20 := keepB hg (Nat.le_refl _) hb20
  go_wp2_with (first
    | (refine wpList_load_rowG (by first | rfl | (simp only [Region.wanted, yielded, hkd]; rfl) | simp [Region.wanted, yielded, hk0, hkd]) 50 (.tmp 5) rfl v8.heap.size rfl _ _ _ _ h9.out Try.underlying50 rfl (by kernel_rfl) ?_)
    | (go_at_call 36; refine (HH.out _ _ _ _ _ _ oM.out).mono ?_; rintro e v21 ⟨rfl, hb21⟩))
  go_ret
  exact ⟨rfl, keepB hg (Nat.le_refl _) hb21⟩

set_option maxRecDepth 100000 in
theorem lifted (os : Os) (started : os.Started) (H : Type) (enc : TypeId × Value → H) :
    ReturnsInHanded {} Try.checked os 4 .any (Rows.fnExactSegmentNewSpec.pre6 enc Try.prog Try.f4 Rows.fnExactSegmentNewRow.domain false) (Rows.fnExactSegmentNewSpec.post enc Try.prog Try.f4 false true false false) := by
  refine returnsInHanded_of_change (C := Try.checked) own started (by kernel_rfl) Try.func4
    (ChangeSpec.witness6 (enc := enc) (C := Try.checked) false ⟨#[], #[.slice none 0 0], []⟩ 8 (by kernel_rfl) (by kernel_rfl) (by kernel_rfl) (by kernel_rfl)) ?_
  intro W base args ds gs before hval0 hW hcnd _
  have hval : ∀ (j : Nat) t v, Try.f4.params[j]? = some t → args[j]? = some v → Value.okWide Try.prog W .any base t v := hval0
  have hW' := hW
  obtain ⟨p, q, hA0, hV, rfl, hfz, hnd⟩ := hW
  have hA : DataW.TrodAll enc Try.prog W 0 (fun _ => true) true Try.f4.params.toList args.toList ds p := hA0
  rw [Try.params4] at hA hval
  obtain ⟨v0, vs0, d0, ds0, p0, q0, hargs, rfl, rfl, h0, r0⟩ := trodAll_cons hA
  obtain ⟨rfl, rfl, rfl⟩ := trodAll_nil r0
  obtain rfl : args = #[v0] := by cases args; simp_all
  obtain ⟨rfl, rfl⟩ := trodVars_none hV
  have k0 := h0
  have lt0 : ∀ x ∈ p0, x.block < W.heap.size := by obtain ⟨m, hm⟩ := k0; exact DataW.trod_lt m _ _ _ hm
  obtain ⟨p0', zs0, c0, rfl, w0⟩ : ∃ (a : Option Addr) (zs : List Int) (c : Nat), v0 = .slice a zs.length c ∧ InI W a zs := by
    obtain ⟨a, len, cap, rfl⟩ := okWide_slice Try.underlying23 (hval 0 23 v0 rfl rfl)
    have hrow : ∃ zs, IsRowN .i64 W a len cap zs := by
      obtain ⟨fuel, hf⟩ := h0
      rcases open_ints Try.underlying23 Try.underlying2 (by kernel_rfl) hf with ⟨hcs, _⟩ | ⟨x, l, c, zs, hcs, _, hl, hm, hz, _, hcell, hwz⟩
      · simp [Value.cells] at hcs
        obtain ⟨rfl, rfl, rfl⟩ := hcs
        exact ⟨[], .inl ⟨rfl, rfl, rfl, rfl⟩⟩
      · simp [Value.cells] at hcs
        obtain ⟨rfl, rfl, rfl⟩ := hcs
        exact ⟨zs, .inr ⟨_, rfl, hl, hm, by simpa using hz, hcell, hwz⟩⟩
    obtain ⟨zs, hrow⟩ := hrow
    obtain ⟨ys, rfl, hini, _⟩ := hrow.ini
    exact ⟨a, ys, cap, rfl, hini⟩
  clear hA0 hval0
  refine (walk p0' zs0 c0 W w0).mono fun e W' ⟨he, bel⟩ => ?_
  subst he
  exact ⟨_, rfl, _, _, _, [], _, [], hW', trodAll_mk1 (shut_bool Try.underlying4 _), (trodAll_cons_mk (Below.trod laidOut (by kernel_rfl) (of_decide_eq_true (by kernel_rfl)) k0 bel lt0) trodAll_mk0), rfl, bel.frame _, fun h => by cases h⟩

/-- The statement. -/
theorem proved : Rows.FnExactSegmentNewSaid :=
  OpenClaim.holds_of_wide 4 Try.f4 rfl rfl rfl rfl rfl rfl rfl ⟨rfl, rfl, rfl, rfl, rfl⟩ rfl rfl rfl rfl rfl (by kernel_rfl) Try.func4 (by kernel_rfl)
    (of_decide_eq_true (by kernel_rfl)) (by unfold Func.isWrapper; first | (rw [if_pos (by decide +kernel)]; kernel_rfl) | (rw [if_neg (by decide +kernel)]; exact ⟨rfl, rfl⟩))
    (fun os started H enc _ => lifted os started H enc)
#print axioms proved
end Go.Proofs.Ytimocipgikefoaa.fnExactSegmentNew
