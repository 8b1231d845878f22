/- DeskSegment: the program answers as the model, every field; its answer owns its memory; no condition. -/
import Derived.Test.YtklpaleghanhhaaRows
import Derived.Test.YtklpaleghanhhaaQdDskS
import Derived.Test.YtklpaleghanhhaaQdSegA
import Derived.Test.YtklpaleghanhhaaQdSegE
import Derived.Test.YtklpaleghanhhaaQdTail
import Derived.Test.YtklpaleghanhhaaQdBox
import Derived.WalkKit
import Derived.WalkSpells
import Derived.ProofKit
import Derived.OpenShut
import Derived.ShutString
import Derived.ChangeOld
import Derived.Below
import Derived.Outline
import Derived.Deep.RegionHeld3
import Derived.Deep.RegionWith
import Derived.Deep.DeepCutAuto
namespace Go.Proofs.Ytklpaleghanhhaa.fnExactDeskSegment
open Go.ChangeShapes Go.WideShapes Go.ChangeAt Go.RowKit
open Go.ChangeMaps (open_string shut_string)
set_option linter.unusedVariables false
set_option linter.unusedSimpArgs false

theorem own : ownKnob Try.prog.godebug = none := by kernel_rfl
theorem laidOut : laidOutB Try.prog = true := by kernel_rfl

set_option maxRecDepth 100000 in
set_option maxHeartbeats 1600000 in
/-- The walk: the law returns true, and nothing that was there has turned. -/
theorem walk  (w : World)  :
    Calls Try.prog 6 #[] w fun e w' => e = .returned (.bool true) ∧ Below w.heap.size w w' := by
  have HS : Hid (∀ (W : World), Calls Try.prog 20 #[] W fun e w' => ∃ v1 v2 v3, e = .returned (.agg #[v1, v2, v3]) ∧ OwnSegB w' W.heap.size w'.heap.size v1 v2 v3 (snSeg [1, 2, 3]) ∧ Below W.heap.size W w') := fun W => specDeskSegment_any W
  have HI : Hid (∀ (W : World), Calls Try.prog 21 #[] W fun e w' => ∃ v1 v2 v3, e = .returned (.agg #[v1, v2, v3]) ∧ OwnSegB w' W.heap.size w'.heap.size v1 v2 v3 (snSeg [1, 2, 3]) ∧ Below W.heap.size W w') := fun W => deskSegment_any W
  obtain ⟨ht, hcn⟩ := snSeg_small [1, 2, 3]
  generalize snSeg [1, 2, 3] = S at HS HI ht hcn
  have hc0 := S.cnt_pos
  have HE : Hid (∀ (W : World) (v1 v2 v3 x1 x2 x3 : Value), RowSeg W v1 v2 v3 S → RowSeg W x1 x2 x3 S → Calls Try.prog 22 #[.agg #[v1, v2, v3], .agg #[x1, x2, x3]] W fun x w' => x = .returned (.bool true) ∧ Below W.heap.size W w') := fun W v1 v2 v3 x1 x2 x3 h1 h2 => eqSegment_same S v1 v2 v3 x1 x2 x3 W ht h1 h2
  have HM : Hid (∀ (W : World) (lo hi : Nat) (v1 v2 v3 : Value), OwnSegB W lo hi v1 v2 v3 S → Calls Try.prog 23 #[.agg #[v1, v2, v3], .int .i64 1] W fun e w' => e = .returned (.int .i64 (1 + S.cnt)) ∧ OwnSegB w' lo hi v1 v2 v3 S.marked ∧ Only W w' lo hi) := fun W lo hi v1 v2 v3 h => markSegment_at S lo hi v1 v2 v3 W ht h
  have HH : Hid (∀ (W : World) (lo hi : Nat) (v1 v2 v3 : Value), OwnSegB W lo hi v1 v2 v3 S.marked → Calls Try.prog 24 #[.agg #[v1, v2, v3], .int .i64 1] W fun e w' => e = .returned (.int .i64 (1 + S.cnt)) ∧ Below W.heap.size W w') := fun W lo hi v1 v2 v3 h => heldSegment_at S lo hi v1 v2 v3 W ht hcn h
  have hp0 : ¬ (1 : Int) + S.cnt < 0 := by omega
  generalize S.marked = SM at HM HH
  obtain ⟨PN, ePN⟩ : ∃ PN, (1 : Int) + S.cnt = PN := ⟨_, rfl⟩
  rw [ePN] at HM HH hp0
  have hp1 : (PN != PN) = false := by simp
  have hk0 := hp0
  have hkd : decide (PN < 0) = false := decide_eq_false hp0
  clear ePN hc0 hcn ht
  have hg : Below w.heap.size w w := Below.refl _ _
  go_enter Try.func6, Try.ntmps6
  go_upto_region 2 with (first
    | (go_at_call 20; refine (HS.out _).mono ?_; rintro e v4 ⟨y1, y2, y3, rfl, own4, hb4⟩; obtain ⟨⟨p5, c5, rfl, _⟩, ⟨q5, d5, rfl, _⟩, ⟨r5, e5, rfl, _⟩⟩ := own4.row)
    | (refine wpList_store_row rfl 47 (.tmp 1) (.tmp 6) rfl v4.heap.size #[.slice p5 S.ss.length c5, .slice q5 S.us.length d5, .slice r5 S.ns.length e5] rfl rfl _ _ (heap_alloc_new v4 _) (by kernel_rfl) rfl (by simp [Value.oneCell']) ?_))
  have z_v4 : w.heap.size ≤ v4.heap.size := hb4.size
  replace hg : Below w.heap.size w v4 := keepB hg (Nat.le_refl _) hb4
  have h6 : Hid _ := setRow_heap _ v4.heap.size _ #[.slice p5 S.ss.length c5, .slice q5 S.us.length d5, .slice r5 S.ns.length e5] _ _ (heap_alloc_new v4 (.cells #[.slice none 0 0, .slice none 0 0, .slice none 0 0] 47))
  have hb5 : Below v4.heap.size v4 ((v4.alloc (.cells #[.slice none 0 0, .slice none 0 0, .slice none 0 0] 47)).setRow v4.heap.size #[.slice p5 S.ss.length c5, .slice q5 S.us.length d5, .slice r5 S.ns.length e5]) := setRow_fresh _ _ _
  generalize ((v4.alloc (.cells #[.slice none 0 0, .slice none 0 0, .slice none 0 0] 47)).setRow v4.heap.size #[.slice p5 S.ss.length c5, .slice q5 S.us.length d5, .slice r5 S.ns.length e5]) = v5 at h6 hb5 ⊢
  have zz_v5 : v4.heap.size < v5.heap.size := (Array.getElem?_eq_some_iff.1 h6.out).1
  have oW : Hid (OwnSegB v4 w.heap.size v4.heap.size _ _ _ S) := own4
  clear own4
  have z_v5 : v4.heap.size ≤ v5.heap.size := hb5.size
  replace oW : Hid (OwnSegB v5 w.heap.size v4.heap.size _ _ _ S) := oW.out.below hb5
  replace hg : Below w.heap.size w v5 := keepB hg (Nat.le_refl _) hb5
  go_upto_region 3 with (first
    | (go_at_call 21; refine (HI.out _).mono ?_; rintro e v8 ⟨y1, y2, y3, rfl, own8, hb8⟩; obtain ⟨⟨p8, c8, rfl, _⟩, ⟨q8, d8, rfl, _⟩, ⟨r8, e8, rfl, _⟩⟩ := own8.row)
    | (refine wpList_store_row rfl 47 (.tmp 2) (.tmp 7) rfl v8.heap.size #[.slice p8 S.ss.length c8, .slice q8 S.us.length d8, .slice r8 S.ns.length e8] rfl rfl _ _ (heap_alloc_new v8 _) (by kernel_rfl) rfl (by simp [Value.oneCell']) ?_))
  have z_v8 : v5.heap.size ≤ v8.heap.size := hb8.size
  replace h6 : Hid _ := blk h6.out hb8
  replace oW : Hid (OwnSegB v8 w.heap.size v4.heap.size _ _ _ S) := oW.out.below hb8
  replace hg : Below w.heap.size w v8 := keepB hg (Nat.le_refl _) hb8
  have h9 : Hid _ := setRow_heap _ v8.heap.size _ #[.slice p8 S.ss.length c8, .slice q8 S.us.length d8, .slice r8 S.ns.length e8] _ _ (heap_alloc_new v8 (.cells #[.slice none 0 0, .slice none 0 0, .slice none 0 0] 47))
  have hb9 : Below v8.heap.size v8 ((v8.alloc (.cells #[.slice none 0 0, .slice none 0 0, .slice none 0 0] 47)).setRow v8.heap.size #[.slice p8 S.ss.length c8, .slice q8 S.us.length d8, .slice r8 S.ns.length e8]) := setRow_fresh _ _ _
  generalize ((v8.alloc (.cells #[.slice none 0 0, .slice none 0 0, .slice none 0 0] 47)).setRow v8.heap.size #[.slice p8 S.ss.length c8, .slice q8 S.us.length d8, .slice r8 S.ns.length e8]) = v9 at h9 hb9 ⊢
  have zz_v9 : v8.heap.size < v9.heap.size := (Array.getElem?_eq_some_iff.1 h9.out).1
  have oG : Hid (OwnSegB v8 v5.heap.size v8.heap.size _ _ _ S) := own8
  clear own8
  have z_v9 : v8.heap.size ≤ v9.heap.size := hb9.size
  replace h6 : Hid _ := blk h6.out hb9
  replace oW : Hid (OwnSegB v9 w.heap.size v4.heap.size _ _ _ S) := oW.out.below hb9
  replace oG : Hid (OwnSegB v9 v5.heap.size v8.heap.size _ _ _ S) := oG.out.below hb9
  replace hg : Below w.heap.size w v9 := keepB hg (Nat.le_refl _) hb9
  go_upto_region 5 with (first
    | (refine wpList_load_rowG (by first | rfl | (simp only [Region.wanted, yielded, hkd]; rfl) | simp [Region.wanted, yielded, hk0, hkd]) 47 (.tmp 2) rfl v8.heap.size rfl _ _ _ _ h9.out Try.underlying47 rfl (by kernel_rfl) ?_)
    | (refine wpList_load_rowG (by first | rfl | (simp only [Region.wanted, yielded, hkd]; rfl) | simp [Region.wanted, yielded, hk0, hkd]) 47 (.tmp 1) rfl v4.heap.size rfl _ _ _ _ h6.out Try.underlying47 rfl (by kernel_rfl) ?_)
    | (go_at_call 22; refine (HE.out _ _ _ _ _ _ _ oG.out.row oW.out.row).mono ?_; rintro e v10 ⟨rfl, hb10⟩))
  have z_v10 : v9.heap.size ≤ v10.heap.size := hb10.size
  replace h6 : Hid _ := blk h6.out hb10
  replace h9 : Hid _ := blk h9.out hb10
  replace oW : Hid (OwnSegB v10 w.heap.size v4.heap.size _ _ _ S) := oW.out.below hb10
  replace oG : Hid (OwnSegB v10 v5.heap.size v8.heap.size _ _ _ S) := oG.out.below hb10
  replace hg : Below w.heap.size w v10 := keepB hg (Nat.le_refl _) hb10
  go_upto_region 7 with (first
    | (refine wpList_load_rowG (by first | rfl | (simp only [Region.wanted, yielded, hkd]; rfl) | simp [Region.wanted, yielded, hk0, hkd]) 47 (.tmp 2) rfl v8.heap.size rfl _ _ _ _ h9.out Try.underlying47 rfl (by kernel_rfl) ?_)
    | (go_at_call 23; refine (HM.out _ _ _ _ _ _ oG.out).mono ?_; rintro e v15 ⟨rfl, oM0, y15⟩))
  clear oG
  have z_v15 : v10.heap.size ≤ v15.heap.size := y15.size
  replace h6 : Hid _ := (y15.block (v4.heap.size) (by omega) (by omega)).trans h6.out
  replace h9 : Hid _ := (y15.block (v8.heap.size) (by omega) (by omega)).trans h9.out
  replace oW : Hid (OwnSegB v15 w.heap.size v4.heap.size _ _ _ S) := oW.out.same (y15.same (by omega) (by omega)) y15.size
  replace hg : Below w.heap.size w v15 := hg.trans (y15.frame (by omega) (by omega))
  have oM : Hid (OwnSegB v15 v5.heap.size v8.heap.size _ _ _ SM) := oM0
  clear oM0
  go_upto_region 13 with (first
    | (refine wpList_load_rowG (by first | rfl | (simp only [Region.wanted, yielded, hkd]; rfl) | simp [Region.wanted, yielded, hk0, hkd]) 47 (.tmp 2) rfl v8.heap.size rfl _ _ _ _ h9.out Try.underlying47 rfl (by kernel_rfl) ?_)
    | (go_at_call 24; refine (HH.out _ _ _ _ _ _ oM.out).mono ?_; rintro e v16 ⟨rfl, hb16⟩))
  have z_v16 : v15.heap.size ≤ v16.heap.size := hb16.size
  replace h6 : Hid _ := blk h6.out hb16
  replace h9 : Hid _ := blk h9.out hb16
  replace oW : Hid (OwnSegB v16 w.heap.size v4.heap.size _ _ _ S) := oW.out.below hb16
  replace oM : Hid (OwnSegB v16 v5.heap.size v8.heap.size _ _ _ SM) := oM.out.below hb16
  replace hg : Below w.heap.size w v16 := keepB hg (Nat.le_refl _) hb16
  go_upto_region 14 with (first
    | (go_at_call 21; refine (HI.out _).mono ?_; rintro e v18 ⟨y1, y2, y3, rfl, own18, hb18⟩; obtain ⟨⟨p18, c18, rfl, _⟩, ⟨q18, d18, rfl, _⟩, ⟨r18, e18, rfl, _⟩⟩ := own18.row)
    | (refine wpList_store_row rfl 47 (.tmp 5) (.tmp 23) rfl v18.heap.size #[.slice p18 S.ss.length c18, .slice q18 S.us.length d18, .slice r18 S.ns.length e18] rfl rfl _ _ (heap_alloc_new v18 _) (by kernel_rfl) rfl (by simp [Value.oneCell']) ?_))
  have z_v18 : v16.heap.size ≤ v18.heap.size := hb18.size
  replace h6 : Hid _ := blk h6.out hb18
  replace h9 : Hid _ := blk h9.out hb18
  replace oW : Hid (OwnSegB v18 w.heap.size v4.heap.size _ _ _ S) := oW.out.below hb18
  replace oM : Hid (OwnSegB v18 v5.heap.size v8.heap.size _ _ _ SM) := oM.out.below hb18
  replace hg : Below w.heap.size w v18 := keepB hg (Nat.le_refl _) hb18
  have h19 : Hid _ := setRow_heap _ v18.heap.size _ #[.slice p18 S.ss.length c18, .slice q18 S.us.length d18, .slice r18 S.ns.length e18] _ _ (heap_alloc_new v18 (.cells #[.slice none 0 0, .slice none 0 0, .slice none 0 0] 47))
  have hb19 : Below v18.heap.size v18 ((v18.alloc (.cells #[.slice none 0 0, .slice none 0 0, .slice none 0 0] 47)).setRow v18.heap.size #[.slice p18 S.ss.length c18, .slice q18 S.us.length d18, .slice r18 S.ns.length e18]) := setRow_fresh _ _ _
  generalize ((v18.alloc (.cells #[.slice none 0 0, .slice none 0 0, .slice none 0 0] 47)).setRow v18.heap.size #[.slice p18 S.ss.length c18, .slice q18 S.us.length d18, .slice r18 S.ns.length e18]) = v19 at h19 hb19 ⊢
  have zz_v19 : v18.heap.size < v19.heap.size := (Array.getElem?_eq_some_iff.1 h19.out).1
  have oH : Hid (OwnSegB v18 _ _ _ _ _ S) := own18
  clear own18
  have z_v19 : v18.heap.size ≤ v19.heap.size := hb19.size
  replace h6 : Hid _ := blk h6.out hb19
  replace h9 : Hid _ := blk h9.out hb19
  replace oW : Hid (OwnSegB v19 w.heap.size v4.heap.size _ _ _ S) := oW.out.below hb19
  replace oM : Hid (OwnSegB v19 v5.heap.size v8.heap.size _ _ _ SM) := oM.out.below hb19
  replace oH : Hid (OwnSegB v19 _ _ _ _ _ S) := oH.out.below hb19
  replace hg : Below w.heap.size w v19 := keepB hg (Nat.le_refl _) hb19
  go_upto_region 16 with (first
    | (refine wpList_load_rowG (by first | rfl | (simp only [Region.wanted, yielded, hkd]; rfl) | simp [Region.wanted, yielded, hk0, hkd]) 47 (.tmp 5) rfl v18.heap.size rfl _ _ _ _ h19.out Try.underlying47 rfl (by kernel_rfl) ?_)
    | (refine wpList_load_rowG (by first | rfl | (simp only [Region.wanted, yielded, hkd]; rfl) | simp [Region.wanted, yielded, hk0, hkd]) 47 (.tmp 1) rfl v4.heap.size rfl _ _ _ _ h6.out Try.underlying47 rfl (by kernel_rfl) ?_)
    | (go_at_call 22; refine (HE.out _ _ _ _ _ _ _ oH.out.row oW.out.row).mono ?_; rintro e v20 ⟨rfl, hb20⟩))
  have z_v20 : v19.heap.size ≤ v20.heap.size := hb20.size
  replace h6 : Hid _ := blk h6.out hb20
  replace h9 : Hid _ := blk h9.out hb20
  replace h19 : Hid _ := blk h19.out hb20
  replace oW : Hid (OwnSegB v20 w.heap.size v4.heap.size _ _ _ S) := oW.out.below hb20
  replace oM : Hid (OwnSegB v20 v5.heap.size v8.heap.size _ _ _ SM) := oM.out.below hb20
  replace oH : Hid (OwnSegB v20 _ _ _ _ _ S) := oH.out.below hb20
  replace hg : Below w.heap.size w v20 := keepB hg (Nat.le_refl _) hb20
  go_wp2_with (first
    | (refine wpList_load_rowG (by first | rfl | (simp only [Region.wanted, yielded, hkd]; rfl) | simp [Region.wanted, yielded, hk0, hkd]) 47 (.tmp 2) rfl v8.heap.size rfl _ _ _ _ h9.out Try.underlying47 rfl (by kernel_rfl) ?_)
    | (go_at_call 24; refine (HH.out _ _ _ _ _ _ oM.out).mono ?_; rintro e v21 ⟨rfl, hb21⟩))
  go_ret
  exact ⟨rfl, keepB hg (Nat.le_refl _) hb21⟩

set_option maxRecDepth 100000 in
theorem lifted (os : Os) (started : os.Started) (H : Type) (enc : TypeId × Value → H) :
    ReturnsInHanded {} Try.checked os 6 .any (Rows.fnExactDeskSegmentSpec.pre6 enc Try.prog Try.f6 Rows.fnExactDeskSegmentRow.domain false) (Rows.fnExactDeskSegmentSpec.post enc Try.prog Try.f6 false true false false) := by
  refine returnsInHanded_of_change (C := Try.checked) own started (by kernel_rfl) Try.func6
    (ChangeSpec.witness6 (enc := enc) (C := Try.checked) false ⟨#[], #[], []⟩ 8 (by kernel_rfl) (by kernel_rfl) (by kernel_rfl) (by kernel_rfl)) ?_
  intro W base args ds gs before hval0 hW hcnd _
  have hval : ∀ (j : Nat) t v, Try.f6.params[j]? = some t → args[j]? = some v → Value.okWide Try.prog W .any base t v := hval0
  have hW' := hW
  obtain ⟨p, q, hA0, hV, rfl, hfz, hnd⟩ := hW
  have hA : DataW.TrodAll enc Try.prog W 0 (fun _ => true) true Try.f6.params.toList args.toList ds p := hA0
  rw [Try.params6] at hA hval
  obtain ⟨hnil, rfl, rfl⟩ := trodAll_nil hA
  obtain rfl : args = #[] := by cases args; simp_all
  obtain ⟨rfl, rfl⟩ := trodVars_none hV
  clear hA0 hval0
  refine (walk  W ).mono fun e W' ⟨he, bel⟩ => ?_
  subst he
  exact ⟨_, rfl, _, _, _, [], _, [], hW', trodAll_mk1 (shut_bool Try.underlying4 _), trodAll_mk0, rfl, bel.frame _, fun h => by cases h⟩

/-- The statement. -/
theorem proved : Rows.FnExactDeskSegmentSaid :=
  OpenClaim.holds_of_wide 6 Try.f6 rfl rfl rfl rfl rfl rfl rfl ⟨rfl, rfl, rfl, rfl, rfl⟩ rfl rfl rfl rfl rfl (by kernel_rfl) Try.func6 (by kernel_rfl)
    (of_decide_eq_true (by kernel_rfl)) (by unfold Func.isWrapper; first | (rw [if_pos (by decide +kernel)]; kernel_rfl) | (rw [if_neg (by decide +kernel)]; exact ⟨rfl, rfl⟩))
    (fun os started H enc _ => lifted os started H enc)
#print axioms proved
end Go.Proofs.Ytklpaleghanhhaa.fnExactDeskSegment
