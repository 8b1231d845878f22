/- MasterRight: at every master the program answers as the model does and turns nothing; no condition. -/
import Derived.Test.YtineecongiplgaaRows
import Derived.Test.YtineecongiplgaaMstR
import Derived.Test.YtineecongiplgaaMstS
import Derived.Test.YtineecongiplgaaRecOw
import Derived.Test.YtineecongiplgaaLoadS
import Derived.WalkKit
import Derived.WalkSpells
import Derived.ProofKit
import Derived.OpenShut
import Derived.ShutString
import Derived.ChangeOld
import Derived.Below
import Derived.Outline
import Derived.Deep.RegionHeld3
import Derived.Deep.RegionWith
import Derived.Deep.DeepCutAuto
import Derived.Lib.SmallJoins
import Derived.Carry
namespace Go.Proofs.Ytineecongiplgaa.fnExactMasterRight
open Go.ChangeShapes Go.WideShapes Go.ChangeAt Go.RowKit
open Go.ChangeMaps (open_string shut_string)
set_option linter.unusedVariables false
set_option linter.unusedSimpArgs false

theorem own : ownKnob Try.prog.godebug = none := by kernel_rfl
theorem laidOut : laidOutB Try.prog = true := by kernel_rfl

set_option maxRecDepth 100000 in
set_option maxHeartbeats 1600000 in
/-- The walk: the law returns true, and nothing that was there has turned. -/
theorem walk (s0 : Mst) (p0 q0 : Option Addr) (c0 d0 : Nat) (w : World) (w0 : InW w p0 s0.op ∧ InD w q0 s0.dn ∧ ∀ x ∈ s0.dn, (Lit.int .i64 x.i).wf = true) :
    Calls Try.prog 4 #[.agg #[.int .i64 s0.nx, .slice p0 s0.op.length c0, .slice q0 s0.dn.length d0]] w fun e w' => e = .returned (.bool true) ∧ Below w.heap.size w w' := by
  obtain ⟨i1, i2, i3⟩ := w0
  have hX : Hid _ := heap_alloc_new w (.cells #[.int .i64 s0.nx, .slice p0 s0.op.length c0, .slice q0 s0.dn.length d0] 46)
  have hA0 := all_alloc w (.cells #[.int .i64 s0.nx, .slice p0 s0.op.length c0, .slice q0 s0.dn.length d0] 46)
  have HSZ : Hid (∀ W, Below w.heap.size w W → Calls Try.prog 27 #[.agg #[.int .i64 s0.nx, .slice p0 s0.op.length c0, .slice q0 s0.dn.length d0], .int .i64 1048576] W fun x w' => x = .returned (.int .i64 (if s0.tot ≤ 1048576 then 1048576 - s0.tot else -1)) ∧ Below W.heap.size W w') := fun W hW => szMaster_any s0 p0 q0 c0 d0 W (i1.below hW) (i2.below hW)
  by_cases hle : s0.tot ≤ 1048576
  case neg =>
    rw [if_neg hle] at HSZ
    clear hle i1 i2 i3
    go_enter Try.func4, Try.ntmps4
    go_upto_region 1 with fail
    generalize w.alloc (.cells #[.int .i64 s0.nx, .slice p0 s0.op.length c0, .slice q0 s0.dn.length d0] 46) = A at hX hA0 ⊢
    go_wp2_with (first
      | (refine wpList_load_rowG (by first | rfl | (simp only [Region.wanted, yielded, hkd]; rfl)) 46 (.tmp 1) rfl w.heap.size rfl _ _ _ _ hX.out Try.underlying46 rfl (by kernel_rfl) ?_)
      | (go_at_call 27; refine (HSZ.out _ hA0).mono ?_; rintro e v1 ⟨rfl, hb1⟩))
    go_ret
    exact ⟨rfl, keepB hA0 (Nat.le_refl _) hb1⟩
  rw [if_pos hle] at HSZ
  have h3 : ¬ (1048576 : Int) - s0.tot < 0 := by omega
  have HTO : Hid (∀ W, Below w.heap.size w W → Calls Try.prog 29 #[.agg #[.int .i64 s0.nx, .slice p0 s0.op.length c0, .slice q0 s0.dn.length d0]] W fun x w' => ∃ v1 v2, x = .returned (.agg #[.int .i64 s0.nx, v1, v2]) ∧ OwnMst w' W.heap.size w'.heap.size v1 v2 s0 ∧ Below W.heap.size W w') := fun W hW => toMaster_any s0 p0 q0 c0 d0 W hle (i1.below hW) (i2.below hW)
  have HE : Hid (∀ (W : World) (v1 v2 x1 x2 : Value), RowMst W v1 v2 s0 → RowMst W x1 x2 s0 → Calls Try.prog 31 #[.agg #[.int .i64 s0.nx, v1, v2], .agg #[.int .i64 s0.nx, x1, x2]] W fun x w' => x = .returned (.bool true) ∧ Below W.heap.size W w') := fun W v1 v2 x1 x2 h1 h2 => eqMaster_same s0 v1 v2 x1 x2 W hle h1 h2
  have HS : Hid (∀ (W : World) (v1 v2 : Value), RowMst W v1 v2 s0 → Calls Try.prog 28 #[.agg #[.int .i64 s0.nx, v1, v2]] W fun e w' => e = .returned (.bool s0.right) ∧ Below W.heap.size W w') := fun W v1 v2 h => specMasterRight_any s0 v1 v2 W hle h
  have HI : Hid (∀ (W : World) (v1 v2 : Value), RowMst W v1 v2 s0 → Calls Try.prog 30 #[.agg #[.int .i64 s0.nx, v1, v2]] W fun e w' => e = .returned (.bool s0.right) ∧ Below W.heap.size W w') := fun W v1 v2 h => masterRight_any s0 v1 v2 W hle i3 h
  generalize s0.right = R at HS HI
  have hRR : (R != R) = false := by cases R <;> rfl
  clear i1 i2 i3 hle
  go_enter Try.func4, Try.ntmps4
  go_upto_region 1 with fail
  generalize w.alloc (.cells #[.int .i64 s0.nx, .slice p0 s0.op.length c0, .slice q0 s0.dn.length d0] 46) = A at hX hA0 ⊢
  have hg := hA0
  go_upto_region 5 with (first
    | (refine wpList_load_rowG (by first | rfl | (simp only [Region.wanted, yielded, hkd]; rfl)) 46 (.tmp 1) rfl w.heap.size rfl _ _ _ _ hX.out Try.underlying46 rfl (by kernel_rfl) ?_)
    | (go_at_call 27; refine (HSZ.out _ hA0).mono ?_; rintro e v1 ⟨rfl, hb1⟩))
  replace hX : Hid _ := blk hX.out hb1
  replace hg : Below w.heap.size w v1 := keepB hg (Nat.le_refl _) hb1
  go_upto_region 6 with (first
    | (refine wpList_load_rowG (by first | rfl | (simp only [Region.wanted, yielded, hkd]; rfl)) 46 (.tmp 1) rfl w.heap.size rfl _ _ _ _ hX.out Try.underlying46 rfl (by kernel_rfl) ?_)
    | (go_at_call 29; refine (HTO.out _ hg).mono ?_; rintro e v2 ⟨y1, y2, rfl, own2, hb2⟩)
    | (go_at_call 28; refine (HS.out _ _ _ own2.row).mono ?_; rintro e v3 ⟨rfl, hb3⟩))
  clear own2
  replace hX : Hid _ := blk (blk hX.out hb2) hb3
  replace hg : Below w.heap.size w v3 := keepB (keepB hg (Nat.le_refl _) hb2) (Nat.le_refl _) hb3
  go_upto_region 7 with (first
    | (refine wpList_load_rowG (by first | rfl | (simp only [Region.wanted, yielded, hkd]; rfl)) 46 (.tmp 1) rfl w.heap.size rfl _ _ _ _ hX.out Try.underlying46 rfl (by kernel_rfl) ?_)
    | (go_at_call 29; refine (HTO.out _ hg).mono ?_; rintro e v6 ⟨y1, y2, rfl, own6, hb6⟩; obtain ⟨⟨p6, c6, rfl, _⟩, ⟨q6, d6, rfl, _⟩⟩ := own6.row)
    | (refine wpList_store_row rfl 52 (.tmp 5) (.tmp 16) rfl v6.heap.size #[.int .i64 s0.nx, .slice p6 s0.op.length c6, .slice q6 s0.dn.length d6] rfl rfl _ _ (heap_alloc_new v6 _) (by kernel_rfl) rfl (by simp [Value.oneCell']) ?_))
  have h7 : Hid _ := setRow_heap _ v6.heap.size _ #[.int .i64 s0.nx, .slice p6 s0.op.length c6, .slice q6 s0.dn.length d6] _ _ (heap_alloc_new v6 (.cells #[.int .i64 0, .slice none 0 0, .slice none 0 0] 52))
  have hb7 : Below v6.heap.size v6 ((v6.alloc (.cells #[.int .i64 0, .slice none 0 0, .slice none 0 0] 52)).setRow v6.heap.size #[.int .i64 s0.nx, .slice p6 s0.op.length c6, .slice q6 s0.dn.length d6]) := rcRow_fresh _ _ _
  generalize ((v6.alloc (.cells #[.int .i64 0, .slice none 0 0, .slice none 0 0] 52)).setRow v6.heap.size #[.int .i64 s0.nx, .slice p6 s0.op.length c6, .slice q6 s0.dn.length d6]) = v7 at h7 hb7 ⊢
  have o7 : Hid (RowMst v7 _ _ s0) := own6.row.below hb7
  clear own6
  replace hX : Hid _ := blk (blk hX.out hb6) hb7
  replace hg : Below w.heap.size w v7 := keepB (keepB hg (Nat.le_refl _) hb6) (Nat.le_refl _) hb7
  go_upto_region 8 with (first
    | (refine wpList_load_rowG (by first | rfl | (simp only [Region.wanted, yielded, hkd]; rfl)) 52 (.tmp 5) rfl v6.heap.size rfl _ _ _ _ h7.out Try.underlying52 rfl (by kernel_rfl) ?_)
    | (go_at_call 30; refine (HI.out _ _ _ o7.out).mono ?_; rintro e v8 ⟨rfl, hb8⟩))
  replace hX : Hid _ := blk hX.out hb8
  replace h7 : Hid _ := blk h7.out hb8
  replace o7 : Hid (RowMst v8 _ _ s0) := o7.out.below hb8
  replace hg : Below w.heap.size w v8 := keepB hg (Nat.le_refl _) hb8
  go_upto_region 10 with fail
  have hR : Below v8.heap.size v8 v8.drew := Below.drew (Below.refl _ _)
  refine wp_region_held_drew (S := (fun w' => Below v8.heap.size v8 w')) (by kernel_rfl) ?_ (fun hHeld => ?_)
  · (try dsimp only); exact hR
  refine yieldH (i := 0) (v := .agg #[.int .i64 s0.nx, .slice p6 s0.op.length c6, .slice q6 s0.dn.length d6]) rfl (by kernel_rfl) (by kernel_rfl) (by kernel_rfl) (fun _ _ _ h => h) (by rfl) (fun W hW => exec_load_row 52 (.tmp 5) rfl v6.heap.size rfl _ _ _ _ (blk h7.out hW) Try.underlying52 rfl (by kernel_rfl)) (by assumption) ?_
  try simp only [Act.put, List.setIfInBounds_toArray, List.set_cons_zero, List.set_cons_succ, List.getElem_toArray, List.getElem_cons_succ, List.getElem_cons_zero]
  refine yieldH (i := 1) (v := .agg #[.int .i64 s0.nx, .slice p0 s0.op.length c0, .slice q0 s0.dn.length d0]) rfl (by kernel_rfl) (by kernel_rfl) (by kernel_rfl) (fun _ _ _ h => h) (by rfl) (fun W hW => exec_load_row 46 (.tmp 1) rfl w.heap.size rfl _ _ _ _ (blk hX.out hW) Try.underlying46 rfl (by kernel_rfl)) (by assumption) ?_
  try simp only [Act.put, List.setIfInBounds_toArray, List.set_cons_zero, List.set_cons_succ, List.getElem_toArray, List.getElem_cons_succ, List.getElem_cons_zero]
  refine wpAnyH_ready (rs := [2]) (by kernel_rfl) (by simp) ?_
  refine AllReadyH.cons rfl (fun K hK => ?_) AllReadyH.nil
  go_simp
  go_at_call 29; refine (HTO.out _ (keepB hg (Nat.le_refl _) hR)).mono ?_; rintro e7 vE ⟨y1, y2, rfl, ownE, hbE⟩; have t7 : Below v8.heap.size v8 vE := keepB hR (Nat.le_refl _) hbE
  dsimp only
  refine hK.out _ _ ?_ (fun hHeld => ?_)
  · (try dsimp only); exact t7
  clear hK K
  try simp only [Act.put, List.setIfInBounds_toArray, List.set_cons_zero, List.set_cons_succ, List.getElem_toArray, List.getElem_cons_succ, List.getElem_cons_zero]
  refine wpAnyH_ready (rs := [3]) (by kernel_rfl) (by simp) ?_
  refine AllReadyH.cons rfl (fun K hK => ?_) AllReadyH.nil
  go_simp
  go_at_call 31; refine (HE.out _ _ _ _ _ (o7.out.below t7) ownE.row).mono ?_; rintro e8 v9 ⟨rfl, hb8'⟩; have t8 : Below v8.heap.size v8 v9 := keepB t7 (Nat.le_refl _) hb8'
  dsimp only
  refine hK.out _ _ ?_ (fun hHeld => ?_)
  · (try dsimp only); exact t8
  clear hK K
  try simp only [Act.put, List.setIfInBounds_toArray, List.set_cons_zero, List.set_cons_succ, List.getElem_toArray, List.getElem_cons_succ, List.getElem_cons_zero]
  first
    | (refine skipH (i := 4) rfl (by kernel_rfl) (by kernel_rfl) (by kernel_rfl) (fun _ _ _ h => h) (by rfl) (by assumption) ?_; try simp only [Act.put, List.setIfInBounds_toArray, List.set_cons_zero, List.set_cons_succ, List.getElem_toArray, List.getElem_cons_succ, List.getElem_cons_zero])
    | (refine yieldH (i := 4) (v := ?_) rfl (by kernel_rfl) (by kernel_rfl) (by kernel_rfl) (fun _ _ _ h => h) (by rfl) ?_ (by assumption) ?_; rotate_left; (intro w hSw; (try dsimp only at hSw); go_simp; (try with_reducible rfl)); try simp only [Act.put, List.setIfInBounds_toArray, List.set_cons_zero, List.set_cons_succ, List.getElem_toArray, List.getElem_cons_succ, List.getElem_cons_zero])
    | fail
  refine wpAnyH_done (by kernel_rfl) ?_ _
  go_wp2
  go_ret
  exact ⟨rfl, keepB hg (Nat.le_refl _) t8⟩

set_option maxRecDepth 100000 in
theorem lifted (os : Os) (started : os.Started) (H : Type) (enc : TypeId × Value → H) :
    ReturnsInHanded {} Try.checked os 4 .any (Rows.fnExactMasterRightSpec.pre6 enc Try.prog Try.f4 Rows.fnExactMasterRightRow.domain false) (Rows.fnExactMasterRightSpec.post enc Try.prog Try.f4 false true false false) := by
  refine returnsInHanded_of_change (C := Try.checked) own started (by kernel_rfl) Try.func4
    (ChangeSpec.witness6 (enc := enc) (C := Try.checked) false ⟨#[], #[.agg #[.int .i64 0, .slice none 0 0, .slice none 0 0]], []⟩ 8 (by kernel_rfl) (by kernel_rfl) (by kernel_rfl) (by kernel_rfl)) ?_
  intro W base args ds gs before hval0 hW hcnd _
  have hval : ∀ (j : Nat) t v, Try.f4.params[j]? = some t → args[j]? = some v → Value.okWide Try.prog W .any base t v := hval0
  have hW' := hW
  obtain ⟨p, q, hA0, hV, rfl, hfz, hnd⟩ := hW
  have hA : DataW.TrodAll enc Try.prog W 0 (fun _ => true) true Try.f4.params.toList args.toList ds p := hA0
  rw [Try.params4] at hA hval
  obtain ⟨v0, vs0, d0, ds0, p0, q0, hargs, rfl, rfl, h0, r0⟩ := trodAll_cons hA
  obtain ⟨rfl, rfl, rfl⟩ := trodAll_nil r0
  obtain rfl : args = #[v0] := by cases args; simp_all
  obtain ⟨rfl, rfl⟩ := trodVars_none hV
  have k0 := h0
  have lt0 : ∀ x ∈ p0, x.block < W.heap.size := by obtain ⟨m, hm⟩ := k0; exact DataW.trod_lt m _ _ _ hm
  obtain ⟨s0, pp0, qq0, cc0, dd0, rfl, w0⟩ := open_masterw (hval 0 46 v0 rfl rfl) h0
  clear hA0 hval0
  refine (walk s0 pp0 qq0 cc0 dd0 W w0).mono fun e W' ⟨he, bel⟩ => ?_
  subst he
  exact ⟨_, rfl, _, _, _, [], _, [], hW', trodAll_mk1 (shut_bool Try.underlying4 _), (trodAll_cons_mk (Below.trod laidOut (by kernel_rfl) (of_decide_eq_true (by kernel_rfl)) k0 bel lt0) trodAll_mk0), rfl, bel.frame _, fun h => by cases h⟩

/-- The statement. -/
theorem proved : Rows.FnExactMasterRightSaid :=
  OpenClaim.holds_of_wide 4 Try.f4 rfl rfl rfl rfl rfl rfl rfl ⟨rfl, rfl, rfl, rfl, rfl⟩ rfl rfl rfl rfl rfl (by kernel_rfl) Try.func4 (by kernel_rfl)
    (of_decide_eq_true (by kernel_rfl)) (by unfold Func.isWrapper; first | (rw [if_pos (by decide +kernel)]; kernel_rfl) | (rw [if_neg (by decide +kernel)]; exact ⟨rfl, rfl⟩))
    (fun os started H enc _ => lifted os started H enc)
#print axioms proved
end Go.Proofs.Ytineecongiplgaa.fnExactMasterRight
