/- A new station is made, by the program and by the model: the same, in memory of its own. -/
import Derived.Test.YtancfnpmbddfoaaRows
import Derived.Test.YtancfnpmbddfoaaNewS
import Derived.Test.YtancfnpmbddfoaaLoadS
import Derived.WalkKit
import Derived.WalkSpells
import Derived.ProofKit
import Derived.OpenShut
import Derived.ShutString
import Derived.ChangeOld
import Derived.Below
import Derived.Outline
import Derived.Deep.RegionHeld3
import Derived.Deep.RegionWith
import Derived.Deep.DeepCutAuto
namespace Go.Proofs.Ytancfnpmbddfoaa.fnExactStationNew
open Go.ChangeShapes Go.WideShapes Go.ChangeAt Go.RowKit
open Go.ChangeMaps (open_string shut_string)
set_option linter.unusedVariables false
set_option linter.unusedSimpArgs false

theorem own : ownKnob Try.prog.godebug = none := by kernel_rfl
theorem laidOut : laidOutB Try.prog = true := by kernel_rfl

set_option maxRecDepth 100000 in
set_option maxHeartbeats 1600000 in
/-- The walk: the law returns true, and nothing that was there has turned. -/
theorem walk (a0 : Int) (a1 : Int) (w : World) (w0 : (Lit.int .i64 a0).wf = true) (w1 : (Lit.int .i64 a1).wf = true) :
    Calls Try.prog 4 #[.int .i64 a0, .int .i64 a1] w fun e w' => e = .returned (.bool true) ∧ Below w.heap.size w w' := by
  obtain ⟨A, B, C, HS, HI⟩ : ∃ A B C : Int, Hid (∀ W : World, Calls Try.prog 14 #[.int .i64 a0, .int .i64 a1] W fun e w' => e = .returned (.agg #[.int .i64 A, .int .i64 B, .int .i64 0, .int .i64 0, .int .i64 0, .int .i64 0, .int .i64 0, .int .i64 0, .int .i64 0, .int .i64 0, .int .i64 0, .int .i64 0, .int .i64 0, .int .i64 0, .int .i64 0, .slice none 0 0, .slice none 0 0, .slice none 0 0, .slice none 0 0, .slice none 0 0, .int .i64 C]) ∧ Below W.heap.size W w') ∧ Hid (∀ W : World, Calls Try.prog 15 #[.int .i64 a0, .int .i64 a1] W fun e w' => e = .returned (.agg #[.int .i64 A, .int .i64 B, .int .i64 0, .int .i64 0, .int .i64 0, .int .i64 0, .int .i64 0, .int .i64 0, .int .i64 0, .int .i64 0, .int .i64 0, .int .i64 0, .int .i64 0, .int .i64 0, .int .i64 0, .slice none 0 0, .slice none 0 0, .slice none 0 0, .slice none 0 0, .slice none 0 0, .int .i64 C]) ∧ Below W.heap.size W w') := by
    cases h : okN a0 a1 with
    | true => exact ⟨a0, a1, 0, fun W => by have := specStationNew_any a0 a1 W; rw [h] at this; exact this, fun W => by have := stationNew_any a0 a1 W; rw [h] at this; exact this⟩
    | false => exact ⟨0, 0, 1, fun W => by have := specStationNew_any a0 a1 W; rw [h] at this; exact this, fun W => by have := stationNew_any a0 a1 W; rw [h] at this; exact this⟩
  have HE : Hid (∀ W : World, Calls Try.prog 16 #[.agg #[.int .i64 A, .int .i64 B, .int .i64 0, .int .i64 0, .int .i64 0, .int .i64 0, .int .i64 0, .int .i64 0, .int .i64 0, .int .i64 0, .int .i64 0, .int .i64 0, .int .i64 0, .int .i64 0, .int .i64 0, .slice none 0 0, .slice none 0 0, .slice none 0 0, .slice none 0 0, .slice none 0 0, .int .i64 C], .agg #[.int .i64 A, .int .i64 B, .int .i64 0, .int .i64 0, .int .i64 0, .int .i64 0, .int .i64 0, .int .i64 0, .int .i64 0, .int .i64 0, .int .i64 0, .int .i64 0, .int .i64 0, .int .i64 0, .int .i64 0, .slice none 0 0, .slice none 0 0, .slice none 0 0, .slice none 0 0, .slice none 0 0, .int .i64 C]] W fun e w' => e = .returned (.bool true) ∧ Below W.heap.size W w') := fun W => by
    have r := (own_newS W A B).stn.rows
    exact eqStationOut_nil (newS A B) C (.slice none 0 0) (.slice none 0 0) (.slice none 0 0) (.slice none 0 0) (.slice none 0 0) (.slice none 0 0) (.slice none 0 0) (.slice none 0 0) W (by simp [newS]) (by simp [newS]) (by simp [newS]) (by simp [newS]) (by simp [newS]) r.1 r.2.1 r.2.2.1 r.2.2.2 r.1 r.2.1 r.2.2.1 r.2.2.2
  have HM : Hid (∀ W : World, Calls Try.prog 17 #[.agg #[.int .i64 A, .int .i64 B, .int .i64 0, .int .i64 0, .int .i64 0, .int .i64 0, .int .i64 0, .int .i64 0, .int .i64 0, .int .i64 0, .int .i64 0, .int .i64 0, .int .i64 0, .int .i64 0, .int .i64 0, .slice none 0 0, .slice none 0 0, .slice none 0 0, .slice none 0 0, .slice none 0 0, .int .i64 C], .int .i64 1] W fun e w' => e = .returned (.int .i64 1) ∧ Below W.heap.size W w') := fun W => (markStationOut_nil (newS A B) C W.heap.size W.heap.size (.slice none 0 0) (.slice none 0 0) (.slice none 0 0) (.slice none 0 0) W (by simp [newS, Stn.cnt, wsum]) (own_newS W A B)).mono fun e w' h => ⟨h.1, h.2.2.frame (Nat.le_refl _) (Nat.le_refl _)⟩
  have HH : Hid (∀ W : World, Calls Try.prog 18 #[.agg #[.int .i64 A, .int .i64 B, .int .i64 0, .int .i64 0, .int .i64 0, .int .i64 0, .int .i64 0, .int .i64 0, .int .i64 0, .int .i64 0, .int .i64 0, .int .i64 0, .int .i64 0, .int .i64 0, .int .i64 0, .slice none 0 0, .slice none 0 0, .slice none 0 0, .slice none 0 0, .slice none 0 0, .int .i64 C], .int .i64 1] W fun e w' => e = .returned (.int .i64 1) ∧ Below W.heap.size W w') := fun W => heldStationOut_nil (newS A B) C W.heap.size (.slice none 0 0) (.slice none 0 0) (.slice none 0 0) (.slice none 0 0) W (by simp [newS, Stn.cnt, wsum]) (own_newS W A B).stn
  go_enter Try.func4, Try.ntmps4
  go_upto_region 2 with (first
    | (go_at_call 14; refine (HS.out _).mono ?_; rintro e v1 ⟨rfl, hb1⟩)
    | (refine wpList_store_row rfl 40 (.tmp 5) (.tmp 12) rfl v1.heap.size #[.int .i64 A, .int .i64 B, .int .i64 0, .int .i64 0, .int .i64 0, .int .i64 0, .int .i64 0, .int .i64 0, .int .i64 0, .int .i64 0, .int .i64 0, .int .i64 0, .int .i64 0, .int .i64 0, .int .i64 0, .slice none 0 0, .slice none 0 0, .slice none 0 0, .slice none 0 0, .slice none 0 0, .int .i64 C] rfl rfl _ _ (heap_alloc_new v1 _) (by kernel_rfl) rfl (by simp [Value.oneCell']) ?_))
  have hP1 : Hid _ := setRow_heap _ v1.heap.size _ #[.int .i64 A, .int .i64 B, .int .i64 0, .int .i64 0, .int .i64 0, .int .i64 0, .int .i64 0, .int .i64 0, .int .i64 0, .int .i64 0, .int .i64 0, .int .i64 0, .int .i64 0, .int .i64 0, .int .i64 0, .slice none 0 0, .slice none 0 0, .slice none 0 0, .slice none 0 0, .slice none 0 0, .int .i64 C] _ _ (heap_alloc_new v1 (.cells #[.int .i64 0, .int .i64 0, .int .i64 0, .int .i64 0, .int .i64 0, .int .i64 0, .int .i64 0, .int .i64 0, .int .i64 0, .int .i64 0, .int .i64 0, .int .i64 0, .int .i64 0, .int .i64 0, .int .i64 0, .slice none 0 0, .slice none 0 0, .slice none 0 0, .slice none 0 0, .slice none 0 0, .int .i64 0] 40))
  have hq1 : Below v1.heap.size v1 ((v1.alloc (.cells #[.int .i64 0, .int .i64 0, .int .i64 0, .int .i64 0, .int .i64 0, .int .i64 0, .int .i64 0, .int .i64 0, .int .i64 0, .int .i64 0, .int .i64 0, .int .i64 0, .int .i64 0, .int .i64 0, .int .i64 0, .slice none 0 0, .slice none 0 0, .slice none 0 0, .slice none 0 0, .slice none 0 0, .int .i64 0] 40)).setRow v1.heap.size #[.int .i64 A, .int .i64 B, .int .i64 0, .int .i64 0, .int .i64 0, .int .i64 0, .int .i64 0, .int .i64 0, .int .i64 0, .int .i64 0, .int .i64 0, .int .i64 0, .int .i64 0, .int .i64 0, .int .i64 0, .slice none 0 0, .slice none 0 0, .slice none 0 0, .slice none 0 0, .slice none 0 0, .int .i64 C]) := setRow_fresh _ _ _
  generalize (v1.alloc (.cells #[.int .i64 0, .int .i64 0, .int .i64 0, .int .i64 0, .int .i64 0, .int .i64 0, .int .i64 0, .int .i64 0, .int .i64 0, .int .i64 0, .int .i64 0, .int .i64 0, .int .i64 0, .int .i64 0, .int .i64 0, .slice none 0 0, .slice none 0 0, .slice none 0 0, .slice none 0 0, .slice none 0 0, .int .i64 0] 40)).setRow v1.heap.size #[.int .i64 A, .int .i64 B, .int .i64 0, .int .i64 0, .int .i64 0, .int .i64 0, .int .i64 0, .int .i64 0, .int .i64 0, .int .i64 0, .int .i64 0, .int .i64 0, .int .i64 0, .int .i64 0, .int .i64 0, .slice none 0 0, .slice none 0 0, .slice none 0 0, .slice none 0 0, .slice none 0 0, .int .i64 C] = v2 at hP1 hq1 ⊢
  have s2 := keepB hb1 (Nat.le_refl _) hq1
  go_upto_region 3 with (first
    | (go_at_call 15; refine (HI.out _).mono ?_; rintro e v3 ⟨rfl, hb3⟩)
    | (refine wpList_store_row rfl 40 (.tmp 6) (.tmp 15) rfl v3.heap.size #[.int .i64 A, .int .i64 B, .int .i64 0, .int .i64 0, .int .i64 0, .int .i64 0, .int .i64 0, .int .i64 0, .int .i64 0, .int .i64 0, .int .i64 0, .int .i64 0, .int .i64 0, .int .i64 0, .int .i64 0, .slice none 0 0, .slice none 0 0, .slice none 0 0, .slice none 0 0, .slice none 0 0, .int .i64 C] rfl rfl _ _ (heap_alloc_new v3 _) (by kernel_rfl) rfl (by simp [Value.oneCell']) ?_))
  have hP3 : Hid _ := setRow_heap _ v3.heap.size _ #[.int .i64 A, .int .i64 B, .int .i64 0, .int .i64 0, .int .i64 0, .int .i64 0, .int .i64 0, .int .i64 0, .int .i64 0, .int .i64 0, .int .i64 0, .int .i64 0, .int .i64 0, .int .i64 0, .int .i64 0, .slice none 0 0, .slice none 0 0, .slice none 0 0, .slice none 0 0, .slice none 0 0, .int .i64 C] _ _ (heap_alloc_new v3 (.cells #[.int .i64 0, .int .i64 0, .int .i64 0, .int .i64 0, .int .i64 0, .int .i64 0, .int .i64 0, .int .i64 0, .int .i64 0, .int .i64 0, .int .i64 0, .int .i64 0, .int .i64 0, .int .i64 0, .int .i64 0, .slice none 0 0, .slice none 0 0, .slice none 0 0, .slice none 0 0, .slice none 0 0, .int .i64 0] 40))
  have hq3 : Below v3.heap.size v3 ((v3.alloc (.cells #[.int .i64 0, .int .i64 0, .int .i64 0, .int .i64 0, .int .i64 0, .int .i64 0, .int .i64 0, .int .i64 0, .int .i64 0, .int .i64 0, .int .i64 0, .int .i64 0, .int .i64 0, .int .i64 0, .int .i64 0, .slice none 0 0, .slice none 0 0, .slice none 0 0, .slice none 0 0, .slice none 0 0, .int .i64 0] 40)).setRow v3.heap.size #[.int .i64 A, .int .i64 B, .int .i64 0, .int .i64 0, .int .i64 0, .int .i64 0, .int .i64 0, .int .i64 0, .int .i64 0, .int .i64 0, .int .i64 0, .int .i64 0, .int .i64 0, .int .i64 0, .int .i64 0, .slice none 0 0, .slice none 0 0, .slice none 0 0, .slice none 0 0, .slice none 0 0, .int .i64 C]) := setRow_fresh _ _ _
  generalize (v3.alloc (.cells #[.int .i64 0, .int .i64 0, .int .i64 0, .int .i64 0, .int .i64 0, .int .i64 0, .int .i64 0, .int .i64 0, .int .i64 0, .int .i64 0, .int .i64 0, .int .i64 0, .int .i64 0, .int .i64 0, .int .i64 0, .slice none 0 0, .slice none 0 0, .slice none 0 0, .slice none 0 0, .slice none 0 0, .int .i64 0] 40)).setRow v3.heap.size #[.int .i64 A, .int .i64 B, .int .i64 0, .int .i64 0, .int .i64 0, .int .i64 0, .int .i64 0, .int .i64 0, .int .i64 0, .int .i64 0, .int .i64 0, .int .i64 0, .int .i64 0, .int .i64 0, .int .i64 0, .slice none 0 0, .slice none 0 0, .slice none 0 0, .slice none 0 0, .slice none 0 0, .int .i64 C] = v4 at hP3 hq3 ⊢
  have hP4 : Hid _ := blk (blk hP1.out hb3) hq3
  have s4 := keepB (keepB s2 (Nat.le_refl _) hb3) (Nat.le_refl _) hq3
  go_upto_region 6 with (first
    | (refine wpList_load_rowG (by rfl) 40 (.tmp 6) rfl v3.heap.size rfl _ _ _ _ hP3.out Try.underlying40 rfl (by kernel_rfl) ?_)
    | (refine wpList_load_rowG (by rfl) 40 (.tmp 5) rfl v1.heap.size rfl _ _ _ _ hP4.out Try.underlying40 rfl (by kernel_rfl) ?_)
    | (go_at_call 16; refine (HE.out _).mono ?_; rintro e v5 ⟨rfl, hb5⟩))
  have hQ5 : Hid _ := blk hP3.out hb5
  have hP5 : Hid _ := blk hP4.out hb5
  have s5 := keepB s4 (Nat.le_refl _) hb5
  go_upto_region 8 with (first
    | (refine wpList_load_rowG (by rfl) 40 (.tmp 6) rfl v3.heap.size rfl _ _ _ _ hQ5.out Try.underlying40 rfl (by kernel_rfl) ?_)
    | (go_at_call 17; refine (HM.out _).mono ?_; rintro e v6 ⟨rfl, hb6⟩))
  have hQ6 : Hid _ := blk hQ5.out hb6
  have hP6 : Hid _ := blk hP5.out hb6
  have s6 := keepB s5 (Nat.le_refl _) hb6
  go_upto_region 13 with (first
    | (refine wpList_load_rowG (by rfl) 40 (.tmp 6) rfl v3.heap.size rfl _ _ _ _ hQ6.out Try.underlying40 rfl (by kernel_rfl) ?_)
    | (go_at_call 18; refine (HH.out _).mono ?_; rintro e v7 ⟨rfl, hb7⟩))
  have hQ7 : Hid _ := blk hQ6.out hb7
  have hP7 : Hid _ := blk hP6.out hb7
  have s7 := keepB s6 (Nat.le_refl _) hb7
  go_upto_region 14 with (first
    | (go_at_call 15; refine (HI.out _).mono ?_; rintro e v8 ⟨rfl, hb8⟩)
    | (refine wpList_store_row rfl 40 (.tmp 9) (.tmp 33) rfl v8.heap.size #[.int .i64 A, .int .i64 B, .int .i64 0, .int .i64 0, .int .i64 0, .int .i64 0, .int .i64 0, .int .i64 0, .int .i64 0, .int .i64 0, .int .i64 0, .int .i64 0, .int .i64 0, .int .i64 0, .int .i64 0, .slice none 0 0, .slice none 0 0, .slice none 0 0, .slice none 0 0, .slice none 0 0, .int .i64 C] rfl rfl _ _ (heap_alloc_new v8 _) (by kernel_rfl) rfl (by simp [Value.oneCell']) ?_))
  have hP8 : Hid _ := setRow_heap _ v8.heap.size _ #[.int .i64 A, .int .i64 B, .int .i64 0, .int .i64 0, .int .i64 0, .int .i64 0, .int .i64 0, .int .i64 0, .int .i64 0, .int .i64 0, .int .i64 0, .int .i64 0, .int .i64 0, .int .i64 0, .int .i64 0, .slice none 0 0, .slice none 0 0, .slice none 0 0, .slice none 0 0, .slice none 0 0, .int .i64 C] _ _ (heap_alloc_new v8 (.cells #[.int .i64 0, .int .i64 0, .int .i64 0, .int .i64 0, .int .i64 0, .int .i64 0, .int .i64 0, .int .i64 0, .int .i64 0, .int .i64 0, .int .i64 0, .int .i64 0, .int .i64 0, .int .i64 0, .int .i64 0, .slice none 0 0, .slice none 0 0, .slice none 0 0, .slice none 0 0, .slice none 0 0, .int .i64 0] 40))
  have hq8 : Below v8.heap.size v8 ((v8.alloc (.cells #[.int .i64 0, .int .i64 0, .int .i64 0, .int .i64 0, .int .i64 0, .int .i64 0, .int .i64 0, .int .i64 0, .int .i64 0, .int .i64 0, .int .i64 0, .int .i64 0, .int .i64 0, .int .i64 0, .int .i64 0, .slice none 0 0, .slice none 0 0, .slice none 0 0, .slice none 0 0, .slice none 0 0, .int .i64 0] 40)).setRow v8.heap.size #[.int .i64 A, .int .i64 B, .int .i64 0, .int .i64 0, .int .i64 0, .int .i64 0, .int .i64 0, .int .i64 0, .int .i64 0, .int .i64 0, .int .i64 0, .int .i64 0, .int .i64 0, .int .i64 0, .int .i64 0, .slice none 0 0, .slice none 0 0, .slice none 0 0, .slice none 0 0, .slice none 0 0, .int .i64 C]) := setRow_fresh _ _ _
  generalize (v8.alloc (.cells #[.int .i64 0, .int .i64 0, .int .i64 0, .int .i64 0, .int .i64 0, .int .i64 0, .int .i64 0, .int .i64 0, .int .i64 0, .int .i64 0, .int .i64 0, .int .i64 0, .int .i64 0, .int .i64 0, .int .i64 0, .slice none 0 0, .slice none 0 0, .slice none 0 0, .slice none 0 0, .slice none 0 0, .int .i64 0] 40)).setRow v8.heap.size #[.int .i64 A, .int .i64 B, .int .i64 0, .int .i64 0, .int .i64 0, .int .i64 0, .int .i64 0, .int .i64 0, .int .i64 0, .int .i64 0, .int .i64 0, .int .i64 0, .int .i64 0, .int .i64 0, .int .i64 0, .slice none 0 0, .slice none 0 0, .slice none 0 0, .slice none 0 0, .slice none 0 0, .int .i64 C] = v9 at hP8 hq8 ⊢
  have hQ9 : Hid _ := blk (blk hQ7.out hb8) hq8
  have hP9 : Hid _ := blk (blk hP7.out hb8) hq8
  have s9 := keepB (keepB s7 (Nat.le_refl _) hb8) (Nat.le_refl _) hq8
  go_upto_region 17 with (first
    | (refine wpList_load_rowG (by rfl) 40 (.tmp 9) rfl v8.heap.size rfl _ _ _ _ hP8.out Try.underlying40 rfl (by kernel_rfl) ?_)
    | (refine wpList_load_rowG (by rfl) 40 (.tmp 5) rfl v1.heap.size rfl _ _ _ _ hP9.out Try.underlying40 rfl (by kernel_rfl) ?_)
    | (go_at_call 16; refine (HE.out _).mono ?_; rintro e v10 ⟨rfl, hb10⟩))
  have hQ10 : Hid _ := blk hQ9.out hb10
  have s10 := keepB s9 (Nat.le_refl _) hb10
  go_wp2_with (first
    | (refine wpList_load_rowG (by rfl) 40 (.tmp 6) rfl v3.heap.size rfl _ _ _ _ hQ10.out Try.underlying40 rfl (by kernel_rfl) ?_)
    | (go_at_call 18; refine (HH.out _).mono ?_; rintro e v11 ⟨rfl, hb11⟩))
  go_ret
  exact ⟨rfl, keepB s10 (Nat.le_refl _) hb11⟩

set_option maxRecDepth 100000 in
theorem lifted (os : Os) (started : os.Started) (H : Type) (enc : TypeId × Value → H) :
    ReturnsInHanded {} Try.checked os 4 .any (Rows.fnExactStationNewSpec.pre6 enc Try.prog Try.f4 Rows.fnExactStationNewRow.domain false) (Rows.fnExactStationNewSpec.post enc Try.prog Try.f4 false true false false) := by
  refine returnsInHanded_of_change (C := Try.checked) own started (by kernel_rfl) Try.func4
    (ChangeSpec.witness6 (enc := enc) (C := Try.checked) false ⟨#[], #[.int .i64 0, .int .i64 0], []⟩ 8 (by kernel_rfl) (by kernel_rfl) (by kernel_rfl) (by kernel_rfl)) ?_
  intro W base args ds gs before hval0 hW hcnd _
  have hval : ∀ (j : Nat) t v, Try.f4.params[j]? = some t → args[j]? = some v → Value.okWide Try.prog W .any base t v := hval0
  have hW' := hW
  obtain ⟨p, q, hA0, hV, rfl, hfz, hnd⟩ := hW
  have hA : DataW.TrodAll enc Try.prog W 0 (fun _ => true) true Try.f4.params.toList args.toList ds p := hA0
  rw [Try.params4] at hA hval
  obtain ⟨v0, vs0, d0, ds0, p0, q0, hargs, rfl, rfl, h0, r0⟩ := trodAll_cons hA
  obtain ⟨v1, vs1, d1, ds1, p1, q1, rfl, rfl, rfl, h1, r1⟩ := trodAll_cons r0
  obtain ⟨rfl, rfl, rfl⟩ := trodAll_nil r1
  obtain rfl : args = #[v0, v1] := by cases args; simp_all
  obtain ⟨rfl, rfl⟩ := trodVars_none hV
  obtain ⟨a0, rfl, rfl, rfl, w0⟩ := open_int Try.underlying2 (hval 0 2 v0 rfl rfl) h0
  obtain ⟨a1, rfl, rfl, rfl, w1⟩ := open_int Try.underlying2 (hval 1 2 v1 rfl rfl) h1
  clear hA0 hval0
  refine (walk a0 a1 W w0 w1).mono fun e W' ⟨he, bel⟩ => ?_
  subst he
  exact ⟨_, rfl, _, _, _, [], _, [], hW', trodAll_mk1 (shut_bool Try.underlying4 _), (trodAll_cons_mk (shut_int Try.underlying2 w0) (trodAll_cons_mk (shut_int Try.underlying2 w1) trodAll_mk0)), rfl, bel.frame _, fun h => by cases h⟩

/-- The statement. -/
theorem proved : Rows.FnExactStationNewSaid :=
  OpenClaim.holds_of_wide 4 Try.f4 rfl rfl rfl rfl rfl rfl rfl ⟨rfl, rfl, rfl, rfl, rfl⟩ rfl rfl rfl rfl rfl (by kernel_rfl) Try.func4 (by kernel_rfl)
    (of_decide_eq_true (by kernel_rfl)) (by unfold Func.isWrapper; first | (rw [if_pos (by decide +kernel)]; kernel_rfl) | (rw [if_neg (by decide +kernel)]; exact ⟨rfl, rfl⟩))
    (fun os started H enc _ => lifted os started H enc)
#print axioms proved
end Go.Proofs.Ytancfnpmbddfoaa.fnExactStationNew
