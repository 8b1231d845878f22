/- For every path PathBytes answers as the model, and the path stays as it was. -/
import Derived.Test.YtimocipgikefoabRows
import Derived.Test.YtimocipgikefoabPaI
import Derived.Test.YtimocipgikefoabPaC
import Derived.WalkKit
import Derived.WalkSpells
import Derived.ProofKit
import Derived.OpenShut
import Derived.ShutString
import Derived.ChangeOld
import Derived.Below
import Derived.Outline
import Derived.Deep.RegionHeld3
import Derived.Deep.RegionWith
import Derived.Deep.DeepCutAuto
import Derived.Lib.SmallJoins
import Derived.Carry
namespace Go.Proofs.Ytimocipgikefoab.fnExactPathBytes
open Go.ChangeShapes Go.WideShapes Go.ChangeAt Go.RowKit
open Go.ChangeMaps (open_string shut_string)
set_option linter.unusedVariables false
set_option linter.unusedSimpArgs false

theorem own : ownKnob Try.prog.godebug = none := by kernel_rfl
theorem laidOut : laidOutB Try.prog = true := by kernel_rfl

set_option maxRecDepth 100000 in
set_option maxHeartbeats 1600000 in
/-- The walk: the law returns true, and nothing that was there has turned. -/
theorem walk (t0 : Tb) (p0 q0 : Option Addr) (c0 d0 : Nat) (w : World) (w0 : InI w p0 t0.cs ∧ InI w q0 t0.rs) :
    Calls Try.prog 3 #[.agg #[.slice p0 t0.cs.length c0, .slice q0 t0.rs.length d0]] w fun e w' => e = .returned (.bool true) ∧ Below w.heap.size w w' := by
  obtain ⟨hin1, hin2⟩ := w0
  have hnl1 := hin1.1
  have hnl2 := hin2.1
  have HSZ : Hid (∀ W : World, Calls Try.prog 5 #[.agg #[.slice p0 t0.cs.length c0, .slice q0 t0.rs.length d0], .int .i64 1048576] W fun x w' => x = .returned (.int .i64 (leftT t0)) ∧ Below W.heap.size W w') := fun W => szPath_any t0 p0 q0 c0 d0 W hnl1 hnl2
  unfold leftT at HSZ
  by_cases hle : t0.cs.length + t0.rs.length ≤ 1048576
  case neg =>
    rw [if_neg hle] at HSZ
    clear hle hin1 hin2 hnl1 hnl2
    go_enter Try.func3, Try.ntmps3
    go_wp2_with (go_at_call 5; refine (HSZ.out _).mono ?_; rintro e v1 ⟨rfl, hb1⟩)
    go_ret
    exact ⟨rfl, keepB (all_alloc _ _) (Nat.le_refl _) hb1⟩
  rw [if_pos hle] at HSZ
  have h3 : ¬ (1048576 : Int) - (t0.cs.length : Int) - (t0.rs.length : Int) < 0 := by omega
  have HTO : Hid (∀ W, Below w.heap.size w W → Calls Try.prog 7 #[.agg #[.slice p0 t0.cs.length c0, .slice q0 t0.rs.length d0]] W fun x w' => ∃ v1 v2, x = .returned (.agg #[v1, v2]) ∧ OwnT w' W.heap.size v1 v2 t0 ∧ Below W.heap.size W w') := fun W hW => toPath_any t0 p0 q0 c0 d0 W (by omega) (by omega) (hin1.below hW) (hin2.below hW)
  have HS : Hid (∀ (W : World) (p q : Option Addr) (c d B : Nat), OwnT W B (.slice p t0.cs.length c) (.slice q t0.rs.length d) t0 → Calls Try.prog 6 #[.agg #[.slice p t0.cs.length c, .slice q t0.rs.length d]] W fun e w' => e = .returned (.string (pathB t0)) ∧ Below W.heap.size W w') := fun W p q c d B h => specPathBytes_any t0 B _ _ W (by omega) (by omega) h
  have HI : Hid (∀ (W : World) (p q : Option Addr) (c d B : Nat), OwnT W B (.slice p t0.cs.length c) (.slice q t0.rs.length d) t0 → Calls Try.prog 8 #[.agg #[.slice p t0.cs.length c, .slice q t0.rs.length d]] W fun e w' => e = .returned (.string (pathB t0)) ∧ Below W.heap.size W w') := fun W p q c d B h => pathBytes_any t0 B _ _ W (by omega) (by omega) h
  have HE : Hid (∀ (W : World) (v1 v2 u1 u2 : Value) (B C : Nat), OwnT W B v1 v2 t0 → OwnT W C u1 u2 t0 → Calls Try.prog 9 #[.agg #[v1, v2], .agg #[u1, u2]] W fun x w' => x = .returned (.bool true) ∧ Below W.heap.size W w') := fun W v1 v2 u1 u2 B C h1 h2 => eqPath_same t0 v1 v2 u1 u2 W (by omega) (by omega) h1.c.row h1.r.row h2.c.row h2.r.row
  generalize pathB t0 = r at HS HI
  have eb : (r.toList == r.toList) = true := by simp
  clear hin1 hin2 hnl1 hnl2
  go_enter Try.func3, Try.ntmps3
  go_upto_region 2 with fail
  have hX : Hid _ := heap_alloc_new w (.cells #[.slice p0 t0.cs.length c0, .slice q0 t0.rs.length d0] 24)
  have hA0 := all_alloc w (.cells #[.slice p0 t0.cs.length c0, .slice q0 t0.rs.length d0] 24)
  generalize w.alloc (.cells #[.slice p0 t0.cs.length c0, .slice q0 t0.rs.length d0] 24) = A at hX hA0 ⊢
  obtain ⟨G, hG⟩ : ∃ G, w.heap.size = G := ⟨_, rfl⟩
  rw [hG] at hX ⊢
  have x0 := cellW hX.out 0 _ rfl
  have x1 := cellW hX.out 1 _ rfl
  have hR := Below.refl A.heap.size A
  go_upto_region 10 with (first
    | (go_at_call 5; refine (HSZ.out _).mono ?_; rintro e v1 ⟨rfl, hb1⟩; have s1 : Below A.heap.size A v1 := hb1)
    | (go_at_call 6; refine (HS.out _ _ _ _ _ _ own2).mono ?_; rintro e v3 ⟨rfl, hb3⟩; have s3 : Below A.heap.size A v3 := keepB s2 (Nat.le_refl _) hb3)
    | (have _ := s3; go_at_call 7; refine (HTO.out _ (keepB hA0 (Nat.le_refl _) s3)).mono ?_; rintro e v4 ⟨u4, u5, rfl, own4, hb4⟩; obtain ⟨p4, c4, rfl⟩ := own4.c.shape; obtain ⟨q4, d4, rfl⟩ := own4.r.shape; have s4 : Below A.heap.size A v4 := keepB s3 (Nat.le_refl _) hb4; have o4 := own4.below (all_alloc v4 (.cells #[.slice p4 t0.cs.length c4, .slice q4 t0.rs.length d4] 27)); have a4 := keepB s4 (Nat.le_refl _) (all_alloc v4 (.cells #[.slice p4 t0.cs.length c4, .slice q4 t0.rs.length d4] 27)); have hP : Hid _ := heap_alloc_new v4 (.cells #[.slice p4 t0.cs.length c4, .slice q4 t0.rs.length d4] 27))
    | (go_at_call 7; refine (HTO.out _ (keepB hA0 (Nat.le_refl _) s1)).mono ?_; rintro e v2 ⟨u2, u3, rfl, own2, hb2⟩; obtain ⟨p2, c2, rfl⟩ := own2.c.shape; obtain ⟨q2, d2, rfl⟩ := own2.r.shape; have s2 : Below A.heap.size A v2 := keepB s1 (Nat.le_refl _) hb2)
    | (go_at_call 8; refine (HI.out _ _ _ _ _ _ o4).mono ?_; rintro e v5 ⟨rfl, hb5⟩; have s5 : Below A.heap.size A v5 := keepB a4 (Nat.le_refl _) hb5; have o5 := o4.below hb5))
  have hX5 : Hid _ := blk hX.out s5
  have hP5 : Hid _ := blk hP.out hb5
  clear x0 x1
  have b0 := cellW hX5.out 0 _ rfl
  have b1 := cellW hX5.out 1 _ rfl
  have r0 := cellW hP5.out 0 _ rfl
  have r1 := cellW hP5.out 1 _ rfl
  go_region_held3 (fun w' => Below v5.heap.size v5 w') (first | assumption | exact Below.drew (Below.refl _ _) | exact keepB (by assumption) (Nat.le_refl _) hbq) (first
    | (go_at_call 7; refine (HTO.out _ (keepB (keepB hA0 (Nat.le_refl _) s5) (Nat.le_refl _) (by assumption))).mono ?_; rintro e9 w9 ⟨u9, u8, rfl, own9, hbq⟩; obtain ⟨p9, c9, rfl⟩ := own9.c.shape; obtain ⟨q9, d9, rfl⟩ := own9.r.shape)
    | (go_at_call 9; refine (HE.out _ _ _ _ _ _ _ (OwnT.below o5 (by assumption)) own9).mono ?_; rintro e9 w9 ⟨rfl, hbq⟩))
  go_wp2
  go_ret
  exact ⟨rfl, keepB (keepB hA0 (Nat.le_refl _) s5) (Nat.le_refl _) (by assumption)⟩

set_option maxRecDepth 100000 in
theorem lifted (os : Os) (started : os.Started) (H : Type) (enc : TypeId × Value → H) :
    ReturnsInHanded {} Try.checked os 3 .any (Rows.fnExactPathBytesSpec.pre6 enc Try.prog Try.f3 Rows.fnExactPathBytesRow.domain false) (Rows.fnExactPathBytesSpec.post enc Try.prog Try.f3 false true false false) := by
  refine returnsInHanded_of_change (C := Try.checked) own started (by kernel_rfl) Try.func3
    (ChangeSpec.witness6 (enc := enc) (C := Try.checked) false ⟨#[], #[.agg #[.slice none 0 0, .slice none 0 0]], []⟩ 8 (by kernel_rfl) (by kernel_rfl) (by kernel_rfl) (by kernel_rfl)) ?_
  intro W base args ds gs before hval0 hW hcnd _
  have hval : ∀ (j : Nat) t v, Try.f3.params[j]? = some t → args[j]? = some v → Value.okWide Try.prog W .any base t v := hval0
  have hW' := hW
  obtain ⟨p, q, hA0, hV, rfl, hfz, hnd⟩ := hW
  have hA : DataW.TrodAll enc Try.prog W 0 (fun _ => true) true Try.f3.params.toList args.toList ds p := hA0
  rw [Try.params3] at hA hval
  obtain ⟨v0, vs0, d0, ds0, p0, q0, hargs, rfl, rfl, h0, r0⟩ := trodAll_cons hA
  obtain ⟨rfl, rfl, rfl⟩ := trodAll_nil r0
  obtain rfl : args = #[v0] := by cases args; simp_all
  obtain ⟨rfl, rfl⟩ := trodVars_none hV
  have k0 := h0
  have lt0 : ∀ x ∈ p0, x.block < W.heap.size := by obtain ⟨m, hm⟩ := k0; exact DataW.trod_lt m _ _ _ hm
  obtain ⟨t0, a0, b0, c0, e0, rfl, w0⟩ := open_path (hval 0 24 v0 rfl rfl) h0
  clear hA0 hval0
  refine (walk t0 a0 b0 c0 e0 W w0).mono fun e W' ⟨he, bel⟩ => ?_
  subst he
  exact ⟨_, rfl, _, _, _, [], _, [], hW', trodAll_mk1 (shut_bool Try.underlying4 _), (trodAll_cons_mk (Below.trod laidOut (by kernel_rfl) (of_decide_eq_true (by kernel_rfl)) k0 bel lt0) trodAll_mk0), rfl, bel.frame _, fun h => by cases h⟩

/-- The statement. -/
theorem proved : Rows.FnExactPathBytesSaid :=
  OpenClaim.holds_of_wide 3 Try.f3 rfl rfl rfl rfl rfl rfl rfl ⟨rfl, rfl, rfl, rfl, rfl⟩ rfl rfl rfl rfl rfl (by kernel_rfl) Try.func3 (by kernel_rfl)
    (of_decide_eq_true (by kernel_rfl)) (by unfold Func.isWrapper; first | (rw [if_pos (by decide +kernel)]; kernel_rfl) | (rw [if_neg (by decide +kernel)]; exact ⟨rfl, rfl⟩))
    (fun os started H enc _ => lifted os started H enc)
#print axioms proved
end Go.Proofs.Ytimocipgikefoab.fnExactPathBytes
