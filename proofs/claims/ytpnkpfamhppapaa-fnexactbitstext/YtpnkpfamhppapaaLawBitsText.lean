/- At every list of numbers the law FnExactBitsText returns true; no condition. -/
import Derived.Test.YtpnkpfamhppapaaRows
import Derived.Test.YtpnkpfamhppapaaIntsIn
import Derived.Test.YtpnkpfamhppapaaBits
import Derived.Test.YtpnkpfamhppapaaBitsT
import Derived.Test.YtpnkpfamhppapaaKeep
import Derived.WalkKit
import Derived.WalkSpells
import Derived.ProofKit
import Derived.OpenShut
import Derived.ShutString
import Derived.ChangeOld
import Derived.Below
import Derived.Outline
import Derived.Deep.RegionHeld3
import Derived.Deep.RegionWith
import Derived.Deep.DeepCutAuto
namespace Go.Proofs.Ytpnkpfamhppapaa.fnExactBitsText
open Go.ChangeShapes Go.WideShapes Go.ChangeAt Go.RowKit
open Go.ChangeMaps (open_string shut_string)
set_option linter.unusedVariables false

theorem own : ownKnob Try.prog.godebug = none := by kernel_rfl
theorem laidOut : laidOutB Try.prog = true := by kernel_rfl

set_option maxRecDepth 100000 in
set_option maxHeartbeats 1600000 in
/-- The walk: the law returns true, and nothing that was there has turned. -/
theorem walk (p0 : Option Addr) (zs0 : List Int) (c0 : Nat) (w : World) (w0 : InI w p0 zs0) :
    Calls Try.prog 7 #[.slice p0 zs0.length c0] w fun e w' => e = .returned (.bool true) ∧ Below w.heap.size w w' := by
  have hnl := w0.1
  by_cases hle : zs0.length ≤ 1048576
  case neg =>
    go_enter Try.func7, Try.ntmps7
    go_wp2
    go_ret
    exact ⟨rfl, Below.refl _ _⟩
  have HTO : Hid (∀ W, Below w.heap.size w W → Calls Try.prog 31 #[.slice p0 zs0.length c0] W fun x w' => ∃ v, x = .returned v ∧ OwnI w' W.heap.size v zs0 ∧ Below W.heap.size W w') := fun W hW => toInt64S_any p0 c0 zs0 W hle (w0.below hW)
  have HS : Hid (∀ (W : World) (v : Value), RowI W v zs0 → Calls Try.prog 21 #[v] W fun e w' => e = .returned (.string (bitsB zs0)) ∧ Below W.heap.size W w') := fun W v h => specBitsText_any v zs0 W (by omega) h
  have HI : Hid (∀ (W : World) (v : Value), RowI W v zs0 → Calls Try.prog 14 #[v] W fun e w' => e = .returned (.string (bitsB zs0)) ∧ Below W.heap.size W w') := fun W v h => bitsText_any v zs0 W (by omega) h
  have HE : Hid (∀ (W : World) (v1 v2 : Value), RowI W v1 zs0 → RowI W v2 zs0 → Calls Try.prog 32 #[v1, v2] W fun x w' => x = .returned (.bool true) ∧ Below W.heap.size W w') := fun W v1 v2 h1 h2 => eqInt64S_same v1 v2 zs0 W (by omega) h1 h2
  generalize bitsB zs0 = r at HS HI
  have eb : (r.toList == r.toList) = true := by simp
  clear w0
  go_enter Try.func7, Try.ntmps7
  go_wp2_with (first
    | (go_at_call 21; refine (HS.out _ _ own1.row).mono ?_; rintro e v2 ⟨rfl, hb2⟩; have s2 : Below w.heap.size w v2 := keepB s1 (Nat.le_refl _) hb2)
    | (go_at_call 14; refine (HI.out _ _ own3.row).mono ?_; rintro e v4 ⟨rfl, hb4⟩; have s4 : Below w.heap.size w v4 := keepB s3 (Nat.le_refl _) hb4)
    | (go_at_call 32; refine (HE.out _ _ _ (OwnI.below (OwnI.below own3 hb4) hb5).row own5.row).mono ?_; rintro e v6 ⟨rfl, hb6⟩; have s6 : Below w.heap.size w v6 := keepB s5 (Nat.le_refl _) hb6)
    | (have _ := s4; go_at_call 31; refine (HTO.out _ s4).mono ?_; rintro e v5 ⟨u5, rfl, own5, hb5⟩; have s5 : Below w.heap.size w v5 := keepB s4 (Nat.le_refl _) hb5)
    | (have _ := s2; go_at_call 31; refine (HTO.out _ s2).mono ?_; rintro e v3 ⟨u3, rfl, own3, hb3⟩; have s3 : Below w.heap.size w v3 := keepB s2 (Nat.le_refl _) hb3)
    | (go_at_call 31; refine (HTO.out _ (Below.refl _ _)).mono ?_; rintro e v1 ⟨u1, rfl, own1, hb1⟩; have s1 : Below w.heap.size w v1 := hb1))
  go_ret
  exact ⟨rfl, s6⟩

set_option maxRecDepth 100000 in
theorem lifted (os : Os) (started : os.Started) (H : Type) (enc : TypeId × Value → H) :
    ReturnsInHanded {} Try.checked os 7 .any (Rows.fnExactBitsTextSpec.pre6 enc Try.prog Try.f7 Rows.fnExactBitsTextRow.domain false) (Rows.fnExactBitsTextSpec.post enc Try.prog Try.f7 false true false false) := by
  refine returnsInHanded_of_change (C := Try.checked) own started (by kernel_rfl) Try.func7
    (ChangeSpec.witness6 (enc := enc) (C := Try.checked) false ⟨#[], #[.slice none 0 0], []⟩ 8 (by kernel_rfl) (by kernel_rfl) (by kernel_rfl) (by kernel_rfl)) ?_
  intro W base args ds gs before hval0 hW hcnd _
  have hval : ∀ (j : Nat) t v, Try.f7.params[j]? = some t → args[j]? = some v → Value.okWide Try.prog W .any base t v := hval0
  have hW' := hW
  obtain ⟨p, q, hA0, hV, rfl, hfz, hnd⟩ := hW
  have hA : DataW.TrodAll enc Try.prog W 0 (fun _ => true) true Try.f7.params.toList args.toList ds p := hA0
  rw [Try.params7] at hA hval
  obtain ⟨v0, vs0, d0, ds0, p0, q0, hargs, rfl, rfl, h0, r0⟩ := trodAll_cons hA
  obtain ⟨rfl, rfl, rfl⟩ := trodAll_nil r0
  obtain rfl : args = #[v0] := by cases args; simp_all
  obtain ⟨rfl, rfl⟩ := trodVars_none hV
  have k0 := h0
  have lt0 : ∀ x ∈ p0, x.block < W.heap.size := by obtain ⟨m, hm⟩ := k0; exact DataW.trod_lt m _ _ _ hm
  obtain ⟨p0', zs0, c0, rfl, w0⟩ : ∃ (a : Option Addr) (zs : List Int) (c : Nat), v0 = .slice a zs.length c ∧ InI W a zs := by
    obtain ⟨a, len, cap, rfl⟩ := okWide_slice Try.underlying23 (hval 0 23 v0 rfl rfl)
    have hrow : ∃ zs, IsRowN .i64 W a len cap zs := by
      obtain ⟨fuel, hf⟩ := h0
      rcases open_ints Try.underlying23 Try.underlying2 (by kernel_rfl) hf with ⟨hcs, _⟩ | ⟨x, l, c, zs, hcs, _, hl, hm, hz, _, hcell, hwz⟩
      · simp [Value.cells] at hcs
        obtain ⟨rfl, rfl, rfl⟩ := hcs
        exact ⟨[], .inl ⟨rfl, rfl, rfl, rfl⟩⟩
      · simp [Value.cells] at hcs
        obtain ⟨rfl, rfl, rfl⟩ := hcs
        exact ⟨zs, .inr ⟨_, rfl, hl, hm, by simpa using hz, hcell, hwz⟩⟩
    obtain ⟨zs, hrow⟩ := hrow
    obtain ⟨ys, rfl, hini, _⟩ := hrow.ini
    exact ⟨a, ys, cap, rfl, hini⟩
  clear hA0 hval0
  refine (walk p0' zs0 c0 W w0).mono fun e W' ⟨he, bel⟩ => ?_
  subst he
  exact ⟨_, rfl, _, _, _, [], _, [], hW', trodAll_mk1 (shut_bool Try.underlying4 _), (trodAll_cons_mk (Below.trod laidOut (by kernel_rfl) (of_decide_eq_true (by kernel_rfl)) k0 bel lt0) trodAll_mk0), rfl, bel.frame _, fun h => by cases h⟩

/-- The statement. -/
theorem proved : Rows.FnExactBitsTextSaid :=
  OpenClaim.holds_of_wide 7 Try.f7 rfl rfl rfl rfl rfl rfl rfl ⟨rfl, rfl, rfl, rfl, rfl⟩ rfl rfl rfl rfl rfl (by kernel_rfl) Try.func7 (by kernel_rfl)
    (of_decide_eq_true (by kernel_rfl)) (by unfold Func.isWrapper; first | (rw [if_pos (by decide +kernel)]; kernel_rfl) | (rw [if_neg (by decide +kernel)]; exact ⟨rfl, rfl⟩))
    (fun os started H enc _ => lifted os started H enc)
#print axioms proved
end Go.Proofs.Ytpnkpfamhppapaa.fnExactBitsText
