/- FnExactWireRight: at every Wire the program's WireRight answers as the model's; no condition. -/
import Derived.Test.YtpejljjjfplmlaeRows
import Derived.Test.YtpejljjjfplmlaeWire
import Derived.Test.YtpejljjjfplmlaeKeep
import Derived.WalkKit
import Derived.WalkSpells
import Derived.ProofKit
import Derived.OpenShut
import Derived.ShutString
import Derived.ChangeOld
import Derived.Below
import Derived.Outline
import Derived.Lib.SmallJoins
import Derived.Carry
namespace Go.Proofs.Ytpejljjjfplmlae.fnExactWireRight
open Go.ChangeShapes Go.WideShapes Go.ChangeAt Go.RowKit
open Go.ChangeMaps (open_string shut_string)
set_option linter.unusedVariables false

theorem own : ownKnob Try.prog.godebug = none := by kernel_rfl
theorem laidOut : laidOutB Try.prog = true := by kernel_rfl

/-- The walk: the law returns true, and nothing that was there has turned. -/
theorem walk (i0 e0 d0 : Bool) (a0 : ByteArray) (w : World) (w0 : a0.size ≤ maxLen) :
    Calls Try.prog 7 #[.agg #[.bool i0, .bool e0, .bool d0, .string a0]] w fun e w' => e = .returned (.bool true) ∧ Below w.heap.size w w' := by
  have hm := w0
  unfold maxLen at hm
  have HSZ : Hid _ := fun w => szWire_any i0 e0 d0 a0 w w0
  have HTO : Hid _ := fun w => toWire_any i0 e0 d0 a0 w
  have HS : Hid _ := fun w => specWireRight_any i0 e0 d0 a0 w w0
  have HI : Hid _ := fun w => wireRight_any i0 e0 d0 a0 w w0
  generalize rightB i0 e0 d0 a0 = r at HS HI
  have eb : (r != r) = false := by simp
  by_cases hb : a0.size ≤ 1048576
  · rw [if_pos hb] at HSZ
    have t1 : ¬ (1048576 : Int) - (a0.size : Int) < 0 := by omega
    go_enter Try.func7, Try.ntmps7
    go_wp2_with (go_at_call 18; refine (HSZ.out _).mono ?_; rintro e v1 ⟨rfl, hb1⟩; obtain ⟨hc1, hf1⟩ := bcellF hb1)
    refine (HTO.out _).mono ?_
    rintro e v2 ⟨rfl, hb2⟩
    have s2 := keepB hb1 (Nat.le_refl _) hb2
    go_wp2_with (go_at_call 19; refine (HS.out _).mono ?_; rintro e v3 ⟨rfl, hb3⟩; have s3 := keepB s2 (Nat.le_refl _) hb3; obtain ⟨hc3, hf3⟩ := bcellF s3)
    refine (HTO.out _).mono ?_
    rintro e v4 ⟨rfl, hb4⟩
    have s4 := keepB s3 (Nat.le_refl _) hb4
    go_wp2_with (go_at_call 21; refine (HI.out _).mono ?_; rintro e v5 ⟨rfl, hb5⟩; have s5 := keepB s4 (Nat.le_refl _) hb5)
    go_ret
    exact ⟨rfl, (((Below.refl _ _).alloc (Nat.le_refl _) _).trans (s5.mono (by simp)))⟩
  · rw [if_neg hb] at HSZ
    go_enter Try.func7, Try.ntmps7
    go_wp2_with (go_at_call 18; refine (HSZ.out _).mono ?_; rintro e v1 ⟨rfl, hb1⟩)
    go_ret
    exact ⟨rfl, (((Below.refl _ _).alloc (Nat.le_refl _) _).trans (hb1.mono (by simp)))⟩

set_option maxRecDepth 100000 in
theorem lifted (os : Os) (started : os.Started) (H : Type) (enc : TypeId × Value → H) :
    ReturnsInHanded {} Try.checked os 7 .any (Rows.fnExactWireRightSpec.pre6 enc Try.prog Try.f7 Rows.fnExactWireRightRow.domain false) (Rows.fnExactWireRightSpec.post enc Try.prog Try.f7 false true false false) := by
  refine returnsInHanded_of_change (C := Try.checked) own started (by kernel_rfl) Try.func7
    (ChangeSpec.witness6 (enc := enc) (C := Try.checked) false ⟨#[], #[.agg #[.bool false, .bool false, .bool false, .string ByteArray.empty]], []⟩ 8 (by kernel_rfl) (by kernel_rfl) (by kernel_rfl) (by kernel_rfl)) ?_
  intro W base args ds gs before hval0 hW hcnd _
  have hval : ∀ (j : Nat) t v, Try.f7.params[j]? = some t → args[j]? = some v → Value.okWide Try.prog W .any base t v := hval0
  have hW' := hW
  obtain ⟨p, q, hA0, hV, rfl, hfz, hnd⟩ := hW
  have hA : DataW.TrodAll enc Try.prog W 0 (fun _ => true) true Try.f7.params.toList args.toList ds p := hA0
  rw [Try.params7] at hA hval
  obtain ⟨v0, vs0, d0, ds0, p0, q0, hargs, rfl, rfl, h0, r0⟩ := trodAll_cons hA
  obtain ⟨rfl, rfl, rfl⟩ := trodAll_nil r0
  obtain rfl : args = #[v0] := by cases args; simp_all
  obtain ⟨rfl, rfl⟩ := trodVars_none hV
  have k0 := h0
  have lt0 : ∀ x ∈ p0, x.block < W.heap.size := by obtain ⟨m, hm⟩ := k0; exact DataW.trod_lt m _ _ _ hm
  obtain ⟨c00, c01, c02, c03, y00, y01, y02, y03, n0, rfl, rfl, rfl, g00, g01, g02, g03⟩ := Go.Joins.open_agg4 Try.underlying30 (by kernel_rfl) (by kernel_rfl) (hval 0 30 v0 rfl rfl) h0
  obtain ⟨i0, q00, rfl⟩ := DataW.trod_bool Try.underlying4 g00
  obtain ⟨e0, q01, rfl⟩ := DataW.trod_bool Try.underlying4 g01
  obtain ⟨d0, q02, rfl⟩ := DataW.trod_bool Try.underlying4 g02
  obtain ⟨a0, q03, rfl, w0⟩ := DataW.trod_string Try.underlying9 g03
  cases q00; cases q01; cases q02; cases q03
  clear hA0 hval0
  refine (walk i0 e0 d0 a0 W w0).mono fun e W' ⟨he, bel⟩ => ?_
  subst he
  exact ⟨_, rfl, _, _, _, [], _, [], hW', trodAll_mk1 (shut_bool Try.underlying4 _), (trodAll_cons_mk (Below.trod laidOut (by kernel_rfl) (of_decide_eq_true (by kernel_rfl)) k0 bel lt0) trodAll_mk0), rfl, bel.frame _, fun h => by cases h⟩

/-- The statement. -/
theorem proved : Rows.FnExactWireRightSaid :=
  OpenClaim.holds_of_wide 7 Try.f7 rfl rfl rfl rfl rfl rfl rfl ⟨rfl, rfl, rfl, rfl, rfl⟩ rfl rfl rfl rfl rfl (by kernel_rfl) Try.func7 (by kernel_rfl)
    (of_decide_eq_true (by kernel_rfl)) (by unfold Func.isWrapper; first | (rw [if_pos (by decide +kernel)]; kernel_rfl) | (rw [if_neg (by decide +kernel)]; exact ⟨rfl, rfl⟩))
    (fun os started H enc _ => lifted os started H enc)
#print axioms proved
end Go.Proofs.Ytpejljjjfplmlae.fnExactWireRight
