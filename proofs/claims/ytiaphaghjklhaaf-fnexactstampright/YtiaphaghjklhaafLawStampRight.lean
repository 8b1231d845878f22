/- FnExactStampRight: at every Stamp the program's StampRight answers as the model's; it writes into no argument; no condition. -/
import Derived.Test.YtiaphaghjklhaafRows
import Derived.Test.YtiaphaghjklhaafStL
import Derived.WalkKit
import Derived.WalkSpells
import Derived.ProofKit
import Derived.OpenShut
import Derived.ShutString
import Derived.ChangeOld
import Derived.Below
import Derived.Outline
import Derived.Lib.SmallJoins
import Derived.Carry
namespace Go.Proofs.Ytiaphaghjklhaaf.fnExactStampRight
open Go.ChangeShapes Go.WideShapes Go.ChangeAt Go.RowKit
open Go.ChangeMaps (open_string shut_string)
set_option linter.unusedVariables false

theorem own : ownKnob Try.prog.godebug = none := by kernel_rfl
theorem laidOut : laidOutB Try.prog = true := by kernel_rfl

set_option maxRecDepth 100000 in
set_option maxHeartbeats 1600000 in
/-- The walk: the law returns true, and nothing that was there has turned. -/
theorem walk (s0 : St) (w : World) (w0 : True) :
    Calls Try.prog 3 #[.agg #[.int .i64 s0.g, .int .i64 s0.o, .int .i64 s0.b, .int .i64 s0.h]] w fun e w' => e = .returned (.bool true) ∧ Below w.heap.size w w' := by
  have HTO : Hid _ := fun w => toStamp_any s0 w
  have HS : Hid _ := fun w => specStampRight_any s0 w
  have HI : Hid _ := fun w => stampRight_any s0 w
  generalize s0.right = r at HS HI
  have eb : (r != r) = false := by simp
  go_enter Try.func3, Try.ntmps3
  go_wp2_with (first
    | (have _ := s2; go_at_call 9; refine (HTO.out _).mono ?_; rintro e v3 ⟨rfl, hb3⟩; have s3 := keepB s2 (Nat.le_refl _) hb3)
    | (go_at_call 9; refine (HTO.out _).mono ?_; rintro e v1 ⟨rfl, hb1⟩; have s1 := keepB ((Below.refl w.heap.size w).alloc (Nat.le_refl _) (.cells #[.int .i64 s0.g, .int .i64 s0.o, .int .i64 s0.b, .int .i64 s0.h] 23)) (Nat.le_refl _) hb1; obtain ⟨hc1, hf1⟩ := bcellF hb1; have hz1 : w.heap.size < v1.heap.size := (by have := hb1.size; simp at this; omega))
    | (go_at_call 8; refine (HS.out _).mono ?_; rintro e v2 ⟨rfl, hb2⟩; have s2 := keepB s1 (Nat.le_refl _) hb2; obtain ⟨hc2, hf2⟩ := bcellF hb2)
    | (go_at_call 10; refine (HI.out _).mono ?_; rintro e v4 ⟨rfl, hb4⟩; have s4 := keepB s3 (Nat.le_refl _) hb4))
  go_ret
  exact ⟨rfl, s4⟩

set_option maxRecDepth 100000 in
theorem lifted (os : Os) (started : os.Started) (H : Type) (enc : TypeId × Value → H) :
    ReturnsInHanded {} Try.checked os 3 .any (Rows.fnExactStampRightSpec.pre6 enc Try.prog Try.f3 Rows.fnExactStampRightRow.domain false) (Rows.fnExactStampRightSpec.post enc Try.prog Try.f3 false true false false) := by
  refine returnsInHanded_of_change (C := Try.checked) own started (by kernel_rfl) Try.func3
    (ChangeSpec.witness6 (enc := enc) (C := Try.checked) false ⟨#[], #[.agg #[.int .i64 0, .int .i64 0, .int .i64 0, .int .i64 0]], []⟩ 8 (by kernel_rfl) (by kernel_rfl) (by kernel_rfl) (by kernel_rfl)) ?_
  intro W base args ds gs before hval0 hW hcnd _
  have hval : ∀ (j : Nat) t v, Try.f3.params[j]? = some t → args[j]? = some v → Value.okWide Try.prog W .any base t v := hval0
  have hW' := hW
  obtain ⟨p, q, hA0, hV, rfl, hfz, hnd⟩ := hW
  have hA : DataW.TrodAll enc Try.prog W 0 (fun _ => true) true Try.f3.params.toList args.toList ds p := hA0
  rw [Try.params3] at hA hval
  obtain ⟨v0, vs0, d0, ds0, p0, q0, hargs, rfl, rfl, h0, r0⟩ := trodAll_cons hA
  obtain ⟨rfl, rfl, rfl⟩ := trodAll_nil r0
  obtain rfl : args = #[v0] := by cases args; simp_all
  obtain ⟨rfl, rfl⟩ := trodVars_none hV
  have k0 := h0
  have lt0 : ∀ x ∈ p0, x.block < W.heap.size := by obtain ⟨m, hm⟩ := k0; exact DataW.trod_lt m _ _ _ hm
  obtain ⟨c00, c01, c02, c03, y00, y01, y02, y03, n0, rfl, rfl, rfl, g00, g01, g02, g03⟩ := Go.Joins.open_agg4 Try.underlying23 (by kernel_rfl) (by kernel_rfl) (hval 0 23 v0 rfl rfl) h0
  obtain ⟨i0, q00, rfl, _⟩ := DataW.trod_int Try.underlying2 g00
  obtain ⟨e0, q01, rfl, _⟩ := DataW.trod_int Try.underlying2 g01
  obtain ⟨d0, q02, rfl, _⟩ := DataW.trod_int Try.underlying2 g02
  obtain ⟨a0, q03, rfl, _⟩ := DataW.trod_int Try.underlying2 g03
  cases q00; cases q01; cases q02; cases q03
  have w0 : True := trivial
  obtain ⟨s0, hs0⟩ : ∃ s : St, s = ⟨i0, e0, d0, a0⟩ := ⟨_, rfl⟩
  obtain rfl : i0 = s0.g := by rw [hs0]
  obtain rfl : e0 = s0.o := by rw [hs0]
  obtain rfl : d0 = s0.b := by rw [hs0]
  obtain rfl : a0 = s0.h := by rw [hs0]
  clear hA0 hval0
  refine (walk s0 W w0).mono fun e W' ⟨he, bel⟩ => ?_
  subst he
  exact ⟨_, rfl, _, _, _, [], _, [], hW', trodAll_mk1 (shut_bool Try.underlying4 _), (trodAll_cons_mk (Below.trod laidOut (by kernel_rfl) (of_decide_eq_true (by kernel_rfl)) k0 bel lt0) trodAll_mk0), rfl, bel.frame _, fun h => by cases h⟩

/-- The statement. -/
theorem proved : Rows.FnExactStampRightSaid :=
  OpenClaim.holds_of_wide 3 Try.f3 rfl rfl rfl rfl rfl rfl rfl ⟨rfl, rfl, rfl, rfl, rfl⟩ rfl rfl rfl rfl rfl (by kernel_rfl) Try.func3 (by kernel_rfl)
    (of_decide_eq_true (by kernel_rfl)) (by unfold Func.isWrapper; first | (rw [if_pos (by decide +kernel)]; kernel_rfl) | (rw [if_neg (by decide +kernel)]; exact ⟨rfl, rfl⟩))
    (fun os started H enc _ => lifted os started H enc)
#print axioms proved
end Go.Proofs.Ytiaphaghjklhaaf.fnExactStampRight
