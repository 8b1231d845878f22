/- FnExactStampLess: at every two Stamps the program's StampLess answers as the model's; it writes into no argument; no condition. -/
import Derived.Test.YtiaphaghjklhaafRows
import Derived.Test.YtiaphaghjklhaafStM
import Derived.Test.YtiaphaghjklhaafBox
import Derived.WalkKit
import Derived.WalkSpells
import Derived.ProofKit
import Derived.OpenShut
import Derived.ShutString
import Derived.ChangeOld
import Derived.Below
import Derived.Outline
import Derived.Deep.RegionHeld3
import Derived.Deep.RegionWith
import Derived.Deep.DeepCutAuto
import Derived.Lib.SmallJoins
import Derived.Carry
namespace Go.Proofs.Ytiaphaghjklhaaf.fnExactStampLess
open Go.ChangeShapes Go.WideShapes Go.ChangeAt Go.RowKit
open Go.ChangeMaps (open_string shut_string)
set_option linter.unusedVariables false

theorem own : ownKnob Try.prog.godebug = none := by kernel_rfl
theorem laidOut : laidOutB Try.prog = true := by kernel_rfl

set_option maxRecDepth 100000 in
set_option maxHeartbeats 1600000 in
/-- The walk: the law returns true, and nothing that was there has turned. -/
theorem walk (s0 : St) (s1 : St) (w : World) (w0 : True) (w1 : True) :
    Calls Try.prog 4 #[.agg #[.int .i64 s0.g, .int .i64 s0.o, .int .i64 s0.b, .int .i64 s0.h], .agg #[.int .i64 s1.g, .int .i64 s1.o, .int .i64 s1.b, .int .i64 s1.h]] w fun e w' => e = .returned (.bool true) ∧ Below w.heap.size w w' := by
  have HS : Hid _ := fun w => specStampLess_any s0 s1 w
  have HI : Hid _ := fun w => stampLess_any s0 s1 w
  generalize s0.less s1 = r at HS HI
  have eb : (r != r) = false := by simp
  go_enter Try.func4, Try.ntmps4
  go_upto_region 1 with fail
  have hX : Hid _ := blk (heap_alloc_new w (.cells #[.int .i64 s0.g, .int .i64 s0.o, .int .i64 s0.b, .int .i64 s0.h] 23)) (all_alloc _ (.cells #[.int .i64 s1.g, .int .i64 s1.o, .int .i64 s1.b, .int .i64 s1.h] 23))
  have hY : Hid _ := heap_alloc_new (w.alloc (.cells #[.int .i64 s0.g, .int .i64 s0.o, .int .i64 s0.b, .int .i64 s0.h] 23)) (.cells #[.int .i64 s1.g, .int .i64 s1.o, .int .i64 s1.b, .int .i64 s1.h] 23)
  have hA0 := keepB (all_alloc w (.cells #[.int .i64 s0.g, .int .i64 s0.o, .int .i64 s0.b, .int .i64 s0.h] 23)) (Nat.le_refl _) (all_alloc _ (.cells #[.int .i64 s1.g, .int .i64 s1.o, .int .i64 s1.b, .int .i64 s1.h] 23))
  have hsz : (w.alloc (.cells #[.int .i64 s0.g, .int .i64 s0.o, .int .i64 s0.b, .int .i64 s0.h] 23)).heap.size = w.heap.size + 1 := by simp
  rw [hsz] at hY
  generalize (w.alloc (.cells #[.int .i64 s0.g, .int .i64 s0.o, .int .i64 s0.b, .int .i64 s0.h] 23)).alloc (.cells #[.int .i64 s1.g, .int .i64 s1.o, .int .i64 s1.b, .int .i64 s1.h] 23) = A at hX hY hA0 ⊢
  clear hsz
  have x0 := cellW hX.out 0 _ rfl
  have x1 := cellW hX.out 1 _ rfl
  have x2 := cellW hX.out 2 _ rfl
  have x3 := cellW hX.out 3 _ rfl
  have y0 := cellW hY.out 0 _ rfl
  have y1 := cellW hY.out 1 _ rfl
  have y2 := cellW hY.out 2 _ rfl
  have y3 := cellW hY.out 3 _ rfl
  go_region_held3 (fun w' => Below A.heap.size A w') (first | assumption | exact Below.drew (Below.refl _ _) | exact keepB (by assumption) (Nat.le_refl _) hbq) (first
    | (go_at_call 11; refine (HS.out _).mono ?_; rintro e9 w9 ⟨rfl, hbq⟩)
    | (go_at_call 9; refine (toStamp_any _ _).mono ?_; rintro e9 w9 ⟨rfl, hbq⟩))
  go_upto_region 2 with fail
  go_region_held3 (fun w' => Below A.heap.size A w') (first | assumption | exact Below.drew (by assumption) | exact keepB (by assumption) (Nat.le_refl _) hbq) (first
    | (go_at_call 12; refine (HI.out _).mono ?_; rintro e9 w9 ⟨rfl, hbq⟩)
    | (go_at_call 9; refine (toStamp_any _ _).mono ?_; rintro e9 w9 ⟨rfl, hbq⟩))
  go_wp2
  go_ret
  exact ⟨rfl, keepB hA0 (Nat.le_refl _) (by assumption)⟩

set_option maxRecDepth 100000 in
theorem lifted (os : Os) (started : os.Started) (H : Type) (enc : TypeId × Value → H) :
    ReturnsInHanded {} Try.checked os 4 .any (Rows.fnExactStampLessSpec.pre6 enc Try.prog Try.f4 Rows.fnExactStampLessRow.domain false) (Rows.fnExactStampLessSpec.post enc Try.prog Try.f4 false true false false) := by
  refine returnsInHanded_of_change (C := Try.checked) own started (by kernel_rfl) Try.func4
    (ChangeSpec.witness6 (enc := enc) (C := Try.checked) false ⟨#[], #[.agg #[.int .i64 0, .int .i64 0, .int .i64 0, .int .i64 0], .agg #[.int .i64 0, .int .i64 0, .int .i64 0, .int .i64 0]], []⟩ 8 (by kernel_rfl) (by kernel_rfl) (by kernel_rfl) (by kernel_rfl)) ?_
  intro W base args ds gs before hval0 hW hcnd _
  have hval : ∀ (j : Nat) t v, Try.f4.params[j]? = some t → args[j]? = some v → Value.okWide Try.prog W .any base t v := hval0
  have hW' := hW
  obtain ⟨p, q, hA0, hV, rfl, hfz, hnd⟩ := hW
  have hA : DataW.TrodAll enc Try.prog W 0 (fun _ => true) true Try.f4.params.toList args.toList ds p := hA0
  rw [Try.params4] at hA hval
  obtain ⟨v0, vs0, d0, ds0, p0, q0, hargs, rfl, rfl, h0, r0⟩ := trodAll_cons hA
  obtain ⟨v1, vs1, d1, ds1, p1, q1, rfl, rfl, rfl, h1, r1⟩ := trodAll_cons r0
  obtain ⟨rfl, rfl, rfl⟩ := trodAll_nil r1
  obtain rfl : args = #[v0, v1] := by cases args; simp_all
  obtain ⟨rfl, rfl⟩ := trodVars_none hV
  have k0 := h0
  have lt0 : ∀ x ∈ p0, x.block < W.heap.size := by obtain ⟨m, hm⟩ := k0; exact DataW.trod_lt m _ _ _ hm
  obtain ⟨c00, c01, c02, c03, y00, y01, y02, y03, n0, rfl, rfl, rfl, g00, g01, g02, g03⟩ := Go.Joins.open_agg4 Try.underlying23 (by kernel_rfl) (by kernel_rfl) (hval 0 23 v0 rfl rfl) h0
  obtain ⟨i0, q00, rfl, _⟩ := DataW.trod_int Try.underlying2 g00
  obtain ⟨e0, q01, rfl, _⟩ := DataW.trod_int Try.underlying2 g01
  obtain ⟨d0, q02, rfl, _⟩ := DataW.trod_int Try.underlying2 g02
  obtain ⟨a0, q03, rfl, _⟩ := DataW.trod_int Try.underlying2 g03
  cases q00; cases q01; cases q02; cases q03
  have w0 : True := trivial
  obtain ⟨s0, hs0⟩ : ∃ s : St, s = ⟨i0, e0, d0, a0⟩ := ⟨_, rfl⟩
  obtain rfl : i0 = s0.g := by rw [hs0]
  obtain rfl : e0 = s0.o := by rw [hs0]
  obtain rfl : d0 = s0.b := by rw [hs0]
  obtain rfl : a0 = s0.h := by rw [hs0]
  have k1 := h1
  have lt1 : ∀ x ∈ p1, x.block < W.heap.size := by obtain ⟨m, hm⟩ := k1; exact DataW.trod_lt m _ _ _ hm
  obtain ⟨c10, c11, c12, c13, y10, y11, y12, y13, n1, rfl, rfl, rfl, g10, g11, g12, g13⟩ := Go.Joins.open_agg4 Try.underlying23 (by kernel_rfl) (by kernel_rfl) (hval 1 23 v1 rfl rfl) h1
  obtain ⟨i1, q10, rfl, _⟩ := DataW.trod_int Try.underlying2 g10
  obtain ⟨e1, q11, rfl, _⟩ := DataW.trod_int Try.underlying2 g11
  obtain ⟨d1, q12, rfl, _⟩ := DataW.trod_int Try.underlying2 g12
  obtain ⟨a1, q13, rfl, _⟩ := DataW.trod_int Try.underlying2 g13
  cases q10; cases q11; cases q12; cases q13
  have w1 : True := trivial
  obtain ⟨s1, hs1⟩ : ∃ s : St, s = ⟨i1, e1, d1, a1⟩ := ⟨_, rfl⟩
  obtain rfl : i1 = s1.g := by rw [hs1]
  obtain rfl : e1 = s1.o := by rw [hs1]
  obtain rfl : d1 = s1.b := by rw [hs1]
  obtain rfl : a1 = s1.h := by rw [hs1]
  clear hA0 hval0
  refine (walk s0 s1 W w0 w1).mono fun e W' ⟨he, bel⟩ => ?_
  subst he
  exact ⟨_, rfl, _, _, _, [], _, [], hW', trodAll_mk1 (shut_bool Try.underlying4 _), (trodAll_cons_mk (Below.trod laidOut (by kernel_rfl) (of_decide_eq_true (by kernel_rfl)) k0 bel lt0) (trodAll_cons_mk (Below.trod laidOut (by kernel_rfl) (of_decide_eq_true (by kernel_rfl)) k1 bel lt1) trodAll_mk0)), rfl, bel.frame _, fun h => by cases h⟩

/-- The statement. -/
theorem proved : Rows.FnExactStampLessSaid :=
  OpenClaim.holds_of_wide 4 Try.f4 rfl rfl rfl rfl rfl rfl rfl ⟨rfl, rfl, rfl, rfl, rfl⟩ rfl rfl rfl rfl rfl (by kernel_rfl) Try.func4 (by kernel_rfl)
    (of_decide_eq_true (by kernel_rfl)) (by unfold Func.isWrapper; first | (rw [if_pos (by decide +kernel)]; kernel_rfl) | (rw [if_neg (by decide +kernel)]; exact ⟨rfl, rfl⟩))
    (fun os started H enc _ => lifted os started H enc)
#print axioms proved
end Go.Proofs.Ytiaphaghjklhaaf.fnExactStampLess
