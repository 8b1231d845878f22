/- FnExactSayBytes: at every Say the program's SayBytes answers as the model's; it writes into no argument; no condition. -/
import Derived.Test.YthmbfkppjijelaaRows
import Derived.Test.YthmbfkppjijelaaSayC
import Derived.Test.YthmbfkppjijelaaSayTo
import Derived.WalkKit
import Derived.WalkSpells
import Derived.ProofKit
import Derived.OpenShut
import Derived.ShutString
import Derived.ChangeOld
import Derived.Below
import Derived.Outline
import Derived.Deep.RegionHeld3
import Derived.Deep.RegionWith
import Derived.Deep.DeepCutAuto
import Derived.Lib.SmallJoins
import Derived.Carry
namespace Go.Proofs.Ythmbfkppjijelaa.fnExactSayBytes
open Go.ChangeShapes Go.WideShapes Go.ChangeAt Go.RowKit
open Go.ChangeMaps (open_string shut_string)
set_option linter.unusedVariables false

theorem own : ownKnob Try.prog.godebug = none := by kernel_rfl
theorem laidOut : laidOutB Try.prog = true := by kernel_rfl

set_option maxRecDepth 100000 in
set_option maxHeartbeats 1600000 in
/-- The walk: the law returns true, and nothing that was there has turned. -/
theorem walk (y0 : Sy) (p0 : Option Addr) (c0 : Nat) (w : World) (w0 : InI w p0 y0.ws ∧ y0.b.size ≤ maxLen) :
    Calls Try.prog 5 #[.agg #[.int .i64 y0.k, .int .i64 y0.f, .int .i64 y0.t, .int .i64 y0.s.g, .int .i64 y0.s.o, .int .i64 y0.s.b, .int .i64 y0.s.h, .slice p0 y0.ws.length c0, .string y0.b]] w fun e w' => e = .returned (.bool true) ∧ Below w.heap.size w w' := by
  obtain ⟨hin, hbz⟩ := w0
  have hnl := hin.1
  have HSZ : Hid (∀ W : World, Calls Try.prog 21 #[.agg #[.int .i64 y0.k, .int .i64 y0.f, .int .i64 y0.t, .int .i64 y0.s.g, .int .i64 y0.s.o, .int .i64 y0.s.b, .int .i64 y0.s.h, .slice p0 y0.ws.length c0, .string y0.b], .int .i64 1048576] W fun x w' => x = .returned (.int .i64 (if y0.ws.length + y0.b.size ≤ 1048576 then 1048576 - (y0.ws.length : Int) - (y0.b.size : Int) else -1)) ∧ Below W.heap.size W w') := fun W => szSay_any y0 p0 c0 W hbz hnl
  by_cases hle : y0.ws.length + y0.b.size ≤ 1048576
  case neg =>
    rw [if_neg hle] at HSZ
    clear hle hin hbz hnl
    go_enter Try.func5, Try.ntmps5
    go_wp2_with (go_at_call 21; refine (HSZ.out _).mono ?_; rintro e v1 ⟨rfl, hb1⟩)
    go_ret
    exact ⟨rfl, keepB (all_alloc _ _) (Nat.le_refl _) hb1⟩
  rw [if_pos hle] at HSZ
  have h3 : ¬ (1048576 : Int) - (y0.ws.length : Int) - (y0.b.size : Int) < 0 := by omega
  have HTO : Hid (∀ W, Below w.heap.size w W → Calls Try.prog 22 #[.agg #[.int .i64 y0.k, .int .i64 y0.f, .int .i64 y0.t, .int .i64 y0.s.g, .int .i64 y0.s.o, .int .i64 y0.s.b, .int .i64 y0.s.h, .slice p0 y0.ws.length c0, .string y0.b]] W fun x w' => ∃ v, x = .returned (.agg #[.int .i64 y0.k, .int .i64 y0.f, .int .i64 y0.t, .int .i64 y0.s.g, .int .i64 y0.s.o, .int .i64 y0.s.b, .int .i64 y0.s.h, v, .string y0.b]) ∧ OwnI w' W.heap.size v y0.ws ∧ Below W.heap.size W w') := fun W hW => toSay_any y0 p0 c0 W (by omega) (hin.below hW)
  have HS : Hid (∀ (W : World) (p : Option Addr) (c : Nat), RowI W (.slice p y0.ws.length c) y0.ws → Calls Try.prog 12 #[.agg #[.int .i64 y0.k, .int .i64 y0.f, .int .i64 y0.t, .int .i64 y0.s.g, .int .i64 y0.s.o, .int .i64 y0.s.b, .int .i64 y0.s.h, .slice p y0.ws.length c, .string y0.b]] W fun e w' => e = .returned (.string (sayB y0)) ∧ Below W.heap.size W w') := fun W p c h => specSayBytes_any y0 p c W hbz (by omega) h
  have HI : Hid (∀ (W : World) (p : Option Addr) (c : Nat), RowI W (.slice p y0.ws.length c) y0.ws → Calls Try.prog 8 #[.agg #[.int .i64 y0.k, .int .i64 y0.f, .int .i64 y0.t, .int .i64 y0.s.g, .int .i64 y0.s.o, .int .i64 y0.s.b, .int .i64 y0.s.h, .slice p y0.ws.length c, .string y0.b]] W fun e w' => e = .returned (.string (sayB y0)) ∧ Below W.heap.size W w') := fun W p c h => sayBytes_any y0 p c W hbz (by omega) h
  have HE : Hid (∀ (W : World) (v1 v2 : Value), RowI W v1 y0.ws → RowI W v2 y0.ws → Calls Try.prog 23 #[.agg #[.int .i64 y0.k, .int .i64 y0.f, .int .i64 y0.t, .int .i64 y0.s.g, .int .i64 y0.s.o, .int .i64 y0.s.b, .int .i64 y0.s.h, v1, .string y0.b], .agg #[.int .i64 y0.k, .int .i64 y0.f, .int .i64 y0.t, .int .i64 y0.s.g, .int .i64 y0.s.o, .int .i64 y0.s.b, .int .i64 y0.s.h, v2, .string y0.b]] W fun x w' => x = .returned (.bool true) ∧ Below W.heap.size W w') := fun W v1 v2 h1 h2 => eqSay_same y0 v1 v2 W (by omega) h1 h2
  generalize sayB y0 = r at HS HI
  have eb : (r.toList == r.toList) = true := by simp
  clear hin hbz
  go_enter Try.func5, Try.ntmps5
  go_upto_region 2 with fail
  have hX : Hid _ := heap_alloc_new w (.cells #[.int .i64 y0.k, .int .i64 y0.f, .int .i64 y0.t, .int .i64 y0.s.g, .int .i64 y0.s.o, .int .i64 y0.s.b, .int .i64 y0.s.h, .slice p0 y0.ws.length c0, .string y0.b] 43)
  have hA0 := all_alloc w (.cells #[.int .i64 y0.k, .int .i64 y0.f, .int .i64 y0.t, .int .i64 y0.s.g, .int .i64 y0.s.o, .int .i64 y0.s.b, .int .i64 y0.s.h, .slice p0 y0.ws.length c0, .string y0.b] 43)
  generalize w.alloc (.cells #[.int .i64 y0.k, .int .i64 y0.f, .int .i64 y0.t, .int .i64 y0.s.g, .int .i64 y0.s.o, .int .i64 y0.s.b, .int .i64 y0.s.h, .slice p0 y0.ws.length c0, .string y0.b] 43) = A at hX hA0 ⊢
  obtain ⟨G, hG⟩ : ∃ G, w.heap.size = G := ⟨_, rfl⟩
  rw [hG] at hX ⊢
  have x0 := cellW hX.out 0 _ rfl
  have x1 := cellW hX.out 1 _ rfl
  have x2 := cellW hX.out 2 _ rfl
  have x3 := cellW hX.out 3 _ rfl
  have x4 := cellW hX.out 4 _ rfl
  have x5 := cellW hX.out 5 _ rfl
  have x6 := cellW hX.out 6 _ rfl
  have x7 := cellW hX.out 7 _ rfl
  have x8 := cellW hX.out 8 _ rfl
  have hR := Below.refl A.heap.size A
  go_upto_region 10 with (first
    | (go_at_call 21; refine (HSZ.out _).mono ?_; rintro e v1 ⟨rfl, hb1⟩; have s1 : Below A.heap.size A v1 := hb1)
    | (go_at_call 12; refine (HS.out _ _ _ own2.row).mono ?_; rintro e v3 ⟨rfl, hb3⟩; have s3 : Below A.heap.size A v3 := keepB s2 (Nat.le_refl _) hb3)
    | (have _ := s3; go_at_call 22; refine (HTO.out _ (keepB hA0 (Nat.le_refl _) s3)).mono ?_; rintro e v4 ⟨u4, rfl, own4, hb4⟩; obtain ⟨q4, d4, rfl⟩ := own4.shape; have s4 : Below A.heap.size A v4 := keepB s3 (Nat.le_refl _) hb4; have o4 := own4.below (all_alloc v4 (.cells #[.int .i64 y0.k, .int .i64 y0.f, .int .i64 y0.t, .int .i64 y0.s.g, .int .i64 y0.s.o, .int .i64 y0.s.b, .int .i64 y0.s.h, .slice q4 y0.ws.length d4, .string y0.b] 27)); have a4 := keepB s4 (Nat.le_refl _) (all_alloc v4 (.cells #[.int .i64 y0.k, .int .i64 y0.f, .int .i64 y0.t, .int .i64 y0.s.g, .int .i64 y0.s.o, .int .i64 y0.s.b, .int .i64 y0.s.h, .slice q4 y0.ws.length d4, .string y0.b] 27)); have hP : Hid _ := heap_alloc_new v4 (.cells #[.int .i64 y0.k, .int .i64 y0.f, .int .i64 y0.t, .int .i64 y0.s.g, .int .i64 y0.s.o, .int .i64 y0.s.b, .int .i64 y0.s.h, .slice q4 y0.ws.length d4, .string y0.b] 27))
    | (go_at_call 22; refine (HTO.out _ (keepB hA0 (Nat.le_refl _) s1)).mono ?_; rintro e v2 ⟨u2, rfl, own2, hb2⟩; obtain ⟨q2, d2, rfl⟩ := own2.shape; have s2 : Below A.heap.size A v2 := keepB s1 (Nat.le_refl _) hb2)
    | (go_at_call 8; refine (HI.out _ _ _ o4.row).mono ?_; rintro e v5 ⟨rfl, hb5⟩; have s5 : Below A.heap.size A v5 := keepB a4 (Nat.le_refl _) hb5; have o5 := o4.below hb5))
  have hX5 : Hid _ := blk hX.out s5
  have hP5 : Hid _ := blk hP.out hb5
  clear x0 x1 x2 x3 x4 x5 x6 x7 x8
  have b0 := cellW hX5.out 0 _ rfl
  have b1 := cellW hX5.out 1 _ rfl
  have b2 := cellW hX5.out 2 _ rfl
  have b3 := cellW hX5.out 3 _ rfl
  have b4 := cellW hX5.out 4 _ rfl
  have b5 := cellW hX5.out 5 _ rfl
  have b6 := cellW hX5.out 6 _ rfl
  have b7 := cellW hX5.out 7 _ rfl
  have b8 := cellW hX5.out 8 _ rfl
  have r0 := cellW hP5.out 0 _ rfl
  have r1 := cellW hP5.out 1 _ rfl
  have r2 := cellW hP5.out 2 _ rfl
  have r3 := cellW hP5.out 3 _ rfl
  have r4 := cellW hP5.out 4 _ rfl
  have r5 := cellW hP5.out 5 _ rfl
  have r6 := cellW hP5.out 6 _ rfl
  have r7 := cellW hP5.out 7 _ rfl
  have r8 := cellW hP5.out 8 _ rfl
  go_region_held3 (fun w' => Below v5.heap.size v5 w') (first | assumption | exact Below.drew (Below.refl _ _) | exact keepB (by assumption) (Nat.le_refl _) hbq) (first
    | (go_at_call 22; refine (HTO.out _ (keepB (keepB hA0 (Nat.le_refl _) s5) (Nat.le_refl _) (by assumption))).mono ?_; rintro e9 w9 ⟨u9, rfl, own9, hbq⟩; obtain ⟨q9, d9, rfl⟩ := own9.shape)
    | (go_at_call 23; refine (HE.out _ _ _ (OwnI.below o5 (by assumption)).row own9.row).mono ?_; rintro e9 w9 ⟨rfl, hbq⟩))
  go_wp2
  go_ret
  exact ⟨rfl, keepB (keepB hA0 (Nat.le_refl _) s5) (Nat.le_refl _) (by assumption)⟩

set_option maxRecDepth 100000 in
theorem lifted (os : Os) (started : os.Started) (H : Type) (enc : TypeId × Value → H) :
    ReturnsInHanded {} Try.checked os 5 .any (Rows.fnExactSayBytesSpec.pre6 enc Try.prog Try.f5 Rows.fnExactSayBytesRow.domain false) (Rows.fnExactSayBytesSpec.post enc Try.prog Try.f5 false true false false) := by
  refine returnsInHanded_of_change (C := Try.checked) own started (by kernel_rfl) Try.func5
    (ChangeSpec.witness6 (enc := enc) (C := Try.checked) false ⟨#[], #[.agg #[.int .i64 0, .int .i64 0, .int .i64 0, .int .i64 0, .int .i64 0, .int .i64 0, .int .i64 0, .slice none 0 0, .string ByteArray.empty]], []⟩ 8 (by kernel_rfl) (by kernel_rfl) (by kernel_rfl) (by kernel_rfl)) ?_
  intro W base args ds gs before hval0 hW hcnd _
  have hval : ∀ (j : Nat) t v, Try.f5.params[j]? = some t → args[j]? = some v → Value.okWide Try.prog W .any base t v := hval0
  have hW' := hW
  obtain ⟨p, q, hA0, hV, rfl, hfz, hnd⟩ := hW
  have hA : DataW.TrodAll enc Try.prog W 0 (fun _ => true) true Try.f5.params.toList args.toList ds p := hA0
  rw [Try.params5] at hA hval
  obtain ⟨v0, vs0, d0, ds0, p0, q0, hargs, rfl, rfl, h0, r0⟩ := trodAll_cons hA
  obtain ⟨rfl, rfl, rfl⟩ := trodAll_nil r0
  obtain rfl : args = #[v0] := by cases args; simp_all
  obtain ⟨rfl, rfl⟩ := trodVars_none hV
  have k0 := h0
  have lt0 : ∀ x ∈ p0, x.block < W.heap.size := by obtain ⟨m, hm⟩ := k0; exact DataW.trod_lt m _ _ _ hm
  obtain ⟨y0, a0, c0, rfl, w0⟩ := open_say (hval 0 43 v0 rfl rfl) h0
  clear hA0 hval0
  refine (walk y0 a0 c0 W w0).mono fun e W' ⟨he, bel⟩ => ?_
  subst he
  exact ⟨_, rfl, _, _, _, [], _, [], hW', trodAll_mk1 (shut_bool Try.underlying4 _), (trodAll_cons_mk (Below.trod laidOut (by kernel_rfl) (of_decide_eq_true (by kernel_rfl)) k0 bel lt0) trodAll_mk0), rfl, bel.frame _, fun h => by cases h⟩

/-- The statement. -/
theorem proved : Rows.FnExactSayBytesSaid :=
  OpenClaim.holds_of_wide 5 Try.f5 rfl rfl rfl rfl rfl rfl rfl ⟨rfl, rfl, rfl, rfl, rfl⟩ rfl rfl rfl rfl rfl (by kernel_rfl) Try.func5 (by kernel_rfl)
    (of_decide_eq_true (by kernel_rfl)) (by unfold Func.isWrapper; first | (rw [if_pos (by decide +kernel)]; kernel_rfl) | (rw [if_neg (by decide +kernel)]; exact ⟨rfl, rfl⟩))
    (fun os started H enc _ => lifted os started H enc)
#print axioms proved
end Go.Proofs.Ythmbfkppjijelaa.fnExactSayBytes
