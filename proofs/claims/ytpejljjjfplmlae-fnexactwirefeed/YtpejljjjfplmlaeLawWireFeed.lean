/- FnExactWireFeed: at every Wire and text the program's WireFeed answers as the model's, each field; its answer owns its memory, behind another call too; no condition. -/
import Derived.Test.YtpejljjjfplmlaeRows
import Derived.Test.YtpejljjjfplmlaeFeedL
import Derived.WalkKit
import Derived.WalkSpells
import Derived.ProofKit
import Derived.OpenShut
import Derived.ShutString
import Derived.ChangeOld
import Derived.Below
import Derived.Outline
import Derived.Lib.SmallJoins
import Derived.Carry
namespace Go.Proofs.Ytpejljjjfplmlae.fnExactWireFeed
open Go.ChangeShapes Go.WideShapes Go.ChangeAt Go.RowKit
open Go.ChangeMaps (open_string shut_string)
set_option linter.unusedVariables false

theorem own : ownKnob Try.prog.godebug = none := by kernel_rfl
theorem laidOut : laidOutB Try.prog = true := by kernel_rfl

set_option maxRecDepth 100000 in
set_option maxHeartbeats 3200000 in
/-- The walk: the law returns true, and nothing that was there has turned. -/
theorem walk (i0 e0 d0 : Bool) (a0 : ByteArray) (a1 : ByteArray) (w : World) (w0 : a0.size ≤ maxLen) (w1 : a1.size ≤ maxLen) :
    Calls Try.prog 8 #[.agg #[.bool i0, .bool e0, .bool d0, .string a0], .string a1] w fun e w' => e = .returned (.bool true) ∧ Below w.heap.size w w' := by
  have hm1 := w1
  unfold maxLen at hm1
  by_cases hb : 1048576 < a1.size
  · go_enter Try.func8, Try.ntmps8
    go_wp2
    go_ret
    exact ⟨rfl, (Below.refl _ _).alloc (Nat.le_refl _) _⟩
  have HSZ : Hid _ := fun w => szWire_any i0 e0 d0 a0 w w0
  by_cases hs : a0.size ≤ 1048576
  · rw [if_pos hs] at HSZ
    have t1 : ¬ (1048576 : Int) - (a0.size : Int) < 0 := by omega
    have HTO : Hid _ := fun w => toWire_any i0 e0 d0 a0 w
    have HS : Hid _ := fun w => specWireFeed_any i0 e0 d0 a0 a1 w w0 w1
    have HI : Hid _ := fun w => wireFeed_any i0 e0 d0 a0 a1 w w0 w1
    have hln : Hid _ := feedR_len (wrOf i0 e0 d0 a0) a1
    generalize feedR (wrOf i0 e0 d0 a0) a1 = R at HS HI hln
    obtain ⟨y, fs, c⟩ := R
    simp only [foV] at HS HI hln
    generalize fs.map bytesOf = ss at HS HI hln
    generalize bytesOf y.buf = yb at HS HI
    generalize y.inn = yi at HS HI
    generalize y.esc = ye at HS HI
    generalize y.bad = yd at HS HI
    clear hs
    go_enter Try.func8, Try.ntmps8
    go_wp2_with (go_at_call 18; refine (HSZ.out _).mono ?_; rintro e v1 ⟨rfl, hb1⟩; obtain ⟨hc1, hf1⟩ := bcellF hb1)
    refine (HTO.out _).mono ?_
    rintro e v2 ⟨rfl, hb2⟩
    have s2 := keepB hb1 (Nat.le_refl _) hb2
    clear hc1 hf1
    go_wp2_with (go_at_call 22; refine (HS.out _).mono ?_; rintro e v3 ⟨vS, rfl, hoS, hb3⟩; have s3 := keepB s2 (Nat.le_refl _) hb3; obtain ⟨hc3, hf3⟩ := bcellF s3; obtain ⟨pS, cS, rfl⟩ := hoS.shape; have hz3 : w.heap.size < v3.heap.size := (by have := s3.size; simp at this; omega))
    have L3 : Hid (LS w #[.bool i0, .bool e0, .bool d0, .string a0] v3.heap.size #[.bool yi, .bool ye, .bool yd, .string yb, .slice pS ss.length cS, .int .i64 c] (v3.alloc (.cells #[.bool yi, .bool ye, .bool yd, .string yb, .slice pS ss.length cS, .int .i64 c] 38))) := by
      refine ⟨?_, heap_alloc_new _ _, ?_, hz3⟩
      · rw [heap_alloc_old _ _ hz3, s3.block w.heap.size (by simp), heap_alloc_new]
      · exact ((below_alloc w _).trans (s3.mono (by simp))).alloc (by omega) _
    have O3 : Hid (OwnS (v3.alloc (.cells #[.bool yi, .bool ye, .bool yd, .string yb, .slice pS ss.length cS, .int .i64 c] 38)) v2.heap.size (.slice pS ss.length cS) ss) := hoS.alloc _
    have K3 : Hid (Kp w (v3.alloc (.cells #[.bool yi, .bool ye, .bool yd, .string yb, .slice pS ss.length cS, .int .i64 c] 38)) (v3.alloc (.cells #[.bool yi, .bool ye, .bool yd, .string yb, .slice pS ss.length cS, .int .i64 c] 38))) := ⟨fun _ _ => rfl, Nat.le_refl _, L3.out.bel⟩
    generalize v3.alloc (.cells #[.bool yi, .bool ye, .bool yd, .string yb, .slice pS ss.length cS, .int .i64 c] 38) = X3 at L3 O3 K3 ⊢
    generalize v3.heap.size = S at L3 ⊢
    have hwX : Hid (w.heap.size ≤ X3.heap.size) := K3.out.bel.size
    clear s2 s3 hb1 hb2 hb3 hoS hc3 hf3 hz3
    refine (HTO.out _).mono ?_
    rintro e v4 ⟨rfl, hb4⟩
    have K4 : Hid _ := K3.out.below hb4
    go_wp2_with (go_at_call 23; refine (HI.out _).mono ?_; rintro e v5 ⟨vG, rfl, hoG, hb5⟩; obtain ⟨pG, cG, rfl⟩ := hoG.shape; have K5 : Hid _ := K4.out.below hb5; have L5 : Hid _ := L3.out.of_keep K5.out.keep K5.out.bel; obtain ⟨a0', a1', a2', a3', al⟩ := L5.out.cellA; obtain ⟨s0, s1, s2, s3, s4, s5, sl⟩ := L5.out.cellS)
    have OG : Hid _ := hoG
    have K6 : Hid _ := K5.out.below (below_alloc v5 (.cells #[.bool yi, .bool ye, .bool yd, .string yb, .slice pG ss.length cG, .int .i64 c] 38))
    refine (eqWireOut_same yi ye yd yb c _ _ _ _ ss _ hln.out (hoG.alloc _) (O3.out.of_keep K6.out.keep)).mono ?_
    rintro e v6 ⟨rfl, hb6⟩
    have K7 : Hid _ := K6.out.below hb6
    have G6 : Hid _ := blk (heap_alloc_new v5 (.cells #[.bool yi, .bool ye, .bool yd, .string yb, .slice pG ss.length cG, .int .i64 c] 38)) hb6
    have OG6 : Hid (OwnS v6 v4.heap.size (.slice pG ss.length cG) ss) := (hoG.alloc _).below hb6
    have hGlt : Hid (∀ k, (Value.slice pG ss.length cG).ownBlock = some k → k < v5.heap.size) := fun k h => (World.ownsRow.lt hoG k h).2
    have hX4 : Hid (X3.heap.size ≤ v4.heap.size) := K4.out.size
    clear a0' a1' a2' a3' al s0 s1 s2 s3 s4 s5 sl hoG hb4 hb5 hb6 L5 OG
    obtain ⟨g0, g1, g2, g3, g4, g5, gl⟩ := cell6 G6.out
    generalize v5.heap.size = G at G6 hGlt g0 g1 g2 g3 g4 g5 gl ⊢
    go_wp2_with (go_at_call 25; refine (markWireOut_any yi ye yd yb c v4.heap.size _ ss _ hln.out OG6.out).mono ?_; rintro e v7 ⟨rfl, ho7, hg7⟩; have G7 : Hid _ := (hg7.block G gl (fun e => absurd (hGlt.out G e.symm) (Nat.lt_irrefl _))).trans G6.out; obtain ⟨k0, k1, k2, k3, k4, k5, kl⟩ := cell6 G7.out)
    have K8 : Hid _ := K7.out.grown hg7 OG6.out hX4.out hwX.out
    have hl2 : ss.length ≤ 10000 := hln.out
    have tq : ¬ 1 + (ss.length : Int) < 0 := by omega
    have tm : ((1 + (ss.length : Int)) != (1 + (ss.length : Int))) = false := by simp
    clear g0 g1 g2 g3 g4 g5 gl k0 k1 k2 k3 k4 k5 kl hg7 OG6 G6
    refine (heldWireOut_any yi ye yd yb c v4.heap.size _ ss.length _ hln.out ho7).mono ?_
    rintro e v8 ⟨rfl, hb8⟩
    have K9 : Hid _ := K8.out.below hb8
    have G8 : Hid _ := blk G7.out hb8
    have O8 : Hid (OwnS v8 v4.heap.size (.slice pG ss.length cG) (marksL ss.length)) := ho7.below hb8
    have L8 : Hid _ := L3.out.of_keep K9.out.keep K9.out.bel
    obtain ⟨a0', a1', a2', a3', al⟩ := L8.out.cellA
    go_wp2_with (go_at_call 20; refine (HTO.out _).mono ?_; rintro e v9 ⟨rfl, hb9⟩)
    have K10 : Hid _ := K9.out.below hb9
    have G9 : Hid _ := blk G8.out hb9
    have O9 : Hid (OwnS v9 v4.heap.size (.slice pG ss.length cG) (marksL ss.length)) := O8.out.below hb9
    clear a0' a1' a2' a3' al L8
    refine (HI.out _).mono ?_
    rintro e v10 ⟨vH, rfl, hoH, hb10⟩
    obtain ⟨pH, cH, rfl⟩ := hoH.shape
    have K11 : Hid _ := K10.out.below hb10
    have G10 : Hid _ := blk G9.out hb10
    have O10 : Hid (OwnS v10 v4.heap.size (.slice pG ss.length cG) (marksL ss.length)) := O9.out.below hb10
    have L10 : Hid _ := L3.out.of_keep K11.out.keep K11.out.bel
    obtain ⟨s0, s1, s2, s3, s4, s5, sl⟩ := L10.out.cellS
    go_wp2_with fail
    have K12 : Hid _ := K11.out.below (below_alloc v10 (.cells #[.bool yi, .bool ye, .bool yd, .string yb, .slice pH ss.length cH, .int .i64 c] 38))
    have hbA := below_alloc v10 (.cells #[.bool yi, .bool ye, .bool yd, .string yb, .slice pH ss.length cH, .int .i64 c] 38)
    refine (eqWireOut_same yi ye yd yb c _ _ _ _ ss _ hln.out (hoH.alloc _) (O3.out.of_keep K12.out.keep)).mono ?_
    rintro e v11 ⟨rfl, hb11⟩
    have K13 : Hid _ := K12.out.below hb11
    have G11 : Hid _ := blk (blk G10.out hbA) hb11
    have O11 : Hid (OwnS v11 v4.heap.size (.slice pG ss.length cG) (marksL ss.length)) := (O10.out.below hbA).below hb11
    clear s0 s1 s2 s3 s4 s5 sl
    obtain ⟨g0, g1, g2, g3, g4, g5, gl⟩ := cell6 G11.out
    go_wp2_with (go_at_call 26; refine (heldWireOut_any yi ye yd yb c v4.heap.size _ ss.length _ hln.out O11.out).mono ?_; rintro e v12 ⟨rfl, hb12⟩)
    go_ret
    exact ⟨rfl, (K13.out.below hb12).bel⟩
  · rw [if_neg hs] at HSZ
    go_enter Try.func8, Try.ntmps8
    go_wp2_with (go_at_call 18; refine (HSZ.out _).mono ?_; rintro e v1 ⟨rfl, hb1⟩)
    go_ret
    exact ⟨rfl, (((Below.refl _ _).alloc (Nat.le_refl _) _).trans (hb1.mono (by simp)))⟩

set_option maxRecDepth 100000 in
theorem lifted (os : Os) (started : os.Started) (H : Type) (enc : TypeId × Value → H) :
    ReturnsInHanded {} Try.checked os 8 .any (Rows.fnExactWireFeedSpec.pre6 enc Try.prog Try.f8 Rows.fnExactWireFeedRow.domain false) (Rows.fnExactWireFeedSpec.post enc Try.prog Try.f8 false true false false) := by
  refine returnsInHanded_of_change (C := Try.checked) own started (by kernel_rfl) Try.func8
    (ChangeSpec.witness6 (enc := enc) (C := Try.checked) false ⟨#[], #[.agg #[.bool false, .bool false, .bool false, .string ByteArray.empty], .string ByteArray.empty], []⟩ 8 (by kernel_rfl) (by kernel_rfl) (by kernel_rfl) (by kernel_rfl)) ?_
  intro W base args ds gs before hval0 hW hcnd _
  have hval : ∀ (j : Nat) t v, Try.f8.params[j]? = some t → args[j]? = some v → Value.okWide Try.prog W .any base t v := hval0
  have hW' := hW
  obtain ⟨p, q, hA0, hV, rfl, hfz, hnd⟩ := hW
  have hA : DataW.TrodAll enc Try.prog W 0 (fun _ => true) true Try.f8.params.toList args.toList ds p := hA0
  rw [Try.params8] at hA hval
  obtain ⟨v0, vs0, d0, ds0, p0, q0, hargs, rfl, rfl, h0, r0⟩ := trodAll_cons hA
  obtain ⟨v1, vs1, d1, ds1, p1, q1, rfl, rfl, rfl, h1, r1⟩ := trodAll_cons r0
  obtain ⟨rfl, rfl, rfl⟩ := trodAll_nil r1
  obtain rfl : args = #[v0, v1] := by cases args; simp_all
  obtain ⟨rfl, rfl⟩ := trodVars_none hV
  have k0 := h0
  have lt0 : ∀ x ∈ p0, x.block < W.heap.size := by obtain ⟨m, hm⟩ := k0; exact DataW.trod_lt m _ _ _ hm
  obtain ⟨c00, c01, c02, c03, y00, y01, y02, y03, n0, rfl, rfl, rfl, g00, g01, g02, g03⟩ := Go.Joins.open_agg4 Try.underlying30 (by kernel_rfl) (by kernel_rfl) (hval 0 30 v0 rfl rfl) h0
  obtain ⟨i0, q00, rfl⟩ := DataW.trod_bool Try.underlying4 g00
  obtain ⟨e0, q01, rfl⟩ := DataW.trod_bool Try.underlying4 g01
  obtain ⟨d0, q02, rfl⟩ := DataW.trod_bool Try.underlying4 g02
  obtain ⟨a0, q03, rfl, w0⟩ := DataW.trod_string Try.underlying9 g03
  cases q00; cases q01; cases q02; cases q03
  obtain ⟨a1, rfl, rfl, rfl, w1⟩ := open_string Try.underlying9 (hval 1 9 v1 rfl rfl) h1
  clear hA0 hval0
  refine (walk i0 e0 d0 a0 a1 W w0 w1).mono fun e W' ⟨he, bel⟩ => ?_
  subst he
  exact ⟨_, rfl, _, _, _, [], _, [], hW', trodAll_mk1 (shut_bool Try.underlying4 _), (trodAll_cons_mk (Below.trod laidOut (by kernel_rfl) (of_decide_eq_true (by kernel_rfl)) k0 bel lt0) (trodAll_cons_mk (shut_string Try.underlying9 w1) trodAll_mk0)), rfl, bel.frame _, fun h => by cases h⟩

/-- The statement. -/
theorem proved : Rows.FnExactWireFeedSaid :=
  OpenClaim.holds_of_wide 8 Try.f8 rfl rfl rfl rfl rfl rfl rfl ⟨rfl, rfl, rfl, rfl, rfl⟩ rfl rfl rfl rfl rfl (by kernel_rfl) Try.func8 (by kernel_rfl)
    (of_decide_eq_true (by kernel_rfl)) (by unfold Func.isWrapper; first | (rw [if_pos (by decide +kernel)]; kernel_rfl) | (rw [if_neg (by decide +kernel)]; exact ⟨rfl, rfl⟩))
    (fun os started H enc _ => lifted os started H enc)
#print axioms proved
end Go.Proofs.Ytpejljjjfplmlae.fnExactWireFeed
