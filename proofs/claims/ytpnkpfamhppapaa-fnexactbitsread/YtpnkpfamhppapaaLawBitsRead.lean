/- At every text and number the law FnExactBitsRead returns true; no condition. -/
import Derived.Test.YtpnkpfamhppapaaRows
import Derived.Test.YtpnkpfamhppapaaIntsIn
import Derived.Test.YtpnkpfamhppapaaIntsB
import Derived.Test.YtpnkpfamhppapaaBitsR
import Derived.Test.YtpnkpfamhppapaaBitsS
import Derived.Test.YtpnkpfamhppapaaKeep
import Derived.WalkKit
import Derived.WalkSpells
import Derived.ProofKit
import Derived.OpenShut
import Derived.ShutString
import Derived.ChangeOld
import Derived.Below
import Derived.Outline
import Derived.Deep.RegionHeld3
import Derived.Deep.RegionWith
import Derived.Deep.DeepCutAuto
namespace Go.Proofs.Ytpnkpfamhppapaa.fnExactBitsRead
open Go.ChangeShapes Go.WideShapes Go.ChangeAt Go.RowKit
open Go.ChangeMaps (open_string shut_string)
set_option linter.unusedVariables false

theorem own : ownKnob Try.prog.godebug = none := by kernel_rfl
theorem laidOut : laidOutB Try.prog = true := by kernel_rfl

set_option maxRecDepth 100000 in
set_option maxHeartbeats 1600000 in
/-- The walk: the law returns true, and nothing that was there has turned. -/
theorem walk (a0 : ByteArray) (a1 : Int) (w : World) (w0 : a0.size ≤ maxLen) (w1 : (Lit.int .i64 a1).wf = true) :
    Calls Try.prog 8 #[.string a0, .int .i64 a1] w fun e w' => e = .returned (.bool true) ∧ Below w.heap.size w w' := by
  unfold maxLen at w0
  by_cases hle : a0.size ≤ 1048576
  case neg =>
    go_enter Try.func8, Try.ntmps8
    go_wp2
    go_ret
    exact ⟨rfl, Below.refl _ _⟩
  have hlen : (bitsR a0 a1).length ≤ 64 := by
    unfold bitsR
    split
    · rw [unpackL_length]; omega
    · simp
  have HS : Hid (∀ (W : World), Calls Try.prog 24 #[.string a0, .int .i64 a1] W fun e w' => ∃ v, e = .returned v ∧ OwnI w' W.heap.size v (bitsR a0 a1) ∧ Below W.heap.size W w') := fun W => specBitsRead_any a0 a1 W (by omega) w1
  have HI : Hid (∀ (W : World), Calls Try.prog 23 #[.string a0, .int .i64 a1] W fun e w' => ∃ v, e = .returned v ∧ OwnI w' W.heap.size v (bitsR a0 a1) ∧ Below W.heap.size W w') := fun W => bitsRead_any a0 a1 W (by omega) w1
  generalize bitsR a0 a1 = r at HS HI hlen
  have HE : Hid (∀ (W : World) (v1 v2 : Value), RowI W v1 r → RowI W v2 r → Calls Try.prog 32 #[v1, v2] W fun x w' => x = .returned (.bool true) ∧ Below W.heap.size W w') := fun W v1 v2 h1 h2 => eqInt64S_same v1 v2 r W (by omega) h1 h2
  have HM : Hid (∀ (W : World) (B : Nat) (v : Value), OwnI W B v r → Calls Try.prog 33 #[v, .int .i64 1] W fun e w' => e = .returned (.int .i64 (1 + (r.length : Int))) ∧ OwnI w' B v (countI r.length) ∧ W.grownBy w' v.ownBlock) := fun W B v h => markInt64S_any B v r W (by omega) h
  have HH : Hid (∀ (W : World) (B : Nat) (v : Value), OwnI W B v (countI r.length) → Calls Try.prog 34 #[v, .int .i64 1] W fun e w' => e = .returned (.int .i64 (1 + (r.length : Int))) ∧ Below W.heap.size W w') := fun W B v h => heldInt64S_any B v r.length W (by omega) h
  generalize r.length = n at HM HH hlen
  have en : ((1 + (n : Int)) != (1 + (n : Int))) = false := by simp
  go_enter Try.func8, Try.ntmps8
  go_wp2_with (first
    | (go_at_call 24; refine (HS.out _).mono ?_; rintro e v1 ⟨u1, rfl, own1, hb1⟩; have s1 : Below w.heap.size w v1 := hb1; have o1 := own1.row)
    | (have _ := m3; go_at_call 23; refine (HI.out _).mono ?_; rintro e v5 ⟨u5, rfl, own5, hb5⟩; have s5 : Below w.heap.size w v5 := keepB s4 (Nat.le_refl _) hb5)
    | (go_at_call 23; refine (HI.out _).mono ?_; rintro e v2 ⟨u2, rfl, own2, hb2⟩; have s2 : Below w.heap.size w v2 := keepB s1 (Nat.le_refl _) hb2)
    | (go_at_call 33; refine (HM.out _ _ _ (OwnI.below own2 hbe)).mono ?_; rintro e v3 ⟨rfl, m3, g3⟩; have s3 : Below w.heap.size w v3 := (keepB s2 (Nat.le_refl _) hbe).grown g3 (Nat.le_trans s2.size hbe.size) (fun k e => Nat.le_trans s1.size ((OwnI.lt own2 k e).1)); have o3 := o1.below (below_grown (keepB hb2 (Nat.le_refl _) hbe) g3 (fun k e => (OwnI.lt own2 k e).1)))
    | (have _ := s5; go_at_call 34; refine (HH.out _ _ _ (OwnI.below (OwnI.below (OwnI.below m3 hb4) hb5) hbf)).mono ?_; rintro e v7 ⟨rfl, hb7⟩; have s7 : Below w.heap.size w v7 := keepB s6 (Nat.le_refl _) hb7)
    | (go_at_call 34; refine (HH.out _ _ _ m3).mono ?_; rintro e v4 ⟨rfl, hb4⟩; have s4 : Below w.heap.size w v4 := keepB s3 (Nat.le_refl _) hb4)
    | (have _ := s5; go_at_call 32; refine (HE.out _ _ _ own5.row ((o3.below hb4).below hb5)).mono ?_; rintro e v6 ⟨rfl, hbf⟩; have s6 : Below w.heap.size w v6 := keepB s5 (Nat.le_refl _) hbf)
    | (go_at_call 32; refine (HE.out _ _ _ own2.row (o1.below hb2)).mono ?_; rintro e ve ⟨rfl, hbe⟩))
  go_ret
  exact ⟨rfl, s7⟩

set_option maxRecDepth 100000 in
theorem lifted (os : Os) (started : os.Started) (H : Type) (enc : TypeId × Value → H) :
    ReturnsInHanded {} Try.checked os 8 .any (Rows.fnExactBitsReadSpec.pre6 enc Try.prog Try.f8 Rows.fnExactBitsReadRow.domain false) (Rows.fnExactBitsReadSpec.post enc Try.prog Try.f8 false true false false) := by
  refine returnsInHanded_of_change (C := Try.checked) own started (by kernel_rfl) Try.func8
    (ChangeSpec.witness6 (enc := enc) (C := Try.checked) false ⟨#[], #[.string ByteArray.empty, .int .i64 0], []⟩ 8 (by kernel_rfl) (by kernel_rfl) (by kernel_rfl) (by kernel_rfl)) ?_
  intro W base args ds gs before hval0 hW hcnd _
  have hval : ∀ (j : Nat) t v, Try.f8.params[j]? = some t → args[j]? = some v → Value.okWide Try.prog W .any base t v := hval0
  have hW' := hW
  obtain ⟨p, q, hA0, hV, rfl, hfz, hnd⟩ := hW
  have hA : DataW.TrodAll enc Try.prog W 0 (fun _ => true) true Try.f8.params.toList args.toList ds p := hA0
  rw [Try.params8] at hA hval
  obtain ⟨v0, vs0, d0, ds0, p0, q0, hargs, rfl, rfl, h0, r0⟩ := trodAll_cons hA
  obtain ⟨v1, vs1, d1, ds1, p1, q1, rfl, rfl, rfl, h1, r1⟩ := trodAll_cons r0
  obtain ⟨rfl, rfl, rfl⟩ := trodAll_nil r1
  obtain rfl : args = #[v0, v1] := by cases args; simp_all
  obtain ⟨rfl, rfl⟩ := trodVars_none hV
  obtain ⟨a0, rfl, rfl, rfl, w0⟩ := open_string Try.underlying9 (hval 0 9 v0 rfl rfl) h0
  obtain ⟨a1, rfl, rfl, rfl, w1⟩ := open_int Try.underlying2 (hval 1 2 v1 rfl rfl) h1
  clear hA0 hval0
  refine (walk a0 a1 W w0 w1).mono fun e W' ⟨he, bel⟩ => ?_
  subst he
  exact ⟨_, rfl, _, _, _, [], _, [], hW', trodAll_mk1 (shut_bool Try.underlying4 _), (trodAll_cons_mk (shut_string Try.underlying9 w0) (trodAll_cons_mk (shut_int Try.underlying2 w1) trodAll_mk0)), rfl, bel.frame _, fun h => by cases h⟩

/-- The statement. -/
theorem proved : Rows.FnExactBitsReadSaid :=
  OpenClaim.holds_of_wide 8 Try.f8 rfl rfl rfl rfl rfl rfl rfl ⟨rfl, rfl, rfl, rfl, rfl⟩ rfl rfl rfl rfl rfl (by kernel_rfl) Try.func8 (by kernel_rfl)
    (of_decide_eq_true (by kernel_rfl)) (by unfold Func.isWrapper; first | (rw [if_pos (by decide +kernel)]; kernel_rfl) | (rw [if_neg (by decide +kernel)]; exact ⟨rfl, rfl⟩))
    (fun os started H enc _ => lifted os started H enc)
#print axioms proved
end Go.Proofs.Ytpnkpfamhppapaa.fnExactBitsRead
