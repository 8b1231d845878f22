/- At every text the law FnExactAskRead returns true; no condition. -/
import Derived.Test.YtfpibedloodjlaaRows
import Derived.Test.YtfpibedloodjlaaIntsIn
import Derived.Test.YtfpibedloodjlaaIntsB
import Derived.Test.YtfpibedloodjlaaAskL
import Derived.Test.YtfpibedloodjlaaAskM
import Derived.Test.YtfpibedloodjlaaKeep
import Derived.WalkKit
import Derived.WalkSpells
import Derived.ProofKit
import Derived.OpenShut
import Derived.ShutString
import Derived.ChangeOld
import Derived.Below
import Derived.Outline
import Derived.Deep.RegionHeld3
import Derived.Deep.RegionWith
import Derived.Deep.DeepCutAuto
namespace Go.Proofs.Ytfpibedloodjlaa.fnExactAskRead
open Go.ChangeShapes Go.WideShapes Go.ChangeAt Go.RowKit
open Go.ChangeMaps (open_string shut_string)
set_option linter.unusedVariables false

theorem own : ownKnob Try.prog.godebug = none := by kernel_rfl
theorem laidOut : laidOutB Try.prog = true := by kernel_rfl

set_option maxRecDepth 100000 in
set_option maxHeartbeats 1600000 in
/-- The walk: the law returns true, and nothing that was there has turned. -/
theorem walk (a0 : ByteArray) (w : World) (w0 : a0.size ≤ maxLen) :
    Calls Try.prog 6 #[.string a0] w fun e w' => e = .returned (.bool true) ∧ Below w.heap.size w w' := by
  unfold maxLen at w0
  by_cases hle : a0.size ≤ 1048576
  case neg =>
    go_enter Try.func6, Try.ntmps6
    go_wp2
    go_ret
    exact ⟨rfl, Below.refl _ _⟩
  have HS : Hid (∀ (W : World), Calls Try.prog 18 #[.string a0] W fun e w' => ∃ v, e = .returned (.agg #[.int .i64 (outA a0).1.c, .int .i64 (outA a0).1.a, .int .i64 (outA a0).1.m, v, .int .i64 (outA a0).2]) ∧ OwnI w' W.heap.size v (outA a0).1.vs ∧ Below W.heap.size W w') := fun W => specAskRead_any a0 W (by omega)
  have HI : Hid (∀ (W : World), Calls Try.prog 11 #[.string a0] W fun e w' => ∃ v, e = .returned (.agg #[.int .i64 (outA a0).1.c, .int .i64 (outA a0).1.a, .int .i64 (outA a0).1.m, v, .int .i64 (outA a0).2]) ∧ OwnI w' W.heap.size v (outA a0).1.vs ∧ Below W.heap.size W w') := fun W => askRead_any a0 W (by omega)
  have hlen : (outA a0).1.vs.length ≤ 10000 := outA_len a0
  generalize (outA a0).1 = q at HS HI hlen
  generalize (outA a0).2 = k at HS HI
  have HE : Hid (∀ (W : World) (v1 v2 : Value), RowI W v1 q.vs → RowI W v2 q.vs → Calls Try.prog 27 #[.agg #[.int .i64 q.c, .int .i64 q.a, .int .i64 q.m, v1, .int .i64 k], .agg #[.int .i64 q.c, .int .i64 q.a, .int .i64 q.m, v2, .int .i64 k]] W fun x w' => x = .returned (.bool true) ∧ Below W.heap.size W w') := fun W v1 v2 h1 h2 => eqAskOut_same q k v1 v2 W (by omega) h1 h2
  have HM : Hid (∀ (W : World) (B : Nat) (v : Value), OwnI W B v q.vs → Calls Try.prog 28 #[.agg #[.int .i64 q.c, .int .i64 q.a, .int .i64 q.m, v, .int .i64 k], .int .i64 1] W fun e w' => e = .returned (.int .i64 (1 + (q.vs.length : Int))) ∧ OwnI w' B v (countI q.vs.length) ∧ W.grownBy w' v.ownBlock) := fun W B v h => markAskOut_any q k B v W hlen h
  have HH : Hid (∀ (W : World) (B : Nat) (v : Value), OwnI W B v (countI q.vs.length) → Calls Try.prog 29 #[.agg #[.int .i64 q.c, .int .i64 q.a, .int .i64 q.m, v, .int .i64 k], .int .i64 1] W fun e w' => e = .returned (.int .i64 (1 + (q.vs.length : Int))) ∧ Below W.heap.size W w') := fun W B v h => heldAskOut_any q k B q.vs.length v W hlen h
  have en : ((1 + (q.vs.length : Int)) != (1 + (q.vs.length : Int))) = false := by simp
  have e0 : ¬ (1 : Int) + (q.vs.length : Int) < 0 := by omega
  go_enter Try.func6, Try.ntmps6
  go_wp2_with (first
    | (go_at_call 18; refine (HS.out _).mono ?_; rintro e v1 ⟨u1, rfl, own1, hb1⟩; obtain ⟨p1, c1, rfl⟩ := own1.shape; have s1 : Below w.heap.size w (v1.alloc (.cells #[.int .i64 q.c, .int .i64 q.a, .int .i64 q.m, .slice p1 q.vs.length c1, .int .i64 k] 30)) := keepB hb1 (Nat.le_refl _) (all_alloc _ _); have o1 := (own1.below (all_alloc v1 (.cells #[.int .i64 q.c, .int .i64 q.a, .int .i64 q.m, .slice p1 q.vs.length c1, .int .i64 k] 30))).row; have hP3 : Hid _ := heap_alloc_new v1 (.cells #[.int .i64 q.c, .int .i64 q.a, .int .i64 q.m, .slice p1 q.vs.length c1, .int .i64 k] 30))
    | (have _ := m3; go_at_call 11; refine (HI.out _).mono ?_; rintro e v5 ⟨u5, rfl, own5, hb5⟩; obtain ⟨p5, c5, rfl⟩ := own5.shape; have s5 : Below w.heap.size w (v5.alloc (.cells #[.int .i64 q.c, .int .i64 q.a, .int .i64 q.m, .slice p5 q.vs.length c5, .int .i64 k] 30)) := keepB (keepB s4 (Nat.le_refl _) hb5) (Nat.le_refl _) (all_alloc _ _); have o5 := (own5.below (all_alloc v5 (.cells #[.int .i64 q.c, .int .i64 q.a, .int .i64 q.m, .slice p5 q.vs.length c5, .int .i64 k] 30))).row; have o15 := ((o13.below hb4).below hb5).below (all_alloc v5 (.cells #[.int .i64 q.c, .int .i64 q.a, .int .i64 q.m, .slice p5 q.vs.length c5, .int .i64 k] 30)); have hP7 : Hid _ := heap_alloc_new v5 (.cells #[.int .i64 q.c, .int .i64 q.a, .int .i64 q.m, .slice p5 q.vs.length c5, .int .i64 k] 30); have hP37 : Hid _ := blk (blk (blk hP33.out hb4) hb5) (all_alloc v5 (.cells #[.int .i64 q.c, .int .i64 q.a, .int .i64 q.m, .slice p5 q.vs.length c5, .int .i64 k] 30)); have hP47 : Hid _ := blk (blk (blk hP43.out hb4) hb5) (all_alloc v5 (.cells #[.int .i64 q.c, .int .i64 q.a, .int .i64 q.m, .slice p5 q.vs.length c5, .int .i64 k] 30)); have f30 := cellW hP37.out 0 _ rfl (v5.alloc (.cells #[.int .i64 q.c, .int .i64 q.a, .int .i64 q.m, .slice p5 q.vs.length c5, .int .i64 k] 30)) (Below.refl _ _); have f31 := cellW hP37.out 1 _ rfl (v5.alloc (.cells #[.int .i64 q.c, .int .i64 q.a, .int .i64 q.m, .slice p5 q.vs.length c5, .int .i64 k] 30)) (Below.refl _ _); have f32 := cellW hP37.out 2 _ rfl (v5.alloc (.cells #[.int .i64 q.c, .int .i64 q.a, .int .i64 q.m, .slice p5 q.vs.length c5, .int .i64 k] 30)) (Below.refl _ _); have f33 := cellW hP37.out 3 _ rfl (v5.alloc (.cells #[.int .i64 q.c, .int .i64 q.a, .int .i64 q.m, .slice p5 q.vs.length c5, .int .i64 k] 30)) (Below.refl _ _); have f34 := cellW hP37.out 4 _ rfl (v5.alloc (.cells #[.int .i64 q.c, .int .i64 q.a, .int .i64 q.m, .slice p5 q.vs.length c5, .int .i64 k] 30)) (Below.refl _ _); have f70 := cellW hP7.out 0 _ rfl (v5.alloc (.cells #[.int .i64 q.c, .int .i64 q.a, .int .i64 q.m, .slice p5 q.vs.length c5, .int .i64 k] 30)) (Below.refl _ _); have f71 := cellW hP7.out 1 _ rfl (v5.alloc (.cells #[.int .i64 q.c, .int .i64 q.a, .int .i64 q.m, .slice p5 q.vs.length c5, .int .i64 k] 30)) (Below.refl _ _); have f72 := cellW hP7.out 2 _ rfl (v5.alloc (.cells #[.int .i64 q.c, .int .i64 q.a, .int .i64 q.m, .slice p5 q.vs.length c5, .int .i64 k] 30)) (Below.refl _ _); have f73 := cellW hP7.out 3 _ rfl (v5.alloc (.cells #[.int .i64 q.c, .int .i64 q.a, .int .i64 q.m, .slice p5 q.vs.length c5, .int .i64 k] 30)) (Below.refl _ _); have f74 := cellW hP7.out 4 _ rfl (v5.alloc (.cells #[.int .i64 q.c, .int .i64 q.a, .int .i64 q.m, .slice p5 q.vs.length c5, .int .i64 k] 30)) (Below.refl _ _))
    | (go_at_call 11; refine (HI.out _).mono ?_; rintro e v2 ⟨u2, rfl, own2, hb2⟩; obtain ⟨p2, c2, rfl⟩ := own2.shape; have s2 : Below w.heap.size w (v2.alloc (.cells #[.int .i64 q.c, .int .i64 q.a, .int .i64 q.m, .slice p2 q.vs.length c2, .int .i64 k] 30)) := keepB (keepB s1 (Nat.le_refl _) hb2) (Nat.le_refl _) (all_alloc _ _); have o2 := own2.below (all_alloc v2 (.cells #[.int .i64 q.c, .int .i64 q.a, .int .i64 q.m, .slice p2 q.vs.length c2, .int .i64 k] 30)); have o12 := (o1.below hb2).below (all_alloc v2 (.cells #[.int .i64 q.c, .int .i64 q.a, .int .i64 q.m, .slice p2 q.vs.length c2, .int .i64 k] 30)); have s12 : Below (v1.alloc (.cells #[.int .i64 q.c, .int .i64 q.a, .int .i64 q.m, .slice p1 q.vs.length c1, .int .i64 k] 30)).heap.size (v1.alloc (.cells #[.int .i64 q.c, .int .i64 q.a, .int .i64 q.m, .slice p1 q.vs.length c1, .int .i64 k] 30)) (v2.alloc (.cells #[.int .i64 q.c, .int .i64 q.a, .int .i64 q.m, .slice p2 q.vs.length c2, .int .i64 k] 30)) := keepB hb2 (Nat.le_refl _) (all_alloc _ _); have hP4 : Hid _ := heap_alloc_new v2 (.cells #[.int .i64 q.c, .int .i64 q.a, .int .i64 q.m, .slice p2 q.vs.length c2, .int .i64 k] 30); have hP32 : Hid _ := blk hP3.out s12; have a30 := cellW hP32.out 0 _ rfl (v2.alloc (.cells #[.int .i64 q.c, .int .i64 q.a, .int .i64 q.m, .slice p2 q.vs.length c2, .int .i64 k] 30)) (Below.refl _ _); have a31 := cellW hP32.out 1 _ rfl (v2.alloc (.cells #[.int .i64 q.c, .int .i64 q.a, .int .i64 q.m, .slice p2 q.vs.length c2, .int .i64 k] 30)) (Below.refl _ _); have a32 := cellW hP32.out 2 _ rfl (v2.alloc (.cells #[.int .i64 q.c, .int .i64 q.a, .int .i64 q.m, .slice p2 q.vs.length c2, .int .i64 k] 30)) (Below.refl _ _); have a33 := cellW hP32.out 3 _ rfl (v2.alloc (.cells #[.int .i64 q.c, .int .i64 q.a, .int .i64 q.m, .slice p2 q.vs.length c2, .int .i64 k] 30)) (Below.refl _ _); have a34 := cellW hP32.out 4 _ rfl (v2.alloc (.cells #[.int .i64 q.c, .int .i64 q.a, .int .i64 q.m, .slice p2 q.vs.length c2, .int .i64 k] 30)) (Below.refl _ _); have a40 := cellW hP4.out 0 _ rfl (v2.alloc (.cells #[.int .i64 q.c, .int .i64 q.a, .int .i64 q.m, .slice p2 q.vs.length c2, .int .i64 k] 30)) (Below.refl _ _); have a41 := cellW hP4.out 1 _ rfl (v2.alloc (.cells #[.int .i64 q.c, .int .i64 q.a, .int .i64 q.m, .slice p2 q.vs.length c2, .int .i64 k] 30)) (Below.refl _ _); have a42 := cellW hP4.out 2 _ rfl (v2.alloc (.cells #[.int .i64 q.c, .int .i64 q.a, .int .i64 q.m, .slice p2 q.vs.length c2, .int .i64 k] 30)) (Below.refl _ _); have a43 := cellW hP4.out 3 _ rfl (v2.alloc (.cells #[.int .i64 q.c, .int .i64 q.a, .int .i64 q.m, .slice p2 q.vs.length c2, .int .i64 k] 30)) (Below.refl _ _); have a44 := cellW hP4.out 4 _ rfl (v2.alloc (.cells #[.int .i64 q.c, .int .i64 q.a, .int .i64 q.m, .slice p2 q.vs.length c2, .int .i64 k] 30)) (Below.refl _ _))
    | (go_at_call 28; refine (HM.out _ _ _ (OwnI.below o2 hbe)).mono ?_; rintro e v3 ⟨rfl, m3, g3⟩; have hne : ∀ j, (Value.slice p2 q.vs.length c2).ownBlock = some j → (v1.alloc (.cells #[.int .i64 q.c, .int .i64 q.a, .int .i64 q.m, .slice p1 q.vs.length c1, .int .i64 k] 30)).heap.size ≤ j ∧ j < v2.heap.size := (OwnI.lt own2); have s13 : Below (v1.alloc (.cells #[.int .i64 q.c, .int .i64 q.a, .int .i64 q.m, .slice p1 q.vs.length c1, .int .i64 k] 30)).heap.size (v1.alloc (.cells #[.int .i64 q.c, .int .i64 q.a, .int .i64 q.m, .slice p1 q.vs.length c1, .int .i64 k] 30)) v3 := below_grown (keepB s12 (Nat.le_refl _) hbe) g3 (fun j e => (hne j e).1); have s3 : Below w.heap.size w v3 := keepB s1 (Nat.le_refl _) s13; have o13 := o1.below s13; have hP33 : Hid _ := blk hP3.out s13; have hP43 : Hid _ := (g3.block v2.heap.size (Array.getElem?_eq_some_iff.1 hP4e.out).1 (by intro e; have := (hne _ e.symm).2; omega)).trans hP4e.out; have d40 := cellW hP43.out 0 _ rfl v3 (Below.refl _ _); have d41 := cellW hP43.out 1 _ rfl v3 (Below.refl _ _); have d42 := cellW hP43.out 2 _ rfl v3 (Below.refl _ _); have d43 := cellW hP43.out 3 _ rfl v3 (Below.refl _ _); have d44 := cellW hP43.out 4 _ rfl v3 (Below.refl _ _))
    | (have _ := s5; go_at_call 29; refine (HH.out _ _ _ (OwnI.below (OwnI.below (OwnI.below (OwnI.below m3 hb4) hb5) (all_alloc v5 (.cells #[.int .i64 q.c, .int .i64 q.a, .int .i64 q.m, .slice p5 q.vs.length c5, .int .i64 k] 30))) hbf)).mono ?_; rintro e v7 ⟨rfl, hb7⟩; have s7 : Below w.heap.size w v7 := keepB s6 (Nat.le_refl _) hb7)
    | (go_at_call 29; refine (HH.out _ _ _ m3).mono ?_; rintro e v4 ⟨rfl, hb4⟩; have s4 : Below w.heap.size w v4 := keepB s3 (Nat.le_refl _) hb4)
    | (have _ := s5; go_at_call 27; refine (HE.out _ _ _ o5 o15).mono ?_; rintro e v6 ⟨rfl, hbf⟩; have s6 : Below w.heap.size w v6 := keepB s5 (Nat.le_refl _) hbf; have hP46 : Hid _ := blk hP47.out hbf; have g40 := cellW hP46.out 0 _ rfl v6 (Below.refl _ _); have g41 := cellW hP46.out 1 _ rfl v6 (Below.refl _ _); have g42 := cellW hP46.out 2 _ rfl v6 (Below.refl _ _); have g43 := cellW hP46.out 3 _ rfl v6 (Below.refl _ _); have g44 := cellW hP46.out 4 _ rfl v6 (Below.refl _ _))
    | (go_at_call 27; refine (HE.out _ _ _ o2.row o12).mono ?_; rintro e ve ⟨rfl, hbe⟩; have hP4e : Hid _ := blk hP4.out hbe; have b40 := cellW hP4e.out 0 _ rfl ve (Below.refl _ _); have b41 := cellW hP4e.out 1 _ rfl ve (Below.refl _ _); have b42 := cellW hP4e.out 2 _ rfl ve (Below.refl _ _); have b43 := cellW hP4e.out 3 _ rfl ve (Below.refl _ _); have b44 := cellW hP4e.out 4 _ rfl ve (Below.refl _ _)))
  go_ret
  exact ⟨rfl, s7⟩

set_option maxRecDepth 100000 in
theorem lifted (os : Os) (started : os.Started) (H : Type) (enc : TypeId × Value → H) :
    ReturnsInHanded {} Try.checked os 6 .any (Rows.fnExactAskReadSpec.pre6 enc Try.prog Try.f6 Rows.fnExactAskReadRow.domain false) (Rows.fnExactAskReadSpec.post enc Try.prog Try.f6 false true false false) := by
  refine returnsInHanded_of_change (C := Try.checked) own started (by kernel_rfl) Try.func6
    (ChangeSpec.witness6 (enc := enc) (C := Try.checked) false ⟨#[], #[.string ByteArray.empty], []⟩ 8 (by kernel_rfl) (by kernel_rfl) (by kernel_rfl) (by kernel_rfl)) ?_
  intro W base args ds gs before hval0 hW hcnd _
  have hval : ∀ (j : Nat) t v, Try.f6.params[j]? = some t → args[j]? = some v → Value.okWide Try.prog W .any base t v := hval0
  have hW' := hW
  obtain ⟨p, q, hA0, hV, rfl, hfz, hnd⟩ := hW
  have hA : DataW.TrodAll enc Try.prog W 0 (fun _ => true) true Try.f6.params.toList args.toList ds p := hA0
  rw [Try.params6] at hA hval
  obtain ⟨v0, vs0, d0, ds0, p0, q0, hargs, rfl, rfl, h0, r0⟩ := trodAll_cons hA
  obtain ⟨rfl, rfl, rfl⟩ := trodAll_nil r0
  obtain rfl : args = #[v0] := by cases args; simp_all
  obtain ⟨rfl, rfl⟩ := trodVars_none hV
  obtain ⟨a0, rfl, rfl, rfl, w0⟩ := open_string Try.underlying9 (hval 0 9 v0 rfl rfl) h0
  clear hA0 hval0
  refine (walk a0 W w0).mono fun e W' ⟨he, bel⟩ => ?_
  subst he
  exact ⟨_, rfl, _, _, _, [], _, [], hW', trodAll_mk1 (shut_bool Try.underlying4 _), (trodAll_cons_mk (shut_string Try.underlying9 w0) trodAll_mk0), rfl, bel.frame _, fun h => by cases h⟩

/-- The statement. -/
theorem proved : Rows.FnExactAskReadSaid :=
  OpenClaim.holds_of_wide 6 Try.f6 rfl rfl rfl rfl rfl rfl rfl ⟨rfl, rfl, rfl, rfl, rfl⟩ rfl rfl rfl rfl rfl (by kernel_rfl) Try.func6 (by kernel_rfl)
    (of_decide_eq_true (by kernel_rfl)) (by unfold Func.isWrapper; first | (rw [if_pos (by decide +kernel)]; kernel_rfl) | (rw [if_neg (by decide +kernel)]; exact ⟨rfl, rfl⟩))
    (fun os started H enc _ => lifted os started H enc)
#print axioms proved
end Go.Proofs.Ytfpibedloodjlaa.fnExactAskRead
