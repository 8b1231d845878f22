/- FnExactTableNew: at every argument the function answers as its model, field by field; no condition. -/
import Derived.Test.YtfpibedloodjlabRows
import Derived.Test.YtfpibedloodjlabNewT
import Derived.Test.YtfpibedloodjlabTabL
import Derived.WalkKit
import Derived.WalkSpells
import Derived.ProofKit
import Derived.OpenShut
import Derived.ShutString
import Derived.ChangeOld
import Derived.Below
import Derived.Outline
import Derived.Deep.RegionHeld3
import Derived.Deep.RegionWith
import Derived.Deep.DeepCutAuto
namespace Go.Proofs.Ytfpibedloodjlab.fnExactTableNew
open Go.ChangeShapes Go.WideShapes Go.ChangeAt Go.RowKit
open Go.ChangeMaps (open_string shut_string)
set_option linter.unusedVariables false

theorem own : ownKnob Try.prog.godebug = none := by kernel_rfl
theorem laidOut : laidOutB Try.prog = true := by kernel_rfl

set_option maxRecDepth 100000 in
set_option maxHeartbeats 1600000 in
/-- The walk: the law returns true, and nothing that was there has turned. -/
theorem walk (a0 : Int) (a1 : Int) (w : World) (w0 : (Lit.int .i64 a0).wf = true) (w1 : (Lit.int .i64 a1).wf = true) :
    Calls Try.prog 5 #[.int .i64 a0, .int .i64 a1] w fun e w' => e = .returned (.bool true) ∧ Below w.heap.size w w' := by
  have HS : Hid (∀ (W : World), Calls Try.prog 17 #[.int .i64 a0, .int .i64 a1] W fun e w' => ∃ v1 v2, e = .returned (.agg #[v1, v2]) ∧ OwnT w' W.heap.size v1 v2 (newT a0 a1) ∧ Below W.heap.size W w') := fun W => specTableNew_any a0 a1 W
  have HI : Hid (∀ (W : World), Calls Try.prog 18 #[.int .i64 a0, .int .i64 a1] W fun e w' => ∃ v1 v2, e = .returned (.agg #[v1, v2]) ∧ OwnT w' W.heap.size v1 v2 (newT a0 a1) ∧ Below W.heap.size W w') := fun W => tableNew_any a0 a1 W
  obtain ⟨hl1, hl2⟩ := newT_len a0 a1
  generalize newT a0 a1 = T at HS HI hl1 hl2
  have HE : Hid (∀ (W : World) (v1 v2 u1 u2 : Value), RowI W v1 T.cs → RowI W v2 T.rs → RowI W u1 T.cs → RowI W u2 T.rs → Calls Try.prog 16 #[.agg #[v1, v2], .agg #[u1, u2]] W fun x w' => x = .returned (.bool true) ∧ Below W.heap.size W w') := fun W v1 v2 u1 u2 h1 h2 h3 h4 => eqTable_same T v1 v2 u1 u2 W (by omega) (by omega) h1 h2 h3 h4
  have HM : Hid (∀ (W : World) (B : Nat) (v1 v2 : Value), OwnT W B v1 v2 T → Calls Try.prog 19 #[.agg #[v1, v2], .int .i64 1] W fun e w' => e = .returned (.int .i64 (1 + (T.cs.length : Int) + (T.rs.length : Int))) ∧ OwnT w' B v1 v2 (markT T.cs.length T.rs.length) ∧ Grown2 W w' v1.ownBlock v2.ownBlock) := fun W B v1 v2 h => markTable_any T B v1 v2 W (by omega) (by omega) h
  have HH : Hid (∀ (W : World) (B : Nat) (v1 v2 : Value), OwnT W B v1 v2 (markT T.cs.length T.rs.length) → Calls Try.prog 20 #[.agg #[v1, v2], .int .i64 1] W fun e w' => e = .returned (.int .i64 (1 + (T.cs.length : Int) + (T.rs.length : Int))) ∧ Below W.heap.size W w') := fun W B v1 v2 h => heldTable_any T.cs.length T.rs.length B v1 v2 W (by omega) (by omega) h
  have en : ((1 + (T.cs.length : Int) + (T.rs.length : Int)) != (1 + (T.cs.length : Int) + (T.rs.length : Int))) = false := by simp
  have e0 : ¬ (1 : Int) + (T.cs.length : Int) + (T.rs.length : Int) < 0 := by omega
  go_enter Try.func5, Try.ntmps5
  go_wp2_with (first
    | (go_at_call 17; refine (HS.out _).mono ?_; rintro e v1 ⟨u1, u1', rfl, own1, hb1⟩; obtain ⟨p1, c1, rfl⟩ := own1.c.shape; obtain ⟨q1, d1, rfl⟩ := own1.r.shape; have s1 : Below w.heap.size w (v1.alloc (.cells #[.slice p1 T.cs.length c1, .slice q1 T.rs.length d1] 31)) := keepB hb1 (Nat.le_refl _) (all_alloc _ _); have o1 := own1.below (all_alloc v1 (.cells #[.slice p1 T.cs.length c1, .slice q1 T.rs.length d1] 31)); have hP3 : Hid _ := heap_alloc_new v1 (.cells #[.slice p1 T.cs.length c1, .slice q1 T.rs.length d1] 31))
    | (have _ := m3; go_at_call 18; refine (HI.out _).mono ?_; rintro e v5 ⟨u5, u5', rfl, own5, hb5⟩; obtain ⟨p5, c5, rfl⟩ := own5.c.shape; obtain ⟨q5, d5, rfl⟩ := own5.r.shape; have s5 : Below w.heap.size w (v5.alloc (.cells #[.slice p5 T.cs.length c5, .slice q5 T.rs.length d5] 31)) := keepB (keepB s4 (Nat.le_refl _) hb5) (Nat.le_refl _) (all_alloc _ _); have o5 := own5.below (all_alloc v5 (.cells #[.slice p5 T.cs.length c5, .slice q5 T.rs.length d5] 31)); have o15 := ((OwnT.below o13 hb4).below hb5).below (all_alloc v5 (.cells #[.slice p5 T.cs.length c5, .slice q5 T.rs.length d5] 31)); have hP7 : Hid _ := heap_alloc_new v5 (.cells #[.slice p5 T.cs.length c5, .slice q5 T.rs.length d5] 31); have hP37 : Hid _ := blk (blk (blk hP33.out hb4) hb5) (all_alloc v5 (.cells #[.slice p5 T.cs.length c5, .slice q5 T.rs.length d5] 31)); have hP47 : Hid _ := blk (blk (blk hP43.out hb4) hb5) (all_alloc v5 (.cells #[.slice p5 T.cs.length c5, .slice q5 T.rs.length d5] 31)); have f30 := cellW hP37.out 0 _ rfl (v5.alloc (.cells #[.slice p5 T.cs.length c5, .slice q5 T.rs.length d5] 31)) (Below.refl _ _); have f31 := cellW hP37.out 1 _ rfl (v5.alloc (.cells #[.slice p5 T.cs.length c5, .slice q5 T.rs.length d5] 31)) (Below.refl _ _); have f70 := cellW hP7.out 0 _ rfl (v5.alloc (.cells #[.slice p5 T.cs.length c5, .slice q5 T.rs.length d5] 31)) (Below.refl _ _); have f71 := cellW hP7.out 1 _ rfl (v5.alloc (.cells #[.slice p5 T.cs.length c5, .slice q5 T.rs.length d5] 31)) (Below.refl _ _))
    | (go_at_call 18; refine (HI.out _).mono ?_; rintro e v2 ⟨u2, u2', rfl, own2, hb2⟩; obtain ⟨p2, c2, rfl⟩ := own2.c.shape; obtain ⟨q2, d2, rfl⟩ := own2.r.shape; have s2 : Below w.heap.size w (v2.alloc (.cells #[.slice p2 T.cs.length c2, .slice q2 T.rs.length d2] 31)) := keepB (keepB s1 (Nat.le_refl _) hb2) (Nat.le_refl _) (all_alloc _ _); have o2 := own2.below (all_alloc v2 (.cells #[.slice p2 T.cs.length c2, .slice q2 T.rs.length d2] 31)); have o12 := (OwnT.below o1 hb2).below (all_alloc v2 (.cells #[.slice p2 T.cs.length c2, .slice q2 T.rs.length d2] 31)); have s12 : Below (v1.alloc (.cells #[.slice p1 T.cs.length c1, .slice q1 T.rs.length d1] 31)).heap.size (v1.alloc (.cells #[.slice p1 T.cs.length c1, .slice q1 T.rs.length d1] 31)) (v2.alloc (.cells #[.slice p2 T.cs.length c2, .slice q2 T.rs.length d2] 31)) := keepB hb2 (Nat.le_refl _) (all_alloc _ _); have hP4 : Hid _ := heap_alloc_new v2 (.cells #[.slice p2 T.cs.length c2, .slice q2 T.rs.length d2] 31); have hP32 : Hid _ := blk hP3.out s12; have a30 := cellW hP32.out 0 _ rfl (v2.alloc (.cells #[.slice p2 T.cs.length c2, .slice q2 T.rs.length d2] 31)) (Below.refl _ _); have a31 := cellW hP32.out 1 _ rfl (v2.alloc (.cells #[.slice p2 T.cs.length c2, .slice q2 T.rs.length d2] 31)) (Below.refl _ _); have a40 := cellW hP4.out 0 _ rfl (v2.alloc (.cells #[.slice p2 T.cs.length c2, .slice q2 T.rs.length d2] 31)) (Below.refl _ _); have a41 := cellW hP4.out 1 _ rfl (v2.alloc (.cells #[.slice p2 T.cs.length c2, .slice q2 T.rs.length d2] 31)) (Below.refl _ _))
    | (go_at_call 19; refine (HM.out _ _ _ _ (OwnT.below o2 hbe)).mono ?_; rintro e v3 ⟨rfl, m3, g3⟩; have hn1 : ∀ j, (Value.slice p2 T.cs.length c2).ownBlock = some j → (v1.alloc (.cells #[.slice p1 T.cs.length c1, .slice q1 T.rs.length d1] 31)).heap.size ≤ j ∧ j < v2.heap.size := (OwnI.lt own2.c); have hn2 : ∀ j, (Value.slice q2 T.rs.length d2).ownBlock = some j → (v1.alloc (.cells #[.slice p1 T.cs.length c1, .slice q1 T.rs.length d1] 31)).heap.size ≤ j ∧ j < v2.heap.size := (OwnI.lt own2.r); have s13 : Below (v1.alloc (.cells #[.slice p1 T.cs.length c1, .slice q1 T.rs.length d1] 31)).heap.size (v1.alloc (.cells #[.slice p1 T.cs.length c1, .slice q1 T.rs.length d1] 31)) v3 := Below.grown2 (keepB s12 (Nat.le_refl _) hbe) g3 (fun j e => (hn1 j e).1) (fun j e => (hn2 j e).1); have s3 : Below w.heap.size w v3 := keepB s1 (Nat.le_refl _) s13; have o13 := OwnT.below o1 s13; have hP33 : Hid _ := blk hP3.out s13; have hP43 : Hid _ := (g3.block v2.heap.size (Array.getElem?_eq_some_iff.1 hP4e.out).1 (by intro e; have := (hn1 _ e.symm).2; omega) (by intro e; have := (hn2 _ e.symm).2; omega)).trans hP4e.out; have d40 := cellW hP43.out 0 _ rfl v3 (Below.refl _ _); have d41 := cellW hP43.out 1 _ rfl v3 (Below.refl _ _))
    | (have _ := s5; go_at_call 20; refine (HH.out _ _ _ _ (OwnT.below (OwnT.below (OwnT.below (OwnT.below m3 hb4) hb5) (all_alloc v5 (.cells #[.slice p5 T.cs.length c5, .slice q5 T.rs.length d5] 31))) hbf)).mono ?_; rintro e v7 ⟨rfl, hb7⟩; have s7 : Below w.heap.size w v7 := keepB s6 (Nat.le_refl _) hb7)
    | (go_at_call 20; refine (HH.out _ _ _ _ m3).mono ?_; rintro e v4 ⟨rfl, hb4⟩; have s4 : Below w.heap.size w v4 := keepB s3 (Nat.le_refl _) hb4)
    | (have _ := s5; go_at_call 16; refine (HE.out _ _ _ _ _ o5.c.row o5.r.row o15.c.row o15.r.row).mono ?_; rintro e v6 ⟨rfl, hbf⟩; have s6 : Below w.heap.size w v6 := keepB s5 (Nat.le_refl _) hbf; have hP46 : Hid _ := blk hP47.out hbf; have g40 := cellW hP46.out 0 _ rfl v6 (Below.refl _ _); have g41 := cellW hP46.out 1 _ rfl v6 (Below.refl _ _))
    | (go_at_call 16; refine (HE.out _ _ _ _ _ o2.c.row o2.r.row o12.c.row o12.r.row).mono ?_; rintro e ve ⟨rfl, hbe⟩; have hP4e : Hid _ := blk hP4.out hbe; have b40 := cellW hP4e.out 0 _ rfl ve (Below.refl _ _); have b41 := cellW hP4e.out 1 _ rfl ve (Below.refl _ _)))
  go_ret
  exact ⟨rfl, s7⟩

set_option maxRecDepth 100000 in
theorem lifted (os : Os) (started : os.Started) (H : Type) (enc : TypeId × Value → H) :
    ReturnsInHanded {} Try.checked os 5 .any (Rows.fnExactTableNewSpec.pre6 enc Try.prog Try.f5 Rows.fnExactTableNewRow.domain false) (Rows.fnExactTableNewSpec.post enc Try.prog Try.f5 false true false false) := by
  refine returnsInHanded_of_change (C := Try.checked) own started (by kernel_rfl) Try.func5
    (ChangeSpec.witness6 (enc := enc) (C := Try.checked) false ⟨#[], #[.int .i64 0, .int .i64 0], []⟩ 8 (by kernel_rfl) (by kernel_rfl) (by kernel_rfl) (by kernel_rfl)) ?_
  intro W base args ds gs before hval0 hW hcnd _
  have hval : ∀ (j : Nat) t v, Try.f5.params[j]? = some t → args[j]? = some v → Value.okWide Try.prog W .any base t v := hval0
  have hW' := hW
  obtain ⟨p, q, hA0, hV, rfl, hfz, hnd⟩ := hW
  have hA : DataW.TrodAll enc Try.prog W 0 (fun _ => true) true Try.f5.params.toList args.toList ds p := hA0
  rw [Try.params5] at hA hval
  obtain ⟨v0, vs0, d0, ds0, p0, q0, hargs, rfl, rfl, h0, r0⟩ := trodAll_cons hA
  obtain ⟨v1, vs1, d1, ds1, p1, q1, rfl, rfl, rfl, h1, r1⟩ := trodAll_cons r0
  obtain ⟨rfl, rfl, rfl⟩ := trodAll_nil r1
  obtain rfl : args = #[v0, v1] := by cases args; simp_all
  obtain ⟨rfl, rfl⟩ := trodVars_none hV
  obtain ⟨a0, rfl, rfl, rfl, w0⟩ := open_int Try.underlying2 (hval 0 2 v0 rfl rfl) h0
  obtain ⟨a1, rfl, rfl, rfl, w1⟩ := open_int Try.underlying2 (hval 1 2 v1 rfl rfl) h1
  clear hA0 hval0
  refine (walk a0 a1 W w0 w1).mono fun e W' ⟨he, bel⟩ => ?_
  subst he
  exact ⟨_, rfl, _, _, _, [], _, [], hW', trodAll_mk1 (shut_bool Try.underlying4 _), (trodAll_cons_mk (shut_int Try.underlying2 w0) (trodAll_cons_mk (shut_int Try.underlying2 w1) trodAll_mk0)), rfl, bel.frame _, fun h => by cases h⟩

/-- The statement. -/
theorem proved : Rows.FnExactTableNewSaid :=
  OpenClaim.holds_of_wide 5 Try.f5 rfl rfl rfl rfl rfl rfl rfl ⟨rfl, rfl, rfl, rfl, rfl⟩ rfl rfl rfl rfl rfl (by kernel_rfl) Try.func5 (by kernel_rfl)
    (of_decide_eq_true (by kernel_rfl)) (by unfold Func.isWrapper; first | (rw [if_pos (by decide +kernel)]; kernel_rfl) | (rw [if_neg (by decide +kernel)]; exact ⟨rfl, rfl⟩))
    (fun os started H enc _ => lifted os started H enc)
#print axioms proved
end Go.Proofs.Ytfpibedloodjlab.fnExactTableNew
