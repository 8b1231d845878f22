/- For every text PathRead answers as the model, and the answer owns its lists. -/
import Derived.Test.YtimocipgikefoabRows
import Derived.Test.YtimocipgikefoabPaM
import Derived.Test.YtimocipgikefoabPaY
import Derived.Test.YtimocipgikefoabPaZ
import Derived.WalkKit
import Derived.WalkSpells
import Derived.ProofKit
import Derived.OpenShut
import Derived.ShutString
import Derived.ChangeOld
import Derived.Below
import Derived.Outline
import Derived.Deep.RegionHeld3
import Derived.Deep.RegionWith
import Derived.Deep.DeepCutAuto
namespace Go.Proofs.Ytimocipgikefoab.fnExactPathRead
open Go.ChangeShapes Go.WideShapes Go.ChangeAt Go.RowKit
open Go.ChangeMaps (open_string shut_string)
set_option linter.unusedVariables false
set_option linter.unusedSimpArgs false

theorem own : ownKnob Try.prog.godebug = none := by kernel_rfl
theorem laidOut : laidOutB Try.prog = true := by kernel_rfl

set_option maxRecDepth 100000 in
set_option maxHeartbeats 1600000 in
/-- The walk: the law returns true, and nothing that was there has turned. -/
theorem walk (a0 : ByteArray) (w : World) (w0 : a0.size ≤ maxLen) :
    Calls Try.prog 4 #[.string a0] w fun e w' => e = .returned (.bool true) ∧ Below w.heap.size w w' := by
  unfold maxLen at w0
  by_cases hle : a0.size ≤ 1048576
  case neg =>
    have hle' : (1048576 : Int) < a0.size := by omega
    clear hle
    go_enter Try.func4, Try.ntmps4
    go_wp2
    go_ret
    exact ⟨rfl, Below.refl _ _⟩
  have hle' : ¬ (1048576 : Int) < a0.size := by omega
  have HSS : Hid (∀ W : World, Calls Try.prog 10 #[.string a0] W fun e w' => ∃ u1 u2, e = .returned (.agg #[u1, u2, .int .i64 (readP a0).a, .int .i64 (readP a0).c]) ∧ OwnT w' W.heap.size u1 u2 (readP a0).t ∧ Below W.heap.size W w') := fun W => by rw [readP_readQ]; exact specPathRead_any a0 W (by omega)
  have HSI : Hid (∀ W : World, Calls Try.prog 11 #[.string a0] W fun e w' => ∃ u1 u2, e = .returned (.agg #[u1, u2, .int .i64 (readP a0).a, .int .i64 (readP a0).c]) ∧ OwnT w' W.heap.size u1 u2 (readP a0).t ∧ Below W.heap.size W w') := fun W => pathRead_any a0 W (by omega)
  have hol := readP_len a0
  generalize (readP a0).t = T at HSS HSI hol
  generalize (readP a0).a = R at HSS HSI
  generalize (readP a0).c = C at HSS HSI
  obtain ⟨hT1, hT2⟩ := hol
  have HE : Hid (∀ (W : World) (v1 v2 u1 u2 : Value) (B B' : Nat), OwnT W B v1 v2 T → OwnT W B' u1 u2 T → Calls Try.prog 12 #[.agg #[v1, v2, .int .i64 R, .int .i64 C], .agg #[u1, u2, .int .i64 R, .int .i64 C]] W fun x w' => x = .returned (.bool true) ∧ Below W.heap.size W w') := fun W v1 v2 u1 u2 B B' h1 h2 => eqPathOut_same T v1 v2 u1 u2 R C W (by omega) (by omega) h1.c.row h1.r.row h2.c.row h2.r.row
  have HM : Hid (∀ (W : World) (B : Nat) (v1 v2 : Value), OwnT W B v1 v2 T → Calls Try.prog 13 #[.agg #[v1, v2, .int .i64 R, .int .i64 C], .int .i64 1] W fun e w' => e = .returned (.int .i64 (1 + (T.cs.length : Int) + (T.rs.length : Int))) ∧ OwnT w' B v1 v2 (markT T.cs.length T.rs.length) ∧ Grown2 W w' v1.ownBlock v2.ownBlock) := fun W B v1 v2 h => markPathOut_any T R C B v1 v2 W (by omega) (by omega) h
  have HH : Hid (∀ (W : World) (B : Nat) (v1 v2 : Value), OwnT W B v1 v2 (markT T.cs.length T.rs.length) → Calls Try.prog 14 #[.agg #[v1, v2, .int .i64 R, .int .i64 C], .int .i64 1] W fun e w' => e = .returned (.int .i64 (1 + (T.cs.length : Int) + (T.rs.length : Int))) ∧ Below W.heap.size W w') := fun W B v1 v2 h => heldPathOut_any T.cs.length T.rs.length R C B v1 v2 W (by omega) (by omega) h
  have en : ((1 + (T.cs.length : Int) + (T.rs.length : Int)) != (1 + (T.cs.length : Int) + (T.rs.length : Int))) = false := by simp
  have e0 : ¬ (1 : Int) + (T.cs.length : Int) + (T.rs.length : Int) < 0 := by omega
  go_enter Try.func4, Try.ntmps4
  go_upto_region 4 with (go_at_call 10; refine (HSS.out _).mono ?_; rintro e v3 ⟨m3, m4, rfl, own3, hb3⟩; obtain ⟨pa1, ca1, rfl⟩ := own3.c.shape; obtain ⟨qa1, da1, rfl⟩ := own3.r.shape)
  have k2 : Below w.heap.size w (v3.alloc (.cells #[.slice pa1 T.cs.length ca1, .slice qa1 T.rs.length da1, .int .i64 R, .int .i64 C] 32)) := keepB hb3 (Nat.le_refl _) (all_alloc _ _)
  have b6 : Hid _ := heap_alloc_new v3 (.cells #[.slice pa1 T.cs.length ca1, .slice qa1 T.rs.length da1, .int .i64 R, .int .i64 C] 32)
  have o6 : Hid (OwnT (v3.alloc (.cells #[.slice pa1 T.cs.length ca1, .slice qa1 T.rs.length da1, .int .i64 R, .int .i64 C] 32)) w.heap.size (.slice pa1 T.cs.length ca1) (.slice qa1 T.rs.length da1) T) := own3.below (all_alloc _ _)
  have I6 : InT (.slice pa1 T.cs.length ca1) (.slice qa1 T.rs.length da1) 0 v3.heap.size := fun k hk => ⟨Nat.zero_le _, (own3.inT k hk).2⟩
  have hs2 : v3.heap.size < (v3.alloc (.cells #[.slice pa1 T.cs.length ca1, .slice qa1 T.rs.length da1, .int .i64 R, .int .i64 C] 32)).heap.size := by simp
  have hw2 : w.heap.size ≤ v3.heap.size := hb3.size
  generalize v3.alloc (.cells #[.slice pa1 T.cs.length ca1, .slice qa1 T.rs.length da1, .int .i64 R, .int .i64 C] 32) = Z3 at k2 b6 o6 hs2 ⊢
  generalize v3.heap.size = g6 at b6 I6 hs2 hw2 ⊢
  clear own3 hb3
  go_upto_region 5 with (go_at_call 11; refine (HSI.out _).mono ?_; rintro e v5 ⟨m1, m2, rfl, own5, hb5⟩; obtain ⟨pa2, ca2, rfl⟩ := own5.c.shape; obtain ⟨qa2, da2, rfl⟩ := own5.r.shape)
  have k4 : Below Z3.heap.size Z3 (v5.alloc (.cells #[.slice pa2 T.cs.length ca2, .slice qa2 T.rs.length da2, .int .i64 R, .int .i64 C] 32)) := keepB hb5 (Nat.le_refl _) (all_alloc _ _)
  have b8 : Hid _ := heap_alloc_new v5 (.cells #[.slice pa2 T.cs.length ca2, .slice qa2 T.rs.length da2, .int .i64 R, .int .i64 C] 32)
  have o8 : Hid (OwnT (v5.alloc (.cells #[.slice pa2 T.cs.length ca2, .slice qa2 T.rs.length da2, .int .i64 R, .int .i64 C] 32)) Z3.heap.size (.slice pa2 T.cs.length ca2) (.slice qa2 T.rs.length da2) T) := own5.below (all_alloc _ _)
  have I8 : InT (.slice pa2 T.cs.length ca2) (.slice qa2 T.rs.length da2) (g6 + 1) v5.heap.size := fun k hk => ⟨Nat.le_trans hs2 (own5.inT k hk).1, (own5.inT k hk).2⟩
  have c6 : Hid _ := blk b6.out k4
  have p6 : Hid (OwnT _ _ _ _ _) := o6.out.below k4
  have hB4 : Below w.heap.size w (v5.alloc (.cells #[.slice pa2 T.cs.length ca2, .slice qa2 T.rs.length da2, .int .i64 R, .int .i64 C] 32)) := keepB k2 (Nat.le_refl _) k4
  generalize v5.alloc (.cells #[.slice pa2 T.cs.length ca2, .slice qa2 T.rs.length da2, .int .i64 R, .int .i64 C] 32) = Z4 at k4 b8 o8 c6 p6 hB4 ⊢
  generalize v5.heap.size = g8 at b8 I8 ⊢
  clear own5 hb5 k4 k2 b6 o6 hs2
  have y0 := cellW c6.out 0 _ rfl Z4 (Below.refl _ _)
  have y1 := cellW c6.out 1 _ rfl Z4 (Below.refl _ _)
  have y2 := cellW c6.out 2 _ rfl Z4 (Below.refl _ _)
  have y3 := cellW c6.out 3 _ rfl Z4 (Below.refl _ _)
  have z0 := cellW b8.out 0 _ rfl Z4 (Below.refl _ _)
  have z1 := cellW b8.out 1 _ rfl Z4 (Below.refl _ _)
  have z2 := cellW b8.out 2 _ rfl Z4 (Below.refl _ _)
  have z3 := cellW b8.out 3 _ rfl Z4 (Below.refl _ _)
  go_upto_region 8 with (go_at_call 12; refine (HE.out _ _ _ _ _ _ _ o8.out p6.out).mono ?_; rintro e Z8 ⟨rfl, hb5⟩)
  have c6h : Hid _ := blk c6.out hb5
  have b8h : Hid _ := blk b8.out hb5
  have p6h : Hid (OwnT _ _ _ _ _) := p6.out.below hb5
  have o8h : Hid (OwnT _ _ _ _ _) := o8.out.below hb5
  have hBh : Below w.heap.size w Z8 := keepB hB4 (Nat.le_refl _) hb5
  clear y0 y1 y2 y3 z0 z1 z2 z3 c6 p6 b8 o8 hB4 hb5
  have z0 := cellW b8h.out 0 _ rfl Z8 (Below.refl _ _)
  have z1 := cellW b8h.out 1 _ rfl Z8 (Below.refl _ _)
  have z2 := cellW b8h.out 2 _ rfl Z8 (Below.refl _ _)
  have z3 := cellW b8h.out 3 _ rfl Z8 (Below.refl _ _)
  go_upto_region 10 with (go_at_call 13; refine (HM.out _ _ _ _ o8h.out).mono ?_; rintro e Z9 ⟨rfl, m9, g9⟩)
  have c6i : Hid _ := blk_keep2 c6h.out g9 I8 (.inl (by omega))
  have b8i : Hid _ := blk_keep2 b8h.out g9 I8 (.inr (Nat.le_refl _))
  have p6i : Hid (OwnT _ _ _ _ _) := OwnT.keep2 p6h.out g9 I6 I8 (.inl (by omega))
  have m9i : Hid (OwnT _ _ _ _ _) := m9
  have hBi : Below w.heap.size w Z9 := Below.grown2 hBh g9 (fun k e => by have := I8 k (.inl e); omega) (fun k e => by have := I8 k (.inr e); omega)
  clear z0 z1 z2 z3 c6h p6h b8h o8h hBh g9 m9 HM
  have z0 := cellW b8i.out 0 _ rfl Z9 (Below.refl _ _)
  have z1 := cellW b8i.out 1 _ rfl Z9 (Below.refl _ _)
  have z2 := cellW b8i.out 2 _ rfl Z9 (Below.refl _ _)
  have z3 := cellW b8i.out 3 _ rfl Z9 (Below.refl _ _)
  go_upto_region 15 with (go_at_call 14; refine (HH.out _ _ _ _ m9i.out).mono ?_; rintro e ZA ⟨rfl, hbA⟩)
  have c6j : Hid _ := blk c6i.out hbA
  have b8j : Hid _ := blk b8i.out hbA
  have p6j : Hid (OwnT _ _ _ _ _) := p6i.out.below hbA
  have m9j : Hid (OwnT _ _ _ _ _) := m9i.out.below hbA
  have hBj : Below w.heap.size w ZA := keepB hBi (Nat.le_refl _) hbA
  clear z0 z1 z2 z3 c6i p6i b8i m9i hBi hbA
  go_upto_region 16 with (go_at_call 11; refine (HSI.out _).mono ?_; rintro e v7 ⟨m3, m4, rfl, own7, hb7⟩; obtain ⟨pa3, ca3, rfl⟩ := own7.c.shape; obtain ⟨qa3, da3, rfl⟩ := own7.r.shape)
  have kB : Below ZA.heap.size ZA (v7.alloc (.cells #[.slice pa3 T.cs.length ca3, .slice qa3 T.rs.length da3, .int .i64 R, .int .i64 C] 32)) := keepB hb7 (Nat.le_refl _) (all_alloc _ _)
  have b12 : Hid _ := heap_alloc_new v7 (.cells #[.slice pa3 T.cs.length ca3, .slice qa3 T.rs.length da3, .int .i64 R, .int .i64 C] 32)
  have o12 : Hid (OwnT (v7.alloc (.cells #[.slice pa3 T.cs.length ca3, .slice qa3 T.rs.length da3, .int .i64 R, .int .i64 C] 32)) ZA.heap.size (.slice pa3 T.cs.length ca3) (.slice qa3 T.rs.length da3) T) := own7.below (all_alloc _ _)
  generalize v7.alloc (.cells #[.slice pa3 T.cs.length ca3, .slice qa3 T.rs.length da3, .int .i64 R, .int .i64 C] 32) = ZB at kB b12 o12 ⊢
  generalize v7.heap.size = g12 at b12 ⊢
  have c6k : Hid _ := blk c6j.out kB
  have b8k : Hid _ := blk b8j.out kB
  have p6k : Hid (OwnT _ _ _ _ _) := p6j.out.below kB
  have m9k : Hid (OwnT _ _ _ _ _) := m9j.out.below kB
  have hBk : Below w.heap.size w ZB := keepB hBj (Nat.le_refl _) kB
  clear own7 hb7 kB c6j p6j b8j m9j hBj HSS HSI
  have x0 := cellW b12.out 0 _ rfl ZB (Below.refl _ _)
  have x1 := cellW b12.out 1 _ rfl ZB (Below.refl _ _)
  have x2 := cellW b12.out 2 _ rfl ZB (Below.refl _ _)
  have x3 := cellW b12.out 3 _ rfl ZB (Below.refl _ _)
  have y0 := cellW c6k.out 0 _ rfl ZB (Below.refl _ _)
  have y1 := cellW c6k.out 1 _ rfl ZB (Below.refl _ _)
  have y2 := cellW c6k.out 2 _ rfl ZB (Below.refl _ _)
  have y3 := cellW c6k.out 3 _ rfl ZB (Below.refl _ _)
  go_upto_region 19 with (go_at_call 12; refine (HE.out _ _ _ _ _ _ _ o12.out p6k.out).mono ?_; rintro e ZC ⟨rfl, hbC⟩)
  have b8l : Hid _ := blk b8k.out hbC
  have m9l : Hid (OwnT _ _ _ _ _) := m9k.out.below hbC
  have hBl : Below w.heap.size w ZC := keepB hBk (Nat.le_refl _) hbC
  clear x0 x1 x2 x3 y0 y1 y2 y3 b12 o12 c6k p6k b8k m9k hBk hbC HE
  have z0 := cellW b8l.out 0 _ rfl ZC (Below.refl _ _)
  have z1 := cellW b8l.out 1 _ rfl ZC (Below.refl _ _)
  have z2 := cellW b8l.out 2 _ rfl ZC (Below.refl _ _)
  have z3 := cellW b8l.out 3 _ rfl ZC (Below.refl _ _)
  go_wp2_with (go_at_call 14; refine (HH.out _ _ _ _ m9l.out).mono ?_; rintro e ZD ⟨rfl, hbD⟩)
  go_ret
  exact ⟨rfl, keepB hBl (Nat.le_refl _) hbD⟩

set_option maxRecDepth 100000 in
theorem lifted (os : Os) (started : os.Started) (H : Type) (enc : TypeId × Value → H) :
    ReturnsInHanded {} Try.checked os 4 .any (Rows.fnExactPathReadSpec.pre6 enc Try.prog Try.f4 Rows.fnExactPathReadRow.domain false) (Rows.fnExactPathReadSpec.post enc Try.prog Try.f4 false true false false) := by
  refine returnsInHanded_of_change (C := Try.checked) own started (by kernel_rfl) Try.func4
    (ChangeSpec.witness6 (enc := enc) (C := Try.checked) false ⟨#[], #[.string ByteArray.empty], []⟩ 8 (by kernel_rfl) (by kernel_rfl) (by kernel_rfl) (by kernel_rfl)) ?_
  intro W base args ds gs before hval0 hW hcnd _
  have hval : ∀ (j : Nat) t v, Try.f4.params[j]? = some t → args[j]? = some v → Value.okWide Try.prog W .any base t v := hval0
  have hW' := hW
  obtain ⟨p, q, hA0, hV, rfl, hfz, hnd⟩ := hW
  have hA : DataW.TrodAll enc Try.prog W 0 (fun _ => true) true Try.f4.params.toList args.toList ds p := hA0
  rw [Try.params4] at hA hval
  obtain ⟨v0, vs0, d0, ds0, p0, q0, hargs, rfl, rfl, h0, r0⟩ := trodAll_cons hA
  obtain ⟨rfl, rfl, rfl⟩ := trodAll_nil r0
  obtain rfl : args = #[v0] := by cases args; simp_all
  obtain ⟨rfl, rfl⟩ := trodVars_none hV
  obtain ⟨a0, rfl, rfl, rfl, w0⟩ := open_string Try.underlying9 (hval 0 9 v0 rfl rfl) h0
  clear hA0 hval0
  refine (walk a0 W w0).mono fun e W' ⟨he, bel⟩ => ?_
  subst he
  exact ⟨_, rfl, _, _, _, [], _, [], hW', trodAll_mk1 (shut_bool Try.underlying4 _), (trodAll_cons_mk (shut_string Try.underlying9 w0) trodAll_mk0), rfl, bel.frame _, fun h => by cases h⟩

/-- The statement. -/
theorem proved : Rows.FnExactPathReadSaid :=
  OpenClaim.holds_of_wide 4 Try.f4 rfl rfl rfl rfl rfl rfl rfl ⟨rfl, rfl, rfl, rfl, rfl⟩ rfl rfl rfl rfl rfl (by kernel_rfl) Try.func4 (by kernel_rfl)
    (of_decide_eq_true (by kernel_rfl)) (by unfold Func.isWrapper; first | (rw [if_pos (by decide +kernel)]; kernel_rfl) | (rw [if_neg (by decide +kernel)]; exact ⟨rfl, rfl⟩))
    (fun os started H enc _ => lifted os started H enc)
#print axioms proved
end Go.Proofs.Ytimocipgikefoab.fnExactPathRead
