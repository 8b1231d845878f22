/- For all hops PathNew answers as the model; they stay as they were, and the answer owns its lists. -/
import Derived.Test.YtimocipgikefoaaRows
import Derived.Test.YtimocipgikefoaaPaM
import Derived.Test.YtimocipgikefoaaPaN
import Derived.WalkKit
import Derived.WalkSpells
import Derived.ProofKit
import Derived.OpenShut
import Derived.ShutString
import Derived.ChangeOld
import Derived.Below
import Derived.Outline
import Derived.Deep.RegionHeld3
import Derived.Deep.RegionWith
import Derived.Deep.DeepCutAuto
namespace Go.Proofs.Ytimocipgikefoaa.fnExactPathNew
open Go.ChangeShapes Go.WideShapes Go.ChangeAt Go.RowKit
open Go.ChangeMaps (open_string shut_string)
set_option linter.unusedVariables false
set_option linter.unusedSimpArgs false

theorem own : ownKnob Try.prog.godebug = none := by kernel_rfl
theorem laidOut : laidOutB Try.prog = true := by kernel_rfl

set_option maxRecDepth 100000 in
set_option maxHeartbeats 1600000 in
/-- The walk: the law returns true, and nothing that was there has turned. -/
theorem walk (p0 : Option Addr) (zs0 : List Int) (c0 : Nat) (w : World) (w0 : InI w p0 zs0) :
    Calls Try.prog 6 #[.slice p0 zs0.length c0] w fun e w' => e = .returned (.bool true) ∧ Below w.heap.size w w' := by
  have hnl1 := w0.1
  by_cases hle : zs0.length ≤ 1048576
  case neg =>
    have hle' : (1048576 : Int) < zs0.length := by omega
    clear hle
    go_enter Try.func6, Try.ntmps6
    go_wp2
    go_ret
    exact ⟨rfl, Below.refl _ _⟩
  have hle' : ¬ (1048576 : Int) < zs0.length := by omega
  have HTO : Hid (∀ W, Below w.heap.size w W → Calls Try.prog 30 #[.slice p0 zs0.length c0] W fun x w' => ∃ v, x = .returned v ∧ OwnI w' W.heap.size v zs0 ∧ Below W.heap.size W w') := fun W hW => toInt64S_any p0 c0 zs0 W hle (w0.below hW)
  have HSS : Hid (∀ (W : World) (v : Value) (B : Nat), OwnI W B v zs0 → Calls Try.prog 18 #[v] W fun e w' => ∃ u1 u2, e = .returned (.agg #[u1, u2, .int .i64 (newP zs0).a, .int .i64 (newP zs0).c]) ∧ OwnT w' W.heap.size u1 u2 (newP zs0).t ∧ Below W.heap.size W w') := fun W v B h => specPathNew_any zs0 B v W (by omega) h
  have HSI : Hid (∀ (W : World) (v : Value) (B : Nat), OwnI W B v zs0 → Calls Try.prog 10 #[v] W fun e w' => ∃ u1 u2, e = .returned (.agg #[u1, u2, .int .i64 (newP zs0).a, .int .i64 (newP zs0).c]) ∧ OwnT w' W.heap.size u1 u2 (newP zs0).t ∧ Below W.heap.size W w') := fun W v B h => pathNew_any zs0 B v W (by omega) h
  have hol := newP_len zs0
  generalize (newP zs0).t = T at HSS HSI hol
  generalize (newP zs0).a = R at HSS HSI
  generalize (newP zs0).c = C at HSS HSI
  obtain ⟨hT1, hT2⟩ := hol
  have HET : Hid (∀ (W : World) (v u : Value) (B B' : Nat), OwnI W B v zs0 → OwnI W B' u zs0 → Calls Try.prog 33 #[v, u] W fun x w' => x = .returned (.bool true) ∧ Below W.heap.size W w') := fun W v u B B' h1 h2 => eqInt64S_same v u zs0 W (by omega) h1.row h2.row
  have HMT : Hid (∀ (W : World) (B : Nat) (v : Value), OwnI W B v zs0 → Calls Try.prog 34 #[v, .int .i64 1] W fun e w' => ∃ n : Nat, e = .returned (.int .i64 (n : Int)) ∧ Grown2 W w' v.ownBlock (Value.slice none 0 0).ownBlock) := fun W B v h => markInts_grown zs0 B v W hle h
  have HE : Hid (∀ (W : World) (v1 v2 u1 u2 : Value) (B B' : Nat), OwnT W B v1 v2 T → OwnT W B' u1 u2 T → Calls Try.prog 40 #[.agg #[v1, v2, .int .i64 R, .int .i64 C], .agg #[u1, u2, .int .i64 R, .int .i64 C]] W fun x w' => x = .returned (.bool true) ∧ Below W.heap.size W w') := fun W v1 v2 u1 u2 B B' h1 h2 => eqPathOut_same T v1 v2 u1 u2 R C W (by omega) (by omega) h1.c.row h1.r.row h2.c.row h2.r.row
  have HM : Hid (∀ (W : World) (B : Nat) (v1 v2 : Value), OwnT W B v1 v2 T → Calls Try.prog 41 #[.agg #[v1, v2, .int .i64 R, .int .i64 C], .int .i64 1] W fun e w' => e = .returned (.int .i64 (1 + (T.cs.length : Int) + (T.rs.length : Int))) ∧ OwnT w' B v1 v2 (markT T.cs.length T.rs.length) ∧ Grown2 W w' v1.ownBlock v2.ownBlock) := fun W B v1 v2 h => markPathOut_any T R C B v1 v2 W (by omega) (by omega) h
  have HH : Hid (∀ (W : World) (B : Nat) (v1 v2 : Value), OwnT W B v1 v2 (markT T.cs.length T.rs.length) → Calls Try.prog 42 #[.agg #[v1, v2, .int .i64 R, .int .i64 C], .int .i64 1] W fun e w' => e = .returned (.int .i64 (1 + (T.cs.length : Int) + (T.rs.length : Int))) ∧ Below W.heap.size W w') := fun W B v1 v2 h => heldPathOut_any T.cs.length T.rs.length R C B v1 v2 W (by omega) (by omega) h
  have en : ((1 + (T.cs.length : Int) + (T.rs.length : Int)) != (1 + (T.cs.length : Int) + (T.rs.length : Int))) = false := by simp
  have e0 : ¬ (1 : Int) + (T.cs.length : Int) + (T.rs.length : Int) < 0 := by omega
  clear hnl1
  have hB1 : Below w.heap.size w w := Below.refl _ _
  go_enter Try.func6, Try.ntmps6
  go_upto_region 4 with (first
    | (go_at_call 30; refine (HTO.out _ hB1).mono ?_; rintro e v2 ⟨m1, rfl, own2, hb2⟩; obtain ⟨pm, cm, rfl⟩ := own2.shape)
    | (go_at_call 18; refine (HSS.out _ _ _ own2).mono ?_; rintro e v3 ⟨m3, m4, rfl, own3, hb3⟩; obtain ⟨pa1, ca1, rfl⟩ := own3.c.shape; obtain ⟨qa1, da1, rfl⟩ := own3.r.shape))
  have k2 : Below w.heap.size w (v3.alloc (.cells #[.slice pa1 T.cs.length ca1, .slice qa1 T.rs.length da1, .int .i64 R, .int .i64 C] 28)) := keepB (keepB hb2 (Nat.le_refl _) hb3) (Nat.le_refl _) (all_alloc _ _)
  have b6 : Hid _ := heap_alloc_new v3 (.cells #[.slice pa1 T.cs.length ca1, .slice qa1 T.rs.length da1, .int .i64 R, .int .i64 C] 28)
  have o6 : Hid (OwnT (v3.alloc (.cells #[.slice pa1 T.cs.length ca1, .slice qa1 T.rs.length da1, .int .i64 R, .int .i64 C] 28)) w.heap.size (.slice pa1 T.cs.length ca1) (.slice qa1 T.rs.length da1) T) := (OwnT.leT own3 hb2.size).below (all_alloc _ _)
  have I6 : InT (.slice pa1 T.cs.length ca1) (.slice qa1 T.rs.length da1) 0 v3.heap.size := fun k hk => ⟨Nat.zero_le _, (own3.inT k hk).2⟩
  have hB2 : Below w.heap.size w (v3.alloc (.cells #[.slice pa1 T.cs.length ca1, .slice qa1 T.rs.length da1, .int .i64 R, .int .i64 C] 28)) := keepB hB1 (Nat.le_refl _) k2
  have hs2 : v3.heap.size < (v3.alloc (.cells #[.slice pa1 T.cs.length ca1, .slice qa1 T.rs.length da1, .int .i64 R, .int .i64 C] 28)).heap.size := by simp
  have hw2 : w.heap.size ≤ v3.heap.size := Nat.le_trans (Nat.le_refl _) (Nat.le_trans hb2.size hb3.size)
  generalize v3.alloc (.cells #[.slice pa1 T.cs.length ca1, .slice qa1 T.rs.length da1, .int .i64 R, .int .i64 C] 28) = Z2 at k2 b6 o6 hB2 hs2 ⊢
  generalize v3.heap.size = g6 at b6 I6 hs2 hw2 ⊢
  clear own2 own3 hb2 hb3 k2 hB1
  go_upto_region 5 with (go_at_call 30; refine (HTO.out _ hB2).mono ?_; rintro e Z3 ⟨m1, rfl, own4, k3⟩; obtain ⟨px, cx, rfl⟩ := own4.shape)
  have o7 : Hid (OwnT Z3 Z2.heap.size (.slice px zs0.length cx) (.slice none 0 0) ⟨zs0, []⟩) := OwnT.one own4
  have I7 : InT (.slice px zs0.length cx) (.slice none 0 0) (g6 + 1) Z3.heap.size := fun k hk => ⟨Nat.le_trans hs2 (o7.out.inT k hk).1, (o7.out.inT k hk).2⟩
  have b6' : Hid _ := blk b6.out k3
  have o6' : Hid (OwnT _ _ _ _ _) := o6.out.below k3
  have hB3 : Below w.heap.size w Z3 := keepB hB2 (Nat.le_refl _) k3
  have hg67 : g6 < Z3.heap.size := Nat.lt_of_lt_of_le hs2 k3.size
  obtain ⟨g7, hg7, hs3⟩ : ∃ g7, Hid (g7 = Z3.heap.size) ∧ g7 ≤ Z3.heap.size := ⟨_, rfl, Nat.le_refl _⟩
  rw [← hg7.out] at I7 hg67
  clear own4 k3 hB2 b6 o6 hs2 hg7
  go_upto_region 6 with (go_at_call 10; refine (HSI.out _ _ _ o7.out.c).mono ?_; rintro e v5 ⟨m1, m2, rfl, own5, hb5⟩; obtain ⟨pa2, ca2, rfl⟩ := own5.c.shape; obtain ⟨qa2, da2, rfl⟩ := own5.r.shape)
  have k4 : Below Z3.heap.size Z3 (v5.alloc (.cells #[.slice pa2 T.cs.length ca2, .slice qa2 T.rs.length da2, .int .i64 R, .int .i64 C] 28)) := keepB hb5 (Nat.le_refl _) (all_alloc _ _)
  have b8 : Hid _ := heap_alloc_new v5 (.cells #[.slice pa2 T.cs.length ca2, .slice qa2 T.rs.length da2, .int .i64 R, .int .i64 C] 28)
  have o8 : Hid (OwnT (v5.alloc (.cells #[.slice pa2 T.cs.length ca2, .slice qa2 T.rs.length da2, .int .i64 R, .int .i64 C] 28)) Z3.heap.size (.slice pa2 T.cs.length ca2) (.slice qa2 T.rs.length da2) T) := own5.below (all_alloc _ _)
  have I8 : InT (.slice pa2 T.cs.length ca2) (.slice qa2 T.rs.length da2) g7 v5.heap.size := fun k hk => ⟨Nat.le_trans hs3 (own5.inT k hk).1, (own5.inT k hk).2⟩
  have c6 : Hid _ := blk b6'.out k4
  have p6 : Hid (OwnT _ _ _ _ _) := o6'.out.below k4
  have p7 : Hid (OwnT _ _ _ _ _) := o7.out.below k4
  have hB4 : Below w.heap.size w (v5.alloc (.cells #[.slice pa2 T.cs.length ca2, .slice qa2 T.rs.length da2, .int .i64 R, .int .i64 C] 28)) := keepB hB3 (Nat.le_refl _) k4
  have hg78 : g7 ≤ v5.heap.size := Nat.le_trans (Nat.le_of_lt_succ (Nat.lt_succ_of_le hs3)) hb5.size
  generalize v5.alloc (.cells #[.slice pa2 T.cs.length ca2, .slice qa2 T.rs.length da2, .int .i64 R, .int .i64 C] 28) = Z4 at k4 b8 o8 c6 p6 p7 hB4 ⊢
  generalize v5.heap.size = g8 at b8 I8 hg78 ⊢
  clear own5 hb5 k4 hB3 b6' o6' o7 hs3
  have y0 := cellW c6.out 0 _ rfl Z4 (Below.refl _ _)
  have y1 := cellW c6.out 1 _ rfl Z4 (Below.refl _ _)
  have y2 := cellW c6.out 2 _ rfl Z4 (Below.refl _ _)
  have y3 := cellW c6.out 3 _ rfl Z4 (Below.refl _ _)
  have z0 := cellW b8.out 0 _ rfl Z4 (Below.refl _ _)
  have z1 := cellW b8.out 1 _ rfl Z4 (Below.refl _ _)
  have z2 := cellW b8.out 2 _ rfl Z4 (Below.refl _ _)
  have z3 := cellW b8.out 3 _ rfl Z4 (Below.refl _ _)
  go_upto_region 8 with (go_at_call 40; refine (HE.out _ _ _ _ _ _ _ o8.out p6.out).mono ?_; rintro e Z5 ⟨rfl, hb5⟩)
  have c6e : Hid _ := blk c6.out hb5
  have b8e : Hid _ := blk b8.out hb5
  have p6e : Hid (OwnT _ _ _ _ _) := p6.out.below hb5
  have p7e : Hid (OwnT _ _ _ _ _) := p7.out.below hb5
  have o8e : Hid (OwnT _ _ _ _ _) := o8.out.below hb5
  have hBe : Below w.heap.size w Z5 := keepB hB4 (Nat.le_refl _) hb5
  clear y0 y1 y2 y3 z0 z1 z2 z3 c6 p6 p7 b8 o8 hB4 hb5
  go_upto_region 9 with (first
    | (go_at_call 30; refine (HTO.out _ hBe).mono ?_; rintro e9 w9 ⟨u9, rfl, own9, hbq⟩; obtain ⟨p9, c9, rfl⟩ := own9.shape)
    | (go_at_call 33; refine (HET.out _ _ _ _ _ (OwnT.below p7e.out hbq).c own9).mono ?_; rintro e9 Z6 ⟨rfl, hbr⟩))
  have hwc : Below Z5.heap.size Z5 Z6 := keepB hbq (Nat.le_refl _) hbr
  clear own9 hbq hbr
  have c6f : Hid _ := blk c6e.out hwc
  have b8f : Hid _ := blk b8e.out hwc
  have p6f : Hid (OwnT _ _ _ _ _) := p6e.out.below hwc
  have p7f : Hid (OwnT _ _ _ _ _) := p7e.out.below hwc
  have o8f : Hid (OwnT _ _ _ _ _) := o8e.out.below hwc
  have hBf : Below w.heap.size w Z6 := keepB hBe (Nat.le_refl _) hwc
  clear c6e p6e p7e b8e o8e hBe hwc HET
  go_upto_region 12 with (go_at_call 34; refine (HMT.out _ _ _ p7f.out.c).mono ?_; rintro e Z7 ⟨nk, rfl, g7m⟩)
  have c6g : Hid _ := blk_keep2 c6f.out g7m I7 (.inl (Nat.lt_succ_self _))
  have b8g : Hid _ := blk_keep2 b8f.out g7m I7 (.inr hg78)
  have p6g : Hid (OwnT _ _ _ _ _) := OwnT.keep2 p6f.out g7m I6 I7 (.inl (Nat.le_succ _))
  have o8g : Hid (OwnT _ _ _ _ _) := OwnT.keep2 o8f.out g7m I8 I7 (.inr (by omega))
  have hBg : Below w.heap.size w Z7 := Below.grown2 hBf g7m (fun k e => by have := I7 k (.inl e); omega) (fun k e => by have := I7 k (.inr e); omega)
  have hnk : ¬ ((nk : Int) < 0) := by omega
  clear c6f p6f p7f b8f o8f hBf g7m HMT
  have y0 := cellW c6g.out 0 _ rfl Z7 (Below.refl _ _)
  have y1 := cellW c6g.out 1 _ rfl Z7 (Below.refl _ _)
  have y2 := cellW c6g.out 2 _ rfl Z7 (Below.refl _ _)
  have y3 := cellW c6g.out 3 _ rfl Z7 (Below.refl _ _)
  have z0 := cellW b8g.out 0 _ rfl Z7 (Below.refl _ _)
  have z1 := cellW b8g.out 1 _ rfl Z7 (Below.refl _ _)
  have z2 := cellW b8g.out 2 _ rfl Z7 (Below.refl _ _)
  have z3 := cellW b8g.out 3 _ rfl Z7 (Below.refl _ _)
  go_upto_region 15 with (go_at_call 40; refine (HE.out _ _ _ _ _ _ _ o8g.out p6g.out).mono ?_; rintro e Z8 ⟨rfl, hb8⟩)
  have c6h : Hid _ := blk c6g.out hb8
  have b8h : Hid _ := blk b8g.out hb8
  have p6h : Hid (OwnT _ _ _ _ _) := p6g.out.below hb8
  have o8h : Hid (OwnT _ _ _ _ _) := o8g.out.below hb8
  have hBh : Below w.heap.size w Z8 := keepB hBg (Nat.le_refl _) hb8
  clear y0 y1 y2 y3 z0 z1 z2 z3 c6g p6g b8g o8g hBg hb8 hnk
  have z0 := cellW b8h.out 0 _ rfl Z8 (Below.refl _ _)
  have z1 := cellW b8h.out 1 _ rfl Z8 (Below.refl _ _)
  have z2 := cellW b8h.out 2 _ rfl Z8 (Below.refl _ _)
  have z3 := cellW b8h.out 3 _ rfl Z8 (Below.refl _ _)
  go_upto_region 17 with (go_at_call 41; refine (HM.out _ _ _ _ o8h.out).mono ?_; rintro e Z9 ⟨rfl, m9, g9⟩)
  have c6i : Hid _ := blk_keep2 c6h.out g9 I8 (.inl (by omega))
  have b8i : Hid _ := blk_keep2 b8h.out g9 I8 (.inr (Nat.le_refl _))
  have p6i : Hid (OwnT _ _ _ _ _) := OwnT.keep2 p6h.out g9 I6 I8 (.inl (by omega))
  have m9i : Hid (OwnT _ _ _ _ _) := m9
  have hBi : Below w.heap.size w Z9 := Below.grown2 hBh g9 (fun k e => by have := I8 k (.inl e); omega) (fun k e => by have := I8 k (.inr e); omega)
  clear z0 z1 z2 z3 c6h p6h b8h o8h hBh g9 m9 HM
  have z0 := cellW b8i.out 0 _ rfl Z9 (Below.refl _ _)
  have z1 := cellW b8i.out 1 _ rfl Z9 (Below.refl _ _)
  have z2 := cellW b8i.out 2 _ rfl Z9 (Below.refl _ _)
  have z3 := cellW b8i.out 3 _ rfl Z9 (Below.refl _ _)
  go_upto_region 22 with (go_at_call 42; refine (HH.out _ _ _ _ m9i.out).mono ?_; rintro e ZA ⟨rfl, hbA⟩)
  have c6j : Hid _ := blk c6i.out hbA
  have b8j : Hid _ := blk b8i.out hbA
  have p6j : Hid (OwnT _ _ _ _ _) := p6i.out.below hbA
  have m9j : Hid (OwnT _ _ _ _ _) := m9i.out.below hbA
  have hBj : Below w.heap.size w ZA := keepB hBi (Nat.le_refl _) hbA
  clear z0 z1 z2 z3 c6i p6i b8i m9i hBi hbA
  go_upto_region 23 with (first
    | (go_at_call 30; refine (HTO.out _ hBj).mono ?_; rintro e v6 ⟨m1, rfl, own6, hb6⟩; obtain ⟨pm2, cm2, rfl⟩ := own6.shape)
    | (go_at_call 10; refine (HSI.out _ _ _ own6).mono ?_; rintro e v7 ⟨m3, m4, rfl, own7, hb7⟩; obtain ⟨pa3, ca3, rfl⟩ := own7.c.shape; obtain ⟨qa3, da3, rfl⟩ := own7.r.shape))
  have kB : Below ZA.heap.size ZA (v7.alloc (.cells #[.slice pa3 T.cs.length ca3, .slice qa3 T.rs.length da3, .int .i64 R, .int .i64 C] 28)) := keepB (keepB hb6 (Nat.le_refl _) hb7) (Nat.le_refl _) (all_alloc _ _)
  have b12 : Hid _ := heap_alloc_new v7 (.cells #[.slice pa3 T.cs.length ca3, .slice qa3 T.rs.length da3, .int .i64 R, .int .i64 C] 28)
  have o12 : Hid (OwnT (v7.alloc (.cells #[.slice pa3 T.cs.length ca3, .slice qa3 T.rs.length da3, .int .i64 R, .int .i64 C] 28)) v6.heap.size (.slice pa3 T.cs.length ca3) (.slice qa3 T.rs.length da3) T) := own7.below (all_alloc _ _)
  generalize v7.alloc (.cells #[.slice pa3 T.cs.length ca3, .slice qa3 T.rs.length da3, .int .i64 R, .int .i64 C] 28) = ZB at kB b12 o12 ⊢
  generalize v7.heap.size = g12 at b12 ⊢
  have c6k : Hid _ := blk c6j.out kB
  have b8k : Hid _ := blk b8j.out kB
  have p6k : Hid (OwnT _ _ _ _ _) := p6j.out.below kB
  have m9k : Hid (OwnT _ _ _ _ _) := m9j.out.below kB
  have hBk : Below w.heap.size w ZB := keepB hBj (Nat.le_refl _) kB
  clear own6 own7 hb6 hb7 kB c6j p6j b8j m9j hBj HSS HSI HTO
  have x0 := cellW b12.out 0 _ rfl ZB (Below.refl _ _)
  have x1 := cellW b12.out 1 _ rfl ZB (Below.refl _ _)
  have x2 := cellW b12.out 2 _ rfl ZB (Below.refl _ _)
  have x3 := cellW b12.out 3 _ rfl ZB (Below.refl _ _)
  have y0 := cellW c6k.out 0 _ rfl ZB (Below.refl _ _)
  have y1 := cellW c6k.out 1 _ rfl ZB (Below.refl _ _)
  have y2 := cellW c6k.out 2 _ rfl ZB (Below.refl _ _)
  have y3 := cellW c6k.out 3 _ rfl ZB (Below.refl _ _)
  go_upto_region 26 with (go_at_call 40; refine (HE.out _ _ _ _ _ _ _ o12.out p6k.out).mono ?_; rintro e ZC ⟨rfl, hbC⟩)
  have b8l : Hid _ := blk b8k.out hbC
  have m9l : Hid (OwnT _ _ _ _ _) := m9k.out.below hbC
  have hBl : Below w.heap.size w ZC := keepB hBk (Nat.le_refl _) hbC
  clear x0 x1 x2 x3 y0 y1 y2 y3 b12 o12 c6k p6k b8k m9k hBk hbC HE
  have z0 := cellW b8l.out 0 _ rfl ZC (Below.refl _ _)
  have z1 := cellW b8l.out 1 _ rfl ZC (Below.refl _ _)
  have z2 := cellW b8l.out 2 _ rfl ZC (Below.refl _ _)
  have z3 := cellW b8l.out 3 _ rfl ZC (Below.refl _ _)
  go_wp2_with (go_at_call 42; refine (HH.out _ _ _ _ m9l.out).mono ?_; rintro e ZD ⟨rfl, hbD⟩)
  go_ret
  exact ⟨rfl, keepB hBl (Nat.le_refl _) hbD⟩

set_option maxRecDepth 100000 in
theorem lifted (os : Os) (started : os.Started) (H : Type) (enc : TypeId × Value → H) :
    ReturnsInHanded {} Try.checked os 6 .any (Rows.fnExactPathNewSpec.pre6 enc Try.prog Try.f6 Rows.fnExactPathNewRow.domain false) (Rows.fnExactPathNewSpec.post enc Try.prog Try.f6 false true false false) := by
  refine returnsInHanded_of_change (C := Try.checked) own started (by kernel_rfl) Try.func6
    (ChangeSpec.witness6 (enc := enc) (C := Try.checked) false ⟨#[], #[.slice none 0 0], []⟩ 8 (by kernel_rfl) (by kernel_rfl) (by kernel_rfl) (by kernel_rfl)) ?_
  intro W base args ds gs before hval0 hW hcnd _
  have hval : ∀ (j : Nat) t v, Try.f6.params[j]? = some t → args[j]? = some v → Value.okWide Try.prog W .any base t v := hval0
  have hW' := hW
  obtain ⟨p, q, hA0, hV, rfl, hfz, hnd⟩ := hW
  have hA : DataW.TrodAll enc Try.prog W 0 (fun _ => true) true Try.f6.params.toList args.toList ds p := hA0
  rw [Try.params6] at hA hval
  obtain ⟨v0, vs0, d0, ds0, p0, q0, hargs, rfl, rfl, h0, r0⟩ := trodAll_cons hA
  obtain ⟨rfl, rfl, rfl⟩ := trodAll_nil r0
  obtain rfl : args = #[v0] := by cases args; simp_all
  obtain ⟨rfl, rfl⟩ := trodVars_none hV
  have k0 := h0
  have lt0 : ∀ x ∈ p0, x.block < W.heap.size := by obtain ⟨m, hm⟩ := k0; exact DataW.trod_lt m _ _ _ hm
  obtain ⟨p0', zs0, c0, rfl, w0⟩ : ∃ (a : Option Addr) (zs : List Int) (c : Nat), v0 = .slice a zs.length c ∧ InI W a zs := by
    obtain ⟨a, len, cap, rfl⟩ := okWide_slice Try.underlying23 (hval 0 23 v0 rfl rfl)
    have hrow : ∃ zs, IsRowN .i64 W a len cap zs := by
      obtain ⟨fuel, hf⟩ := h0
      rcases open_ints Try.underlying23 Try.underlying2 (by kernel_rfl) hf with ⟨hcs, _⟩ | ⟨x, l, c, zs, hcs, _, hl, hm, hz, _, hcell, hwz⟩
      · simp [Value.cells] at hcs
        obtain ⟨rfl, rfl, rfl⟩ := hcs
        exact ⟨[], .inl ⟨rfl, rfl, rfl, rfl⟩⟩
      · simp [Value.cells] at hcs
        obtain ⟨rfl, rfl, rfl⟩ := hcs
        exact ⟨zs, .inr ⟨_, rfl, hl, hm, by simpa using hz, hcell, hwz⟩⟩
    obtain ⟨zs, hrow⟩ := hrow
    obtain ⟨ys, rfl, hini, _⟩ := hrow.ini
    exact ⟨a, ys, cap, rfl, hini⟩
  clear hA0 hval0
  refine (walk p0' zs0 c0 W w0).mono fun e W' ⟨he, bel⟩ => ?_
  subst he
  exact ⟨_, rfl, _, _, _, [], _, [], hW', trodAll_mk1 (shut_bool Try.underlying4 _), (trodAll_cons_mk (Below.trod laidOut (by kernel_rfl) (of_decide_eq_true (by kernel_rfl)) k0 bel lt0) trodAll_mk0), rfl, bel.frame _, fun h => by cases h⟩

/-- The statement. -/
theorem proved : Rows.FnExactPathNewSaid :=
  OpenClaim.holds_of_wide 6 Try.f6 rfl rfl rfl rfl rfl rfl rfl ⟨rfl, rfl, rfl, rfl, rfl⟩ rfl rfl rfl rfl rfl (by kernel_rfl) Try.func6 (by kernel_rfl)
    (of_decide_eq_true (by kernel_rfl)) (by unfold Func.isWrapper; first | (rw [if_pos (by decide +kernel)]; kernel_rfl) | (rw [if_neg (by decide +kernel)]; exact ⟨rfl, rfl⟩))
    (fun os started H enc _ => lifted os started H enc)
#print axioms proved
end Go.Proofs.Ytimocipgikefoaa.fnExactPathNew
