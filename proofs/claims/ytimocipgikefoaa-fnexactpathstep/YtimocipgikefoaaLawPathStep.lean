/- For every path and every bridge PathStep answers as the model; the path stays as it was, and the answer owns its lists. -/
import Derived.Test.YtimocipgikefoaaRows
import Derived.Test.YtimocipgikefoaaPaM
import Derived.Test.YtimocipgikefoaaPaSi
import Derived.Test.YtimocipgikefoaaPaSs
import Derived.WalkKit
import Derived.WalkSpells
import Derived.ProofKit
import Derived.OpenShut
import Derived.ShutString
import Derived.ChangeOld
import Derived.Below
import Derived.Outline
import Derived.Deep.RegionHeld3
import Derived.Deep.RegionWith
import Derived.Deep.DeepCutAuto
import Derived.Lib.SmallJoins
import Derived.Carry
namespace Go.Proofs.Ytimocipgikefoaa.fnExactPathStep
open Go.ChangeShapes Go.WideShapes Go.ChangeAt Go.RowKit
open Go.ChangeMaps (open_string shut_string)
set_option linter.unusedVariables false
set_option linter.unusedSimpArgs false

theorem own : ownKnob Try.prog.godebug = none := by kernel_rfl
theorem laidOut : laidOutB Try.prog = true := by kernel_rfl

set_option maxRecDepth 100000 in
set_option maxHeartbeats 1600000 in
/-- The walk: the law returns true, and nothing that was there has turned. -/
theorem walk (t0 : Tb) (p0 q0 : Option Addr) (c0 d0 : Nat) (a1 : Int) (w : World) (w0 : InI w p0 t0.cs ∧ InI w q0 t0.rs) (w1 : (Lit.int .i64 a1).wf = true) :
    Calls Try.prog 7 #[.agg #[.slice p0 t0.cs.length c0, .slice q0 t0.rs.length d0], .int .i64 a1] w fun e w' => e = .returned (.bool true) ∧ Below w.heap.size w w' := by
  obtain ⟨hin1, hin2⟩ := w0
  have hnl1 := hin1.1
  have hnl2 := hin2.1
  have HSZ : Hid (∀ W : World, Calls Try.prog 37 #[.agg #[.slice p0 t0.cs.length c0, .slice q0 t0.rs.length d0], .int .i64 1048576] W fun x w' => x = .returned (.int .i64 (leftT t0)) ∧ Below W.heap.size W w') := fun W => szPath_any t0 p0 q0 c0 d0 W hnl1 hnl2
  unfold leftT at HSZ
  by_cases hle : t0.cs.length + t0.rs.length ≤ 1048576
  case neg =>
    rw [if_neg hle] at HSZ
    clear hle hin1 hin2 hnl1 hnl2
    go_enter Try.func7, Try.ntmps7
    go_wp2_with (go_at_call 37; refine (HSZ.out _).mono ?_; rintro e v1 ⟨rfl, hb1⟩)
    go_ret
    exact ⟨rfl, keepB (all_alloc _ _) (Nat.le_refl _) hb1⟩
  rw [if_pos hle] at HSZ
  have h3 : ¬ (1048576 : Int) - (t0.cs.length : Int) - (t0.rs.length : Int) < 0 := by omega
  have HTO : Hid (∀ W, Below w.heap.size w W → Calls Try.prog 38 #[.agg #[.slice p0 t0.cs.length c0, .slice q0 t0.rs.length d0]] W fun x w' => ∃ v1 v2, x = .returned (.agg #[v1, v2]) ∧ OwnT w' W.heap.size v1 v2 t0 ∧ Below W.heap.size W w') := fun W hW => toPath_any t0 p0 q0 c0 d0 W (by omega) (by omega) (hin1.below hW) (hin2.below hW)
  have HSS : Hid (∀ (W : World) (v1 v2 : Value) (B : Nat), OwnT W B v1 v2 t0 → Calls Try.prog 20 #[.agg #[v1, v2], .int .i64 a1] W fun e w' => ∃ u1 u2, e = .returned (.agg #[u1, u2, .int .i64 (stepP t0 a1).a, .int .i64 (stepP t0 a1).c]) ∧ OwnT w' W.heap.size u1 u2 (stepP t0 a1).t ∧ Below W.heap.size W w') := fun W v1 v2 B h => specPathStep_any t0 a1 B v1 v2 W (by omega) (by omega) h
  have HSI : Hid (∀ (W : World) (v1 v2 : Value) (B : Nat), OwnT W B v1 v2 t0 → Calls Try.prog 19 #[.agg #[v1, v2], .int .i64 a1] W fun e w' => ∃ u1 u2, e = .returned (.agg #[u1, u2, .int .i64 (stepP t0 a1).a, .int .i64 (stepP t0 a1).c]) ∧ OwnT w' W.heap.size u1 u2 (stepP t0 a1).t ∧ Below W.heap.size W w') := fun W v1 v2 B h => pathStep_any t0 a1 B v1 v2 W (by omega) (by omega) h
  have hol := stepP_len t0 a1
  generalize (stepP t0 a1).t = T at HSS HSI hol
  generalize (stepP t0 a1).a = R at HSS HSI
  generalize (stepP t0 a1).c = C at HSS HSI
  obtain ⟨hT1, hT2⟩ := hol
  have HET : Hid (∀ (W : World) (v1 v2 u1 u2 : Value) (B B' : Nat), OwnT W B v1 v2 t0 → OwnT W B' u1 u2 t0 → Calls Try.prog 39 #[.agg #[v1, v2], .agg #[u1, u2]] W fun x w' => x = .returned (.bool true) ∧ Below W.heap.size W w') := fun W v1 v2 u1 u2 B B' h1 h2 => eqPath_same t0 v1 v2 u1 u2 W (by omega) (by omega) h1.c.row h1.r.row h2.c.row h2.r.row
  have HMT : Hid (∀ (W : World) (B : Nat) (v1 v2 : Value), OwnT W B v1 v2 t0 → Calls Try.prog 43 #[.agg #[v1, v2], .int .i64 1] W fun e w' => ∃ n : Nat, e = .returned (.int .i64 (n : Int)) ∧ Grown2 W w' v1.ownBlock v2.ownBlock) := fun W B v1 v2 h => markPath_grown t0 B v1 v2 W (by omega) (by omega) h
  have HE : Hid (∀ (W : World) (v1 v2 u1 u2 : Value) (B B' : Nat), OwnT W B v1 v2 T → OwnT W B' u1 u2 T → Calls Try.prog 40 #[.agg #[v1, v2, .int .i64 R, .int .i64 C], .agg #[u1, u2, .int .i64 R, .int .i64 C]] W fun x w' => x = .returned (.bool true) ∧ Below W.heap.size W w') := fun W v1 v2 u1 u2 B B' h1 h2 => eqPathOut_same T v1 v2 u1 u2 R C W (by omega) (by omega) h1.c.row h1.r.row h2.c.row h2.r.row
  have HM : Hid (∀ (W : World) (B : Nat) (v1 v2 : Value), OwnT W B v1 v2 T → Calls Try.prog 41 #[.agg #[v1, v2, .int .i64 R, .int .i64 C], .int .i64 1] W fun e w' => e = .returned (.int .i64 (1 + (T.cs.length : Int) + (T.rs.length : Int))) ∧ OwnT w' B v1 v2 (markT T.cs.length T.rs.length) ∧ Grown2 W w' v1.ownBlock v2.ownBlock) := fun W B v1 v2 h => markPathOut_any T R C B v1 v2 W (by omega) (by omega) h
  have HH : Hid (∀ (W : World) (B : Nat) (v1 v2 : Value), OwnT W B v1 v2 (markT T.cs.length T.rs.length) → Calls Try.prog 42 #[.agg #[v1, v2, .int .i64 R, .int .i64 C], .int .i64 1] W fun e w' => e = .returned (.int .i64 (1 + (T.cs.length : Int) + (T.rs.length : Int))) ∧ Below W.heap.size W w') := fun W B v1 v2 h => heldPathOut_any T.cs.length T.rs.length R C B v1 v2 W (by omega) (by omega) h
  have en : ((1 + (T.cs.length : Int) + (T.rs.length : Int)) != (1 + (T.cs.length : Int) + (T.rs.length : Int))) = false := by simp
  have e0 : ¬ (1 : Int) + (T.cs.length : Int) + (T.rs.length : Int) < 0 := by omega
  clear hin1 hin2 hnl1 hnl2
  go_enter Try.func7, Try.ntmps7
  go_upto_region 2 with fail
  have hX0 : Hid _ := heap_alloc_new w (.cells #[.slice p0 t0.cs.length c0, .slice q0 t0.rs.length d0] 58)
  have hB0 : Below w.heap.size w (w.alloc (.cells #[.slice p0 t0.cs.length c0, .slice q0 t0.rs.length d0] 58)) := all_alloc w (.cells #[.slice p0 t0.cs.length c0, .slice q0 t0.rs.length d0] 58)
  have hG : w.heap.size < (w.alloc (.cells #[.slice p0 t0.cs.length c0, .slice q0 t0.rs.length d0] 58)).heap.size := by simp
  generalize w.alloc (.cells #[.slice p0 t0.cs.length c0, .slice q0 t0.rs.length d0] 58) = Z0 at hX0 hB0 hG ⊢
  have x0 := cellW hX0.out 0 _ rfl Z0 (Below.refl _ _)
  have x1 := cellW hX0.out 1 _ rfl Z0 (Below.refl _ _)
  go_upto_region 5 with (go_at_call 37; refine (HSZ.out _).mono ?_; rintro e Z1 ⟨rfl, hb1⟩)
  have hX1 : Hid _ := blk hX0.out hb1
  have hB1 : Below w.heap.size w Z1 := keepB hB0 (Nat.le_refl _) hb1
  have hG1 : w.heap.size < Z1.heap.size := Nat.lt_of_lt_of_le hG hb1.size
  clear x0 x1 hX0 hb1 hB0 hG HSZ h3
  have x0 := cellW hX1.out 0 _ rfl Z1 (Below.refl _ _)
  have x1 := cellW hX1.out 1 _ rfl Z1 (Below.refl _ _)
  go_upto_region 6 with (first
    | (go_at_call 38; refine (HTO.out _ hB1).mono ?_; rintro e v2 ⟨m1, m2, rfl, own2, hb2⟩; obtain ⟨pm, cm, rfl⟩ := own2.c.shape; obtain ⟨qm, dm, rfl⟩ := own2.r.shape)
    | (go_at_call 20; refine (HSS.out _ _ _ _ own2).mono ?_; rintro e v3 ⟨m3, m4, rfl, own3, hb3⟩; obtain ⟨pa1, ca1, rfl⟩ := own3.c.shape; obtain ⟨qa1, da1, rfl⟩ := own3.r.shape))
  have k2 : Below Z1.heap.size Z1 (v3.alloc (.cells #[.slice pa1 T.cs.length ca1, .slice qa1 T.rs.length da1, .int .i64 R, .int .i64 C] 28)) := keepB (keepB hb2 (Nat.le_refl _) hb3) (Nat.le_refl _) (all_alloc _ _)
  have b6 : Hid _ := heap_alloc_new v3 (.cells #[.slice pa1 T.cs.length ca1, .slice qa1 T.rs.length da1, .int .i64 R, .int .i64 C] 28)
  have o6 : Hid (OwnT (v3.alloc (.cells #[.slice pa1 T.cs.length ca1, .slice qa1 T.rs.length da1, .int .i64 R, .int .i64 C] 28)) Z1.heap.size (.slice pa1 T.cs.length ca1) (.slice qa1 T.rs.length da1) T) := (OwnT.leT own3 hb2.size).below (all_alloc _ _)
  have I6 : InT (.slice pa1 T.cs.length ca1) (.slice qa1 T.rs.length da1) 0 v3.heap.size := fun k hk => ⟨Nat.zero_le _, (own3.inT k hk).2⟩
  have hB2 : Below w.heap.size w (v3.alloc (.cells #[.slice pa1 T.cs.length ca1, .slice qa1 T.rs.length da1, .int .i64 R, .int .i64 C] 28)) := keepB hB1 (Nat.le_refl _) k2
  have hs2 : v3.heap.size < (v3.alloc (.cells #[.slice pa1 T.cs.length ca1, .slice qa1 T.rs.length da1, .int .i64 R, .int .i64 C] 28)).heap.size := by simp
  have hw2 : w.heap.size ≤ v3.heap.size := Nat.le_trans (Nat.le_of_lt hG1) (Nat.le_trans hb2.size hb3.size)
  have hw2' : w.heap.size < v3.heap.size := Nat.lt_of_lt_of_le hG1 (Nat.le_trans hb2.size hb3.size)
  have hX2 : Hid _ := blk hX1.out k2
  generalize v3.alloc (.cells #[.slice pa1 T.cs.length ca1, .slice qa1 T.rs.length da1, .int .i64 R, .int .i64 C] 28) = Z2 at k2 b6 o6 hB2 hs2 hX2 ⊢
  generalize v3.heap.size = g6 at b6 I6 hs2 hw2 hw2' ⊢
  clear own2 own3 hb2 hb3 k2 hB1 x0 x1 hX1 hG1
  have x0 := cellW hX2.out 0 _ rfl Z2 (Below.refl _ _)
  have x1 := cellW hX2.out 1 _ rfl Z2 (Below.refl _ _)
  go_upto_region 7 with (go_at_call 38; refine (HTO.out _ hB2).mono ?_; rintro e v4 ⟨m1, m2, rfl, own4, hb4⟩; obtain ⟨px, cx, rfl⟩ := own4.c.shape; obtain ⟨qx, dx, rfl⟩ := own4.r.shape)
  have k3 : Below Z2.heap.size Z2 (v4.alloc (.cells #[.slice px t0.cs.length cx, .slice qx t0.rs.length dx] 26)) := keepB hb4 (Nat.le_refl _) (all_alloc _ _)
  have b7 : Hid _ := heap_alloc_new v4 (.cells #[.slice px t0.cs.length cx, .slice qx t0.rs.length dx] 26)
  have o7 : Hid (OwnT (v4.alloc (.cells #[.slice px t0.cs.length cx, .slice qx t0.rs.length dx] 26)) Z2.heap.size (.slice px t0.cs.length cx) (.slice qx t0.rs.length dx) t0) := own4.below (all_alloc _ _)
  have I7 : InT (.slice px t0.cs.length cx) (.slice qx t0.rs.length dx) (g6 + 1) v4.heap.size := fun k hk => ⟨Nat.le_trans hs2 (own4.inT k hk).1, (own4.inT k hk).2⟩
  have b6' : Hid _ := blk b6.out k3
  have o6' : Hid (OwnT _ _ _ _ _) := o6.out.below k3
  have hX3 : Hid _ := blk hX2.out k3
  have hB3 : Below w.heap.size w (v4.alloc (.cells #[.slice px t0.cs.length cx, .slice qx t0.rs.length dx] 26)) := keepB hB2 (Nat.le_refl _) k3
  have hs3 : v4.heap.size < (v4.alloc (.cells #[.slice px t0.cs.length cx, .slice qx t0.rs.length dx] 26)).heap.size := by simp
  have hg67 : g6 < v4.heap.size := Nat.lt_of_lt_of_le hs2 hb4.size
  generalize v4.alloc (.cells #[.slice px t0.cs.length cx, .slice qx t0.rs.length dx] 26) = Z3 at k3 b7 o7 b6' o6' hX3 hB3 hs3 ⊢
  generalize v4.heap.size = g7 at b7 I7 hs3 hg67 ⊢
  clear own4 hb4 k3 x0 x1 hX2 hB2 b6 o6 hs2
  have y0 := cellW b7.out 0 _ rfl Z3 (Below.refl _ _)
  have y1 := cellW b7.out 1 _ rfl Z3 (Below.refl _ _)
  go_upto_region 8 with (go_at_call 19; refine (HSI.out _ _ _ _ o7.out).mono ?_; rintro e v5 ⟨m1, m2, rfl, own5, hb5⟩; obtain ⟨pa2, ca2, rfl⟩ := own5.c.shape; obtain ⟨qa2, da2, rfl⟩ := own5.r.shape)
  have k4 : Below Z3.heap.size Z3 (v5.alloc (.cells #[.slice pa2 T.cs.length ca2, .slice qa2 T.rs.length da2, .int .i64 R, .int .i64 C] 28)) := keepB hb5 (Nat.le_refl _) (all_alloc _ _)
  have b8 : Hid _ := heap_alloc_new v5 (.cells #[.slice pa2 T.cs.length ca2, .slice qa2 T.rs.length da2, .int .i64 R, .int .i64 C] 28)
  have o8 : Hid (OwnT (v5.alloc (.cells #[.slice pa2 T.cs.length ca2, .slice qa2 T.rs.length da2, .int .i64 R, .int .i64 C] 28)) Z3.heap.size (.slice pa2 T.cs.length ca2) (.slice qa2 T.rs.length da2) T) := own5.below (all_alloc _ _)
  have I8 : InT (.slice pa2 T.cs.length ca2) (.slice qa2 T.rs.length da2) (g7 + 1) v5.heap.size := fun k hk => ⟨Nat.le_trans hs3 (own5.inT k hk).1, (own5.inT k hk).2⟩
  have c6 : Hid _ := blk b6'.out k4
  have p6 : Hid (OwnT _ _ _ _ _) := o6'.out.below k4
  have p7 : Hid (OwnT _ _ _ _ _) := o7.out.below k4
  have hB4 : Below w.heap.size w (v5.alloc (.cells #[.slice pa2 T.cs.length ca2, .slice qa2 T.rs.length da2, .int .i64 R, .int .i64 C] 28)) := keepB hB3 (Nat.le_refl _) k4
  have hg78 : g7 ≤ v5.heap.size := Nat.le_trans (Nat.le_of_lt_succ (Nat.lt_succ_of_le (Nat.le_of_lt hs3))) hb5.size
  have c7 : Hid _ := blk b7.out k4
  have hX4 : Hid _ := blk hX3.out k4
  generalize v5.alloc (.cells #[.slice pa2 T.cs.length ca2, .slice qa2 T.rs.length da2, .int .i64 R, .int .i64 C] 28) = Z4 at k4 b8 o8 c6 p6 p7 hB4 c7 hX4 ⊢
  generalize v5.heap.size = g8 at b8 I8 hg78 ⊢
  clear own5 hb5 k4 hB3 b6' o6' o7 hs3 y0 y1 hX3 b7
  have hX : Hid _ := hX4.out
  clear hX4
  have y0 := cellW c6.out 0 _ rfl Z4 (Below.refl _ _)
  have y1 := cellW c6.out 1 _ rfl Z4 (Below.refl _ _)
  have y2 := cellW c6.out 2 _ rfl Z4 (Below.refl _ _)
  have y3 := cellW c6.out 3 _ rfl Z4 (Below.refl _ _)
  have z0 := cellW b8.out 0 _ rfl Z4 (Below.refl _ _)
  have z1 := cellW b8.out 1 _ rfl Z4 (Below.refl _ _)
  have z2 := cellW b8.out 2 _ rfl Z4 (Below.refl _ _)
  have z3 := cellW b8.out 3 _ rfl Z4 (Below.refl _ _)
  go_upto_region 10 with (go_at_call 40; refine (HE.out _ _ _ _ _ _ _ o8.out p6.out).mono ?_; rintro e Z5 ⟨rfl, hb5⟩)
  have c6e : Hid _ := blk c6.out hb5
  have b8e : Hid _ := blk b8.out hb5
  have c7e : Hid _ := blk c7.out hb5
  have hXe : Hid _ := blk hX.out hb5
  have p6e : Hid (OwnT _ _ _ _ _) := p6.out.below hb5
  have p7e : Hid (OwnT _ _ _ _ _) := p7.out.below hb5
  have o8e : Hid (OwnT _ _ _ _ _) := o8.out.below hb5
  have hBe : Below w.heap.size w Z5 := keepB hB4 (Nat.le_refl _) hb5
  clear y0 y1 y2 y3 z0 z1 z2 z3 c6 p6 p7 b8 o8 hB4 hb5 c7 hX
  have q0 := cellW hXe.out 0 _ rfl
  have q1 := cellW hXe.out 1 _ rfl
  have r0 := cellW c7e.out 0 _ rfl
  have r1 := cellW c7e.out 1 _ rfl
  go_cut [35] (fun s38 wx => s38 = .bool false ∧ Below Z5.heap.size Z5 wx)
  case first =>
    go_region_held3 (fun w' => Below Z5.heap.size Z5 w') (first | assumption | exact Below.drew (Below.refl _ _) | exact keepB (by assumption) (Nat.le_refl _) hbq) (first
      | (go_at_call 38; refine (HTO.out _ (keepB hBe (Nat.le_refl _) (by assumption))).mono ?_; rintro e9 w9 ⟨u9, u8, rfl, own9, hbq⟩; obtain ⟨p9, c9, rfl⟩ := own9.c.shape; obtain ⟨q9, d9, rfl⟩ := own9.r.shape)
      | (go_at_call 39; refine (HET.out _ _ _ _ _ _ _ (OwnT.below p7e.out (by assumption)) own9).mono ?_; rintro e9 w9 ⟨rfl, hbq⟩))
    go_wp2
    go_meet
    exact ⟨rfl, by assumption⟩
  case rest =>
  obtain ⟨rfl, hwc⟩ := hcut
  rename World => Z6
  have c6f : Hid _ := blk c6e.out hwc
  have b8f : Hid _ := blk b8e.out hwc
  have c7f : Hid _ := blk c7e.out hwc
  have hXf : Hid _ := blk hXe.out hwc
  have p6f : Hid (OwnT _ _ _ _ _) := p6e.out.below hwc
  have p7f : Hid (OwnT _ _ _ _ _) := p7e.out.below hwc
  have o8f : Hid (OwnT _ _ _ _ _) := o8e.out.below hwc
  have hBf : Below w.heap.size w Z6 := keepB hBe (Nat.le_refl _) hwc
  clear q0 q1 r0 r1 c7e hXe c6e p6e p7e b8e o8e hBe hwc HET
  have y0 := cellW c7f.out 0 _ rfl Z6 (Below.refl _ _)
  have y1 := cellW c7f.out 1 _ rfl Z6 (Below.refl _ _)
  go_upto_region 14 with (go_at_call 43; refine (HMT.out _ _ _ _ p7f.out).mono ?_; rintro e Z7 ⟨nk, rfl, g7m⟩)
  have c6g : Hid _ := blk_keep2 c6f.out g7m I7 (.inl (Nat.lt_succ_self _))
  have b8g : Hid _ := blk_keep2 b8f.out g7m I7 (.inr hg78)
  have p6g : Hid (OwnT _ _ _ _ _) := OwnT.keep2 p6f.out g7m I6 I7 (.inl (Nat.le_succ _))
  have o8g : Hid (OwnT _ _ _ _ _) := OwnT.keep2 o8f.out g7m I8 I7 (.inr (by omega))
  have hBg : Below w.heap.size w Z7 := Below.grown2 hBf g7m (fun k e => by have := I7 k (.inl e); omega) (fun k e => by have := I7 k (.inr e); omega)
  have hnk : ¬ ((nk : Int) < 0) := by omega
  have hXg : Hid _ := blk_keep2 hXf.out g7m I7 (.inl (by omega))
  clear y0 y1 c7f hXf
  clear c6f p6f p7f b8f o8f hBf g7m HMT
  have y0 := cellW c6g.out 0 _ rfl Z7 (Below.refl _ _)
  have y1 := cellW c6g.out 1 _ rfl Z7 (Below.refl _ _)
  have y2 := cellW c6g.out 2 _ rfl Z7 (Below.refl _ _)
  have y3 := cellW c6g.out 3 _ rfl Z7 (Below.refl _ _)
  have z0 := cellW b8g.out 0 _ rfl Z7 (Below.refl _ _)
  have z1 := cellW b8g.out 1 _ rfl Z7 (Below.refl _ _)
  have z2 := cellW b8g.out 2 _ rfl Z7 (Below.refl _ _)
  have z3 := cellW b8g.out 3 _ rfl Z7 (Below.refl _ _)
  go_upto_region 17 with (go_at_call 40; refine (HE.out _ _ _ _ _ _ _ o8g.out p6g.out).mono ?_; rintro e Z8 ⟨rfl, hb8⟩)
  have c6h : Hid _ := blk c6g.out hb8
  have b8h : Hid _ := blk b8g.out hb8
  have hXh : Hid _ := blk hXg.out hb8
  have p6h : Hid (OwnT _ _ _ _ _) := p6g.out.below hb8
  have o8h : Hid (OwnT _ _ _ _ _) := o8g.out.below hb8
  have hBh : Below w.heap.size w Z8 := keepB hBg (Nat.le_refl _) hb8
  clear y0 y1 y2 y3 z0 z1 z2 z3 c6g p6g b8g o8g hBg hb8 hnk hXg
  have z0 := cellW b8h.out 0 _ rfl Z8 (Below.refl _ _)
  have z1 := cellW b8h.out 1 _ rfl Z8 (Below.refl _ _)
  have z2 := cellW b8h.out 2 _ rfl Z8 (Below.refl _ _)
  have z3 := cellW b8h.out 3 _ rfl Z8 (Below.refl _ _)
  go_upto_region 19 with (go_at_call 41; refine (HM.out _ _ _ _ o8h.out).mono ?_; rintro e Z9 ⟨rfl, m9, g9⟩)
  have c6i : Hid _ := blk_keep2 c6h.out g9 I8 (.inl (by omega))
  have b8i : Hid _ := blk_keep2 b8h.out g9 I8 (.inr (Nat.le_refl _))
  have p6i : Hid (OwnT _ _ _ _ _) := OwnT.keep2 p6h.out g9 I6 I8 (.inl (by omega))
  have m9i : Hid (OwnT _ _ _ _ _) := m9
  have hBi : Below w.heap.size w Z9 := Below.grown2 hBh g9 (fun k e => by have := I8 k (.inl e); omega) (fun k e => by have := I8 k (.inr e); omega)
  have hXi : Hid _ := blk_keep2 hXh.out g9 I8 (.inl (by omega))
  clear hXh
  clear z0 z1 z2 z3 c6h p6h b8h o8h hBh g9 m9 HM
  have z0 := cellW b8i.out 0 _ rfl Z9 (Below.refl _ _)
  have z1 := cellW b8i.out 1 _ rfl Z9 (Below.refl _ _)
  have z2 := cellW b8i.out 2 _ rfl Z9 (Below.refl _ _)
  have z3 := cellW b8i.out 3 _ rfl Z9 (Below.refl _ _)
  go_upto_region 24 with (go_at_call 42; refine (HH.out _ _ _ _ m9i.out).mono ?_; rintro e ZA ⟨rfl, hbA⟩)
  have c6j : Hid _ := blk c6i.out hbA
  have b8j : Hid _ := blk b8i.out hbA
  have hXj : Hid _ := blk hXi.out hbA
  have p6j : Hid (OwnT _ _ _ _ _) := p6i.out.below hbA
  have m9j : Hid (OwnT _ _ _ _ _) := m9i.out.below hbA
  have hBj : Below w.heap.size w ZA := keepB hBi (Nat.le_refl _) hbA
  clear z0 z1 z2 z3 c6i p6i b8i m9i hBi hbA hXi
  have x0 := cellW hXj.out 0 _ rfl ZA (Below.refl _ _)
  have x1 := cellW hXj.out 1 _ rfl ZA (Below.refl _ _)
  go_upto_region 25 with (first
    | (go_at_call 38; refine (HTO.out _ hBj).mono ?_; rintro e v6 ⟨m1, m2, rfl, own6, hb6⟩; obtain ⟨pm2, cm2, rfl⟩ := own6.c.shape; obtain ⟨qm2, dm2, rfl⟩ := own6.r.shape)
    | (go_at_call 19; refine (HSI.out _ _ _ _ own6).mono ?_; rintro e v7 ⟨m3, m4, rfl, own7, hb7⟩; obtain ⟨pa3, ca3, rfl⟩ := own7.c.shape; obtain ⟨qa3, da3, rfl⟩ := own7.r.shape))
  have kB : Below ZA.heap.size ZA (v7.alloc (.cells #[.slice pa3 T.cs.length ca3, .slice qa3 T.rs.length da3, .int .i64 R, .int .i64 C] 28)) := keepB (keepB hb6 (Nat.le_refl _) hb7) (Nat.le_refl _) (all_alloc _ _)
  have b12 : Hid _ := heap_alloc_new v7 (.cells #[.slice pa3 T.cs.length ca3, .slice qa3 T.rs.length da3, .int .i64 R, .int .i64 C] 28)
  have o12 : Hid (OwnT (v7.alloc (.cells #[.slice pa3 T.cs.length ca3, .slice qa3 T.rs.length da3, .int .i64 R, .int .i64 C] 28)) v6.heap.size (.slice pa3 T.cs.length ca3) (.slice qa3 T.rs.length da3) T) := own7.below (all_alloc _ _)
  generalize v7.alloc (.cells #[.slice pa3 T.cs.length ca3, .slice qa3 T.rs.length da3, .int .i64 R, .int .i64 C] 28) = ZB at kB b12 o12 ⊢
  generalize v7.heap.size = g12 at b12 ⊢
  have c6k : Hid _ := blk c6j.out kB
  have b8k : Hid _ := blk b8j.out kB
  have p6k : Hid (OwnT _ _ _ _ _) := p6j.out.below kB
  have m9k : Hid (OwnT _ _ _ _ _) := m9j.out.below kB
  have hBk : Below w.heap.size w ZB := keepB hBj (Nat.le_refl _) kB
  clear x0 x1 hXj own6 own7 hb6 hb7 kB c6j p6j b8j m9j hBj HSS HSI HTO
  have x0 := cellW b12.out 0 _ rfl ZB (Below.refl _ _)
  have x1 := cellW b12.out 1 _ rfl ZB (Below.refl _ _)
  have x2 := cellW b12.out 2 _ rfl ZB (Below.refl _ _)
  have x3 := cellW b12.out 3 _ rfl ZB (Below.refl _ _)
  have y0 := cellW c6k.out 0 _ rfl ZB (Below.refl _ _)
  have y1 := cellW c6k.out 1 _ rfl ZB (Below.refl _ _)
  have y2 := cellW c6k.out 2 _ rfl ZB (Below.refl _ _)
  have y3 := cellW c6k.out 3 _ rfl ZB (Below.refl _ _)
  go_upto_region 28 with (go_at_call 40; refine (HE.out _ _ _ _ _ _ _ o12.out p6k.out).mono ?_; rintro e ZC ⟨rfl, hbC⟩)
  have b8l : Hid _ := blk b8k.out hbC
  have m9l : Hid (OwnT _ _ _ _ _) := m9k.out.below hbC
  have hBl : Below w.heap.size w ZC := keepB hBk (Nat.le_refl _) hbC
  clear x0 x1 x2 x3 y0 y1 y2 y3 b12 o12 c6k p6k b8k m9k hBk hbC HE
  have z0 := cellW b8l.out 0 _ rfl ZC (Below.refl _ _)
  have z1 := cellW b8l.out 1 _ rfl ZC (Below.refl _ _)
  have z2 := cellW b8l.out 2 _ rfl ZC (Below.refl _ _)
  have z3 := cellW b8l.out 3 _ rfl ZC (Below.refl _ _)
  go_wp2_with (go_at_call 42; refine (HH.out _ _ _ _ m9l.out).mono ?_; rintro e ZD ⟨rfl, hbD⟩)
  go_ret
  exact ⟨rfl, keepB hBl (Nat.le_refl _) hbD⟩

set_option maxRecDepth 100000 in
theorem lifted (os : Os) (started : os.Started) (H : Type) (enc : TypeId × Value → H) :
    ReturnsInHanded {} Try.checked os 7 .any (Rows.fnExactPathStepSpec.pre6 enc Try.prog Try.f7 Rows.fnExactPathStepRow.domain false) (Rows.fnExactPathStepSpec.post enc Try.prog Try.f7 false true false false) := by
  refine returnsInHanded_of_change (C := Try.checked) own started (by kernel_rfl) Try.func7
    (ChangeSpec.witness6 (enc := enc) (C := Try.checked) false ⟨#[], #[.agg #[.slice none 0 0, .slice none 0 0], .int .i64 0], []⟩ 8 (by kernel_rfl) (by kernel_rfl) (by kernel_rfl) (by kernel_rfl)) ?_
  intro W base args ds gs before hval0 hW hcnd _
  have hval : ∀ (j : Nat) t v, Try.f7.params[j]? = some t → args[j]? = some v → Value.okWide Try.prog W .any base t v := hval0
  have hW' := hW
  obtain ⟨p, q, hA0, hV, rfl, hfz, hnd⟩ := hW
  have hA : DataW.TrodAll enc Try.prog W 0 (fun _ => true) true Try.f7.params.toList args.toList ds p := hA0
  rw [Try.params7] at hA hval
  obtain ⟨v0, vs0, d0, ds0, p0, q0, hargs, rfl, rfl, h0, r0⟩ := trodAll_cons hA
  obtain ⟨v1, vs1, d1, ds1, p1, q1, rfl, rfl, rfl, h1, r1⟩ := trodAll_cons r0
  obtain ⟨rfl, rfl, rfl⟩ := trodAll_nil r1
  obtain rfl : args = #[v0, v1] := by cases args; simp_all
  obtain ⟨rfl, rfl⟩ := trodVars_none hV
  have k0 := h0
  have lt0 : ∀ x ∈ p0, x.block < W.heap.size := by obtain ⟨m, hm⟩ := k0; exact DataW.trod_lt m _ _ _ hm
  obtain ⟨t0, a0, b0, c0, e0, rfl, w0⟩ := open_path (hval 0 58 v0 rfl rfl) h0
  obtain ⟨a1, rfl, rfl, rfl, w1⟩ := open_int Try.underlying2 (hval 1 2 v1 rfl rfl) h1
  clear hA0 hval0
  refine (walk t0 a0 b0 c0 e0 a1 W w0 w1).mono fun e W' ⟨he, bel⟩ => ?_
  subst he
  exact ⟨_, rfl, _, _, _, [], _, [], hW', trodAll_mk1 (shut_bool Try.underlying4 _), (trodAll_cons_mk (Below.trod laidOut (by kernel_rfl) (of_decide_eq_true (by kernel_rfl)) k0 bel lt0) (trodAll_cons_mk (shut_int Try.underlying2 w1) trodAll_mk0)), rfl, bel.frame _, fun h => by cases h⟩

/-- The statement. -/
theorem proved : Rows.FnExactPathStepSaid :=
  OpenClaim.holds_of_wide 7 Try.f7 rfl rfl rfl rfl rfl rfl rfl ⟨rfl, rfl, rfl, rfl, rfl⟩ rfl rfl rfl rfl rfl (by kernel_rfl) Try.func7 (by kernel_rfl)
    (of_decide_eq_true (by kernel_rfl)) (by unfold Func.isWrapper; first | (rw [if_pos (by decide +kernel)]; kernel_rfl) | (rw [if_neg (by decide +kernel)]; exact ⟨rfl, rfl⟩))
    (fun os started H enc _ => lifted os started H enc)
#print axioms proved
end Go.Proofs.Ytimocipgikefoaa.fnExactPathStep
