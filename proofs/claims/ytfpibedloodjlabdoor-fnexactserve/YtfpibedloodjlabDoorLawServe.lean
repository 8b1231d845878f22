/- FnExactServe: at every argument the function answers as its model, field by field, writes into no argument and keeps nothing of one; no condition but what the card ties: what the three sentinels hold where the call begins. -/
import Derived.Test.YtfpibedloodjlabDoorCards
import Derived.Test.YtfpibedloodjlabDoorTie
import Derived.Test.YtfpibedloodjlabDoorSvN
import Derived.WalkKit
import Derived.WalkSpells
import Derived.ProofKit
import Derived.OpenShut
import Derived.ShutString
import Derived.ChangeOld
import Derived.ChangeVars
import Derived.JoinedOf
import Derived.Below
import Derived.Carry
import Derived.Outline
import Derived.Lib.SmallJoins
import Derived.LaidLaws
import Derived.LaidHandle
import Derived.Stop.Joined
import Derived.Stop.LaidErr
import Derived.SevenTiedAt
import Derived.MakeChecks
import Derived.Deep.RegionHeld3
import Derived.Deep.RegionWith
import Derived.Deep.DeepCutAuto
namespace Go.Proofs.YtfpibedloodjlabDoor.fnExactServe
open Go.ChangeShapes Go.WideShapes Go.ChangeAt Go.RowKit
open Go.ChangeMaps (open_string shut_string)
set_option linter.unusedVariables false
set_option linter.unusedSimpArgs false

theorem own : ownKnob Tryd.prog.godebug = none := by kernel_rfl
theorem laidOut : laidOutB Tryd.prog = true := by kernel_rfl
theorem gF : Tryd.prog.globalNamed "loop.example/g00556/impl.errFc" = some 0 := by kernel_rfl
theorem gV : Tryd.prog.globalNamed "loop.example/g00556/impl.errValue" = some 1 := by kernel_rfl
theorem gP : Tryd.prog.globalNamed "loop.example/g00556/impl.errPlace" = some 2 := by kernel_rfl
theorem gFt : (Tryd.prog.globals[0]?).map (·.type) = some 47 := by kernel_rfl
theorem gVt : (Tryd.prog.globals[1]?).map (·.type) = some 47 := by kernel_rfl
theorem gPt : (Tryd.prog.globals[2]?).map (·.type) = some 47 := by kernel_rfl
theorem cellsE : Tryd.prog.cellsOf 134 = 1 := by kernel_rfl
theorem cellsS : Tryd.prog.cellsOf 9 = 1 := by kernel_rfl
theorem star : "*" ++ "errors.errorString" = "*errors.errorString" := by decide
theorem rowE (u : TypeId) (h : Tryd.prog.typeName? 3 u = some "*errors.errorString") : u = 108 :=
  typeName_ptr_named (nm := "errors.errorString") (by rw [star]; kernel_rfl) (by kernel_rfl) (by decide) u (by rw [star]; exact h)
theorem plain (W : World) (h : laidMetH Tryd.prog Rows.fnExactServeRow.laid W) : laidMet Tryd.prog Rows.fnExactServeRow.laid W := by
  rwa [Go.MakeChecks.laidMetH_plain Tryd.prog Rows.fnExactServeRow.laid W (by kernel_rfl)] at h

def fcS : ByteArray := { data := #[116, 97, 98, 108, 101, 58, 32, 110, 111, 32, 115, 117, 99, 104, 32, 70, 99] }
def valueS : ByteArray := { data := #[116, 97, 98, 108, 101, 58, 32, 110, 111, 116, 32, 116, 104, 101, 32, 98, 121, 116, 101, 115, 32, 111, 102, 32, 97, 32, 114, 105, 103, 104, 116, 32, 113, 117, 101, 115, 116, 105, 111, 110] }
def placeS : ByteArray := { data := #[116, 97, 98, 108, 101, 58, 32, 110, 111, 32, 115, 117, 99, 104, 32, 112, 108, 97, 99, 101] }
noncomputable def low : Nat := (World.holding Tryd.prog default ⟨#[], #[], []⟩).heap.size
/-- a world that meets the condition -/
noncomputable def laidWorld (os : Os) : World :=
  let w0 := World.holding Tryd.prog os ⟨#[.cells #[.string fcS] 134, .cells #[.string valueS] 134, .cells #[.string placeS] 134], #[], []⟩
  { w0 with heap := ((w0.heap.modify 0 fun
      | .cells _ t frozen => .cells #[.iface 108 (.pointer (some ⟨low, 0, none⟩))] t frozen
      | o => o).modify 1 fun
      | .cells _ t frozen => .cells #[.iface 108 (.pointer (some ⟨low + 1, 0, none⟩))] t frozen
      | o => o).modify 2 fun
      | .cells _ t frozen => .cells #[.iface 108 (.pointer (some ⟨low + 2, 0, none⟩))] t frozen
      | o => o }
theorem laidWorld_met (os : Os) (args : Array Value) : laidMetH Tryd.prog Rows.fnExactServeRow.laid ((laidWorld os).forCall (fun _ _ => 0) ⟨#[], args, []⟩).memory := by
  rw [Go.MakeChecks.laidMetH_plain Tryd.prog Rows.fnExactServeRow.laid _ (by kernel_rfl)]
  exact laidMet_of_run (ps := [.cell 0 0, .cell low 0, .cell 1 0, .cell (low + 1) 0, .cell 2 0, .cell (low + 2) 0]) 8 (by kernel_rfl) (by kernel_rfl) (by kernel_rfl)
theorem vars3 {H : Type} (enc : TypeId × Value → H) {W : World} {x0 x1 x2 : Value} (h0 : W.var? Tryd.prog "loop.example/g00556/impl.errFc" = some #[x0]) (h1 : W.var? Tryd.prog "loop.example/g00556/impl.errValue" = some #[x1]) (h2 : W.var? Tryd.prog "loop.example/g00556/impl.errPlace" = some #[x2]) (i0 : IsIface x0) (i1 : IsIface x1) (i2 : IsIface x2) (sp : Nat → Bool) :
    DataW.TrodVars enc Tryd.prog W sp ["loop.example/g00556/impl.errFc", "loop.example/g00556/impl.errValue", "loop.example/g00556/impl.errPlace"] [tok enc x0, tok enc x1, tok enc x2] [.cell 0 0, .cell 1 0, .cell 2 0] :=
  ⟨0, 47, #[x0], 1, [], [.cell 1 0, .cell 2 0], gF, gFt, h0, trod_held Tryd.underlying47 i0 0, ⟨1, 47, #[x1], 1, [], [.cell 2 0], gV, gVt, h1, trod_held Tryd.underlying47 i1 0, ⟨2, 47, #[x2], 1, [], [], gP, gPt, h2, trod_held Tryd.underlying47 i2 0, rfl, rfl⟩, rfl⟩, rfl⟩

set_option maxRecDepth 100000 in
set_option maxHeartbeats 6400000 in
/-- The walk: the law returns true, and nothing that was there has turned. -/
theorem walk (t0 : Tb) (p0 q0 : Option Addr) (c0 d0 : Nat) (a1 : ByteArray) (w : World) (w0 : InI w p0 t0.cs ∧ InI w q0 t0.rs) (w1 : a1.size ≤ maxLen) (f v p : Addr) (hS : Sents w f v p) :
    Calls Tryd.prog 3 #[.agg #[.slice p0 t0.cs.length c0, .slice q0 t0.rs.length d0], .string a1] w fun e w' => e = .returned (.bool true) ∧ Below w.heap.size w w' := by
  obtain ⟨hin1, hin2⟩ := w0
  have hnl1 := hin1.1
  have hnl2 := hin2.1
  unfold maxLen at w1
  by_cases hsz : a1.size ≤ 1048576
  case neg =>
    clear hin1 hin2 hnl1 hnl2 hS
    go_enter Tryd.func3, Tryd.ntmps3
    go_wp2
    go_ret
    exact ⟨rfl, all_alloc _ _⟩
  have HSZ : Hid (∀ W : World, Calls Tryd.prog 4 #[.agg #[.slice p0 t0.cs.length c0, .slice q0 t0.rs.length d0], .int .i64 1048576] W fun x w' => x = .returned (.int .i64 (leftT t0)) ∧ Below W.heap.size W w') := fun W => szTable_any t0 p0 q0 c0 d0 W hnl1 hnl2
  unfold leftT at HSZ
  by_cases hle : t0.cs.length + t0.rs.length ≤ 1048576
  case neg =>
    rw [if_neg hle] at HSZ
    clear hle hin1 hin2 hnl1 hnl2 hS
    go_enter Tryd.func3, Tryd.ntmps3
    go_wp2_with (go_at_call 4; refine (HSZ.out _).mono ?_; rintro e v1 ⟨rfl, hb1⟩)
    go_ret
    exact ⟨rfl, keepB (all_alloc _ _) (Nat.le_refl _) hb1⟩
  rw [if_pos hle] at HSZ
  have h3 : ¬ (1048576 : Int) - (t0.cs.length : Int) - (t0.rs.length : Int) < 0 := by omega
  have HTO : Hid (∀ W, Below w.heap.size w W → Calls Tryd.prog 6 #[.agg #[.slice p0 t0.cs.length c0, .slice q0 t0.rs.length d0]] W fun x w' => ∃ v1 v2, x = .returned (.agg #[v1, v2]) ∧ OwnT w' W.heap.size v1 v2 t0 ∧ Below W.heap.size W w') := fun W hW => toTable_any t0 p0 q0 c0 d0 W (by omega) (by omega) (hin1.below hW) (hin2.below hW)
  have HSS : Hid (∀ (W : World) (v1 v2 : Value) (B : Nat), OwnT W B v1 v2 t0 → Calls Tryd.prog 5 #[.agg #[v1, v2], .string a1] W fun e w' => ∃ u1 u2, e = .returned (.agg #[u1, u2, .string (outT t0 a1).2.1, .int .i64 (outT t0 a1).2.2]) ∧ OwnT w' W.heap.size u1 u2 (outT t0 a1).1 ∧ Below W.heap.size W w') := fun W v1 v2 B h => specServe_any t0 a1 B v1 v2 W (by omega) (by omega) (by omega) h
  have HSI : Hid (∀ (W : World) (v1 v2 : Value) (B : Nat), Below w.heap.size w W → OwnT W B v1 v2 t0 → Calls Tryd.prog 7 #[.agg #[v1, v2], .string a1] W fun e w' => ∃ u1 u2, e = .returned (.agg #[u1, u2, .string (outT t0 a1).2.1, .int .i64 (outT t0 a1).2.2]) ∧ OwnT w' W.heap.size u1 u2 (outT t0 a1).1 ∧ Below W.heap.size W w') := fun W v1 v2 B hW h => serve_any t0 a1 B v1 v2 f v p W (by omega) (by omega) (by omega) h (hS.below hW)
  have hol := outT_len t0 a1 (fun h => by obtain ⟨⟨l1, _⟩, l2, _⟩ := (Tb.right_iff t0).1 h; exact ⟨l1, l2⟩)
  generalize (outT t0 a1).1 = T at HSS HSI hol
  generalize (outT t0 a1).2.1 = R at HSS HSI
  generalize (outT t0 a1).2.2 = C at HSS HSI
  obtain ⟨hT1, hT2⟩ := hol
  have HE : Hid (∀ (W : World) (v1 v2 u1 u2 : Value) (B B' : Nat), OwnT W B v1 v2 T → OwnT W B' u1 u2 T → Calls Tryd.prog 8 #[.agg #[v1, v2, .string R, .int .i64 C], .agg #[u1, u2, .string R, .int .i64 C]] W fun x w' => x = .returned (.bool true) ∧ Below W.heap.size W w') := fun W v1 v2 u1 u2 B B' h1 h2 => eqServeOut_same T R C v1 v2 u1 u2 W (by omega) (by omega) h1.c.row h1.r.row h2.c.row h2.r.row
  have HET : Hid (∀ (W : World) (v1 v2 u1 u2 : Value) (B B' : Nat), OwnT W B v1 v2 t0 → OwnT W B' u1 u2 t0 → Calls Tryd.prog 9 #[.agg #[v1, v2], .agg #[u1, u2]] W fun x w' => x = .returned (.bool true) ∧ Below W.heap.size W w') := fun W v1 v2 u1 u2 B B' h1 h2 => eqTable_same t0 v1 v2 u1 u2 W (by omega) (by omega) h1.c.row h1.r.row h2.c.row h2.r.row
  have HMT : Hid (∀ (W : World) (B : Nat) (v1 v2 : Value), OwnT W B v1 v2 t0 → Calls Tryd.prog 10 #[.agg #[v1, v2], .int .i64 1] W fun e w' => ∃ n : Nat, e = .returned (.int .i64 (n : Int)) ∧ Grown2 W w' v1.ownBlock v2.ownBlock) := fun W B v1 v2 h => markTable_grown t0 B v1 v2 W (by omega) (by omega) h
  have HM : Hid (∀ (W : World) (B : Nat) (v1 v2 : Value), OwnT W B v1 v2 T → Calls Tryd.prog 11 #[.agg #[v1, v2, .string R, .int .i64 C], .int .i64 1] W fun e w' => e = .returned (.int .i64 (1 + (T.cs.length : Int) + (T.rs.length : Int))) ∧ OwnT w' B v1 v2 (markT T.cs.length T.rs.length) ∧ Grown2 W w' v1.ownBlock v2.ownBlock) := fun W B v1 v2 h => markServeOut_any T R C B v1 v2 W (by omega) (by omega) h
  have HH : Hid (∀ (W : World) (B : Nat) (v1 v2 : Value), OwnT W B v1 v2 (markT T.cs.length T.rs.length) → Calls Tryd.prog 12 #[.agg #[v1, v2, .string R, .int .i64 C], .int .i64 1] W fun e w' => e = .returned (.int .i64 (1 + (T.cs.length : Int) + (T.rs.length : Int))) ∧ Below W.heap.size W w') := fun W B v1 v2 h => heldServeOut_any T.cs.length T.rs.length R C B v1 v2 W (by omega) (by omega) h
  have en : ((1 + (T.cs.length : Int) + (T.rs.length : Int)) != (1 + (T.cs.length : Int) + (T.rs.length : Int))) = false := by simp
  have e0 : ¬ (1 : Int) + (T.cs.length : Int) + (T.rs.length : Int) < 0 := by omega
  have hsz' : ¬ (1048576 : Int) < a1.size := by omega
  clear hin1 hin2 hnl1 hnl2 hS
  go_enter Tryd.func3, Tryd.ntmps3
  go_upto_region 4 with fail
  have hX0 : Hid _ := heap_alloc_new w (.cells #[.slice p0 t0.cs.length c0, .slice q0 t0.rs.length d0] 24)
  have hB0 : Below w.heap.size w (w.alloc (.cells #[.slice p0 t0.cs.length c0, .slice q0 t0.rs.length d0] 24)) := all_alloc w (.cells #[.slice p0 t0.cs.length c0, .slice q0 t0.rs.length d0] 24)
  have hG : w.heap.size < (w.alloc (.cells #[.slice p0 t0.cs.length c0, .slice q0 t0.rs.length d0] 24)).heap.size := by simp
  generalize w.alloc (.cells #[.slice p0 t0.cs.length c0, .slice q0 t0.rs.length d0] 24) = Z0 at hX0 hB0 hG ⊢
  have x0 := cellW hX0.out 0 _ rfl Z0 (Below.refl _ _)
  have x1 := cellW hX0.out 1 _ rfl Z0 (Below.refl _ _)
  go_upto_region 7 with (go_at_call 4; refine (HSZ.out _).mono ?_; rintro e Z1 ⟨rfl, hb1⟩)
  have hX1 : Hid _ := blk hX0.out hb1
  have hB1 : Below w.heap.size w Z1 := keepB hB0 (Nat.le_refl _) hb1
  have hG1 : w.heap.size < Z1.heap.size := Nat.lt_of_lt_of_le hG hb1.size
  clear x0 x1 hX0 hb1 hB0 hG HSZ h3
  have x0 := cellW hX1.out 0 _ rfl Z1 (Below.refl _ _)
  have x1 := cellW hX1.out 1 _ rfl Z1 (Below.refl _ _)
  go_upto_region 8 with (first
    | (go_at_call 6; refine (HTO.out _ hB1).mono ?_; rintro e v2 ⟨m1, m2, rfl, own2, hb2⟩; obtain ⟨pm, cm, rfl⟩ := own2.c.shape; obtain ⟨qm, dm, rfl⟩ := own2.r.shape)
    | (go_at_call 5; refine (HSS.out _ _ _ _ own2).mono ?_; rintro e v3 ⟨m3, m4, rfl, own3, hb3⟩; obtain ⟨pa1, ca1, rfl⟩ := own3.c.shape; obtain ⟨qa1, da1, rfl⟩ := own3.r.shape))
  have k2 : Below Z1.heap.size Z1 (v3.alloc (.cells #[.slice pa1 T.cs.length ca1, .slice qa1 T.rs.length da1, .string R, .int .i64 C] 28)) := keepB (keepB hb2 (Nat.le_refl _) hb3) (Nat.le_refl _) (all_alloc _ _)
  have b6 : Hid _ := heap_alloc_new v3 (.cells #[.slice pa1 T.cs.length ca1, .slice qa1 T.rs.length da1, .string R, .int .i64 C] 28)
  have o6 : Hid (OwnT (v3.alloc (.cells #[.slice pa1 T.cs.length ca1, .slice qa1 T.rs.length da1, .string R, .int .i64 C] 28)) Z1.heap.size (.slice pa1 T.cs.length ca1) (.slice qa1 T.rs.length da1) T) := (OwnT.leT own3 hb2.size).below (all_alloc _ _)
  have I6 : InT (.slice pa1 T.cs.length ca1) (.slice qa1 T.rs.length da1) 0 v3.heap.size := fun k hk => ⟨Nat.zero_le _, (own3.inT k hk).2⟩
  have hB2 : Below w.heap.size w (v3.alloc (.cells #[.slice pa1 T.cs.length ca1, .slice qa1 T.rs.length da1, .string R, .int .i64 C] 28)) := keepB hB1 (Nat.le_refl _) k2
  have hX2 : Hid _ := blk hX1.out k2
  have hs2 : v3.heap.size < (v3.alloc (.cells #[.slice pa1 T.cs.length ca1, .slice qa1 T.rs.length da1, .string R, .int .i64 C] 28)).heap.size := by simp
  have hw2 : w.heap.size < v3.heap.size := Nat.lt_of_lt_of_le hG1 (Nat.le_trans hb2.size hb3.size)
  generalize v3.alloc (.cells #[.slice pa1 T.cs.length ca1, .slice qa1 T.rs.length da1, .string R, .int .i64 C] 28) = Z2 at k2 b6 o6 hB2 hX2 hs2 ⊢
  generalize v3.heap.size = g6 at b6 I6 hs2 hw2 ⊢
  clear own2 own3 hb2 hb3 k2 x0 x1 hX1 hB1 hG1
  have x0 := cellW hX2.out 0 _ rfl Z2 (Below.refl _ _)
  have x1 := cellW hX2.out 1 _ rfl Z2 (Below.refl _ _)
  go_upto_region 9 with (go_at_call 6; refine (HTO.out _ hB2).mono ?_; rintro e v4 ⟨m1, m2, rfl, own4, hb4⟩; obtain ⟨px, cx, rfl⟩ := own4.c.shape; obtain ⟨qx, dx, rfl⟩ := own4.r.shape)
  have k3 : Below Z2.heap.size Z2 (v4.alloc (.cells #[.slice px t0.cs.length cx, .slice qx t0.rs.length dx] 26)) := keepB hb4 (Nat.le_refl _) (all_alloc _ _)
  have b7 : Hid _ := heap_alloc_new v4 (.cells #[.slice px t0.cs.length cx, .slice qx t0.rs.length dx] 26)
  have o7 : Hid (OwnT (v4.alloc (.cells #[.slice px t0.cs.length cx, .slice qx t0.rs.length dx] 26)) Z2.heap.size (.slice px t0.cs.length cx) (.slice qx t0.rs.length dx) t0) := own4.below (all_alloc _ _)
  have I7 : InT (.slice px t0.cs.length cx) (.slice qx t0.rs.length dx) (g6 + 1) v4.heap.size := fun k hk => ⟨Nat.le_trans hs2 (own4.inT k hk).1, (own4.inT k hk).2⟩
  have b6' : Hid _ := blk b6.out k3
  have o6' : Hid (OwnT _ _ _ _ _) := o6.out.below k3
  have hX3 : Hid _ := blk hX2.out k3
  have hB3 : Below w.heap.size w (v4.alloc (.cells #[.slice px t0.cs.length cx, .slice qx t0.rs.length dx] 26)) := keepB hB2 (Nat.le_refl _) k3
  have hs3 : v4.heap.size < (v4.alloc (.cells #[.slice px t0.cs.length cx, .slice qx t0.rs.length dx] 26)).heap.size := by simp
  have hg67 : g6 < v4.heap.size := Nat.lt_of_lt_of_le hs2 hb4.size
  generalize v4.alloc (.cells #[.slice px t0.cs.length cx, .slice qx t0.rs.length dx] 26) = Z3 at k3 b7 o7 b6' o6' hX3 hB3 hs3 ⊢
  generalize v4.heap.size = g7 at b7 I7 hs3 hg67 ⊢
  clear own4 hb4 k3 x0 x1 hX2 hB2 b6 o6 hs2
  have y0 := cellW b7.out 0 _ rfl Z3 (Below.refl _ _)
  have y1 := cellW b7.out 1 _ rfl Z3 (Below.refl _ _)
  go_upto_region 10 with (go_at_call 7; refine (HSI.out _ _ _ _ hB3 o7.out).mono ?_; rintro e v5 ⟨m1, m2, rfl, own5, hb5⟩; obtain ⟨pa2, ca2, rfl⟩ := own5.c.shape; obtain ⟨qa2, da2, rfl⟩ := own5.r.shape)
  have k4 : Below Z3.heap.size Z3 (v5.alloc (.cells #[.slice pa2 T.cs.length ca2, .slice qa2 T.rs.length da2, .string R, .int .i64 C] 28)) := keepB hb5 (Nat.le_refl _) (all_alloc _ _)
  have b8 : Hid _ := heap_alloc_new v5 (.cells #[.slice pa2 T.cs.length ca2, .slice qa2 T.rs.length da2, .string R, .int .i64 C] 28)
  have o8 : Hid (OwnT (v5.alloc (.cells #[.slice pa2 T.cs.length ca2, .slice qa2 T.rs.length da2, .string R, .int .i64 C] 28)) Z3.heap.size (.slice pa2 T.cs.length ca2) (.slice qa2 T.rs.length da2) T) := own5.below (all_alloc _ _)
  have I8 : InT (.slice pa2 T.cs.length ca2) (.slice qa2 T.rs.length da2) (g7 + 1) v5.heap.size := fun k hk => ⟨Nat.le_trans hs3 (own5.inT k hk).1, (own5.inT k hk).2⟩
  have c6 : Hid _ := blk b6'.out k4
  have p6 : Hid (OwnT _ _ _ _ _) := o6'.out.below k4
  have c7 : Hid _ := blk b7.out k4
  have p7 : Hid (OwnT _ _ _ _ _) := o7.out.below k4
  have hX4 : Hid _ := blk hX3.out k4
  have hB4 : Below w.heap.size w (v5.alloc (.cells #[.slice pa2 T.cs.length ca2, .slice qa2 T.rs.length da2, .string R, .int .i64 C] 28)) := keepB hB3 (Nat.le_refl _) k4
  have hg78 : g7 < v5.heap.size := Nat.lt_of_lt_of_le hs3 hb5.size
  generalize v5.alloc (.cells #[.slice pa2 T.cs.length ca2, .slice qa2 T.rs.length da2, .string R, .int .i64 C] 28) = Z4 at k4 b8 o8 c6 p6 c7 p7 hX4 hB4 ⊢
  generalize v5.heap.size = g8 at b8 I8 hg78 ⊢
  clear own5 hb5 k4 y0 y1 hX3 hB3 b6' o6' b7 o7 hs3
  have y0 := cellW c6.out 0 _ rfl Z4 (Below.refl _ _)
  have y1 := cellW c6.out 1 _ rfl Z4 (Below.refl _ _)
  have y2 := cellW c6.out 2 _ rfl Z4 (Below.refl _ _)
  have y3 := cellW c6.out 3 _ rfl Z4 (Below.refl _ _)
  have z0 := cellW b8.out 0 _ rfl Z4 (Below.refl _ _)
  have z1 := cellW b8.out 1 _ rfl Z4 (Below.refl _ _)
  have z2 := cellW b8.out 2 _ rfl Z4 (Below.refl _ _)
  have z3 := cellW b8.out 3 _ rfl Z4 (Below.refl _ _)
  go_upto_region 12 with (go_at_call 8; refine (HE.out _ _ _ _ _ _ _ o8.out p6.out).mono ?_; rintro e Z5 ⟨rfl, hb5⟩)
  have c6e : Hid _ := blk c6.out hb5
  have p6e : Hid (OwnT _ _ _ _ _) := p6.out.below hb5
  have c7e : Hid _ := blk c7.out hb5
  have p7e : Hid (OwnT _ _ _ _ _) := p7.out.below hb5
  have b8e : Hid _ := blk b8.out hb5
  have o8e : Hid (OwnT _ _ _ _ _) := o8.out.below hb5
  have hXe : Hid _ := blk hX4.out hb5
  have hBe : Below w.heap.size w Z5 := keepB hB4 (Nat.le_refl _) hb5
  clear y0 y1 y2 y3 z0 z1 z2 z3 c6 p6 c7 p7 b8 o8 hX4 hB4 hb5
  have q0 := cellW hXe.out 0 _ rfl
  have q1 := cellW hXe.out 1 _ rfl
  have r0 := cellW c7e.out 0 _ rfl
  have r1 := cellW c7e.out 1 _ rfl
  go_cut [38] (fun s38 wx => s38 = .bool false ∧ Below Z5.heap.size Z5 wx)
  case first =>
    go_region_held3 (fun w' => Below Z5.heap.size Z5 w') (first | assumption | exact Below.drew (Below.refl _ _) | exact keepB (by assumption) (Nat.le_refl _) hbq) (first
      | (go_at_call 6; refine (HTO.out _ (keepB hBe (Nat.le_refl _) (by assumption))).mono ?_; rintro e9 w9 ⟨u9, u8, rfl, own9, hbq⟩; obtain ⟨p9, c9, rfl⟩ := own9.c.shape; obtain ⟨q9, d9, rfl⟩ := own9.r.shape)
      | (go_at_call 9; refine (HET.out _ _ _ _ _ _ _ (OwnT.below p7e.out (by assumption)) own9).mono ?_; rintro e9 w9 ⟨rfl, hbq⟩))
    go_wp2
    go_meet
    exact ⟨rfl, by assumption⟩
  case rest =>
  obtain ⟨rfl, hwc⟩ := hcut
  rename World => Z6
  have c6f : Hid _ := blk c6e.out hwc
  have p6f : Hid (OwnT _ _ _ _ _) := p6e.out.below hwc
  have c7f : Hid _ := blk c7e.out hwc
  have p7f : Hid (OwnT _ _ _ _ _) := p7e.out.below hwc
  have b8f : Hid _ := blk b8e.out hwc
  have o8f : Hid (OwnT _ _ _ _ _) := o8e.out.below hwc
  have hXf : Hid _ := blk hXe.out hwc
  have hBf : Below w.heap.size w Z6 := keepB hBe (Nat.le_refl _) hwc
  clear q0 q1 r0 r1 c6e p6e c7e p7e b8e o8e hXe hBe hwc HET
  have y0 := cellW c7f.out 0 _ rfl Z6 (Below.refl _ _)
  have y1 := cellW c7f.out 1 _ rfl Z6 (Below.refl _ _)
  go_upto_region 16 with (go_at_call 10; refine (HMT.out _ _ _ _ p7f.out).mono ?_; rintro e Z7 ⟨nk, rfl, g7m⟩)
  have c6g : Hid _ := blk_keep2 c6f.out g7m I7 (.inl (Nat.lt_succ_self _))
  have b8g : Hid _ := blk_keep2 b8f.out g7m I7 (.inr (Nat.le_of_lt hg78))
  have hXg : Hid _ := blk_keep2 hXf.out g7m I7 (.inl (by omega))
  have p6g : Hid (OwnT _ _ _ _ _) := OwnT.keep2 p6f.out g7m I6 I7 (.inl (Nat.le_succ _))
  have o8g : Hid (OwnT _ _ _ _ _) := OwnT.keep2 o8f.out g7m I8 I7 (.inr (Nat.le_succ _))
  have hBg : Below w.heap.size w Z7 := Below.grown2 hBf g7m (fun k e => by have := I7 k (.inl e); omega) (fun k e => by have := I7 k (.inr e); omega)
  have hnk : ¬ ((nk : Int) < 0) := by omega
  clear y0 y1 c6f p6f c7f p7f b8f o8f hXf hBf g7m HMT
  have y0 := cellW c6g.out 0 _ rfl Z7 (Below.refl _ _)
  have y1 := cellW c6g.out 1 _ rfl Z7 (Below.refl _ _)
  have y2 := cellW c6g.out 2 _ rfl Z7 (Below.refl _ _)
  have y3 := cellW c6g.out 3 _ rfl Z7 (Below.refl _ _)
  have z0 := cellW b8g.out 0 _ rfl Z7 (Below.refl _ _)
  have z1 := cellW b8g.out 1 _ rfl Z7 (Below.refl _ _)
  have z2 := cellW b8g.out 2 _ rfl Z7 (Below.refl _ _)
  have z3 := cellW b8g.out 3 _ rfl Z7 (Below.refl _ _)
  go_upto_region 19 with (go_at_call 8; refine (HE.out _ _ _ _ _ _ _ o8g.out p6g.out).mono ?_; rintro e Z8 ⟨rfl, hb8⟩)
  have c6h : Hid _ := blk c6g.out hb8
  have p6h : Hid (OwnT _ _ _ _ _) := p6g.out.below hb8
  have b8h : Hid _ := blk b8g.out hb8
  have o8h : Hid (OwnT _ _ _ _ _) := o8g.out.below hb8
  have hXh : Hid _ := blk hXg.out hb8
  have hBh : Below w.heap.size w Z8 := keepB hBg (Nat.le_refl _) hb8
  clear y0 y1 y2 y3 z0 z1 z2 z3 c6g p6g b8g o8g hXg hBg hb8 hnk
  have z0 := cellW b8h.out 0 _ rfl Z8 (Below.refl _ _)
  have z1 := cellW b8h.out 1 _ rfl Z8 (Below.refl _ _)
  have z2 := cellW b8h.out 2 _ rfl Z8 (Below.refl _ _)
  have z3 := cellW b8h.out 3 _ rfl Z8 (Below.refl _ _)
  go_upto_region 21 with (go_at_call 11; refine (HM.out _ _ _ _ o8h.out).mono ?_; rintro e Z9 ⟨rfl, m9, g9⟩)
  have c6i : Hid _ := blk_keep2 c6h.out g9 I8 (.inl (by omega))
  have b8i : Hid _ := blk_keep2 b8h.out g9 I8 (.inr (Nat.le_refl _))
  have hXi : Hid _ := blk_keep2 hXh.out g9 I8 (.inl (by omega))
  have p6i : Hid (OwnT _ _ _ _ _) := OwnT.keep2 p6h.out g9 I6 I8 (.inl (by omega))
  have m9i : Hid (OwnT _ _ _ _ _) := m9
  have hBi : Below w.heap.size w Z9 := Below.grown2 hBh g9 (fun k e => by have := I8 k (.inl e); omega) (fun k e => by have := I8 k (.inr e); omega)
  clear z0 z1 z2 z3 c6h p6h b8h o8h hXh hBh g9 m9 HM
  have z0 := cellW b8i.out 0 _ rfl Z9 (Below.refl _ _)
  have z1 := cellW b8i.out 1 _ rfl Z9 (Below.refl _ _)
  have z2 := cellW b8i.out 2 _ rfl Z9 (Below.refl _ _)
  have z3 := cellW b8i.out 3 _ rfl Z9 (Below.refl _ _)
  go_upto_region 26 with (go_at_call 12; refine (HH.out _ _ _ _ m9i.out).mono ?_; rintro e ZA ⟨rfl, hbA⟩)
  have c6j : Hid _ := blk c6i.out hbA
  have p6j : Hid (OwnT _ _ _ _ _) := p6i.out.below hbA
  have b8j : Hid _ := blk b8i.out hbA
  have m9j : Hid (OwnT _ _ _ _ _) := m9i.out.below hbA
  have hXj : Hid _ := blk hXi.out hbA
  have hBj : Below w.heap.size w ZA := keepB hBi (Nat.le_refl _) hbA
  clear z0 z1 z2 z3 c6i p6i b8i m9i hXi hBi hbA
  have x0 := cellW hXj.out 0 _ rfl ZA (Below.refl _ _)
  have x1 := cellW hXj.out 1 _ rfl ZA (Below.refl _ _)
  go_upto_region 27 with (first
    | (go_at_call 6; refine (HTO.out _ hBj).mono ?_; rintro e v6 ⟨m1, m2, rfl, own6, hb6⟩; obtain ⟨pm2, cm2, rfl⟩ := own6.c.shape; obtain ⟨qm2, dm2, rfl⟩ := own6.r.shape)
    | (go_at_call 7; refine (HSI.out _ _ _ _ (keepB hBj (Nat.le_refl _) hb6) own6).mono ?_; rintro e v7 ⟨m3, m4, rfl, own7, hb7⟩; obtain ⟨pa3, ca3, rfl⟩ := own7.c.shape; obtain ⟨qa3, da3, rfl⟩ := own7.r.shape))
  have kB : Below ZA.heap.size ZA (v7.alloc (.cells #[.slice pa3 T.cs.length ca3, .slice qa3 T.rs.length da3, .string R, .int .i64 C] 28)) := keepB (keepB hb6 (Nat.le_refl _) hb7) (Nat.le_refl _) (all_alloc _ _)
  have b12 : Hid _ := heap_alloc_new v7 (.cells #[.slice pa3 T.cs.length ca3, .slice qa3 T.rs.length da3, .string R, .int .i64 C] 28)
  have o12 : Hid (OwnT (v7.alloc (.cells #[.slice pa3 T.cs.length ca3, .slice qa3 T.rs.length da3, .string R, .int .i64 C] 28)) v6.heap.size (.slice pa3 T.cs.length ca3) (.slice qa3 T.rs.length da3) T) := own7.below (all_alloc _ _)
  generalize v7.alloc (.cells #[.slice pa3 T.cs.length ca3, .slice qa3 T.rs.length da3, .string R, .int .i64 C] 28) = ZB at kB b12 o12 ⊢
  generalize v7.heap.size = g12 at b12 ⊢
  have c6k : Hid _ := blk c6j.out kB
  have p6k : Hid (OwnT _ _ _ _ _) := p6j.out.below kB
  have b8k : Hid _ := blk b8j.out kB
  have m9k : Hid (OwnT _ _ _ _ _) := m9j.out.below kB
  have hBk : Below w.heap.size w ZB := keepB hBj (Nat.le_refl _) kB
  clear x0 x1 own6 own7 hb6 hb7 kB c6j p6j b8j m9j hXj hBj HSS HSI HTO
  have x0 := cellW b12.out 0 _ rfl ZB (Below.refl _ _)
  have x1 := cellW b12.out 1 _ rfl ZB (Below.refl _ _)
  have x2 := cellW b12.out 2 _ rfl ZB (Below.refl _ _)
  have x3 := cellW b12.out 3 _ rfl ZB (Below.refl _ _)
  have y0 := cellW c6k.out 0 _ rfl ZB (Below.refl _ _)
  have y1 := cellW c6k.out 1 _ rfl ZB (Below.refl _ _)
  have y2 := cellW c6k.out 2 _ rfl ZB (Below.refl _ _)
  have y3 := cellW c6k.out 3 _ rfl ZB (Below.refl _ _)
  go_upto_region 30 with (go_at_call 8; refine (HE.out _ _ _ _ _ _ _ o12.out p6k.out).mono ?_; rintro e ZC ⟨rfl, hbC⟩)
  have b8l : Hid _ := blk b8k.out hbC
  have m9l : Hid (OwnT _ _ _ _ _) := m9k.out.below hbC
  have hBl : Below w.heap.size w ZC := keepB hBk (Nat.le_refl _) hbC
  clear x0 x1 x2 x3 y0 y1 y2 y3 b12 o12 c6k p6k b8k m9k hBk hbC HE
  have z0 := cellW b8l.out 0 _ rfl ZC (Below.refl _ _)
  have z1 := cellW b8l.out 1 _ rfl ZC (Below.refl _ _)
  have z2 := cellW b8l.out 2 _ rfl ZC (Below.refl _ _)
  have z3 := cellW b8l.out 3 _ rfl ZC (Below.refl _ _)
  go_wp2_with (go_at_call 12; refine (HH.out _ _ _ _ m9l.out).mono ?_; rintro e ZD ⟨rfl, hbD⟩)
  go_ret
  exact ⟨rfl, keepB hBl (Nat.le_refl _) hbD⟩

set_option maxRecDepth 100000 in
theorem lifted (os : Os) (started : os.Started) (H : Type) (enc : TypeId × Value → H) :
    ReturnsInHanded {} Tryd.checked os 3 .any (fun w args => (Rows.fnExactServeSpec.pre enc Tryd.prog Tryd.f3 [] false w args ∧ laidMetH Tryd.prog Rows.fnExactServeRow.laid w) ∧ sizedMet enc Tryd.prog Tryd.f3 (OpenSpec.ofChange Rows.fnExactServeSpec) false w args)
      (Rows.fnExactServeSpec.post enc Tryd.prog Tryd.f3 false true false false) := by
  refine returnsInHanded_of_change_and (C := Tryd.checked) (X := fun w _ => laidMetH Tryd.prog Rows.fnExactServeRow.laid w) (fun _ _ _ hh h => h.of_heap hh) own started (by kernel_rfl) Tryd.func3
    (ChangeSpec.witness_at (enc := enc) (C := Tryd.checked) (os := os) (X := fun w _ => laidMetH Tryd.prog Rows.fnExactServeRow.laid w) false (laidWorld os) #[.agg #[.slice none 0 0, .slice none 0 0], .string ByteArray.empty] 8 rfl (by kernel_rfl) (by kernel_rfl) (by kernel_rfl) (by kernel_rfl) (by kernel_rfl) (laidWorld_met os _)) ?_
  intro W base args ds gs before hval0 hW _ _ hL _
  have hval : ∀ (j : Nat) t v, Tryd.f3.params[j]? = some t → args[j]? = some v → Value.okWide Tryd.prog W .any base t v := hval0
  have hW' := hW
  obtain ⟨p, q, hA0, hV0, rfl, hfz, hnd⟩ := hW
  have hA : DataW.TrodAll enc Tryd.prog W 0 (fun _ => true) true Tryd.f3.params.toList args.toList ds p := hA0
  have hV : DataW.TrodVars enc Tryd.prog W (fun _ => true) ["loop.example/g00556/impl.errFc", "loop.example/g00556/impl.errValue", "loop.example/g00556/impl.errPlace"] gs q := hV0
  rw [Tryd.params3] at hA hval
  obtain ⟨v0, vs0, d0, ds0, p0, q0, hargs, rfl, rfl, h0, r0⟩ := trodAll_cons hA
  obtain ⟨v1, vs1, d1, ds1, p1, q1, rfl, rfl, rfl, h1, r1⟩ := trodAll_cons r0
  obtain ⟨rfl, rfl, rfl⟩ := trodAll_nil r1
  obtain rfl : args = #[v0, v1] := by cases args; simp_all
  obtain ⟨x0, x1, x2, hv0, hv1, hv2, ⟨n01, n02, n12⟩, hb0, hb1, hb2⟩ := laid_sentinels3 (plain W hL) gF gFt gV gVt gP gPt Tryd.underlying47 rowE Tryd.underlying108 Tryd.underlying134 rfl rfl Tryd.underlying9 cellsE cellsS
  obtain ⟨rfl, rfl⟩ := hV.unique (vars3 enc hv0 hv1 hv2 trivial trivial trivial _)
  have hS : Sents W x0 x1 x2 := ⟨by simpa using World.var?_cell gF hv0 0, by simpa using World.var?_cell gV hv1 0, by simpa using World.var?_cell gP hv2 0, hb0, hb1, hb2, n01, n02, n12⟩
  have k0 := h0
  have lt0 : ∀ x ∈ p0, x.block < W.heap.size := by obtain ⟨m, hm⟩ := k0; exact DataW.trod_lt m _ _ _ hm
  obtain ⟨t0, a0, b0, c0, e0, rfl, w0⟩ := open_table (hval 0 24 v0 rfl rfl) h0
  obtain ⟨a1, rfl, rfl, rfl, w1⟩ := open_string Tryd.underlying9 (hval 1 9 v1 rfl rfl) h1
  clear hA0 hval0
  refine (walk t0 a0 b0 c0 e0 a1 W w0 w1 x0 x1 x2 hS).mono fun e W' ⟨he, bel⟩ => ?_
  subst he
  exact ⟨_, rfl, _, _, _, [], _, [.cell 0 0, .cell 1 0, .cell 2 0], hW', trodAll_mk1 (shut_bool Tryd.underlying4 _), (trodAll_cons_mk (Below.trod laidOut (by kernel_rfl) (of_decide_eq_true (by kernel_rfl)) k0 bel lt0) (trodAll_cons_mk (shut_string Tryd.underlying9 w1) trodAll_mk0)), vars3 enc (var_below hv0 bel) (var_below hv1 bel) (var_below hv2 bel) trivial trivial trivial _, bel.frame _, fun h => by cases h⟩

theorem said : Rows.FnExactServeSaid :=
  OpenClaim.holds_of_wide 3 Tryd.f3 rfl rfl rfl rfl rfl rfl rfl ⟨rfl, rfl, rfl, rfl, rfl⟩ rfl rfl rfl rfl rfl (by kernel_rfl) Tryd.func3 (by kernel_rfl)
    (of_decide_eq_true (by kernel_rfl)) (by unfold Func.isWrapper; first | (rw [if_pos (by decide +kernel)]; kernel_rfl) | (rw [if_neg (by decide +kernel)]; exact ⟨rfl, rfl⟩))
    (fun os started H enc _ => lifted os started H enc)

/-- The statement: the tied card. -/
theorem proved : Rows.FnExactServeCardSaid :=
  Claim7.holds_tied_plain_at .later [] _ _ _ _ said (fun _ h => by cases h) (by kernel_rfl) (fun _ h => by cases h) fnExactServe_row_tie rfl ⟨rfl, rfl⟩ (by kernel_rfl) rfl
    (fun f fn hf hfn => by
      obtain rfl : f = 3 := Option.some.inj ((show Tryd.prog.funcNamed "loop.example/g00556/laws.FnExactServe" = some 3 by kernel_rfl).symm.trans hf) |>.symm
      obtain rfl : fn = Tryd.f3 := (Option.some.inj (Tryd.func3.symm.trans hfn)).symm
      exact ⟨by kernel_rfl, fun j t ht => by
        rw [Tryd.params3] at ht
        have h3 : t = 24 ∨ t = 9 := by simpa using Array.mem_of_getElem? ht
        rcases h3 with rfl | rfl
        · exact (show Tryd.prog.wantsStandIn 24 = false by kernel_rfl)
        · exact (show Tryd.prog.wantsStandIn 9 = false by kernel_rfl)⟩)
    (by kernel_rfl)
#print axioms proved
end Go.Proofs.YtfpibedloodjlabDoor.fnExactServe
