/- THE WALKS of the model's draws out of bytes: each answers within its bounds, and turns nothing but its own source. -/
import Derived.Test.YtfpibedloodjlaaProg
import Derived.Test.YtfpibedloodjlaaPlain
import Derived.WalkKit
import Derived.WalkSpells
import Derived.Outline
import Derived.Below
import Derived.RegionTactic
import Derived.BigRegion
import Derived.Deep.QuietTactic
import Derived.BigQuiet
import Derived.Deep.RegionHeld3
namespace Go.Proofs.Ytfpibedloodjlaa
open Go.RowKit
set_option linter.unusedVariables false

/-- all blocks but b are as they were; none is new -/
structure Only (b : Nat) (w w' : World) : Prop where
  os : w'.os = w.os
  tape : w'.tape = w.tape
  output : w'.output = w.output
  size : w'.heap.size = w.heap.size
  block : ∀ k, k ≠ b → w'.heap[k]? = w.heap[k]?
theorem Only.refl (b : Nat) (w : World) : Only b w w := ⟨rfl, rfl, rfl, rfl, fun _ _ => rfl⟩
theorem Only.trans {b : Nat} {x y z : World} (h : Only b x y) (k : Only b y z) : Only b x z := ⟨k.os.trans h.os, k.tape.trans h.tape, k.output.trans h.output, k.size.trans h.size, fun i hi => (k.block i hi).trans (h.block i hi)⟩
theorem Only.drew {b : Nat} {x y : World} (h : Only b x y) : Only b x y.drew := ⟨h.os, h.tape, h.output, h.size, h.block⟩
theorem Only.setCell {b : Nat} {x y : World} (h : Only b x y) (o : Nat) (v : Value) : Only b x (y.setCell ⟨b, o, none⟩ v) :=
  h.trans ⟨rfl, rfl, rfl, by simp [World.setCell], fun k hk => Below.heap_setCell _ _ _ _ hk⟩
theorem Only.below {b B : Nat} {x y : World} (h : Only b x y) (hB : B ≤ b) : Below B x y := ⟨h.os, h.tape, h.output, Nat.le_of_eq h.size.symm, fun k hk => h.block k (by omega)⟩

theorem Only.drewN {b : Nat} {x y : World} (h : Only b x y) (n : Nat) : Only b x (y.drewN n) := h.trans ⟨rfl, rfl, rfl, rfl, fun _ _ => rfl⟩
/-- the source's third number is m now; nothing else has turned -/
structure Tn (b : Nat) (w w' : World) (m : Int) : Prop where
  cell : w'.cell? ⟨b, 2, none⟩ = some (.int .u64 m)
  frozen : w'.frozen? ⟨b, 2, none⟩ = false
  only : Only b w w'
  rest : ∀ o, o ≠ 2 → w'.cell? ⟨b, o, none⟩ = w.cell? ⟨b, o, none⟩
  froz : ∀ o, w'.frozen? ⟨b, o, none⟩ = w.frozen? ⟨b, o, none⟩
theorem Tn.start {b : Nat} {w : World} {m : Int} (c : w.cell? ⟨b, 2, none⟩ = some (.int .u64 m)) (f : w.frozen? ⟨b, 2, none⟩ = false) : Tn b w w m := ⟨c, f, Only.refl _ _, fun _ _ => rfl, fun _ => rfl⟩
theorem Tn.drew {b : Nat} {w w' : World} {m : Int} (h : Tn b w w' m) : Tn b w w'.drew m := ⟨h.cell, h.frozen, h.only.drew, h.rest, h.froz⟩
theorem Tn.drewN {b : Nat} {w w' : World} {m : Int} (h : Tn b w w' m) (n : Nat) : Tn b w (w'.drewN n) m := ⟨h.cell, h.frozen, h.only.drewN n, h.rest, h.froz⟩
theorem Tn.set {b : Nat} {w w' : World} {m : Int} (h : Tn b w w' m) (m' : Int) : Tn b w (w'.setCell ⟨b, 2, none⟩ (.int .u64 m')) m' :=
  ⟨World.cell?_setCell_same _ _ _ h.cell, by rw [World.frozen?_setCell]; exact h.frozen, h.only.setCell 2 _, fun o ho => by rw [World.cell?_setCell_other _ _ _ _ (by simp)]; exact h.rest o ho, fun o => by rw [World.frozen?_setCell]; exact h.froz o⟩
theorem Tn.trans {b : Nat} {w w1 w2 : World} {m m' : Int} (h : Tn b w w1 m) (k : Tn b w1 w2 m') : Tn b w w2 m' := ⟨k.cell, k.frozen, h.only.trans k.only, fun o ho => (k.rest o ho).trans (h.rest o ho), fun o => (k.froz o).trans (h.froz o)⟩
/-- bytes that can be read -/
def Rd (w : World) (a : Option Addr) (len : Nat) : Prop := len ≤ 1048576 ∧ (len = 0 ∨ ∃ g o, a = some ⟨g, o, none⟩ ∧ ∀ i, i < len → ∃ v : Int, w.cell? ⟨g, o + i, none⟩ = some (.int .u8 v) ∧ 0 ≤ v ∧ v ≤ 255)

theorem n_small (p : Value) (most : Int) (w : World) (h : most ≤ 1) :
    Calls Try.prog 39 #[p, .int .i64 most] w fun e w' => e = .returned (.int .i64 0) ∧ w = w' := by
  go_enter Try.func39, Try.ntmps39
  go_wp2
  go_ret
  exact ⟨rfl, rfl⟩
set_option maxRecDepth 100000 in
set_option maxHeartbeats 3200000 in
theorem n_out (b : Nat) (a : Option Addr) (len cap : Nat) (most at0 mix : Int) (w : World) (h1 : 1 < most) (h2 : most ≤ 1099511627776) (ha : 0 ≤ at0) (hl : (len : Int) ≤ at0) (hm0 : 0 ≤ mix) (hm1 : mix ≤ 18446744073709551615) (hlen : len ≤ 1048576)
    (c0 : w.cell? ⟨b, 0, none⟩ = some (.slice a len cap)) (c1 : w.cell? ⟨b, 1, none⟩ = some (.int .i64 at0)) (c2 : w.cell? ⟨b, 2, none⟩ = some (.int .u64 mix)) (f2 : w.frozen? ⟨b, 2, none⟩ = false) :
    Calls Try.prog 39 #[.pointer (some ⟨b, 0, none⟩), .int .i64 most] w fun e w' => ∃ r mix', e = .returned (.int .i64 r) ∧ 0 ≤ r ∧ r < most ∧ 0 ≤ mix' ∧ mix' ≤ 18446744073709551615 ∧ Tn b w w' mix' := by
  go_enter Try.func39, Try.ntmps39
  go_wp2
  go_quiet (fail)
  go_wp2
  go_region
  obtain ⟨m2, hm2⟩ : ∃ m, m = bits BinOp.xor IntKind.u64 mix (IntKind.u64.wrap (mix * 8192)) := ⟨_, rfl⟩
  have L2 := bits_lo_u64 BinOp.xor mix (IntKind.u64.wrap (mix * 8192))
  have U2 := bits_hi_u64 BinOp.xor mix (IntKind.u64.wrap (mix * 8192))
  rw [← hm2] at L2 U2 ⊢
  clear hm2
  obtain ⟨w2, hw2⟩ : ∃ x, x = (w.drewN (nq + 1)).setCell ⟨b, 2, none⟩ (.int .u64 m2) := ⟨_, rfl⟩
  have t2 : Tn b w w2 m2 := by rw [hw2]; exact ((Tn.start c2 f2).drewN _).set _
  rw [← hw2]
  clear hw2
  have k2 := t2.cell
  have g2 := t2.frozen
  have HT2 : Hid (Tn b w w2 m2) := t2
  clear t2 c0 c1 c2 f2 hm0 hm1
  go_wp2
  go_region
  obtain ⟨m3, hm3⟩ : ∃ m, m = bits BinOp.xor IntKind.u64 m2 (m2 / 128) := ⟨_, rfl⟩
  have L3 := bits_lo_u64 BinOp.xor m2 (m2 / 128)
  have U3 := bits_hi_u64 BinOp.xor m2 (m2 / 128)
  rw [← hm3] at L3 U3 ⊢
  clear hm3
  obtain ⟨w3, hw3⟩ : ∃ x, x = (w2.setCell ⟨b, 2, none⟩ (.int .u64 m3)).drew := ⟨_, rfl⟩
  have t3 : Tn b w w3 m3 := by rw [hw3]; exact (HT2.out.set _).drew
  rw [← hw3]
  clear hw3 k2 g2
  have k3 := t3.cell
  have g3 := t3.frozen
  have HT3 : Hid (Tn b w w3 m3) := t3
  clear t3 L2 U2
  go_wp2
  go_region
  obtain ⟨m4, hm4⟩ : ∃ m, m = bits BinOp.xor IntKind.u64 m3 (IntKind.u64.wrap (m3 * 131072)) := ⟨_, rfl⟩
  have L4 := bits_lo_u64 BinOp.xor m3 (IntKind.u64.wrap (m3 * 131072))
  have U4 := bits_hi_u64 BinOp.xor m3 (IntKind.u64.wrap (m3 * 131072))
  rw [← hm4] at L4 U4 ⊢
  clear hm4
  obtain ⟨w4, hw4⟩ : ∃ x, x = (w3.setCell ⟨b, 2, none⟩ (.int .u64 m4)).drew := ⟨_, rfl⟩
  have t4 : Tn b w w4 m4 := by rw [hw4]; exact (HT3.out.set _).drew
  rw [← hw4]
  clear hw4 k3 g3
  have k4 := t4.cell
  have HT4 : Hid (Tn b w w4 m4) := t4
  clear t4 L3 U3
  go_wp2
  have e1 := Int.emod_nonneg (m4 / 1048576) (show most ≠ 0 by omega)
  have e2 := Int.emod_lt_of_pos (m4 / 1048576) (show 0 < most by omega)
  go_ret
  exact ⟨_, m4, ret_int (show wrap64 ((m4 / 1048576) % most) = (m4 / 1048576) % most by unfold wrap64; omega), e1, e2, L4, U4, HT4.out⟩

theorem set1 {b : Nat} {w : World} {u : Value} (v : Value) (h : w.cell? ⟨b, 1, none⟩ = some u) : (w.setCell ⟨b, 1, none⟩ v).cell? ⟨b, 1, none⟩ = some v ∧ (∀ o, o ≠ 1 → (w.setCell ⟨b, 1, none⟩ v).cell? ⟨b, o, none⟩ = w.cell? ⟨b, o, none⟩) ∧ (∀ o, (w.setCell ⟨b, 1, none⟩ v).frozen? ⟨b, o, none⟩ = w.frozen? ⟨b, o, none⟩) ∧ Only b w (w.setCell ⟨b, 1, none⟩ v) :=
  ⟨World.cell?_setCell_same _ _ _ h, fun o ho => World.cell?_setCell_other _ _ _ _ (by simp), fun o => World.frozen?_setCell _ _ _ _, (Only.refl _ _).setCell 1 _⟩
set_option maxRecDepth 100000 in
set_option maxHeartbeats 3200000 in
theorem n_in (b g o len cap i : Nat) (most mix v : Int) (w : World) (h1 : 1 < most) (h2 : most ≤ 1099511627776) (hl : i < len) (hm0 : 0 ≤ mix) (hm1 : mix ≤ 18446744073709551615) (hlen : len ≤ 1048576) (hv0 : 0 ≤ v) (hv1 : v ≤ 255)
    (cv : w.cell? ⟨g, o + i, none⟩ = some (.int .u8 v))
    (c0 : w.cell? ⟨b, 0, none⟩ = some (.slice (some ⟨g, o, none⟩) len cap)) (c1 : w.cell? ⟨b, 1, none⟩ = some (.int .i64 i)) (f1 : w.frozen? ⟨b, 1, none⟩ = false) (c2 : w.cell? ⟨b, 2, none⟩ = some (.int .u64 mix)) (f2 : w.frozen? ⟨b, 2, none⟩ = false) :
    Calls Try.prog 39 #[.pointer (some ⟨b, 0, none⟩), .int .i64 most] w fun e w' => ∃ r mix', e = .returned (.int .i64 r) ∧ 0 ≤ r ∧ r < most ∧ 0 ≤ mix' ∧ mix' ≤ 18446744073709551615 ∧ Tn b (w.setCell ⟨b, 1, none⟩ (.int .i64 ((i : Int) + 1))) w' mix' := by
  go_enter Try.func39, Try.ntmps39
  go_wp2
  go_quiet (fail)
  rename Nat => n1
  go_wp2
  go_quiet (fail)
  go_wp2
  obtain ⟨w1, hw1⟩ : ∃ x, x = (w.drewN (n1 + nq)).setCell ⟨b, 1, none⟩ (.int .i64 ((i : Int) + 1)) := ⟨_, rfl⟩
  have HT1 : Hid (Tn b (w.setCell ⟨b, 1, none⟩ (.int .i64 ((i : Int) + 1))) w1 mix) := by
    rw [hw1]
    obtain ⟨_, s2, s3, _⟩ := set1 (.int .i64 ((i : Int) + 1)) c1
    exact (Tn.start ((s2 2 (by decide)).trans c2) ((s3 2).trans f2)).drewN (n1 + nq)
  rw [← hw1]
  clear hw1
  have d2 := HT1.out.cell
  have d3 := HT1.out.frozen
  clear cv c0 c1 f1 c2 f2
  go_region
  obtain ⟨m2, hm2⟩ : ∃ m, m = bits BinOp.xor IntKind.u64 mix (IntKind.u64.wrap (mix * 8192)) := ⟨_, rfl⟩
  have L2 := bits_lo_u64 BinOp.xor mix (IntKind.u64.wrap (mix * 8192))
  have U2 := bits_hi_u64 BinOp.xor mix (IntKind.u64.wrap (mix * 8192))
  rw [← hm2] at L2 U2 ⊢
  clear hm2
  obtain ⟨w2, hw2⟩ : ∃ x, x = (w1.setCell ⟨b, 2, none⟩ (.int .u64 m2)).drew := ⟨_, rfl⟩
  have t2 : Tn b w1 w2 m2 := by rw [hw2]; exact ((Tn.start d2 d3).set _).drew
  rw [← hw2]
  clear hw2
  have k2 := t2.cell
  have g2 := t2.frozen
  have HT2 : Hid (Tn b w1 w2 m2) := t2
  clear t2 d2 d3 hm0 hm1
  go_wp2
  go_region
  obtain ⟨m3, hm3⟩ : ∃ m, m = bits BinOp.xor IntKind.u64 m2 (m2 / 128) := ⟨_, rfl⟩
  have L3 := bits_lo_u64 BinOp.xor m2 (m2 / 128)
  have U3 := bits_hi_u64 BinOp.xor m2 (m2 / 128)
  rw [← hm3] at L3 U3 ⊢
  clear hm3
  obtain ⟨w3, hw3⟩ : ∃ x, x = (w2.setCell ⟨b, 2, none⟩ (.int .u64 m3)).drew := ⟨_, rfl⟩
  have t3 : Tn b w1 w3 m3 := by rw [hw3]; exact (HT2.out.set _).drew
  rw [← hw3]
  clear hw3 k2 g2
  have k3 := t3.cell
  have g3 := t3.frozen
  have HT3 : Hid (Tn b w1 w3 m3) := t3
  clear t3 L2 U2
  go_wp2
  go_region
  obtain ⟨m4, hm4⟩ : ∃ m, m = bits BinOp.xor IntKind.u64 m3 (IntKind.u64.wrap (m3 * 131072)) := ⟨_, rfl⟩
  have L4 := bits_lo_u64 BinOp.xor m3 (IntKind.u64.wrap (m3 * 131072))
  have U4 := bits_hi_u64 BinOp.xor m3 (IntKind.u64.wrap (m3 * 131072))
  rw [← hm4] at L4 U4 ⊢
  clear hm4
  obtain ⟨w4, hw4⟩ : ∃ x, x = (w3.setCell ⟨b, 2, none⟩ (.int .u64 m4)).drew := ⟨_, rfl⟩
  have t4 : Tn b w1 w4 m4 := by rw [hw4]; exact (HT3.out.set _).drew
  rw [← hw4]
  clear hw4 k3 g3
  have k4 := t4.cell
  have HT4 : Hid (Tn b w1 w4 m4) := t4
  clear t4 L3 U3
  go_wp2
  have e1 := Int.emod_nonneg (v + m4 / 1048576) (show most ≠ 0 by omega)
  have e2 := Int.emod_lt_of_pos (v + m4 / 1048576) (show 0 < most by omega)
  go_ret
  exact ⟨_, m4, ret_int (show wrap64 ((v + m4 / 1048576) % most) = (v + m4 / 1048576) % most by unfold wrap64; omega), e1, e2, L4, U4, HT1.out.trans HT4.out⟩
end Go.Proofs.Ytfpibedloodjlaa
