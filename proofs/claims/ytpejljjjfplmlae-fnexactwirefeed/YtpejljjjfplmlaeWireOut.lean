/- THE WALKS of the law's own questions of what a wire tells: the same, marked, still marked. -/
import Derived.Test.YtpejljjjfplmlaeMarks2
import Derived.WalkKit
import Derived.WalkSpells
import Derived.Outline
import Derived.Below
namespace Go.Proofs.Ytpejljjjfplmlae
open Go.RowKit
set_option linter.unusedVariables false
set_option linter.unusedSimpArgs false

set_option maxRecDepth 100000 in
theorem eqWire_same (i e d : Bool) (b : ByteArray) (w : World) :
    Calls Try.prog 44 #[.agg #[.bool i, .bool e, .bool d, .string b], .agg #[.bool i, .bool e, .bool d, .string b]] w fun x w' => x = .returned (.bool true) ∧ Below w.heap.size w w' := by
  have e1 : (b.toList == b.toList) = true := by simp
  have e2 : (i != i) = false := by simp
  have e3 : (e != e) = false := by simp
  have e4 : (d != d) = false := by simp
  go_enter Try.func44, Try.ntmps44
  go_wp2
  go_ret
  exact ⟨rfl, ((Below.refl _ _).alloc (Nat.le_refl _) _).alloc (by simp) _⟩
/-- what a wire tells, as a value -/
def wireO (i e d : Bool) (b : ByteArray) (v : Value) (c : Int) : Value := .agg #[.bool i, .bool e, .bool d, .string b, v, .int .i64 c]
set_option maxRecDepth 100000 in
set_option maxHeartbeats 800000 in
theorem eqWireOut_same (i e d : Bool) (b : ByteArray) (c : Int) (b1 b2 : Nat) (v1 v2 : Value) (ss : List ByteArray) (w : World) (hl : ss.length ≤ 10000) (h1 : OwnS w b1 v1 ss) (h2 : OwnS w b2 v2 ss) :
    Calls Try.prog 24 #[.agg #[.bool i, .bool e, .bool d, .string b, v1, .int .i64 c], .agg #[.bool i, .bool e, .bool d, .string b, v2, .int .i64 c]] w fun x w' => x = .returned (.bool true) ∧ Below w.heap.size w w' := by
  have HE : Hid _ := fun w => eqWire_same i e d b w
  have e3 : (c != c) = false := by simp
  have HS : Hid (∀ W, Below w.heap.size w W → Calls Try.prog 45 #[v1, v2] W fun e w' => e = .returned (.bool true) ∧ Below W.heap.size W w') := fun W hW => eqStringS_same b1 b2 v1 v2 ss W (by omega) (h1.below hW) (h2.below hW)
  obtain ⟨p1, c1, rfl⟩ := h1.shape
  obtain ⟨p2, c2, rfl⟩ := h2.shape
  clear h1 h2
  go_enter Try.func24, Try.ntmps24
  go_wp2_with (first | (go_at_call 44; refine (HE.out _).mono ?_; rintro e' w1 ⟨rfl, hb1⟩; obtain ⟨hc1, hf1⟩ := bcellF hb1; have hz1 : w.heap.size + 1 < w1.heap.size := (by have := hb1.size; simp at this; omega); have hz0 : w.heap.size < w1.heap.size := (by omega); have hB1 := keepB (((Below.refl w.heap.size w).alloc (Nat.le_refl _) (.cells #[.bool i, .bool e, .bool d, .string b, .slice p1 ss.length c1, .int .i64 c] 38)).alloc (by simp) (.cells #[.bool i, .bool e, .bool d, .string b, .slice p2 ss.length c2, .int .i64 c] 38)) (Nat.le_refl _) hb1) | (go_at_call 45; refine (HS.out _ hB1).mono ?_; rintro e' w2 ⟨rfl, hb2⟩; obtain ⟨hc2, hf2⟩ := bcellF hb2))
  go_ret
  exact ⟨rfl, keepB hB1 (Nat.le_refl _) hb2⟩
set_option maxRecDepth 100000 in
set_option maxHeartbeats 800000 in
theorem markWireOut_any (i e d : Bool) (b : ByteArray) (c : Int) (base : Nat) (v : Value) (ss : List ByteArray) (w : World) (hl : ss.length ≤ 10000) (h : OwnS w base v ss) :
    Calls Try.prog 25 #[.agg #[.bool i, .bool e, .bool d, .string b, v, .int .i64 c], .int .i64 1] w fun x w' => x = .returned (.int .i64 (1 + (ss.length : Int))) ∧ OwnS w' base v (marksL ss.length) ∧ w.grownBy w' v.ownBlock := by
  have HS : Hid (∀ W, Below w.heap.size w W → Calls Try.prog 46 #[v, .int .i64 1] W fun e w' => e = .returned (.int .i64 (1 + (ss.length : Int))) ∧ OwnS w' base v (marksL ss.length) ∧ W.grownBy w' v.ownBlock) := fun W hW => markStringS_any base v ss W hl (h.below hW)
  obtain ⟨p1, c1, rfl⟩ := h.shape
  clear h
  have hA := (Below.refl w.heap.size w).alloc (Nat.le_refl _) (.cells #[.bool i, .bool e, .bool d, .string b, .slice p1 ss.length c1, .int .i64 c] 38)
  have hG : Hid (w.grownBy (w.alloc (.cells #[.bool i, .bool e, .bool d, .string b, .slice p1 ss.length c1, .int .i64 c] 38)) (Value.slice p1 ss.length c1).ownBlock) := World.grownBy_alloc _ _ _
  go_enter Try.func25, Try.ntmps25
  go_wp2_with (go_at_call 46; refine (HS.out _ hA).mono ?_; rintro e' w2 ⟨rfl, hm, hg⟩)
  go_ret
  refine ⟨rfl, hm, ⟨hg.os, hg.tape, hg.output, Nat.le_trans hA.size hg.size, fun k hk hr => (hg.block k (Nat.lt_of_lt_of_le hk hA.size) hr).trans (hA.block k hk)⟩⟩
set_option maxRecDepth 100000 in
set_option maxHeartbeats 800000 in
theorem heldWireOut_any (i e d : Bool) (b : ByteArray) (c : Int) (base : Nat) (v : Value) (n : Nat) (w : World) (hl : n ≤ 10000) (h : OwnS w base v (marksL n)) :
    Calls Try.prog 26 #[.agg #[.bool i, .bool e, .bool d, .string b, v, .int .i64 c], .int .i64 1] w fun x w' => x = .returned (.int .i64 (1 + (n : Int))) ∧ Below w.heap.size w w' := by
  have HS : Hid (∀ W, Below w.heap.size w W → Calls Try.prog 47 #[v, .int .i64 1] W fun e w' => e = .returned (.int .i64 (1 + (n : Int))) ∧ Below W.heap.size W w') := fun W hW => heldStringS_any base v n W hl (h.below hW)
  obtain ⟨p1, c1, rfl⟩ := h.shape
  clear h
  rw [marksL_length] at HS ⊢
  have hA := (Below.refl w.heap.size w).alloc (Nat.le_refl _) (.cells #[.bool i, .bool e, .bool d, .string b, .slice p1 n c1, .int .i64 c] 38)
  go_enter Try.func26, Try.ntmps26
  go_wp2_with (go_at_call 47; refine (HS.out _ hA).mono ?_; rintro e' w2 ⟨rfl, hb2⟩)
  go_ret
  exact ⟨rfl, keepB hA (Nat.le_refl _) hb2⟩
end Go.Proofs.Ytpejljjjfplmlae
