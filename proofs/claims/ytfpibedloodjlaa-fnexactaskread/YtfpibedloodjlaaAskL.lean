/- THE LAW'S OWN QUESTIONS of what was read: the same, marked, still marked. -/
import Derived.Test.YtfpibedloodjlaaAskIn
import Derived.Test.YtfpibedloodjlaaIntsB
namespace Go.Proofs.Ytfpibedloodjlaa
open Go.RowKit
set_option linter.unusedVariables false
set_option linter.unusedSimpArgs false

theorem grown_after {w a b : World} {row : Option Nat} (h : Below w.heap.size w a) (g : a.grownBy b row) : w.grownBy b row :=
  ⟨g.os.trans h.os, g.tape.trans h.tape, g.output.trans h.output, Nat.le_trans h.size g.size, fun i hi hr => (g.block i (Nat.lt_of_lt_of_le hi h.size) hr).trans (h.block i hi)⟩
set_option maxRecDepth 100000 in
set_option maxHeartbeats 800000 in
theorem eqAskOut_same (q : Ak) (k : Int) (v1 v2 : Value) (w : World) (hl : q.vs.length ≤ 10000000) (h1 : RowI w v1 q.vs) (h2 : RowI w v2 q.vs) :
    Calls Try.prog 27 #[.agg #[.int .i64 q.c, .int .i64 q.a, .int .i64 q.m, v1, .int .i64 k], .agg #[.int .i64 q.c, .int .i64 q.a, .int .i64 q.m, v2, .int .i64 k]] w fun x w' => x = .returned (.bool true) ∧ Below w.heap.size w w' := by
  have e2 : (k != k) = false := by simp
  have HE : Hid (∀ W, Below w.heap.size w W → Calls Try.prog 26 #[.agg #[.int .i64 q.c, .int .i64 q.a, .int .i64 q.m, v1], .agg #[.int .i64 q.c, .int .i64 q.a, .int .i64 q.m, v2]] W fun e w' => e = .returned (.bool true) ∧ Below W.heap.size W w') := fun W hW => eqAsk_same q v1 v2 W hl (h1.below hW) (h2.below hW)
  obtain ⟨p1, c1, rfl, _⟩ := h1
  obtain ⟨p2, c2, rfl, _⟩ := h2
  have hA0 : Below w.heap.size w ((w.alloc (.cells #[.int .i64 q.c, .int .i64 q.a, .int .i64 q.m, .slice p1 q.vs.length c1, .int .i64 k] 30)).alloc (.cells #[.int .i64 q.c, .int .i64 q.a, .int .i64 q.m, .slice p2 q.vs.length c2, .int .i64 k] 30)) := keepB (all_alloc _ _) (Nat.le_refl _) (all_alloc _ _)
  go_enter Try.func27, Try.ntmps27
  go_wp2_with (go_at_call 26; refine (HE.out _ hA0).mono ?_; rintro e w1 ⟨rfl, hb1⟩; obtain ⟨hc1, hf1⟩ := bcellF hb1; have hB1 := keepB hA0 (Nat.le_refl _) hb1; have hz1 : w.heap.size + 1 < w1.heap.size := (by have := hb1.size; simp at this; omega); have hz0 : w.heap.size < w1.heap.size := (by omega))
  go_ret
  exact ⟨rfl, hB1⟩
set_option maxRecDepth 100000 in
theorem markAsk_any (q : Ak) (base : Nat) (v : Value) (w : World) (hl : q.vs.length ≤ 10000) (h : OwnI w base v q.vs) :
    Calls Try.prog 59 #[.agg #[.int .i64 q.c, .int .i64 q.a, .int .i64 q.m, v], .int .i64 1] w fun e w' => e = .returned (.int .i64 (1 + (q.vs.length : Int))) ∧ OwnI w' base v (countI q.vs.length) ∧ w.grownBy w' v.ownBlock := by
  have HM : Hid (∀ W, Below w.heap.size w W → Calls Try.prog 67 #[v, .int .i64 1] W fun e w' => e = .returned (.int .i64 (1 + (q.vs.length : Int))) ∧ OwnI w' base v (countI q.vs.length) ∧ W.grownBy w' v.ownBlock) := fun W hW => markInt64S_any base v q.vs W hl (h.below hW)
  obtain ⟨p, c, rfl⟩ := h.shape
  have hA0 : Below w.heap.size w (w.alloc (.cells #[.int .i64 q.c, .int .i64 q.a, .int .i64 q.m, .slice p q.vs.length c] 25)) := all_alloc _ _
  go_enter Try.func59, Try.ntmps59
  go_wp2_with (go_at_call 67; refine (HM.out _ hA0).mono ?_; rintro e w1 ⟨rfl, hm, hg⟩)
  go_ret
  exact ⟨rfl, hm, grown_after hA0 hg⟩
set_option maxRecDepth 100000 in
theorem markAskOut_any (q : Ak) (k : Int) (base : Nat) (v : Value) (w : World) (hl : q.vs.length ≤ 10000) (h : OwnI w base v q.vs) :
    Calls Try.prog 28 #[.agg #[.int .i64 q.c, .int .i64 q.a, .int .i64 q.m, v, .int .i64 k], .int .i64 1] w fun e w' => e = .returned (.int .i64 (1 + (q.vs.length : Int))) ∧ OwnI w' base v (countI q.vs.length) ∧ w.grownBy w' v.ownBlock := by
  have HM : Hid (∀ W, Below w.heap.size w W → Calls Try.prog 59 #[.agg #[.int .i64 q.c, .int .i64 q.a, .int .i64 q.m, v], .int .i64 1] W fun e w' => e = .returned (.int .i64 (1 + (q.vs.length : Int))) ∧ OwnI w' base v (countI q.vs.length) ∧ W.grownBy w' v.ownBlock) := fun W hW => markAsk_any q base v W hl (h.below hW)
  obtain ⟨p, c, rfl⟩ := h.shape
  have hA0 : Below w.heap.size w (w.alloc (.cells #[.int .i64 q.c, .int .i64 q.a, .int .i64 q.m, .slice p q.vs.length c, .int .i64 k] 30)) := all_alloc _ _
  go_enter Try.func28, Try.ntmps28
  go_wp2_with (go_at_call 59; refine (HM.out _ hA0).mono ?_; rintro e w1 ⟨rfl, hm, hg⟩)
  go_ret
  exact ⟨rfl, hm, grown_after hA0 hg⟩
set_option maxRecDepth 100000 in
theorem heldAsk_any (q : Ak) (base n : Nat) (v : Value) (w : World) (hl : n ≤ 10000) (h : OwnI w base v (countI n)) :
    Calls Try.prog 60 #[.agg #[.int .i64 q.c, .int .i64 q.a, .int .i64 q.m, v], .int .i64 1] w fun e w' => e = .returned (.int .i64 (1 + (n : Int))) ∧ Below w.heap.size w w' := by
  have HM : Hid (∀ W, Below w.heap.size w W → Calls Try.prog 68 #[v, .int .i64 1] W fun e w' => e = .returned (.int .i64 (1 + (n : Int))) ∧ Below W.heap.size W w') := fun W hW => heldInt64S_any base v n W hl (h.below hW)
  obtain ⟨p, c, rfl⟩ := h.shape
  rw [countI_length] at HM ⊢
  have hA0 : Below w.heap.size w (w.alloc (.cells #[.int .i64 q.c, .int .i64 q.a, .int .i64 q.m, .slice p n c] 25)) := all_alloc _ _
  have h0 : ¬ (1 : Int) + (n : Int) < 0 := by omega
  go_enter Try.func60, Try.ntmps60
  go_wp2_with (go_at_call 68; refine (HM.out _ hA0).mono ?_; rintro e w1 ⟨rfl, hb⟩)
  go_ret
  exact ⟨rfl, keepB hA0 (Nat.le_refl _) hb⟩
set_option maxRecDepth 100000 in
theorem heldAskOut_any (q : Ak) (k : Int) (base n : Nat) (v : Value) (w : World) (hl : n ≤ 10000) (h : OwnI w base v (countI n)) :
    Calls Try.prog 29 #[.agg #[.int .i64 q.c, .int .i64 q.a, .int .i64 q.m, v, .int .i64 k], .int .i64 1] w fun e w' => e = .returned (.int .i64 (1 + (n : Int))) ∧ Below w.heap.size w w' := by
  have HM : Hid (∀ W, Below w.heap.size w W → Calls Try.prog 60 #[.agg #[.int .i64 q.c, .int .i64 q.a, .int .i64 q.m, v], .int .i64 1] W fun e w' => e = .returned (.int .i64 (1 + (n : Int))) ∧ Below W.heap.size W w') := fun W hW => heldAsk_any q base n v W hl (h.below hW)
  obtain ⟨p, c, rfl⟩ := h.shape
  rw [countI_length] at HM ⊢
  have hA0 : Below w.heap.size w (w.alloc (.cells #[.int .i64 q.c, .int .i64 q.a, .int .i64 q.m, .slice p n c, .int .i64 k] 30)) := all_alloc _ _
  have h0 : ¬ (1 : Int) + (n : Int) < 0 := by omega
  go_enter Try.func29, Try.ntmps29
  go_wp2_with (go_at_call 60; refine (HM.out _ hA0).mono ?_; rintro e w1 ⟨rfl, hb⟩)
  go_ret
  exact ⟨rfl, keepB hA0 (Nat.le_refl _) hb⟩
end Go.Proofs.Ytfpibedloodjlaa
