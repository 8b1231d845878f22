/- THE WALKS of the law's own questions of what SayRead tells: the same, marked, still marked. -/
import Derived.Test.YthmbfkppjijelaaSayTo
import Derived.Test.YthmbfkppjijelaaSayU
namespace Go.Proofs.Ythmbfkppjijelaa
open Go.RowKit
set_option linter.unusedVariables false
set_option linter.unusedSimpArgs false

theorem sayRes_len (s : ByteArray) : (sayRes s).1.ws.length ≤ 4 := by
  unfold sayRes
  split
  · simp [zeroSy]
  · split
    · simp [zeroSy]
    · rename_i y h
      exact (Sy.right_fits (saidR_right h).1).n
set_option maxRecDepth 100000 in
set_option maxHeartbeats 1600000 in
theorem eqSayOut_same (y : Sy) (c : Int) (v1 v2 : Value) (w : World) (hl : y.ws.length ≤ 10000000) (h1 : RowI w v1 y.ws) (h2 : RowI w v2 y.ws) :
    Calls Try.prog 24 #[.agg #[.int .i64 y.k, .int .i64 y.f, .int .i64 y.t, .int .i64 y.s.g, .int .i64 y.s.o, .int .i64 y.s.b, .int .i64 y.s.h, v1, .string y.b, .int .i64 c], .agg #[.int .i64 y.k, .int .i64 y.f, .int .i64 y.t, .int .i64 y.s.g, .int .i64 y.s.o, .int .i64 y.s.b, .int .i64 y.s.h, v2, .string y.b, .int .i64 c]] w fun x w' => x = .returned (.bool true) ∧ Below w.heap.size w w' := by
  have e3 : (c != c) = false := by simp
  have HE : Hid (∀ W, Below w.heap.size w W → Calls Try.prog 23 #[.agg #[.int .i64 y.k, .int .i64 y.f, .int .i64 y.t, .int .i64 y.s.g, .int .i64 y.s.o, .int .i64 y.s.b, .int .i64 y.s.h, v1, .string y.b], .agg #[.int .i64 y.k, .int .i64 y.f, .int .i64 y.t, .int .i64 y.s.g, .int .i64 y.s.o, .int .i64 y.s.b, .int .i64 y.s.h, v2, .string y.b]] W fun x w' => x = .returned (.bool true) ∧ Below W.heap.size W w') := fun W hW => eqSay_same y v1 v2 W hl (h1.below hW) (h2.below hW)
  obtain ⟨p1, c1, rfl, _⟩ := h1
  obtain ⟨p2, c2, rfl, _⟩ := h2
  have hA0 : Below w.heap.size w ((w.alloc (.cells #[.int .i64 y.k, .int .i64 y.f, .int .i64 y.t, .int .i64 y.s.g, .int .i64 y.s.o, .int .i64 y.s.b, .int .i64 y.s.h, .slice p1 y.ws.length c1, .string y.b, .int .i64 c] 32)).alloc (.cells #[.int .i64 y.k, .int .i64 y.f, .int .i64 y.t, .int .i64 y.s.g, .int .i64 y.s.o, .int .i64 y.s.b, .int .i64 y.s.h, .slice p2 y.ws.length c2, .string y.b, .int .i64 c] 32)) := keepB (all_alloc _ _) (Nat.le_refl _) (all_alloc _ _)
  go_enter Try.func24, Try.ntmps24
  go_wp2_with (go_at_call 23; refine (HE.out _ hA0).mono ?_; rintro e w1 ⟨rfl, hb1⟩; obtain ⟨hc1, hf1⟩ := bcellF hb1)
  go_ret
  exact ⟨rfl, keepB hA0 (Nat.le_refl _) hb1⟩
set_option maxRecDepth 100000 in
set_option maxHeartbeats 1600000 in
theorem markSay_any (y : Sy) (base : Nat) (v : Value) (w : World) (hl : y.ws.length ≤ 10000) (h : OwnI w base v y.ws) :
    Calls Try.prog 59 #[.agg #[.int .i64 y.k, .int .i64 y.f, .int .i64 y.t, .int .i64 y.s.g, .int .i64 y.s.o, .int .i64 y.s.b, .int .i64 y.s.h, v, .string y.b], .int .i64 1] w fun x w' => x = .returned (.int .i64 (1 + (y.ws.length : Int))) ∧ OwnI w' base v (countI y.ws.length) ∧ w.grownBy w' v.ownBlock := by
  have HS : Hid (∀ W, Below w.heap.size w W → Calls Try.prog 73 #[v, .int .i64 1] W fun e w' => e = .returned (.int .i64 (1 + (y.ws.length : Int))) ∧ OwnI w' base v (countI y.ws.length) ∧ W.grownBy w' v.ownBlock) := fun W hW => markInt64S_any base v y.ws W hl (h.below hW)
  obtain ⟨p1, c1, rfl⟩ := h.shape
  clear h
  have hA := all_alloc w (.cells #[.int .i64 y.k, .int .i64 y.f, .int .i64 y.t, .int .i64 y.s.g, .int .i64 y.s.o, .int .i64 y.s.b, .int .i64 y.s.h, .slice p1 y.ws.length c1, .string y.b] 27)
  go_enter Try.func59, Try.ntmps59
  go_wp2_with (go_at_call 73; refine (HS.out _ hA).mono ?_; rintro e' w2 ⟨rfl, hm, hg⟩)
  go_ret
  refine ⟨rfl, hm, ⟨hg.os, hg.tape, hg.output, Nat.le_trans hA.size hg.size, fun k hk hr => (hg.block k (Nat.lt_of_lt_of_le hk hA.size) hr).trans (hA.block k hk)⟩⟩
set_option maxRecDepth 100000 in
set_option maxHeartbeats 1600000 in
theorem markSayOut_any (y : Sy) (c : Int) (base : Nat) (v : Value) (w : World) (hl : y.ws.length ≤ 10000) (h : OwnI w base v y.ws) :
    Calls Try.prog 25 #[.agg #[.int .i64 y.k, .int .i64 y.f, .int .i64 y.t, .int .i64 y.s.g, .int .i64 y.s.o, .int .i64 y.s.b, .int .i64 y.s.h, v, .string y.b, .int .i64 c], .int .i64 1] w fun x w' => x = .returned (.int .i64 (1 + (y.ws.length : Int))) ∧ OwnI w' base v (countI y.ws.length) ∧ w.grownBy w' v.ownBlock := by
  have HS : Hid (∀ W, Below w.heap.size w W → Calls Try.prog 59 #[.agg #[.int .i64 y.k, .int .i64 y.f, .int .i64 y.t, .int .i64 y.s.g, .int .i64 y.s.o, .int .i64 y.s.b, .int .i64 y.s.h, v, .string y.b], .int .i64 1] W fun e w' => e = .returned (.int .i64 (1 + (y.ws.length : Int))) ∧ OwnI w' base v (countI y.ws.length) ∧ W.grownBy w' v.ownBlock) := fun W hW => markSay_any y base v W hl (h.below hW)
  obtain ⟨p1, c1, rfl⟩ := h.shape
  clear h
  have hA := all_alloc w (.cells #[.int .i64 y.k, .int .i64 y.f, .int .i64 y.t, .int .i64 y.s.g, .int .i64 y.s.o, .int .i64 y.s.b, .int .i64 y.s.h, .slice p1 y.ws.length c1, .string y.b, .int .i64 c] 32)
  go_enter Try.func25, Try.ntmps25
  go_wp2_with (go_at_call 59; refine (HS.out _ hA).mono ?_; rintro e' w2 ⟨rfl, hm, hg⟩)
  go_ret
  refine ⟨rfl, hm, ⟨hg.os, hg.tape, hg.output, Nat.le_trans hA.size hg.size, fun k hk hr => (hg.block k (Nat.lt_of_lt_of_le hk hA.size) hr).trans (hA.block k hk)⟩⟩
set_option maxRecDepth 100000 in
set_option maxHeartbeats 1600000 in
theorem heldSay_any (y : Sy) (base : Nat) (v : Value) (w : World) (hl : y.ws.length ≤ 10000) (h : OwnI w base v (countI y.ws.length)) :
    Calls Try.prog 60 #[.agg #[.int .i64 y.k, .int .i64 y.f, .int .i64 y.t, .int .i64 y.s.g, .int .i64 y.s.o, .int .i64 y.s.b, .int .i64 y.s.h, v, .string y.b], .int .i64 1] w fun x w' => x = .returned (.int .i64 (1 + (y.ws.length : Int))) ∧ Below w.heap.size w w' := by
  have HS : Hid (∀ W, Below w.heap.size w W → Calls Try.prog 74 #[v, .int .i64 1] W fun e w' => e = .returned (.int .i64 (1 + (y.ws.length : Int))) ∧ Below W.heap.size W w') := fun W hW => heldInt64S_any base v y.ws.length W hl (h.below hW)
  obtain ⟨p1, c1, rfl⟩ := h.shape
  clear h
  rw [countI_length] at HS ⊢
  have hA := all_alloc w (.cells #[.int .i64 y.k, .int .i64 y.f, .int .i64 y.t, .int .i64 y.s.g, .int .i64 y.s.o, .int .i64 y.s.b, .int .i64 y.s.h, .slice p1 y.ws.length c1, .string y.b] 27)
  have tq : ¬ 1 + (y.ws.length : Int) < 0 := by omega
  go_enter Try.func60, Try.ntmps60
  go_wp2_with (go_at_call 74; refine (HS.out _ hA).mono ?_; rintro e' w2 ⟨rfl, hb2⟩)
  go_ret
  exact ⟨rfl, keepB hA (Nat.le_refl _) hb2⟩
set_option maxRecDepth 100000 in
set_option maxHeartbeats 1600000 in
theorem heldSayOut_any (y : Sy) (c : Int) (base : Nat) (v : Value) (w : World) (hl : y.ws.length ≤ 10000) (h : OwnI w base v (countI y.ws.length)) :
    Calls Try.prog 26 #[.agg #[.int .i64 y.k, .int .i64 y.f, .int .i64 y.t, .int .i64 y.s.g, .int .i64 y.s.o, .int .i64 y.s.b, .int .i64 y.s.h, v, .string y.b, .int .i64 c], .int .i64 1] w fun x w' => x = .returned (.int .i64 (1 + (y.ws.length : Int))) ∧ Below w.heap.size w w' := by
  have HS : Hid (∀ W, Below w.heap.size w W → Calls Try.prog 60 #[.agg #[.int .i64 y.k, .int .i64 y.f, .int .i64 y.t, .int .i64 y.s.g, .int .i64 y.s.o, .int .i64 y.s.b, .int .i64 y.s.h, v, .string y.b], .int .i64 1] W fun e w' => e = .returned (.int .i64 (1 + (y.ws.length : Int))) ∧ Below W.heap.size W w') := fun W hW => heldSay_any y base v W hl (h.below hW)
  obtain ⟨p1, c1, rfl⟩ := h.shape
  clear h
  rw [countI_length] at HS ⊢
  have hA := all_alloc w (.cells #[.int .i64 y.k, .int .i64 y.f, .int .i64 y.t, .int .i64 y.s.g, .int .i64 y.s.o, .int .i64 y.s.b, .int .i64 y.s.h, .slice p1 y.ws.length c1, .string y.b, .int .i64 c] 32)
  have tq : ¬ 1 + (y.ws.length : Int) < 0 := by omega
  go_enter Try.func26, Try.ntmps26
  go_wp2_with (go_at_call 60; refine (HS.out _ hA).mono ?_; rintro e' w2 ⟨rfl, hb2⟩)
  go_ret
  exact ⟨rfl, keepB hA (Nat.le_refl _) hb2⟩
theorem OwnI.of_keep {base : Nat} {v : Value} {l : List Int} {X Y : World} (h : OwnI X base v l) (hk : ∀ g, g < X.heap.size → Y.heap[g]? = X.heap[g]?) : OwnI Y base v l := by
  refine ⟨h.1, h.2.imp id ?_⟩
  rintro ⟨g, cap, cur, e1, e2, e3, e4⟩
  exact ⟨g, cap, cur, e1, e2, (hk g (Array.getElem?_eq_some_iff.1 e3).1).trans e3, e4⟩
end Go.Proofs.Ythmbfkppjijelaa
