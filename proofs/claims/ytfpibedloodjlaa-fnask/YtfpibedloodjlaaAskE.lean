/- THE BYTES OF A QUESTION: the model's own, at every question. -/
import Derived.Test.YtfpibedloodjlaaAskD
namespace Go.Proofs.Ytfpibedloodjlaa
open Go.RowKit
set_option linter.unusedVariables false
set_option linter.unusedSimpArgs false

theorem one_of {vs : List Int} (h : vs.length = 1) : ∃ v, vs = [v] := by
  match vs, h with
  | [v], _ => exact ⟨v, rfl⟩
theorem askB_eq {q : Ak} {s : ByteArray} (hR : q.right = true) (h : s.data.toList = askL q) : s = askB q := by
  unfold askB
  rw [if_pos hR]
  exact ByteArray.ext (Array.ext' (by rw [h]))
set_option maxRecDepth 100000 in
set_option maxHeartbeats 800000 in
theorem specAskBytes_any (q : Ak) (p : Option Addr) (c : Nat) (w : World) (hl : q.vs.length ≤ 10000000) (hr : RowI w (.slice p q.vs.length c) q.vs) :
    Calls Try.prog 15 #[.agg #[.int .i64 q.c, .int .i64 q.a, .int .i64 q.m, .slice p q.vs.length c]] w fun e w' => e = .returned (.string (askB q)) ∧ Below w.heap.size w w' := by
  have HSR : Hid (∀ W, Below w.heap.size w W → Calls Try.prog 17 #[.agg #[.int .i64 q.c, .int .i64 q.a, .int .i64 q.m, .slice p q.vs.length c]] W fun e w' => e = .returned (.bool q.right) ∧ Below W.heap.size W w') := fun W hW => specAskRight_any q p c W hl (hr.below hW)
  cases hR : q.right with
  | false =>
    rw [askB_size q hR]
    rw [hR] at HSR
    clear hr
    go_enter Try.func15, Try.ntmps15
    go_wp2_with (go_at_call 17; refine (HSR.out _ (all_alloc _ _)).mono ?_; rintro e w1 ⟨rfl, hb1⟩)
    go_ret
    exact ⟨rfl, keepB (all_alloc _ _) (Nat.le_refl _) hb1⟩
  | true =>
    rw [hR] at HSR
    have hc := Ak.codes hR
    have h2 := hR
    unfold Ak.right at h2
    rw [Bool.and_eq_true] at h2
    have ha := (wordB_iff _).1 h2.1
    have hf := h2.2
    have key : ∀ s : ByteArray, s.data.toList = askL q → s = askB q := fun s h => askB_eq hR h
    clear hR h2
    obtain ⟨k, a, m, vs⟩ := q
    dsimp only at *
    rcases hc with rfl | rfl | rfl | rfl | rfl | rfl
    · simp [Ak.fit] at hf
      have := bytesS_1 a m vs p c w ha (by omega) hr HSR
      refine this.mono ?_
      rintro e w' ⟨rfl, hb1⟩
      exact ⟨congrArg (fun x => Ending.returned (Value.string x)) (key _ (by simp [oneB, twoB, askL, Ak.tail])), hb1⟩
    · simp [Ak.fit] at hf
      have := bytesS_3 a m vs p c w ha (by omega) hr HSR
      refine this.mono ?_
      rintro e w' ⟨rfl, hb1⟩
      exact ⟨congrArg (fun x => Ending.returned (Value.string x)) (key _ (by simp [oneB, twoB, askL, Ak.tail])), hb1⟩
    · have hf2 : (decide (m = 1) && (decide (vs.length = 1) && vs.all bitB)) = true := hf
      rw [Bool.and_eq_true, Bool.and_eq_true, decide_eq_true_eq, decide_eq_true_eq] at hf2
      obtain ⟨v, hv⟩ := one_of hf2.2.1
      have hb : v = 0 ∨ v = 1 := (bitB_iff _).1 (List.all_eq_true.1 hf2.2.2 v (by rw [hv]; simp))
      have := bytesS_5 a m vs p c w ha v hv hb hr HSR
      refine this.mono ?_
      rintro e w' ⟨rfl, hb1⟩
      exact ⟨congrArg (fun x => Ending.returned (Value.string x)) (key _ (by subst hv; simp [oneB, twoB, askL, Ak.tail])), hb1⟩
    · have hf2 : (decide (m = 1) && (decide (vs.length = 1) && vs.all wordB)) = true := hf
      rw [Bool.and_eq_true, Bool.and_eq_true, decide_eq_true_eq, decide_eq_true_eq] at hf2
      obtain ⟨v, hv⟩ := one_of hf2.2.1
      have hb : 0 ≤ v ∧ v ≤ 65535 := (wordB_iff _).1 (List.all_eq_true.1 hf2.2.2 v (by rw [hv]; simp))
      have := bytesS_6 a m vs p c w ha v hv hb hr HSR
      refine this.mono ?_
      rintro e w' ⟨rfl, hb1⟩
      exact ⟨congrArg (fun x => Ending.returned (Value.string x)) (key _ (by subst hv; simp [oneB, twoB, askL, Ak.tail])), hb1⟩
    · have hf2 : ((decide (1 ≤ m) && decide (m ≤ 16)) && (decide ((vs.length : Int) = m) && vs.all bitB)) = true := hf
      rw [Bool.and_eq_true, Bool.and_eq_true, Bool.and_eq_true, decide_eq_true_eq, decide_eq_true_eq, decide_eq_true_eq] at hf2
      have := bytesS_15 a m vs p c w ha (by omega) (by omega) hr HSR
      refine this.mono ?_
      rintro e w' ⟨rfl, hb1⟩
      exact ⟨congrArg (fun x => Ending.returned (Value.string x)) (key _ (by simp [oneB, twoB, packB, askL, Ak.tail])), hb1⟩
    · have hf2 : ((decide (1 ≤ m) && decide (m ≤ 4)) && (decide ((vs.length : Int) = m) && vs.all wordB)) = true := hf
      rw [Bool.and_eq_true, Bool.and_eq_true, Bool.and_eq_true, decide_eq_true_eq, decide_eq_true_eq, decide_eq_true_eq] at hf2
      have := bytesS_16 a m vs p c w ha (by omega) (by omega) hf2.2.2 hr HSR
      refine this.mono ?_
      rintro e w' ⟨rfl, hb1⟩
      exact ⟨congrArg (fun x => Ending.returned (Value.string x)) (key _ (by simp [oneB, twoB, wordsB, askL, Ak.tail])), hb1⟩
end Go.Proofs.Ytfpibedloodjlaa
