/- THE WALKS of a question's parts: the program's small functions. -/
import Derived.Test.YtfpibedloodjlaaBits
import Derived.Test.YtfpibedloodjlaaPlainAsk2
import Derived.Test.YtfpibedloodjlaaSt
import Derived.Test.YtfpibedloodjlaaBox
import Derived.Test.YtfpibedloodjlaaTail
import Derived.BigQuiet
namespace Go.Proofs.Ytfpibedloodjlaa
open Go.RowKit
set_option linter.unusedVariables false
set_option linter.unusedSimpArgs false

def coilB (c : Int) : Bool := decide (c = 1 ∨ c = 5 ∨ c = 15)
def mostB (c : Int) : Int := if c = 1 then 64 else if c = 3 then 8 else if c = 5 ∨ c = 6 then 1 else if c = 15 then 16 else if c = 16 then 4 else 0
theorem code_cases (c : Int) : c = 1 ∨ c = 3 ∨ c = 5 ∨ c = 6 ∨ c = 15 ∨ c = 16 ∨ (¬ c = 1 ∧ ¬ c = 3 ∧ ¬ c = 5 ∧ ¬ c = 6 ∧ ¬ c = 15 ∧ ¬ c = 16) := by omega
theorem code_no {c : Int} (h : ¬ c = 1 ∧ ¬ c = 3 ∧ ¬ c = 5 ∧ ¬ c = 6 ∧ ¬ c = 15 ∧ ¬ c = 16) : (c == 1) = false ∧ (c == 3) = false ∧ (c == 5) = false ∧ (c == 6) = false ∧ (c == 15) = false ∧ (c == 16) = false := by
  obtain ⟨h1, h2, h3, h4, h5, h6⟩ := h
  simp [h1, h2, h3, h4, h5, h6]
theorem asksCoils_any (c : Int) (w : World) :
    Calls Try.prog 61 #[.int .i64 c] w fun e w' => e = .returned (.bool (coilB c)) ∧ w = w' := by
  rcases code_cases c with rfl | rfl | rfl | rfl | rfl | rfl | h
  all_goals try
    go_enter Try.func61, Try.ntmps61
    go_wp2
    go_ret
    exact ⟨rfl, rfl⟩
  have hB : coilB c = false := by unfold coilB; exact decide_eq_false (by omega)
  obtain ⟨e1, e3, e5, e6, e15, e16⟩ := code_no h
  rw [hB]
  clear h hB
  go_enter Try.func61, Try.ntmps61
  go_wp2
  go_ret
  exact ⟨rfl, rfl⟩
theorem mostOf_any (c : Int) (w : World) :
    Calls Try.prog 51 #[.int .i64 c] w fun e w' => e = .returned (.int .i64 (mostB c)) ∧ w = w' := by
  rcases code_cases c with rfl | rfl | rfl | rfl | rfl | rfl | h
  all_goals try
    go_enter Try.func51, Try.ntmps51
    go_wp2
    go_ret
    exact ⟨rfl, rfl⟩
  have hB : mostB c = 0 := by unfold mostB; rw [if_neg (by omega), if_neg (by omega), if_neg (by omega), if_neg (by omega), if_neg (by omega)]
  obtain ⟨e1, e3, e5, e6, e15, e16⟩ := code_no h
  rw [hB]
  clear h hB
  go_enter Try.func51, Try.ntmps51
  go_wp2
  go_ret
  exact ⟨rfl, rfl⟩
def setsB (q : Ak) : Bool := decide ((q.vs.length : Int) = q.m) && q.vs.all (upTo (if coilB q.c then 1 else 65535))
set_option maxRecDepth 100000 in
set_option maxHeartbeats 800000 in
theorem setsRight_any (q : Ak) (p : Option Addr) (c : Nat) (w : World) (hl : q.vs.length ≤ 10000000) (hr : RowI w (.slice p q.vs.length c) q.vs) :
    Calls Try.prog 88 #[.agg #[.int .i64 q.c, .int .i64 q.a, .int .i64 q.m, .slice p q.vs.length c]] w fun e w' => e = .returned (.bool (setsB q)) ∧ Below w.heap.size w w' := by
  have HR : Hid (∀ W, Below w.heap.size w W → RowI W (.slice p q.vs.length c) q.vs) := fun W hW => hr.below hW
  have HA : Hid (∀ W top, Below w.heap.size w W → Calls Try.prog 43 #[.slice p q.vs.length c, .int .i64 top] W fun e w' => e = .returned (.bool (q.vs.all (upTo top))) ∧ W = w') := fun W top hW => allUpTo_any _ q.vs top W hl (HR.out W hW)
  have HC : Hid (∀ W, Calls Try.prog 61 #[.int .i64 q.c] W fun e w' => e = .returned (.bool (coilB q.c)) ∧ W = w') := fun W => asksCoils_any q.c W
  have hA0 := all_alloc w (.cells #[.int .i64 q.c, .int .i64 q.a, .int .i64 q.m, .slice p q.vs.length c] 25)
  unfold setsB
  clear hr
  by_cases hm : (q.vs.length : Int) = q.m
  · rw [decide_eq_true hm, Bool.true_and]
    have em : ((q.vs.length : Int) != q.m) = false := by simp [hm]
    cases hc : coilB q.c with
    | true =>
      rw [hc] at HC
      rw [if_pos rfl]
      clear hm hc
      go_enter Try.func88, Try.ntmps88
      go_wp2_with (first
        | (go_at_call 61; refine (HC.out _).mono ?_; rintro e w1 ⟨rfl, rfl⟩)
        | (go_at_call 43; refine (HA.out _ _ hA0).mono ?_; rintro e w1 ⟨rfl, rfl⟩))
      go_ret
      exact ⟨rfl, all_alloc _ _⟩
    | false =>
      rw [hc] at HC
      rw [if_neg (by decide)]
      clear hm hc
      go_enter Try.func88, Try.ntmps88
      go_wp2_with (first
        | (go_at_call 61; refine (HC.out _).mono ?_; rintro e w1 ⟨rfl, rfl⟩)
        | (go_at_call 43; refine (HA.out _ _ hA0).mono ?_; rintro e w1 ⟨rfl, rfl⟩))
      go_ret
      exact ⟨rfl, all_alloc _ _⟩
  · rw [decide_eq_false hm, Bool.false_and]
    have em : ((q.vs.length : Int) != q.m) = true := by simp [hm]
    clear hm
    go_enter Try.func88, Try.ntmps88
    go_wp2
    go_ret
    exact ⟨rfl, all_alloc _ _⟩
end Go.Proofs.Ytfpibedloodjlaa
