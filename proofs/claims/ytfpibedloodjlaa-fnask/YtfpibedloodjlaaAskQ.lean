/- A QUESTION behind its interface, and whether it is right: the program's. -/
import Derived.Test.YtfpibedloodjlaaAsk
namespace Go.Proofs.Ytfpibedloodjlaa
open Go.RowKit
set_option linter.unusedVariables false
set_option linter.unusedSimpArgs false

def fitsB (q : Ak) : Bool := if q.c = 1 ∨ q.c = 3 then decide (q.vs.length = 0) else if q.c = 5 ∨ q.c = 6 ∨ q.c = 15 ∨ q.c = 16 then setsB q else false
def qType (c : Int) : TypeId := if c = 1 ∨ c = 3 then 75 else if c = 5 ∨ c = 6 then 76 else if c = 15 ∨ c = 16 then 77 else 80
def qVal (q : Ak) (v : Value) : Value := if q.c = 1 ∨ q.c = 3 ∨ q.c = 5 ∨ q.c = 6 ∨ q.c = 15 ∨ q.c = 16 then .agg #[.int .i64 q.c, .int .i64 q.a, .int .i64 q.m, v] else .agg #[]
set_option maxRecDepth 100000 in
set_option maxHeartbeats 800000 in
theorem questionOf_any (q : Ak) (v : Value) (hv : ∃ p n c, v = .slice p n c) (w : World) :
    Calls Try.prog 38 #[.agg #[.int .i64 q.c, .int .i64 q.a, .int .i64 q.m, v]] w fun e w' => e = .returned (.iface (qType q.c) (qVal q v)) ∧ Below w.heap.size w w' := by
  obtain ⟨p, n, cp, rfl⟩ := hv
  obtain ⟨c, a, m, vs⟩ := q
  dsimp only
  unfold qVal qType
  rcases code_cases c with rfl | rfl | rfl | rfl | rfl | rfl | h
  all_goals try
    dsimp only
    go_enter Try.func38, Try.ntmps38
    go_wp2
    go_ret
    exact ⟨rfl, all_alloc _ _⟩
set_option maxRecDepth 100000 in
set_option maxHeartbeats 800000 in
/-- who stands behind the interface, and what is answered there -/
theorem quest (q : Ak) (p : Option Addr) (c : Nat) (w : World) (hl : q.vs.length ≤ 10000000) (hr : RowI w (.slice p q.vs.length c) q.vs) :
    ∃ (F : Nat), (∀ W : World, (method 203 (qType q.c) (qVal q (.slice p q.vs.length c)) "loop.example/g00556/impl.valuesFit").run Try.prog W = .ok (F, qVal q (.slice p q.vs.length c)) W) ∧ (∀ (W : World) (V : Value), (callFunc F #[V]).run Try.prog W = .ok (.enter F #[V]) W) ∧
      ∀ W, Below w.heap.size w W → Calls Try.prog F #[qVal q (.slice p q.vs.length c)] W fun e w' => e = .returned (.bool (fitsB q)) ∧ Below W.heap.size W w' := by
  have HS : Hid (∀ W, Below w.heap.size w W → Calls Try.prog 88 #[.agg #[.int .i64 q.c, .int .i64 q.a, .int .i64 q.m, .slice p q.vs.length c]] W fun e w' => e = .returned (.bool (setsB q)) ∧ Below W.heap.size W w') := fun W hW => setsRight_any q p c W hl (hr.below hW)
  clear hr
  obtain ⟨k, a, m, vs⟩ := q
  dsimp only at *
  unfold qVal qType fitsB
  dsimp only
  generalize setsB _ = B at HS ⊢
  rcases code_cases k with rfl | rfl | rfl | rfl | rfl | rfl | h
  · refine ⟨86, fun W => by kernel_rfl, fun W V => by kernel_rfl, fun W hW => ?_⟩
    clear HS hW
    generalize vs.length = n
    have e0 : (((n : Int)) == 0) = decide (n = 0) := by rw [Bool.eq_iff_iff]; simp
    show Calls Try.prog 86 #[.agg #[.int .i64 1, .int .i64 a, .int .i64 m, .slice p n c]] W fun e w' => e = .returned (.bool (decide (n = 0))) ∧ Below W.heap.size W w'
    go_enter Try.func86, Try.ntmps86
    go_wp2
    go_ret
    exact ⟨ret_bool (by first | exact e0 | exact decide_eq_decide.2 (by omega)), all_alloc _ _⟩
  · refine ⟨86, fun W => by kernel_rfl, fun W V => by kernel_rfl, fun W hW => ?_⟩
    clear HS hW
    generalize vs.length = n
    have e0 : (((n : Int)) == 0) = decide (n = 0) := by rw [Bool.eq_iff_iff]; simp
    show Calls Try.prog 86 #[.agg #[.int .i64 3, .int .i64 a, .int .i64 m, .slice p n c]] W fun e w' => e = .returned (.bool (decide (n = 0))) ∧ Below W.heap.size W w'
    go_enter Try.func86, Try.ntmps86
    go_wp2
    go_ret
    exact ⟨ret_bool (by first | exact e0 | exact decide_eq_decide.2 (by omega)), all_alloc _ _⟩
  · refine ⟨87, fun W => by kernel_rfl, fun W V => by kernel_rfl, fun W hW => ?_⟩
    have hA := keepB hW (Nat.le_refl _) (all_alloc W (.cells #[.int .i64 5, .int .i64 a, .int .i64 m, .slice p vs.length c] 76))
    show Calls Try.prog 87 #[.agg #[.int .i64 5, .int .i64 a, .int .i64 m, .slice p vs.length c]] W fun e w' => e = .returned (.bool B) ∧ Below W.heap.size W w'
    go_enter Try.func87, Try.ntmps87
    go_wp2_with (go_at_call 88; refine (HS.out _ hA).mono ?_; rintro e w1 ⟨rfl, hb1⟩)
    go_ret
    exact ⟨rfl, keepB (all_alloc _ _) (Nat.le_refl _) hb1⟩
  · refine ⟨87, fun W => by kernel_rfl, fun W V => by kernel_rfl, fun W hW => ?_⟩
    have hA := keepB hW (Nat.le_refl _) (all_alloc W (.cells #[.int .i64 6, .int .i64 a, .int .i64 m, .slice p vs.length c] 76))
    show Calls Try.prog 87 #[.agg #[.int .i64 6, .int .i64 a, .int .i64 m, .slice p vs.length c]] W fun e w' => e = .returned (.bool B) ∧ Below W.heap.size W w'
    go_enter Try.func87, Try.ntmps87
    go_wp2_with (go_at_call 88; refine (HS.out _ hA).mono ?_; rintro e w1 ⟨rfl, hb1⟩)
    go_ret
    exact ⟨rfl, keepB (all_alloc _ _) (Nat.le_refl _) hb1⟩
  · refine ⟨89, fun W => by kernel_rfl, fun W V => by kernel_rfl, fun W hW => ?_⟩
    have hA := keepB hW (Nat.le_refl _) (all_alloc W (.cells #[.int .i64 15, .int .i64 a, .int .i64 m, .slice p vs.length c] 77))
    show Calls Try.prog 89 #[.agg #[.int .i64 15, .int .i64 a, .int .i64 m, .slice p vs.length c]] W fun e w' => e = .returned (.bool B) ∧ Below W.heap.size W w'
    go_enter Try.func89, Try.ntmps89
    go_wp2_with (go_at_call 88; refine (HS.out _ hA).mono ?_; rintro e w1 ⟨rfl, hb1⟩)
    go_ret
    exact ⟨rfl, keepB (all_alloc _ _) (Nat.le_refl _) hb1⟩
  · refine ⟨89, fun W => by kernel_rfl, fun W V => by kernel_rfl, fun W hW => ?_⟩
    have hA := keepB hW (Nat.le_refl _) (all_alloc W (.cells #[.int .i64 16, .int .i64 a, .int .i64 m, .slice p vs.length c] 77))
    show Calls Try.prog 89 #[.agg #[.int .i64 16, .int .i64 a, .int .i64 m, .slice p vs.length c]] W fun e w' => e = .returned (.bool B) ∧ Below W.heap.size W w'
    go_enter Try.func89, Try.ntmps89
    go_wp2_with (go_at_call 88; refine (HS.out _ hA).mono ?_; rintro e w1 ⟨rfl, hb1⟩)
    go_ret
    exact ⟨rfl, keepB (all_alloc _ _) (Nat.le_refl _) hb1⟩
  obtain ⟨h1, h3, h5, h6, h15, h16⟩ := h
  simp only [h1, h3, h5, h6, h15, h16, or_self, if_false]
  refine ⟨90, fun W => by kernel_rfl, fun W V => by kernel_rfl, fun W hW => ?_⟩
  go_enter Try.func90, Try.ntmps90
  go_wp2
  go_ret
  exact ⟨rfl, all_alloc _ _⟩
end Go.Proofs.Ytfpibedloodjlaa
