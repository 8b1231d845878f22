/- THE LAW's OWN QUESTION of two questions: the same is the same. -/
import Derived.Test.YtfpibedloodjlaaInts
import Derived.WalkKit
import Derived.WalkSpells
import Derived.Outline
import Derived.Below
import Derived.Deep.QuietTactic
import Derived.BigQuiet
import Derived.Test.YtfpibedloodjlaaPlainAsk
import Derived.Test.YtfpibedloodjlaaBox
namespace Go.Proofs.Ytfpibedloodjlaa
open Go.RowKit
set_option linter.unusedVariables false
set_option linter.unusedSimpArgs false

set_option maxRecDepth 100000 in
set_option maxHeartbeats 800000 in
theorem lwNums_sameQ (v1 v2 : Value) (zs : List Int) (w : World) (hl : zs.length ≤ 10000000) (h1 : RowI w v1 zs) (h2 : RowI w v2 zs) :
    Calls Try.prog 21 #[v1, v2] w fun e w' => e = .returned (.bool true) ∧ Below w.heap.size w w' := by
  obtain ⟨p1, c1, rfl, h1⟩ := h1
  obtain ⟨p2, c2, rfl, h2⟩ := h2
  have e0 : ((zs.length : Int) != (zs.length : Int)) = false := by simp
  have H1 : Hid _ := h1
  have H2 : Hid _ := h2
  clear h1 h2
  go_enter Try.func21, Try.ntmps21
  go_wp2
  go_loopw [5] (fun i wr => ∃ k : Nat, k ≤ zs.length ∧ i = .int .i64 k ∧ Below w.heap.size w wr) (fun i _ => zs.length - (intOf i).toNat)
  case atStart => exact ⟨0, Nat.zero_le _, rfl, Below.refl _ _⟩
  case round =>
    obtain ⟨k, hk, rfl, hbel⟩ := hrel
    by_cases hlt : k < zs.length
    · obtain ⟨g1, rfl, l1, q1⟩ := H1.out k hlt
      obtain ⟨g2, rfl, l2, q2⟩ := H2.out k hlt
      have q1' := (hbel.cell (p := ⟨g1, k, none⟩) l1).trans q1
      have q2' := (hbel.cell (p := ⟨g2, k, none⟩) l2).trans q2
      clear q1 q2
      have es : (zs[k] != zs[k]) = false := by simp
      go_wp2
      go_quiet (fail)
      go_wp2
      go_roundw
      case rel => exact ⟨k + 1, by omega, by go_num, hbel.trans ((Below.refl _ wr).trans ⟨rfl, rfl, rfl, Nat.le_refl _, fun _ _ => rfl⟩)⟩
      case measure => simp [intOf]; omega
    · go_wp2
      go_ret
      exact ⟨rfl, hbel⟩
set_option maxRecDepth 100000 in
set_option maxHeartbeats 1600000 in
theorem lwAsk_same (q : Ak) (v1 v2 : Value) (w : World) (hl : q.vs.length ≤ 10000000) (h1 : RowI w v1 q.vs) (h2 : RowI w v2 q.vs) :
    Calls Try.prog 19 #[.agg #[.int .i64 q.c, .int .i64 q.a, .int .i64 q.m, v1], .agg #[.int .i64 q.c, .int .i64 q.a, .int .i64 q.m, v2]] w fun x w' => x = .returned (.bool true) ∧ Below w.heap.size w w' := by
  have e0 : (q.c == q.c) = true := by simp
  have e1 : (q.a == q.a) = true := by simp
  have e2 : (q.m == q.m) = true := by simp
  have HE : Hid (∀ W, Below w.heap.size w W → Calls Try.prog 21 #[v1, v2] W fun e w' => e = .returned (.bool true) ∧ Below W.heap.size W w') := fun W hW => lwNums_sameQ v1 v2 q.vs W hl (h1.below hW) (h2.below hW)
  obtain ⟨p1, c1, rfl, _⟩ := h1
  obtain ⟨p2, c2, rfl, _⟩ := h2
  have hA0 : Below w.heap.size w ((w.alloc (.cells #[.int .i64 q.c, .int .i64 q.a, .int .i64 q.m, .slice p1 q.vs.length c1] 25)).alloc (.cells #[.int .i64 q.c, .int .i64 q.a, .int .i64 q.m, .slice p2 q.vs.length c2] 25)) := keepB (all_alloc _ _) (Nat.le_refl _) (all_alloc _ _)
  go_enter Try.func19, Try.ntmps19
  go_wp2_with (go_at_call 21; refine (HE.out _ hA0).mono ?_; rintro e w2 ⟨rfl, hb2⟩)
  go_ret
  exact ⟨rfl, keepB hA0 (Nat.le_refl _) hb2⟩
end Go.Proofs.Ytfpibedloodjlaa
