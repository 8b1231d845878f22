/- THE LAW's OWN QUESTIONS of what is said: the same is the same. -/
import Derived.Test.YthmbfkppjijelaaProg
import Derived.Test.YthmbfkppjijelaaInts
import Derived.Test.YthmbfkppjijelaaPlainSay
import Derived.Test.YthmbfkppjijelaaBox
import Derived.WalkKit
import Derived.WalkSpells
import Derived.Outline
import Derived.Below
import Derived.Deep.QuietTactic
import Derived.BigQuiet
namespace Go.Proofs.Ythmbfkppjijelaa
open Go.RowKit
set_option linter.unusedVariables false
set_option linter.unusedSimpArgs false

set_option maxRecDepth 100000 in
set_option maxHeartbeats 800000 in
theorem lwNums_same (v1 v2 : Value) (zs : List Int) (w : World) (hl : zs.length ≤ 10000000) (h1 : RowI w v1 zs) (h2 : RowI w v2 zs) :
    Calls Try.prog 50 #[v1, v2] w fun e w' => e = .returned (.bool true) ∧ Below w.heap.size w w' := by
  obtain ⟨p1, c1, rfl, h1⟩ := h1
  obtain ⟨p2, c2, rfl, h2⟩ := h2
  have e0 : ((zs.length : Int) != (zs.length : Int)) = false := by simp
  have H1 : Hid _ := h1
  have H2 : Hid _ := h2
  clear h1 h2
  go_enter Try.func50, Try.ntmps50
  go_wp2
  go_loopw [5] (fun i wr => ∃ k : Nat, k ≤ zs.length ∧ i = .int .i64 k ∧ Below w.heap.size w wr) (fun i _ => zs.length - (intOf i).toNat)
  case atStart => exact ⟨0, Nat.zero_le _, rfl, Below.refl _ _⟩
  case round =>
    obtain ⟨k, hk, rfl, hbel⟩ := hrel
    by_cases hlt : k < zs.length
    · obtain ⟨g1, rfl, l1, q1⟩ := H1.out k hlt
      obtain ⟨g2, rfl, l2, q2⟩ := H2.out k hlt
      have q1' := (hbel.cell (p := ⟨g1, k, none⟩) l1).trans q1
      have q2' := (hbel.cell (p := ⟨g2, k, none⟩) l2).trans q2
      clear q1 q2
      have es : (zs[k] != zs[k]) = false := by simp
      go_wp2
      go_quiet (fail)
      go_wp2
      go_roundw
      case rel => exact ⟨k + 1, by omega, by go_num, hbel.trans ((Below.refl _ wr).trans ⟨rfl, rfl, rfl, Nat.le_refl _, fun _ _ => rfl⟩)⟩
      case measure => simp [intOf]; omega
    · go_wp2
      go_ret
      exact ⟨rfl, hbel⟩
set_option maxRecDepth 100000 in
set_option maxHeartbeats 1600000 in
theorem lwSay_same (y : Sy) (v1 v2 : Value) (w : World) (hl : y.ws.length ≤ 10000000) (h1 : RowI w v1 y.ws) (h2 : RowI w v2 y.ws) :
    Calls Try.prog 16 #[.agg #[.int .i64 y.k, .int .i64 y.f, .int .i64 y.t, .int .i64 y.s.g, .int .i64 y.s.o, .int .i64 y.s.b, .int .i64 y.s.h, v1, .string y.b], .agg #[.int .i64 y.k, .int .i64 y.f, .int .i64 y.t, .int .i64 y.s.g, .int .i64 y.s.o, .int .i64 y.s.b, .int .i64 y.s.h, v2, .string y.b]] w fun x w' => x = .returned (.bool true) ∧ Below w.heap.size w w' := by
  have e0 : (y.k == y.k) = true := by simp
  have e1 : (y.f == y.f) = true := by simp
  have e2 : (y.t == y.t) = true := by simp
  have e4 : (y.s.g == y.s.g) = true := by simp
  have e5 : (y.s.o == y.s.o) = true := by simp
  have e6 : (y.s.b == y.s.b) = true := by simp
  have e7 : (y.s.h == y.s.h) = true := by simp
  have e3 : (y.b.toList == y.b.toList) = true := by simp
  have HE : Hid (∀ W, Below w.heap.size w W → Calls Try.prog 50 #[v1, v2] W fun e w' => e = .returned (.bool true) ∧ Below W.heap.size W w') := fun W hW => lwNums_same v1 v2 y.ws W hl (h1.below hW) (h2.below hW)
  obtain ⟨p1, c1, rfl, _⟩ := h1
  obtain ⟨p2, c2, rfl, _⟩ := h2
  have hA0 : Below w.heap.size w ((w.alloc (.cells #[.int .i64 y.k, .int .i64 y.f, .int .i64 y.t, .int .i64 y.s.g, .int .i64 y.s.o, .int .i64 y.s.b, .int .i64 y.s.h, .slice p1 y.ws.length c1, .string y.b] 27)).alloc (.cells #[.int .i64 y.k, .int .i64 y.f, .int .i64 y.t, .int .i64 y.s.g, .int .i64 y.s.o, .int .i64 y.s.b, .int .i64 y.s.h, .slice p2 y.ws.length c2, .string y.b] 27)) := keepB (all_alloc _ _) (Nat.le_refl _) (all_alloc _ _)
  go_enter Try.func16, Try.ntmps16
  go_wp2_with (go_at_call 50; refine (HE.out _ hA0).mono ?_; rintro e w2 ⟨rfl, hb2⟩; obtain ⟨hc2, hf2⟩ := bcellF hb2)
  go_ret
  exact ⟨rfl, keepB hA0 (Nat.le_refl _) hb2⟩
end Go.Proofs.Ythmbfkppjijelaa
