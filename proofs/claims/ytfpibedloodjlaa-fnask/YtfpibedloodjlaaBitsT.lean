/- BITS AS BYTES: the model's own BitsText. -/
import Derived.Test.YtfpibedloodjlaaBits
namespace Go.Proofs.Ytfpibedloodjlaa
open Go.RowKit
set_option linter.unusedVariables false
set_option linter.unusedSimpArgs false

set_option maxRecDepth 100000 in
set_option maxHeartbeats 800000 in
theorem specBitsText_any (v : Value) (zs : List Int) (w : World) (hl : zs.length ≤ 10000000) (hr : RowI w v zs) :
    Calls Try.prog 20 #[v] w fun e w' => e = .returned (.string (bitsB zs)) ∧ Below w.heap.size w w' := by
  unfold bitsB
  by_cases h4 : zs.length ≤ 400
  · have HLB : Hid (Calls Try.prog 54 #[v, .int .i64 64] w fun e w' => e = .returned (.bool (zs.all bitB && decide (zs.length ≤ 64))) ∧ w = w') := l04Bits_any v zs 64 w hl (by decide) hr
    cases hb : zs.all bitB && decide (zs.length ≤ 64) with
    | true =>
      have h6 : zs.length ≤ 64 := by rw [Bool.and_eq_true, decide_eq_true_eq] at hb; exact hb.2
      have HP : Hid (Calls Try.prog 48 #[v] w fun e w' => e = .returned (.string (packB zs)) ∧ Below w.heap.size w w') := l04Pack_any v zs w h6 hr
      rw [hb] at HLB
      rw [if_pos rfl]
      obtain ⟨p, c, rfl, hr⟩ := hr
      clear hr hb
      go_enter Try.func20, Try.ntmps20
      go_wp2_with (first
        | (go_at_call 54; refine HLB.out.mono ?_; rintro e w1 ⟨rfl, rfl⟩)
        | (go_at_call 48; refine HP.out.mono ?_; rintro e w1 ⟨rfl, hb1⟩))
      go_ret
      exact ⟨rfl, hb1⟩
    | false =>
      rw [hb] at HLB
      rw [if_neg (by decide)]
      obtain ⟨p, c, rfl, hr⟩ := hr
      clear hr hb
      go_enter Try.func20, Try.ntmps20
      go_wp2_with (go_at_call 54; refine HLB.out.mono ?_; rintro e w1 ⟨rfl, rfl⟩)
      go_ret
      exact ⟨rfl, Below.refl _ _⟩
  · rw [decide_eq_false (show ¬ zs.length ≤ 64 by omega), Bool.and_false, if_neg (by decide)]
    obtain ⟨p, c, rfl, hr⟩ := hr
    clear hr
    go_enter Try.func20, Try.ntmps20
    go_wp2
    go_ret
    exact ⟨rfl, Below.refl _ _⟩
end Go.Proofs.Ytfpibedloodjlaa
