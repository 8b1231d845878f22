/- THE WALK of the law's own number out of a code. -/
import Derived.Test.YtiaphaghjklhaaaProg
import Derived.Test.YtiaphaghjklhaaaDraw2
import Derived.WalkKit
import Derived.WalkSpells
import Derived.Outline
import Derived.Below
namespace Go.Proofs.Ytiaphaghjklhaaa
open Go.RowKit
set_option linter.unusedVariables false

set_option maxRecDepth 100000 in
set_option maxHeartbeats 800000 in
theorem lwAt_any (B : Nat) (a : Option Addr) (len cap at0 : Nat) (most : Int) (w : World) (hr : Rb B w a len) (h2 : most ≤ 1099511627776) (hat : at0 ≤ 64) :
    Calls Try.prog 9 #[.slice a len cap, .int .i64 at0, .int .i64 most] w fun e w' => ∃ r : Nat, e = .returned (.int .i64 r) ∧ ((r : Int) < most ∨ r = 0) ∧ w = w' := by
  have hlen := hr.1
  by_cases h1 : most ≤ 1
  · go_enter Try.func9, Try.ntmps9
    go_wp2
    go_ret
    exact ⟨0, rfl, .inr rfl, rfl⟩
  by_cases h0 : len = 0
  · have t0 : ((len : Int) == 0) = true := by simp; omega
    clear h0
    go_enter Try.func9, Try.ntmps9
    go_wp2
    go_ret
    exact ⟨0, rfl, .inr rfl, rfl⟩
  obtain ⟨g, o, rfl, hg, hc⟩ := hr.2.resolve_left h0
  obtain ⟨j, hj⟩ : ∃ j, j = at0 % len := ⟨_, rfl⟩
  have hjl : j < len := by rw [hj]; exact Nat.mod_lt _ (by omega)
  obtain ⟨v, cv, hv0, hv1⟩ := hc j hjl
  have t0 : ((len : Int) == 0) = false := by simp; omega
  have hjm : (at0 : Int) % (len : Int) = (j : Int) := by rw [hj, Int.natCast_emod]
  have hpos : 0 < (len : Int) := by omega
  clear hr hc h0 hj
  go_enter Try.func9, Try.ntmps9
  go_wp2
  have e1 := Int.emod_nonneg v (show most ≠ 0 by omega)
  have e2 := Int.emod_lt_of_pos v (show 0 < most by omega)
  go_ret
  exact ⟨(v % most).toNat, ret_int (Int.toNat_of_nonneg e1).symm, .inl (by rw [Int.toNat_of_nonneg e1]; exact e2), rfl⟩
end Go.Proofs.Ytiaphaghjklhaaa
