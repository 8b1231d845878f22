/- WHAT THE LAW FnSay leans on: plain facts of what is read, and its boxes. -/
import Derived.Test.YthmbfkppjijelaaDrawSL
import Derived.Test.YthmbfkppjijelaaSayU
import Derived.Test.YthmbfkppjijelaaSayW
import Derived.Test.YthmbfkppjijelaaStM
import Derived.Test.YthmbfkppjijelaaRowB
import Derived.Test.YthmbfkppjijelaaLwSay
import Derived.Test.YthmbfkppjijelaaTail
namespace Go.Proofs.Ythmbfkppjijelaa
open Go.RowKit
set_option linter.unusedVariables false

theorem sayRes_ok {u : ByteArray} (h : (sayRes u).2 = 0) : sayB (sayRes u).1 = u := by
  unfold sayRes at h ⊢
  split at h
  · cases h
  · rename_i h8
    rw [if_neg h8]
    cases hs : saidR u with
    | none => rw [hs] at h; cases h
    | some y => exact (saidR_right hs).2.1
theorem sayRes_bounds (u : ByteArray) : (sayRes u).1.ws.length ≤ 8000 ∧ (sayRes u).1.b.size ≤ 8000 := by
  unfold sayRes
  split
  · simp [zeroSy, ByteArray.size]
  · rename_i h8
    cases hs : saidR u with
    | none => simp [zeroSy, ByteArray.size]
    | some y => exact saidP_bounds (by omega) (saidR_right hs).2.2
theorem sayRes_say {y : Sy} (h : y.right = true) : sayRes (sayB y) = (y, 0) := by
  unfold sayRes
  have hz := @sayB_size y
  rw [if_neg (by omega), saidR_say h]
theorem field_say (c0 c1 c2 c3 c4 c5 c6 c7 c8 c9 : Value) (w : World) : (Instr.field 32 (.agg #[c0, c1, c2, c3, c4, c5, c6, c7, c8, c9]) 0).run Try.prog w = .ok (.agg #[c0, c1, c2, c3, c4, c5, c6, c7, c8]) w := by kernel_rfl
theorem field_code (c0 c1 c2 c3 c4 c5 c6 c7 c8 c9 : Value) (w : World) : (Instr.field 32 (.agg #[c0, c1, c2, c3, c4, c5, c6, c7, c8, c9]) 1).run Try.prog w = .ok c9 w := by kernel_rfl
theorem empty_say (y : Sy) : ((sayB y).toList == ([] : List UInt8)) = !y.right := by
  have h := sayB_empty y
  rw [empty_iff]
  cases hr : y.right with
  | false => simp [h.2 hr]
  | true =>
    have hne : ¬ (sayB y).size = 0 := fun e => by rw [h.1 e] at hr; cases hr
    simp [hne]
end Go.Proofs.Ythmbfkppjijelaa
