/- WHAT THE LAW FnAsk leans on: what comes back, and the fields of what is read. -/
import Derived.Test.YtfpibedloodjlaaDrawAL
import Derived.Test.YtfpibedloodjlaaDrawB
import Derived.Test.YtfpibedloodjlaaBitsS
import Derived.Test.YtfpibedloodjlaaLwAsk
import Derived.Test.YtfpibedloodjlaaAskM
import Derived.Test.YtfpibedloodjlaaRowB
import Derived.Test.YtfpibedloodjlaaTail
namespace Go.Proofs.Ytfpibedloodjlaa
open Go.RowKit
set_option linter.unusedVariables false
set_option linter.unusedSimpArgs false

theorem askB_small (q : Ak) : (askB q).size ≤ 100 := by
  unfold askB
  split
  · rename_i h
    have := tail_size h
    have e : (tailB q).size = q.tail.length := by simp [tailB, ByteArray.size]
    rw [askL_size]
    omega
  · simp [ByteArray.size]
theorem outA_ask {q : Ak} (h : q.right = true) : outA (askB q) = (q, 0) := by
  have h5 := five_le q h
  have h8 := askB_small q
  rw [outA_mid h5 (by omega), read_ask q h]
  exact outOf_mid h5 rfl
theorem outA_ok {u : ByteArray} (h : (outA u).2 = 0) : askB (outA u).1 = u := by
  unfold outA at h ⊢
  by_cases h8 : 8000 < u.size
  · rw [if_pos h8] at h; cases h
  · rw [if_neg h8] at h ⊢
    by_cases h5 : u.size < 5
    · rw [if_pos h5] at h; cases h
    · rw [if_neg h5] at h ⊢
      unfold outOf at h ⊢
      by_cases hq : (readS u).right = true ∧ askB (readS u) = u
      · rw [if_pos hq]; exact hq.2
      · rw [if_neg hq] at h; cases h
theorem empty_ofK (s : ByteArray) : (s.toList == ([] : List UInt8)) = decide (s.size = 0) := by
  rw [Lib.toList_data]
  obtain ⟨⟨l⟩⟩ := s
  cases l <;> simp [ByteArray.size]
theorem empty_ask (q : Ak) : ((askB q).toList == ([] : List UInt8)) = !q.right := by
  rw [empty_ofK]
  cases hr : q.right with
  | false => rw [askB_size q hr]; rfl
  | true =>
    have := five_le q hr
    rw [decide_eq_false (by omega)]
    rfl
/-- bits come back -/
theorem bits_back {zs : List Int} (h : ¬ (bitsB zs).size = 0) : bitsR (bitsB zs) (zs.length : Int) = zs := by
  unfold bitsB at h ⊢
  by_cases hb : (zs.all bitB && decide (zs.length ≤ 64)) = true
  · rw [if_pos hb] at h ⊢
    rw [Bool.and_eq_true, decide_eq_true_eq] at hb
    have hz : (packB zs).size = (zs.length + 7) / 8 := by have := packL_length zs; simpa [packB, ByteArray.size] using this
    unfold bitsR
    rw [if_pos (by omega), Int.toNat_natCast]
    exact unpack_pack zs hb.1
  · rw [if_neg hb] at h
    exact absurd rfl h
theorem bitsB_small (zs : List Int) : (bitsB zs).size ≤ 100 := by
  unfold bitsB
  split
  · rename_i h
    rw [Bool.and_eq_true, decide_eq_true_eq] at h
    have hz : (packB zs).size = (zs.length + 7) / 8 := by have := packL_length zs; simpa [packB, ByteArray.size] using this
    omega
  · simp [ByteArray.size]
theorem wf64 {n : Int} (h1 : -100 ≤ n) (h2 : n ≤ 65535) : (Lit.int .i64 n).wf = true := by
  simp [Lit.wf, IntKind.min, IntKind.max, IntKind.signed, IntKind.bits]; omega
theorem bitsR_len (s : ByteArray) (m : Int) : (bitsR s m).length ≤ 64 := by
  unfold bitsR
  split
  · rw [unpackL_length]; omega
  · simp
theorem field_ask (c0 c1 c2 c3 c4 : Value) (w : World) : (Instr.field 30 (.agg #[c0, c1, c2, c3, c4]) 0).run Try.prog w = .ok (.agg #[c0, c1, c2, c3]) w := by kernel_rfl
theorem field_askc (c0 c1 c2 c3 c4 : Value) (w : World) : (Instr.field 30 (.agg #[c0, c1, c2, c3, c4]) 1).run Try.prog w = .ok c4 w := by kernel_rfl
end Go.Proofs.Ytfpibedloodjlaa
