/- WHAT FnNums WANTS of texts: a number and a text between other bytes, and without their last byte. -/
import Derived.Test.YtpejljjjfplmlaaDoorDrawNums
import Derived.Test.YtpejljjjfplmlaaDoorRowB
import Derived.Test.YtpejljjjfplmlaaDoorPlainNums
import Derived.Test.YtpejljjjfplmlaaDoorSeal
import Derived.Test.YtpejljjjfplmlaaDoorGetT2
namespace Go.Proofs.YtpejljjjfplmlaaDoor
open Go.RowKit
set_option linter.unusedVariables false

theorem front_list (T : ByteArray) : ((⟨#[120, 121]⟩ : ByteArray) ++ T ++ ⟨#[122]⟩).data.toList = 120 :: 121 :: (T.data.toList ++ [122]) := by
  rw [ByteArray.data_append, ByteArray.data_append]; simp
theorem front_size (T : ByteArray) : ((⟨#[120, 121]⟩ : ByteArray) ++ T ++ ⟨#[122]⟩).size = T.size + 3 := by
  rw [ByteArray.size_append, ByteArray.size_append, show (⟨#[120, 121]⟩ : ByteArray).size = 2 from rfl, show (⟨#[122]⟩ : ByteArray).size = 1 from rfl]; omega
theorem x_list (T : ByteArray) : ((⟨#[120]⟩ : ByteArray) ++ T).data.toList = 120 :: T.data.toList := by
  rw [ByteArray.data_append]; simp
theorem x_size (T : ByteArray) : ((⟨#[120]⟩ : ByteArray) ++ T).size = T.size + 1 := by
  rw [ByteArray.size_append, show (⟨#[120]⟩ : ByteArray).size = 1 from rfl]; omega
theorem less_list (T : ByteArray) : (T.extract 0 (T.size - 1)).data.toList = T.data.toList.take (T.size - 1) := by
  rw [ByteArray.data_extract, Array.toList_extract, List.extract_eq_take_drop]; simp
theorem slice_less (T : ByteArray) (h : 0 < T.size) (hz : T.size ≤ 8000) (w : World) :
    (Instr.slice 9 (.string T) none (some (.int .i64 ((T.size : Int) - 1))) none).run Tryd.prog w = .ok (.string (T.extract 0 (T.size - 1))) w := by
  rw [run_slice_string_to_if w 9 T .i64 ((T.size : Int) - 1) Tryd.underlying9, if_pos (by omega)]
  congr 3
  omega
theorem field_num (n q c : Int) (w : World) : (Instr.field 26 (.agg #[.int .i64 n, .int .i64 q, .int .i64 c]) 2).run Tryd.prog w = .ok (.int .i64 c) w := by kernel_rfl
theorem field_text (s : ByteArray) (n c : Int) (w : World) : (Instr.field 31 (.agg #[.string s, .int .i64 n, .int .i64 c]) 2).run Tryd.prog w = .ok (.int .i64 c) w := by kernel_rfl
theorem putT_small (u : ByteArray) (h : u.size ≤ 7000) : putT u = putB u.size ++ u := by unfold putT; rw [if_neg (by omega)]
theorem putT_big (u : ByteArray) (h : 8000 < u.size) : putT u = ByteArray.empty := by unfold putT; rw [if_pos h]
theorem putT_front (u : ByteArray) (h : u.size ≤ 7000) : getT ((⟨#[120]⟩ : ByteArray) ++ putT u) 1 = (u, ((putT u).size : Int) + 1, 0) := by
  have e : ((putT u).size : Int) + 1 = ((putB u.size).size : Int) + u.size + 1 := by rw [putT_small u h, ByteArray.size_append]; omega
  rw [e]
  exact getT_front u _ 120 h (by rw [x_list, putT_small u h, ByteArray.data_append, Array.toList_append])
theorem putT_less (u : ByteArray) (h : u.size ≤ 7000) : getT ((putT u).extract 0 ((putT u).size - 1)) 0 = (ByteArray.empty, 0, 4) :=
  getT_less u _ h (by rw [less_list, putT_small u h, ByteArray.data_append, Array.toList_append, ByteArray.size_append])
theorem putT_pos (u : ByteArray) (h : u.size ≤ 7000) : 0 < (putT u).size ∧ (putT u).size ≤ 7010 := by
  rw [putT_small u h, ByteArray.size_append]
  have := putB_pos u.size
  have := putB_le10 (size_wf (u := u) (by omega))
  omega
theorem some_list (T : ByteArray) (h : 0 < T.size) : (T.toList == ([] : List UInt8)) = false := by
  rw [Lib.toList_data]
  have : T.data.toList.length = T.size := by rw [Array.length_toList]; rfl
  cases hc : T.data.toList with
  | nil => rw [hc] at this; simp at this; omega
  | cons a l => rfl
end Go.Proofs.YtpejljjjfplmlaaDoor
