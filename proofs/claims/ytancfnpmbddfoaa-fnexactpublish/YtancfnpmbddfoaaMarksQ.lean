/- THE WALKS of the law's own marks: texts that are put into an answer's list and looked for again; lists of texts held against each other. -/
import Derived.Test.YtancfnpmbddfoaaProg
import Derived.Test.YtancfnpmbddfoaaPlain
import Derived.Test.YtancfnpmbddfoaaLaws
import Derived.Test.YtancfnpmbddfoaaKeep
import Derived.Test.YtancfnpmbddfoaaOwnM
import Derived.Test.YtancfnpmbddfoaaPlainFrame
import Derived.WalkKit
import Derived.WalkSpells
import Derived.Outline
import Derived.Below
import Derived.Deep.RegionHeld3
import Derived.Deep.QuietTactic
import Derived.BigQuiet
namespace Go.Proofs.Ytancfnpmbddfoaa
open Go.RowKit
set_option linter.unusedVariables false
set_option linter.unusedSimpArgs false

def digsN (n : Nat) : List UInt8 := if h : n = 0 then [] else digsN (n / 10) ++ [UInt8.ofNat (48 + n % 10)]
termination_by n
decreasing_by omega
theorem digsN_pos {n : Nat} (h : 0 < n) : digsN n = digsN (n / 10) ++ [UInt8.ofNat (48 + n % 10)] := by rw [digsN, dif_neg (by omega)]
theorem digsN_zero : digsN 0 = [] := by rw [digsN, dif_pos rfl]
theorem digsN_len (n : Nat) : (digsN n).length ≤ n := by
  induction n using Nat.strongRecOn with
  | _ n ih =>
    rcases Nat.eq_zero_or_pos n with rfl | h
    · rw [digsN_zero]; simp
    · rw [digsN_pos h, List.length_append]
      have := ih (n / 10) (by omega)
      simp only [List.length_cons, List.length_nil]
      omega
/-- the mark of a number from 1 on -/
def markB (n : Nat) : ByteArray := bytesOf ([109] ++ digsN n)
theorem digit_conv (w : World) (n : Nat) : (convert 89 9 (.slice (some ⟨w.heap.size, 0, none⟩) 1 1)).run Try.prog (w.alloc (.cells #[.int .u8 (48 + (n : Int) % 10)] 5)) = .ok (.string (bytesOf [UInt8.ofNat (48 + n % 10)])) (w.alloc (.cells #[.int .u8 (48 + (n : Int) % 10)] 5)) := by
  have hc : cellsB (bytesOf [UInt8.ofNat (48 + n % 10)]) = [.int .u8 (48 + (n : Int) % 10)] := by
    simp only [cellsB, bytesOf, List.map_cons, List.map_nil]
    rw [show (UInt8.ofNat (48 + n % 10)).toNat = 48 + n % 10 by rw [UInt8.toNat_ofNat']; omega]
    rfl
  have h := Lib.run_convert_whole (P := Try.prog) (w.alloc (.cells [.int .u8 (48 + (n : Int) % 10)].toArray 5)) 89 5 9 Try.underlying89 Try.underlying5 Try.underlying9 w.heap.size 0 (bytesOf [UInt8.ofNat (48 + n % 10)]) (bytes_of_cells (bytesOf [UInt8.ofNat (48 + n % 10)]) (heap_alloc_new w _) (by rw [hc, bytesOf_size]; rfl)) 1
  rw [bytesOf_size] at h
  exact h
set_option maxRecDepth 100000 in
set_option maxHeartbeats 800000 in
theorem markText_any (K : Nat) (w : World) (h1 : 0 < K) (h2 : K ≤ 10000000) :
    Calls Try.prog 79 #[.int .i64 K] w fun e w' => e = .returned (.string (markB K)) ∧ Below w.heap.size w w' := by
  go_enter Try.func79, Try.ntmps79
  go_wp2
  go_loopw [0, 3] (fun x t wr => ∃ (n : Nat) (s : ByteArray), n ≤ K ∧ x = .int .i64 n ∧ t = .string s ∧ s.size ≤ 10000000 ∧ Hid (digsN n ++ s.data.toList = digsN K) ∧ Below w.heap.size w wr)
    (fun x _ _ => (intOf x).toNat)
  case atStart => exact ⟨K, ByteArray.empty, Nat.le_refl _, rfl, rfl, by simp, by simp [Hid], Below.refl _ _⟩
  case round =>
    obtain ⟨n, s, hn, rfl, rfl, hs, HL, hbel⟩ := hrel
    have hsz := hbel.size
    by_cases hlt : 0 < n
    · have hcv := digit_conv wr n
      have HD : Hid _ := digsN_pos hlt
      have hle : s.size + 1 ≤ 10000000 := by
        have h3 := congrArg List.length HL.out
        have h4 := digsN_len K
        rw [List.length_append, list_length, digsN_pos hlt, List.length_append, List.length_singleton] at h3
        omega
      have hz1 : (bytesOf [UInt8.ofNat (48 + n % 10)]).size = 1 := bytesOf_size _
      have HA : Hid _ := bytesOf_list [UInt8.ofNat (48 + n % 10)]
      generalize bytesOf [UInt8.ofNat (48 + n % 10)] = D at hcv hz1 HA
      go_wp2
      go_roundw
      case rel => exact ⟨n / 10, D ++ s, by omega, by go_num, rfl, by rw [ByteArray.size_append]; omega, (show _ = _ by rw [list_append, HA.out, ← List.append_assoc, ← HD.out]; exact HL.out), hbel.alloc hsz _⟩
      case measure => simp [intOf]; omega
    · have hz1 : (bytesOf [109]).size = 1 := bytesOf_size _
      have e : markB K = bytesOf [109] ++ s := by
        unfold markB
        rw [← bytesOf_append, ← HL.out, show n = 0 by omega, digsN_zero, List.nil_append, bytesOf_data]
      have he : Hid _ := e
      clear e
      go_wp2
      go_ret
      exact ⟨by rw [he.out]; rfl, hbel⟩
end Go.Proofs.Ytancfnpmbddfoaa
