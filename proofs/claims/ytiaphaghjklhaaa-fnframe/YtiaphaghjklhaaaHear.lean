/- THE WALK of the model's hearing of one byte. -/
import Derived.Test.YtiaphaghjklhaaaRead2
import Derived.Test.YtiaphaghjklhaaaWire
import Derived.WalkKit
import Derived.WalkSpells
import Derived.Outline
import Derived.Below
import Derived.Deep.RegionHeld3
import Derived.Deep.QuietTactic
import Derived.BigQuiet
namespace Go.Proofs.Ytiaphaghjklhaaa
open Go.RowKit
set_option linter.unusedVariables false
set_option linter.unusedSimpArgs false

def wrOf (i e d : Bool) (b : ByteArray) : Wr := ⟨i, e, d, b.data.toList⟩
def wrA (x : Wr) : Value := .agg #[.bool x.inn, .bool x.esc, .bool x.bad, .string (bytesOf x.buf)]
def hrV (x : Wr) (c : UInt8) : Value := .tuple #[wrA (x.next c), .string (bytesOf (if c = 126 then x.heard else []))]
theorem heard_no (i e d : Bool) (b : ByteArray) (h : i = false ∨ e = true ∨ d = true ∨ b.size < 3 ∨ checkB (headB b) ≠ tailB b) : (wrOf i e d b).heard = [] := by
  unfold Wr.heard wrOf
  rw [if_neg]
  rintro ⟨h1, h2, h3, h4, h5⟩
  simp only at h1 h2 h3 h4 h5
  rw [list_length] at h4
  rcases h with h | h | h | h | h
  · rw [h] at h1; cases h1
  · rw [h] at h2; cases h2
  · rw [h] at h3; cases h3
  · omega
  · exact h ((check_iff b).2 h5)
theorem heard_yes (b : ByteArray) (h : 3 ≤ b.size) (hc : checkB (headB b) = tailB b) : bytesOf (wrOf true false false b).heard = headB b := by
  unfold Wr.heard wrOf
  rw [if_pos ⟨rfl, rfl, rfl, by simp only; rw [list_length]; exact h, (check_iff b).1 hc⟩, bytes_ext, bytesOf_list, headB_list]
theorem hr_flag_no {i e d : Bool} {b : ByteArray} (h : (wrOf i e d b).heard = []) : hrV (wrOf i e d b) 126 = .tuple #[.agg #[.bool true, .bool false, .bool false, .string ByteArray.empty], .string ByteArray.empty] := by
  unfold hrV
  rw [if_pos rfl, h]
  simp [Wr.next, wrA]
  rfl
theorem hr_flag_yes {b t : ByteArray} (h : bytesOf (wrOf true false false b).heard = t) : hrV (wrOf true false false b) 126 = .tuple #[.agg #[.bool true, .bool false, .bool false, .string ByteArray.empty], .string t] := by
  unfold hrV
  rw [if_pos rfl, h]
  simp [Wr.next, wrA]
  rfl
theorem hr_of {x y : Wr} {c : UInt8} {v : Value} (hc : c ≠ 126) (h : x.next c = y) (hv : wrA y = v) : hrV x c = .tuple #[v, .string ByteArray.empty] := by
  unfold hrV
  rw [if_neg hc, h, hv]
  rfl
theorem wrA_of (i e d : Bool) (b : ByteArray) : wrA (wrOf i e d b) = .agg #[.bool i, .bool e, .bool d, .string b] := by
  unfold wrA wrOf
  rw [bytesOf_data]
theorem hr_stay {i e d : Bool} {b : ByteArray} {c : UInt8} (hc : c ≠ 126) (h : i = false ∨ d = true) : hrV (wrOf i e d b) c = .tuple #[.agg #[.bool i, .bool e, .bool d, .string b], .string ByteArray.empty] :=
  hr_of hc (y := wrOf i e d b) ((if_neg hc).trans (if_pos h)) (wrA_of ..)
theorem hr_esc {b : ByteArray} : hrV (wrOf true false false b) 125 = .tuple #[.agg #[.bool true, .bool true, .bool false, .string b], .string ByteArray.empty] :=
  hr_of (by decide) (y := wrOf true true false b) ((if_neg (by decide)).trans ((if_neg (by simp [wrOf])).trans (if_pos ⟨rfl, rfl⟩))) (wrA_of ..)
theorem hr_bad {e : Bool} {b : ByteArray} {c : UInt8} (hc : c ≠ 126) (h : ¬ (c = 125 ∧ e = false)) (hb : 62 ≤ b.size) : hrV (wrOf true e false b) c = .tuple #[.agg #[.bool true, .bool false, .bool true, .string ByteArray.empty], .string ByteArray.empty] :=
  hr_of hc (y := ⟨true, false, true, []⟩) ((if_neg hc).trans ((if_neg (by simp [wrOf])).trans ((if_neg h).trans (if_pos (by show 62 ≤ b.data.toList.length; rw [list_length]; exact hb))))) rfl
theorem hr_put {e : Bool} {b : ByteArray} {c : UInt8} (hc : c ≠ 126) (h : ¬ (c = 125 ∧ e = false)) (hb : ¬ 62 ≤ b.size) : hrV (wrOf true e false b) c = .tuple #[.agg #[.bool true, .bool false, .bool false, .string (b ++ bytesOf [if e then c ^^^ 32 else c])], .string ByteArray.empty] :=
  hr_of hc (y := ⟨true, false, false, b.data.toList ++ [if e then c ^^^ 32 else c]⟩) ((if_neg hc).trans ((if_neg (by simp [wrOf])).trans ((if_neg h).trans (if_neg (by show ¬ 62 ≤ b.data.toList.length; rw [list_length]; exact hb))))) (by unfold wrA; rw [append_bytesOf])
theorem byte_conv (w : World) (c : UInt8) : (convert 22 9 (.slice (some ⟨w.heap.size, 0, none⟩) 1 1)).run Try.prog (w.alloc (.cells #[.int .u8 (c.toNat : Int)] 5)) = .ok (.string (bytesOf [c])) (w.alloc (.cells #[.int .u8 (c.toNat : Int)] 5)) := by
  have hc : cellsB (bytesOf [c]) = [.int .u8 (c.toNat : Int)] := rfl
  have h := Lib.run_convert_whole (P := Try.prog) (w.alloc (.cells [.int .u8 (c.toNat : Int)].toArray 5)) 22 5 9 Try.underlying22 Try.underlying5 Try.underlying9 w.heap.size 0 (bytesOf [c]) (bytes_of_cells (bytesOf [c]) (heap_alloc_new w _) (by rw [hc, bytesOf_size]; rfl)) 1
  rw [bytesOf_size] at h
  exact h
theorem byte_conv_at (n : Nat) (c : UInt8) : ∀ W : World, W.heap.size = n → (convert 22 9 (.slice (some ⟨n, 0, none⟩) 1 1)).run Try.prog (W.alloc (.cells #[.int .u8 (c.toNat : Int)] 5)) = .ok (.string (bytesOf [c])) (W.alloc (.cells #[.int .u8 (c.toNat : Int)] 5)) := by
  intro W h
  subst h
  exact byte_conv W c
set_option maxRecDepth 100000 in
set_option maxHeartbeats 1600000 in
theorem l02Hear_put (e : Bool) (b : ByteArray) (c : UInt8) (w : World) (hc : c ≠ 126) (h : ¬ (c = 125 ∧ e = false)) (hb : b.size < 62) :
    Calls Try.prog 71 #[.agg #[.bool true, .bool e, .bool false, .string b], .int .u8 c.toNat] w fun x w' => x = .returned (hrV (wrOf true e false b) c) ∧ Below w.heap.size w w' := by
  rw [hr_put hc h (by omega)]
  have q126 := is126 c
  simp only [hc, decide_false] at q126
  have q125 := is125 c
  cases e with
  | true =>
    have e32 := xor32 c
    simp only [if_true]
    generalize c ^^^ 32 = z at e32 ⊢
    have hz : (bytesOf [z]).size = 1 := bytesOf_size _
    have hcv := byte_conv_at (w.heap.size + 1 + 1) z
    generalize bytesOf [z] = Z at hz hcv ⊢
    by_cases h5 : c = 125
    · simp only [h5, decide_true] at q125
      rw [← h5] at q125
      clear h5 hc h
      go_enter Try.func71, Try.ntmps71
      go_wp2
      exact bodyPost_ret (v := .tuple #[.agg #[.bool true, .bool false, .bool false, .string (b ++ Z)], .string ByteArray.empty]) (by simp [results, Try.results71, go_sem]; rfl) rfl ⟨rfl, by
        repeat (first | exact Below.refl _ _ | refine Below.setCell ?_ (by simp <;> omega) _ | refine Below.alloc ?_ (by simp <;> omega) _)⟩
    · simp only [h5, decide_false] at q125
      clear h5 hc h
      go_enter Try.func71, Try.ntmps71
      go_wp2
      exact bodyPost_ret (v := .tuple #[.agg #[.bool true, .bool false, .bool false, .string (b ++ Z)], .string ByteArray.empty]) (by simp [results, Try.results71, go_sem]; rfl) rfl ⟨rfl, by
        repeat (first | exact Below.refl _ _ | refine Below.setCell ?_ (by simp <;> omega) _ | refine Below.alloc ?_ (by simp <;> omega) _)⟩
  | false =>
    have h5 : c ≠ 125 := fun e => h ⟨e, rfl⟩
    simp only [h5, decide_false] at q125
    simp only [Bool.false_eq_true, if_false]
    have hz : (bytesOf [c]).size = 1 := bytesOf_size _
    have hcv := byte_conv_at (w.heap.size + 1 + 1) c
    generalize bytesOf [c] = Z at hz hcv ⊢
    clear h5 hc h
    go_enter Try.func71, Try.ntmps71
    go_wp2
    exact bodyPost_ret (v := .tuple #[.agg #[.bool true, .bool false, .bool false, .string (b ++ Z)], .string ByteArray.empty]) (by simp [results, Try.results71, go_sem]; rfl) rfl ⟨rfl, by
      repeat (first | exact Below.refl _ _ | refine Below.setCell ?_ (by simp <;> omega) _ | refine Below.alloc ?_ (by simp <;> omega) _)⟩
end Go.Proofs.Ytiaphaghjklhaaa
