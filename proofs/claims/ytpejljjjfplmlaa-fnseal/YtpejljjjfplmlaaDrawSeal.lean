/- THE WALKS of the draws of a text to be sealed and of a CRC to go on with, and of a number out of a code. -/
import Derived.Test.YtpejljjjfplmlaaProg
import Derived.Test.YtpejljjjfplmlaaDraw2
import Derived.Test.YtpejljjjfplmlaaPlainSeal
import Derived.WalkKit
import Derived.WalkSpells
import Derived.Outline
import Derived.Below
namespace Go.Proofs.Ytpejljjjfplmlaa
open Go.RowKit
set_option linter.unusedVariables false

theorem zeros_own {w : World} {base : Nat} {e : TypeId} {v : Value} {n : Nat} (h : w.ownsRow base e 1 v n (madeCells (Value.int .u8 0).cells (n * 1)).toList) : w.ownsRow base e 1 v (List.replicate n (0 : UInt8)).length (cellsD (List.replicate n (0 : UInt8))) := by
  have e1 : cellsD (List.replicate n (0 : UInt8)) = (madeCells (Value.int .u8 0).cells (n * 1)).toList := by
    rw [Nat.mul_one, show (Value.int .u8 0).cells = #[Value.int .u8 0] from rfl, toList_madeCells_one]
    simp [cellsD]
  rw [List.length_replicate, e1]
  exact h

set_option maxRecDepth 100000 in
set_option maxHeartbeats 800000 in
theorem drawSeal_any (B : Nat) (a : Option Addr) (len cap : Nat) (w : World) (hr : Rb B w a len) (hB : B ≤ w.heap.size) :
    Calls Try.prog 5 #[.slice a len cap] w fun e w' => ∃ s : ByteArray, e = .returned (.string s) ∧ s.size ≤ 20000 ∧ Below w.heap.size w w' := by
  obtain ⟨i0, hi, hz0, hz1, hz2⟩ := info_parts info5d
  go_enter Try.func5, Try.ntmps5
  go_wp2_with (first
    | (go_at_call 30; refine (source_any B a len cap _ hr hB).mono ?_; rintro e w1 ⟨rfl, hs1, hb1, hz1'⟩; have hr1 := hr.grb (grb_of_below (b := w.heap.size) hb1) hB hB)
    | (go_at_call 31; refine (one_any w.heap.size B a len cap 30 _ (by omega) hs1 hr1 hB).mono ?_; rintro e w2 ⟨r2, rfl, hs2, ho2⟩; have hr2 := hr1.grb ho2.grb hB (by omega); have hb2 := hb1.trans (ho2.below (Nat.le_refl _)); have hz2' : w.heap.size < w2.heap.size := (by rw [ho2.size]; exact hz1')))
  · go_wp2_with (first
      | (go_at_call 32; refine (n_any w.heap.size B a len cap 3 _ (by omega) hs2 hr2 hB).mono ?_; rintro e w3 ⟨r3, rfl, hr3, hs3, ho3⟩; have hr3' : r3 < 3 := (by omega); have hb3 := hb2.trans (ho3.below (Nat.le_refl _)); have hz3' : w.heap.size < w3.heap.size := (by rw [ho3.size]; exact hz2'); clear hr3)
      | (at_make; refine wpList_make_full _ rfl (.tmp 10) (.tmp 10) 22 rfl w.heap.size 5 i0 (.int .u8 0) 1 Try.underlying22 hi hz0 hz1 .i64 .i64 _ _ (19995 + r3) rfl rfl (by omega) (by omega) (by rw [hz2]; omega) (by unfold maxLen; omega) (by omega) ?_; intro w4 hown4 hgrow4; have hb4 := hb3.grown hgrow4 (by omega) (fun k e => by cases e); have hcv := own_convD (P := Try.prog) 22 5 9 Try.underlying22 Try.underlying5 Try.underlying9 (zeros_own hown4); clear hown4 hgrow4))
    go_ret
    exact ⟨_, rfl, by simp [ByteArray.size]; omega, hb4⟩
  · go_wp2_with (first
      | (go_at_call 32; refine (n_any w.heap.size B a len cap 20 _ (by omega) hs2 hr2 hB).mono ?_; rintro e w3 ⟨r3, rfl, hr3, hs3, ho3⟩; have hr3' : r3 < 20 := (by omega); have hb3 := hb2.trans (ho3.below (Nat.le_refl _)); have hz3' : w.heap.size < w3.heap.size := (by rw [ho3.size]; exact hz2'); have hrr3 := hr2.grb ho3.grb hB (by omega); clear hr3)
      | (go_at_call 33; refine (bytes_any w.heap.size B a len cap r3 _ (by omega) hs3 hrr3 hB hz3').mono ?_; rintro e w4 ⟨s, rfl, hsz, hs4, hg4⟩; have hb4 := hb3.trans (hg4.below (Nat.le_refl _) (by omega))))
    go_ret
    exact ⟨_, rfl, by omega, hb4⟩

set_option maxRecDepth 100000 in
set_option maxHeartbeats 800000 in
theorem drawCrcMore_any (B : Nat) (a : Option Addr) (len cap : Nat) (w : World) (hr : Rb B w a len) (hB : B ≤ w.heap.size) :
    Calls Try.prog 10 #[.slice a len cap] w fun e w' => ∃ (c : Int) (s : ByteArray), e = .returned (.tuple #[.int .i64 c, .string s]) ∧ (Lit.int .i64 c).wf = true ∧ s.size ≤ 20 ∧ Below w.heap.size w w' := by
  go_enter Try.func10, Try.ntmps10
  go_wp2_with (first
    | (go_at_call 30; refine (source_any B a len cap _ hr hB).mono ?_; rintro e w1 ⟨rfl, hs1, hb1, hz1'⟩; have hr1 := hr.grb (grb_of_below (b := w.heap.size) hb1) hB hB)
    | (go_at_call 32; refine (n_any w.heap.size B a len cap 9 _ (by omega) hs1 hr1 hB).mono ?_; rintro e w2 ⟨r2, rfl, hr2, hs2, ho2⟩; have hr2' : r2 < 9 := (by omega); have hb2 := hb1.trans (ho2.below (Nat.le_refl _)); have hz2' : w.heap.size < w2.heap.size := (by rw [ho2.size]; exact hz1'); have hrr2 := hr1.grb ho2.grb hB (by omega); clear hr2)
    | (go_at_call 33; refine (bytes_any w.heap.size B a len cap r2 _ (by omega) hs2 hrr2 hB hz2').mono ?_; rintro e w3 ⟨s, rfl, hsz, hs3, hg3⟩; have hb3 := hb2.trans (hg3.below (Nat.le_refl _) (by omega)); have hz3' : w.heap.size < w3.heap.size := Nat.lt_of_lt_of_le hz2' hg3.size; have hrr3 := hrr2.grb hg3 hB (by omega))
    | (go_at_call 31; refine (one_any w.heap.size B a len cap 5 _ (by omega) hs3 hrr3 hB).mono ?_; rintro e w4 ⟨r4, rfl, hs4, ho4⟩; have hr4 := hrr3.grb ho4.grb hB (by omega); have hb4 := hb3.trans (ho4.below (Nat.le_refl _)); have hz4' : w.heap.size < w4.heap.size := (by rw [ho4.size]; exact hz3')))
  · go_wp2_with (go_at_call 39; refine (edge_any w.heap.size B a len cap _ hs4 hr4 hB hz4').mono ?_; rintro e w5 ⟨x, rfl, hx, hs5, hg5⟩; have hb5 := hb4.trans (hg5.below (Nat.le_refl _) (by omega)))
    go_ret2
    exact ⟨_, _, rfl, hx, by omega, hb5⟩
  · go_wp2_with (first
      | (go_at_call 32; refine (n_any w.heap.size B a len cap 9 _ (by omega) hs4 hr4 hB).mono ?_; rintro e w5 ⟨r5, rfl, hr5, hs5, ho5⟩; have hr5' : r5 < 9 := (by omega); have hb5 := hb4.trans (ho5.below (Nat.le_refl _)); have hz5' : w.heap.size < w5.heap.size := (by rw [ho5.size]; exact hz4'); have hrr5 := hr4.grb ho5.grb hB (by omega); clear hr5)
      | (go_at_call 33; refine (bytes_any w.heap.size B a len cap r5 _ (by omega) hs5 hrr5 hB hz5').mono ?_; rintro e w6 ⟨s6, rfl, hsz6, hs6, hg6⟩; have hb6 := hb5.trans (hg6.below (Nat.le_refl _) (by omega)))
      | (go_at_call 40; refine (specCrc_any s6 _ (by unfold maxLen; omega)).mono ?_; rintro e w7 ⟨rfl, rfl⟩))
    go_ret2
    exact ⟨_, _, rfl, by rw [crcM_zero s6 (by omega)]; have := crcT_lt s6; simp [Lit.wf, IntKind.min, IntKind.max, IntKind.signed, IntKind.bits]; omega, by omega, hb6⟩
end Go.Proofs.Ytpejljjjfplmlaa
