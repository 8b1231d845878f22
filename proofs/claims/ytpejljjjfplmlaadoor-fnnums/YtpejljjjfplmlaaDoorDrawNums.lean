/- THE WALKS of the draws of a number and of a text to be put. -/
import Derived.Test.YtpejljjjfplmlaaDoorProg
import Derived.Test.YtpejljjjfplmlaaDoorDraw2
import Derived.WalkKit
import Derived.WalkSpells
import Derived.Outline
import Derived.Below
namespace Go.Proofs.YtpejljjjfplmlaaDoor
open Go.RowKit
set_option linter.unusedVariables false

theorem zeros_own {w : World} {base : Nat} {e : TypeId} {v : Value} {n : Nat} (h : w.ownsRow base e 1 v n (madeCells (Value.int .u8 0).cells (n * 1)).toList) : w.ownsRow base e 1 v (List.replicate n (0 : UInt8)).length (cellsD (List.replicate n (0 : UInt8))) := by
  have e1 : cellsD (List.replicate n (0 : UInt8)) = (madeCells (Value.int .u8 0).cells (n * 1)).toList := by
    rw [Nat.mul_one, show (Value.int .u8 0).cells = #[Value.int .u8 0] from rfl, toList_madeCells_one]
    simp [cellsD]
  rw [List.length_replicate, e1]
  exact h

set_option maxRecDepth 100000 in
set_option maxHeartbeats 800000 in
theorem drawPutText_any (B : Nat) (a : Option Addr) (len cap : Nat) (w : World) (hr : Rb B w a len) (hB : B ≤ w.heap.size) :
    Calls Tryd.prog 8 #[.slice a len cap] w fun e w' => ∃ s : ByteArray, e = .returned (.string s) ∧ (s.size ≤ 7000 ∨ 8000 < s.size ∧ s.size ≤ 20001) ∧ Below w.heap.size w w' := by
  obtain ⟨i0, hi, hz0, hz1, hz2⟩ := info_parts info5d
  go_enter Tryd.func8, Tryd.ntmps8
  go_wp2_with (first
    | (go_at_call 12; refine (source_any B a len cap _ hr hB).mono ?_; rintro e w1 ⟨rfl, hs1, hb1, hz1'⟩; have hr1 := hr.grb (grb_of_below (b := w.heap.size) hb1) hB hB)
    | (go_at_call 18; refine (one_any w.heap.size B a len cap 8 _ (by omega) hs1 hr1 hB).mono ?_; rintro e w2 ⟨r2, rfl, hs2, ho2⟩; have hr2 := hr1.grb ho2.grb hB (by omega); have hb2 := hb1.trans (ho2.below (Nat.le_refl _)); have hz2' : w.heap.size < w2.heap.size := (by rw [ho2.size]; exact hz1')))
  · go_wp2_with (first
      | (go_at_call 19; refine (n_any w.heap.size B a len cap 3 _ (by omega) hs2 hr2 hB).mono ?_; rintro e w3 ⟨r3, rfl, hr3, hs3, ho3⟩; have hr3' : r3 < 3 := (by omega); have hb3 := hb2.trans (ho3.below (Nat.le_refl _)); have hz3' : w.heap.size < w3.heap.size := (by rw [ho3.size]; exact hz2'); clear hr3)
      | (at_make; refine wpList_make_full _ rfl (.tmp 10) (.tmp 10) 22 rfl w.heap.size 5 i0 (.int .u8 0) 1 Tryd.underlying22 hi hz0 hz1 .i64 .i64 _ _ (19999 + r3) rfl rfl (by omega) (by omega) (by rw [hz2]; omega) (by unfold maxLen; omega) (by omega) ?_; intro w4 hown4 hgrow4; have hb4 := hb3.grown hgrow4 (by omega) (fun k e => by cases e); have hcv := own_convD (P := Tryd.prog) 22 5 9 Tryd.underlying22 Tryd.underlying5 Tryd.underlying9 (zeros_own hown4); clear hown4 hgrow4))
    go_ret
    exact ⟨_, rfl, .inr (by simp [ByteArray.size]; omega), hb4⟩
  · go_wp2_with (first
      | (go_at_call 19; refine (n_any w.heap.size B a len cap 20 _ (by omega) hs2 hr2 hB).mono ?_; rintro e w3 ⟨r3, rfl, hr3, hs3, ho3⟩; have hr3' : r3 < 20 := (by omega); have hb3 := hb2.trans (ho3.below (Nat.le_refl _)); have hz3' : w.heap.size < w3.heap.size := (by rw [ho3.size]; exact hz2'); have hrr3 := hr2.grb ho3.grb hB (by omega); clear hr3)
      | (go_at_call 20; refine (bytes_any w.heap.size B a len cap r3 _ (by omega) hs3 hrr3 hB hz3').mono ?_; rintro e w4 ⟨s, rfl, hsz, hs4, hg4⟩; have hb4 := hb3.trans (hg4.below (Nat.le_refl _) (by omega))))
    go_ret
    exact ⟨_, rfl, .inl (by omega), hb4⟩


set_option maxRecDepth 100000 in
set_option maxHeartbeats 800000 in
theorem l01Any_any (b B : Nat) (a : Option Addr) (len cap : Nat) (w : World) (hs : Src b a len cap w) (hr : Rb B w a len) (hB : B ≤ b) (hbw : b < w.heap.size) :
    Calls Tryd.prog 13 #[.pointer (some ⟨b, 0, none⟩)] w fun e w' => ∃ x : Int, e = .returned (.int .i64 x) ∧ (Lit.int .i64 x).wf = true ∧ Src b a len cap w' ∧ Grb b w w' := by
  go_enter Tryd.func13, Tryd.ntmps13
  go_wp2_with (go_at_call 18; refine (one_any b B a len cap 4 _ (by omega) hs hr hB).mono ?_; rintro e w2 ⟨r2, rfl, hs2, ho2⟩; have hr2 := hr.grb ho2.grb hB (by omega); have hz2' : b < w2.heap.size := (by rw [ho2.size]; exact hbw))
  · go_wp2_with (go_at_call 23; refine (edge_any b B a len cap _ hs2 hr2 hB hz2').mono ?_; rintro e w5 ⟨x, rfl, hx, hs5, hg5⟩)
    go_ret
    exact ⟨_, rfl, hx, hs5, ho2.grb.trans hg5⟩
  · go_wp2_with (go_at_call 19; refine (n_any b B a len cap 1099511627776 _ (by omega) hs2 hr2 hB).mono ?_; rintro e w3 ⟨r3, rfl, hr3, hs3, ho3⟩; have hr3' : r3 < 1099511627776 := (by omega); clear hr3)
    go_ret
    exact ⟨_, rfl, by simp [Lit.wf, IntKind.min, IntKind.max, IntKind.signed, IntKind.bits]; omega, hs3, ho2.grb.trans ho3.grb⟩

set_option maxRecDepth 100000 in
theorem drawPutNum_any (B : Nat) (a : Option Addr) (len cap : Nat) (w : World) (hr : Rb B w a len) (hB : B ≤ w.heap.size) :
    Calls Tryd.prog 4 #[.slice a len cap] w fun e w' => ∃ x : Int, e = .returned (.int .i64 x) ∧ (Lit.int .i64 x).wf = true ∧ Below w.heap.size w w' := by
  go_enter Tryd.func4, Tryd.ntmps4
  go_wp2_with (first
    | (go_at_call 12; refine (source_any B a len cap _ hr hB).mono ?_; rintro e w1 ⟨rfl, hs1, hb1, hz1'⟩; have hr1 := hr.grb (grb_of_below (b := w.heap.size) hb1) hB hB)
    | (go_at_call 13; refine (l01Any_any w.heap.size B a len cap _ hs1 hr1 hB hz1').mono ?_; rintro e w2 ⟨x, rfl, hx, hs2, hg2⟩; have hb2 := hb1.trans (hg2.below (Nat.le_refl _) (by omega))))
  go_ret
  exact ⟨_, rfl, hx, hb2⟩
end Go.Proofs.YtpejljjjfplmlaaDoor
