/- THE WALKS of the model's draws of a body, of what may be heard, and of the texts of the law. -/
import Derived.Test.YtiaphaghjklhaaaDrawF
import Derived.WalkKit
import Derived.WalkSpells
import Derived.Outline
import Derived.Below
import Derived.Deep.QuietTactic
import Derived.BigQuiet
import Derived.Deep.DeepCutAuto
namespace Go.Proofs.Ytiaphaghjklhaaa
open Go.RowKit
set_option linter.unusedVariables false
set_option linter.unusedSimpArgs false

theorem zeros_ownG {w : World} {base : Nat} {e : TypeId} {v : Value} {n : Nat} (h : w.ownsRow base e 1 v n (madeCells (Value.int .u8 0).cells (n * 1)).toList) : OwnM w base e v (List.replicate n (0 : UInt8)) := by
  apply OwnM.own
  have e1 : cellsC (List.replicate n (0 : UInt8)) = (madeCells (Value.int .u8 0).cells (n * 1)).toList := by
    rw [Nat.mul_one, show (Value.int .u8 0).cells = #[Value.int .u8 0] from rfl, toList_madeCells_one]
    simp [cellsC]
  rw [List.length_replicate, e1]
  exact h
theorem zeros_conv {w : World} {base : Nat} {v : Value} {n : Nat} (h : w.ownsRow base 5 1 v n (madeCells (Value.int .u8 0).cells (n * 1)).toList) : ∃ Z : ByteArray, Z.size = n ∧ (convert 22 9 v).run Try.prog w = .ok (.string Z) w :=
  ⟨_, by simp [ByteArray.size], OwnM.conv (P := Try.prog) 22 9 Try.underlying22 Try.underlying5 Try.underlying9 (zeros_ownG h)⟩
theorem below_none {w w' : World} (h : w.grownBy w' none) : Below w.heap.size w w' := ⟨h.os, h.tape, h.output, h.size, fun k hk => h.block k hk (by simp)⟩
theorem bytes_D' {b B : Nat} {a : Option Addr} {len cap : Nat} {w0 w : World} (h : Dr b B a len cap w0 w) (n : Nat) (m : Int) (hm : m = (n : Int)) (hn : n ≤ 1000000) :
    Calls Try.prog 48 #[.pointer (some ⟨b, 0, none⟩), .int .i64 m] w fun e w' => ∃ s : ByteArray, e = .returned (.string s) ∧ s.size = n ∧ Dr b B a len cap w0 w' := by
  subst hm; exact bytes_D h n hn
set_option maxRecDepth 100000 in
set_option maxHeartbeats 1600000 in
theorem l02Body_D {b B : Nat} {a : Option Addr} {len cap : Nat} {w0 w : World} (h : Dr b B a len cap w0 w) :
    Calls Try.prog 57 #[.pointer (some ⟨b, 0, none⟩)] w fun e w' => ∃ s : ByteArray, e = .returned (.string s) ∧ s.size ≤ 61 ∧ Dr b B a len cap w0 w' := by
  have HD : Hid _ := h
  obtain ⟨i0, hi, hz0, hz1, hz2⟩ := info_parts info5
  clear h
  go_enter Try.func57, Try.ntmps57
  go_upto_region 2 with (first | (go_at_call 47; refine (n_D HD.out 9 (by omega)).mono ?_; rintro e w1 ⟨r1, rfl, hr1, hD1, _⟩; have hr2 : r1 < 9 := (by omega)) | (go_at_call 48; refine (bytes_D' hD1 (1 + r1) _ (by omega) (by omega)).mono ?_; rintro e w2 ⟨s, rfl, hs, hD2⟩))
  have hsz : s.size ≤ 9 := by omega
  have HD2 : Hid _ := hD2
  clear hr1 hr2 hD1 hs hD2
  go_wp2_with (first
    | (go_at_call 46; first | (refine (one_D hD4 20 (by omega)).mono ?_; rintro e w5 ⟨o5, rfl, hD5, _⟩) | (refine (one_D HD2.out 3 (by omega)).mono ?_; rintro e w3 ⟨o3, rfl, hD3, _⟩) | (refine (one_D hD3 20 (by omega)).mono ?_; rintro e w5 ⟨o5, rfl, hD5, _⟩))
    | (go_at_call 61; refine (pick_D (hD3.alloc _) w3.heap.size (0, 0) [⟨#[126]⟩, ⟨#[125]⟩, ⟨#[126, 125]⟩, ⟨#[125, 125]⟩] (heap_alloc_new w3 _) (by have := hD3.lt; omega) (by decide) (by decide) (by decide)).mono ?_; rintro e w4 ⟨s4, rfl, hs4, hD4⟩)
    | (go_at_call 47; refine (n_D hD5 3 (by omega)).mono ?_; rintro e w6 ⟨r6, rfl, hr6, hD6, _⟩; have hr7 : r6 < 3 := (by omega); have hl6 := hD6.lt)
    | (at_make; refine wpList_make_full _ rfl (.tmp 20) (.tmp 20) 22 rfl w6.heap.size 5 i0 (.int .u8 0) 1 Try.underlying22 hi hz0 hz1 .i64 .i64 _ _ (59 + r6) rfl rfl (by omega) (by omega) (by rw [hz2]; omega) (by unfold maxLen; omega) (Nat.le_refl _) ?_; intro w7 hown7 hgrow7; have hD7 := hD6.below (below_none hgrow7); obtain ⟨Z, hZ, hcv⟩ := zeros_conv hown7; clear hown7 hgrow7))
  all_goals
    go_ret
    first | exact ⟨_, rfl, by omega, hD7⟩ | exact ⟨_, rfl, by rw [ByteArray.size_append]; omega, hD5⟩ | exact ⟨_, rfl, by omega, hD5⟩
set_option maxRecDepth 100000 in
set_option maxHeartbeats 1600000 in
theorem drawFrameText_any (B : Nat) (a : Option Addr) (len cap : Nat) (w : World) (hr : Rb B w a len) (hB : B ≤ w.heap.size) :
    Calls Try.prog 15 #[.slice a len cap] w fun e w' => ∃ s : ByteArray, e = .returned (.string s) ∧ s.size ≤ 61 ∧ Below w.heap.size w w' := by
  go_enter Try.func15, Try.ntmps15
  go_wp2_with (first
    | (go_at_call 45; refine (source_D B a len cap _ hr hB).mono ?_; rintro e w1 ⟨rfl, hD1, hb1⟩)
    | (go_at_call 46; refine (one_D hD1 10 (by omega)).mono ?_; rintro e w2 ⟨o2, rfl, hD2, _⟩)
    | (go_at_call 57; refine (l02Body_D hD2).mono ?_; rintro e w3 ⟨s, rfl, hs, hD3⟩))
  · go_ret
    exact ⟨_, rfl, by decide, hD2.end hb1⟩
  · go_ret
    exact ⟨_, rfl, hs, hD3.end hb1⟩
set_option maxRecDepth 100000 in
set_option maxHeartbeats 1600000 in
theorem drawFcs_any (B : Nat) (a : Option Addr) (len cap : Nat) (w : World) (hr : Rb B w a len) (hB : B ≤ w.heap.size) :
    Calls Try.prog 21 #[.slice a len cap] w fun e w' => ∃ s : ByteArray, e = .returned (.string s) ∧ s.size ≤ 20 ∧ Below w.heap.size w w' := by
  go_enter Try.func21, Try.ntmps21
  go_wp2_with (first
    | (go_at_call 45; refine (source_D B a len cap _ hr hB).mono ?_; rintro e w1 ⟨rfl, hD1, hb1⟩)
    | (go_at_call 47; refine (n_D hD1 20 (by omega)).mono ?_; rintro e w2 ⟨r2, rfl, hr2, hD2, _⟩; have hr3 : r2 < 20 := (by omega))
    | (go_at_call 48; refine (bytes_D hD2 r2 (by omega)).mono ?_; rintro e w3 ⟨s, rfl, hs, hD3⟩))
  go_ret
  exact ⟨_, rfl, by omega, hD3.end hb1⟩
end Go.Proofs.Ytiaphaghjklhaaa
