/- THE WALKS of PutNum, the program's and the model's: both answer the number's bytes. -/
import Derived.Test.YtineecongiplgaaProg
import Derived.Test.YtineecongiplgaaPlainNum
import Derived.Test.YtineecongiplgaaLaws
import Derived.WalkKit
import Derived.WalkSpells
import Derived.Outline
namespace Go.Proofs.Ytineecongiplgaa
open Go.RowKit

theorem foldSign_any (n : Int) (w : World) (hn : (Lit.int .i64 n).wf = true) :
    Calls Try.prog 102 #[.int .i64 n] w fun e w' => e = .returned (.int .u64 (foldN n : Nat)) ∧ w = w' := by
  have hb := bounds_i64 hn
  by_cases h : 0 ≤ n
  · go_enter Try.func102, Try.ntmps102
    go_wp2
    go_ret
    exact ⟨ret_int (by rw [foldN_pos h]), rfl⟩
  · go_enter Try.func102, Try.ntmps102
    go_wp2
    go_ret
    exact ⟨ret_int (by rw [foldN_neg (by omega)]), rfl⟩
theorem l01Fold_any (n : Int) (w : World) (hn : (Lit.int .i64 n).wf = true) :
    Calls Try.prog 107 #[.int .i64 n] w fun e w' => e = .returned (.int .u64 (foldN n : Nat)) ∧ w = w' := by
  have hb := bounds_i64 hn
  by_cases h : 0 ≤ n
  · go_enter Try.func107, Try.ntmps107
    go_wp2
    go_ret
    exact ⟨ret_int (by rw [foldN_pos h]), rfl⟩
  · go_enter Try.func107, Try.ntmps107
    go_wp2
    go_ret
    exact ⟨ret_int (by rw [foldN_neg (by omega)]), rfl⟩

theorem info5n : (Try.prog.info? 5).map (fun i => (i.zero, i.size, i.bytes)) = some (some (.int .u8 0), 1, 1) := by kernel_rfl

set_option maxRecDepth 100000 in
set_option maxHeartbeats 800000 in
theorem specPutNum_any (n : Int) (w : World) (hn : (Lit.int .i64 n).wf = true) :
    Calls Try.prog 98 #[.int .i64 n] w fun e w' => e = .returned (.string (putB n)) ∧ Below w.heap.size w w' := by
  obtain ⟨i0, hi, hz0, hz1, hz2⟩ := info_parts info5n
  have hlt := foldN_lt hn
  have hlen := putU_len10 hlt
  go_enter Try.func98, Try.ntmps98
  go_wp2_with (go_at_call 107; refine (l01Fold_any n _ hn).mono ?_; rintro e w' ⟨rfl, rfl⟩)
  go_loopw [3, 4] (fun x v wr => ∃ (u : Nat) (pre : List UInt8), x = .int .u64 u ∧ u < 18446744073709551616 ∧ Hid (pre ++ putU u = putU (foldN n)) ∧ wr.ownsRow w.heap.size 5 1 v pre.length (cellsL pre) ∧ Below w.heap.size w wr)
    (fun x _ _ => (intOf x).toNat)
  case atStart => exact ⟨foldN n, [], rfl, hlt, rfl, World.ownsRow_made _ #[] 0 (Nat.le_refl _) (by decide) rfl, (Below.refl _ _).alloc (Nat.le_refl _) _⟩
  case round =>
    obtain ⟨u, pre, rfl, hu, HP, hown, hbel⟩ := hrel
    have hsz := hbel.size
    have hpl : pre.length ≤ 10 := by have := congrArg List.length HP.out; simp at this; omega
    clear hlen hlt
    by_cases hge : 128 ≤ u
    · go_wp2_with (at_builtin; refine wpList_append_own _ rfl (.tmp 10) (.tmp 15) 22 rfl w.heap.size 5 i0 (.int .u8 0) 1 1 Try.underlying22 hi hz0 hz1 hz2 rfl (by decide) _ _ _ rfl (hown.alloc _) ⟨wr.heap.size, 0, none⟩ 1 1 [_] rfl rfl (cell_one_new _ _ _) (by intro x hx; simp at hx; subst hx; rfl) (by unfold maxLen; omega) (by omega) (by simp; omega) ?_; intro v' w2 hown' hgrow _)
      go_roundw
      case rel => exact ⟨u / 128, pre ++ [UInt8.ofNat (u % 128 + 128)], by go_num, by omega, next_hi hge HP.out, own_hi hown', (hbel.alloc hsz _).grown hgrow (by simp; omega) (fun k e => (hown.lt k e).1)⟩
      case measure => simp [intOf]; omega
    · have hlo : u < 128 := by omega
      clear hge
      go_wp2_with (at_builtin; refine wpList_append_own _ rfl (.tmp 19) (.tmp 22) 22 rfl w.heap.size 5 i0 (.int .u8 0) 1 1 Try.underlying22 hi hz0 hz1 hz2 rfl (by decide) _ _ _ rfl (hown.alloc _) ⟨wr.heap.size, 0, none⟩ 1 1 [_] rfl rfl (cell_one_new _ _ _) (by intro x hx; simp at hx; subst hx; rfl) (by unfold maxLen; omega) (by omega) (by simp; omega) ?_; intro v' w2 hown' hgrow _; have hb2 := (hbel.alloc hsz (.cells #[.int .u8 (u : Int)] 5)).grown hgrow (by simp; omega) (fun k e => (hown.lt k e).1); obtain ⟨g, cap, hv, hcv⟩ := own_conv (P := Try.prog) 22 5 9 Try.underlying22 Try.underlying5 Try.underlying9 (own_last hlo HP.out hown') (putB_pos n); clear hown' hgrow; rw [hv])
      go_ret
      exact ⟨rfl, hb2⟩

theorem len10 : Try.prog.underlying 136 = some (.array 10 5) := by kernel_rfl
theorem slice10 (w : World) (g k : Nat) (hk : k + 1 ≤ 10) : (Instr.sliceAt 136 (.pointer (some ⟨g, 0, none⟩)) none (some (.int .i64 ((k : Int) + 1))) none).run Try.prog w = .ok (.slice (some ⟨g, 0, none⟩) (k + 1) 10) w := by
  have e1 : Try.prog.arrayLen 136 = 10 := by kernel_rfl
  have e2 : Try.prog.elem 136 = 5 := by kernel_rfl
  have h := run_sliceAt_array_h (P := Try.prog) w 136 ⟨g, 0, none⟩ (by rw [e1, e2]; exact len10) .i64 ((k : Int) + 1) (by omega) (by rw [e1]; omega)
  rw [h, e1, e2]
  have e3 : (Go.sizeOf 5).run Try.prog w = .ok 1 w := by kernel_rfl
  rw [e3]
  have e4 : ((k : Int) + 1).toNat = k + 1 := by omega
  simp [Result.andThen, slicedAt, e4, Addr.add]
set_option maxRecDepth 100000 in
set_option maxHeartbeats 800000 in
theorem putNum_any (n : Int) (w : World) (hn : (Lit.int .i64 n).wf = true) :
    Calls Try.prog 82 #[.int .i64 n] w fun e w' => e = .returned (.string (putB n)) ∧ Below w.heap.size w w' := by
  have hlt := foldN_lt hn
  have hlen := putU_len10 hlt
  go_enter Try.func82, Try.ntmps82
  go_wp2_with (go_at_call 102; refine (foldSign_any n _ hn).mono ?_; rintro e w' ⟨rfl, rfl⟩)
  go_loopw [4, 5] (fun i x wr => ∃ (u : Nat) (pre : List UInt8) (cs : List Value), i = .int .i64 pre.length ∧ x = .int .u64 u ∧ u < 18446744073709551616 ∧ Hid (pre ++ putU u = putU (foldN n)) ∧ Hid (wr.heap[w.heap.size]? = some (.cells cs.toArray 136 (0, 0))) ∧ cs.length = 10 ∧ Hid (cs.take pre.length = cellsL pre) ∧ Below w.heap.size w wr)
    (fun _ x _ => (intOf x).toNat)
  case atStart => exact ⟨foldN n, [], List.replicate 10 (.int .u8 0), rfl, rfl, hlt, rfl, heap_alloc_new w _, rfl, rfl, (Below.refl _ _).alloc (Nat.le_refl _) _⟩
  case round =>
    obtain ⟨u, pre, cs, rfl, rfl, hu, HP, HG, hcs, HT, hbel⟩ := hrel
    have hp := putU_pos u
    have hpl : pre.length < 10 := by have := congrArg List.length HP.out; simp at this; omega
    obtain ⟨hc, hf⟩ := cell_at HG.out (show pre.length < cs.length by omega)
    clear hlen hlt hp
    by_cases hge : 128 ≤ u
    · go_wp2
      go_roundw
      case rel => exact ⟨u / 128, pre ++ [UInt8.ofNat (u % 128 + 128)], cs.set pre.length (.int .u8 ((u : Int) % 128 + 128)), by simp, by go_num, by omega, next_hi hge HP.out, set_at _ _ HG.out, by simpa using hcs, by rw [List.length_append]; exact (take_set _ (by omega)).trans (by rw [HT.out, step_hi]), hbel.setCell (Nat.le_refl _) _⟩
      case measure => simp [intOf]; omega
    · have hlo : u < 128 := by omega
      clear hge
      have hsl := fun wx => slice10 wx w.heap.size pre.length (by omega)
      have hcv := Lib.run_convert_whole (P := Try.prog) (wr.setCell ⟨w.heap.size, pre.length, none⟩ (.int .u8 (u : Int))) 22 5 9 Try.underlying22 Try.underlying5 Try.underlying9 w.heap.size 0 (putB n) (bytes_of_cells (putB n) (set_at _ _ HG.out) (by rw [last_size hlo HP.out, take_set _ (by omega), HT.out, last_cells hlo HP.out])) 10
      rw [last_size hlo HP.out] at hcv
      go_wp2
      go_ret
      exact ⟨rfl, hbel.setCell (Nat.le_refl _) _⟩
end Go.Proofs.Ytineecongiplgaa
