/- THE WALKS of the program's texts put together: joinTexts answers both texts, one behind the other, and copyText the same text; nothing that was there turns. -/
import Derived.Test.YtmloafjdnjkiiaaDoorProg
import Derived.Test.YtmloafjdnjkiiaaDoorPlain
import Derived.Test.YtmloafjdnjkiiaaDoorLaws
import Derived.WalkKit
import Derived.WalkSpells
import Derived.Outline
namespace Go.Proofs.YtmloafjdnjkiiaaDoor
open Go.RowKit

theorem info5 : (Tryd.prog.info? 5).map (fun i => (i.zero, i.size, i.bytes)) = some (some (.int .u8 0), 1, 1) := by kernel_rfl
theorem size5 : (Tryd.prog.info? 5).map (·.size) = some 1 := by kernel_rfl

set_option maxHeartbeats 800000 in
theorem join_any (a b : ByteArray) (w : World) (ha : a.size ≤ 1073741824) (hb : b.size ≤ 1073741824) :
    Calls Tryd.prog 21 #[.string a, .string b] w fun e w' => e = .returned (.string (a ++ b)) ∧ Below w.heap.size w w' := by
  obtain ⟨i0, hi, hz0, hz1, hz2⟩ := info_parts info5
  have hmax : a.size + b.size ≤ maxLen := by unfold maxLen; omega
  go_enter Tryd.func21, Tryd.ntmps21
  by_cases hb0 : b.size = 0
  all_goals
    go_wp2_with (first
      | (at_make; refine wpList_make_full _ rfl (.tmp 10) (.tmp 10) 22 rfl w.heap.size 5 i0 (.int .u8 0) 1 Tryd.underlying22 hi hz0 hz1 .i64 .i64 _ _ (a.size + b.size) rfl rfl (by omega) (by omega) (by rw [hz2]; omega) hmax (Nat.le_refl _) ?_; intro w1 hown1 hgrow1; have hB1 := (Below.refl w.heap.size w).grown hgrow1 (Nat.le_refl _) (fun k e => by cases e); obtain ⟨cur, HG1, hcl, _⟩ := own_block hown1; clear hown1 hgrow1)
      | (refine wpList_copy_str rfl (.tmp 12) (.tmp 13) 22 9 rfl 5 Tryd.underlying22 size5 _ _ _ a rfl rfl (by omega) w.heap.size 0 cur 5 HG1.out (fun _ => rfl) (by omega) w.heap.size w hB1 (Nat.le_refl _) ?_; intro w2 HG2 hB2)
      | (refine wpList_copy_str rfl (.tmp 18) (.tmp 19) 22 9 rfl 5 Tryd.underlying22 size5 _ _ _ b rfl rfl (by omega) w.heap.size a.size (splice cur 0 (cellsB a)) 5 HG2.out (by intro h; first | rfl | omega) (by rw [length_splice _ _ _ (by rw [cellsB_length]; omega)]; omega) w.heap.size w hB2 (Nat.le_refl _) ?_; intro w3 HG3 hB3; have hcv := Lib.run_convert_whole (P := Tryd.prog) w3 22 5 9 Tryd.underlying22 Tryd.underlying5 Tryd.underlying9 w.heap.size 0 (a ++ b) (bytes_of_cells (a ++ b) HG3.out (join_cells cur a b hcl)) (a.size + b.size); rw [ByteArray.size_append] at hcv; try simp only [hb0, Nat.add_zero] at hcv))
    go_ret
    exact ⟨rfl, hB3⟩

theorem copy_cells (cur : List Value) (a : ByteArray) (h : cur.length = a.size) : (splice cur 0 (cellsB a)).take a.size = cellsB a := by
  have ha := cellsB_length a
  simp only [splice, List.take_zero, List.nil_append, Nat.zero_add]
  rw [ha, List.drop_of_length_le (by omega), List.append_nil]
  exact List.take_of_length_le (by omega)
set_option maxHeartbeats 800000 in
theorem copyText_any (a : ByteArray) (w : World) (ha : a.size ≤ 1073741824) :
    Calls Tryd.prog 26 #[.string a] w fun e w' => e = .returned (.string a) ∧ Below w.heap.size w w' := by
  obtain ⟨i0, hi, hz0, hz1, hz2⟩ := info_parts info5
  have hmax : a.size ≤ maxLen := by unfold maxLen; omega
  go_enter Tryd.func26, Tryd.ntmps26
  go_wp2_with (first
    | (at_make; refine wpList_make_full _ rfl (.tmp 5) (.tmp 5) 22 rfl w.heap.size 5 i0 (.int .u8 0) 1 Tryd.underlying22 hi hz0 hz1 .i64 .i64 _ _ a.size rfl rfl (by omega) (by omega) (by rw [hz2]; omega) hmax (Nat.le_refl _) ?_; intro w1 hown1 hgrow1; have hB1 := (Below.refl w.heap.size w).grown hgrow1 (Nat.le_refl _) (fun k e => by cases e); obtain ⟨cur, HG1, hcl, _⟩ := own_block hown1; clear hown1 hgrow1)
    | (refine wpList_copy_str rfl (.tmp 7) (.tmp 8) 22 9 rfl 5 Tryd.underlying22 size5 _ _ _ a rfl rfl (by omega) w.heap.size 0 cur 5 HG1.out (fun _ => rfl) (by omega) w.heap.size w hB1 (Nat.le_refl _) ?_; intro w2 HG2 hB2; have hcv := Lib.run_convert_whole (P := Tryd.prog) w2 22 5 9 Tryd.underlying22 Tryd.underlying5 Tryd.underlying9 w.heap.size 0 a (bytes_of_cells a HG2.out (copy_cells cur a hcl)) a.size))
  go_ret
  exact ⟨rfl, hB2⟩
end Go.Proofs.YtmloafjdnjkiiaaDoor
