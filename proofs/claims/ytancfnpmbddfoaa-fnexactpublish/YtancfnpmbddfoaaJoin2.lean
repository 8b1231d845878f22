/- THE WALKS of the program's texts put together: joinTexts answers the texts of a row, one behind the other, and copyText the same text; nothing that was there turns. -/
import Derived.Test.YtancfnpmbddfoaaProg
import Derived.Test.YtancfnpmbddfoaaPlain
import Derived.Test.YtancfnpmbddfoaaLaws
import Derived.WalkKit
import Derived.WalkSpells
import Derived.Outline
namespace Go.Proofs.Ytancfnpmbddfoaa
open Go.RowKit
set_option linter.unusedVariables false

theorem info5 : (Try.prog.info? 5).map (fun i => (i.zero, i.size, i.bytes)) = some (some (.int .u8 0), 1, 1) := by kernel_rfl
theorem size5 : (Try.prog.info? 5).map (·.size) = some 1 := by kernel_rfl

/-- texts one behind the other -/
def joinT (ss : List ByteArray) : ByteArray := ss.foldl (· ++ ·) ByteArray.empty
theorem joinT_snoc (ss : List ByteArray) (s : ByteArray) : joinT (ss ++ [s]) = joinT ss ++ s := by simp [joinT, List.foldl_append]
theorem joinT_size_snoc (ss : List ByteArray) (s : ByteArray) : (joinT (ss ++ [s])).size = (joinT ss).size + s.size := by rw [joinT_snoc, ByteArray.size_append]
theorem take_more (ss : List ByteArray) (k : Nat) (h : k < ss.length) : ss.take (k + 1) = ss.take k ++ [ss[k]] := by
  rw [List.take_succ_eq_append_getElem h]
theorem joinT_le (ss : List ByteArray) (hz : ∀ s ∈ ss, s.size ≤ 1000000) : ∀ k, k ≤ ss.length → (joinT (ss.take k)).size ≤ 1000000 * k := by
  intro k
  induction k with
  | zero => intro _; simp [joinT]
  | succ k ih =>
    intro hk
    rw [take_more ss k hk, joinT_size_snoc]
    have := ih (by omega)
    have := hz ss[k] (List.getElem_mem _)
    omega
theorem joinT_mono (ss : List ByteArray) (k : Nat) (h : k ≤ ss.length) : (joinT (ss.take k)).size ≤ (joinT ss).size := by
  have key : ∀ (m : List ByteArray) (l : List ByteArray), (joinT l).size ≤ (joinT (l ++ m)).size := by
    intro m
    induction m with
    | nil => intro l; simp
    | cons c m ih =>
      intro l
      have h1 := ih (l ++ [c])
      rw [joinT_size_snoc, List.append_assoc] at h1
      exact Nat.le_trans (Nat.le_add_right _ _) h1
  have := key (ss.drop k) (ss.take k)
  rwa [List.take_append_drop] at this
theorem splice_more (cur : List Value) (a b : ByteArray) (off : Nat) (ho : a.size = off) (h : cur.take off = cellsB a) (hl : off + b.size ≤ cur.length) : (splice cur off (cellsB b)).take (off + b.size) = cellsB (a ++ b) := by
  rw [cellsB_append]
  simp only [splice]
  rw [h]
  have e : (cellsB a ++ cellsB b).length = off + b.size := by rw [List.length_append, cellsB_length, cellsB_length, ho]
  rw [← e, ← List.append_assoc]
  exact List.take_left
theorem row_str {w : World} {g : Nat} {ss : List ByteArray} {t : TypeId} {fz : Nat × Nat} (hg : w.heap[g]? = some (.cells (ss.map Value.string).toArray t fz)) (k : Nat) (hk : k < ss.length) : w.cell? ⟨g, k, none⟩ = some (.string ss[k]) := by
  simp [World.cell?, hg, hk]

theorem copy_cells (cur : List Value) (a : ByteArray) (h : cur.length = a.size) : (splice cur 0 (cellsB a)).take a.size = cellsB a := by
  have ha := cellsB_length a
  simp only [splice, List.take_zero, List.nil_append, Nat.zero_add]
  rw [ha, List.drop_of_length_le (by omega), List.append_nil]
  exact List.take_of_length_le (by omega)
set_option maxHeartbeats 800000 in
theorem copyText_any (a : ByteArray) (w : World) (ha : a.size ≤ 1073741824) :
    Calls Try.prog 69 #[.string a] w fun e w' => e = .returned (.string a) ∧ Below w.heap.size w w' := by
  obtain ⟨i0, hi, hz0, hz1, hz2⟩ := info_parts info5
  have hmax : a.size ≤ maxLen := by unfold maxLen; omega
  go_enter Try.func69, Try.ntmps69
  go_wp2_with (first
    | (at_make; refine wpList_make_full _ rfl (.tmp 5) (.tmp 5) 89 rfl w.heap.size 5 i0 (.int .u8 0) 1 Try.underlying89 hi hz0 hz1 .i64 .i64 _ _ a.size rfl rfl (by omega) (by omega) (by rw [hz2]; omega) hmax (Nat.le_refl _) ?_; intro w1 hown1 hgrow1; have hB1 := (Below.refl w.heap.size w).grown hgrow1 (Nat.le_refl _) (fun k e => by cases e); obtain ⟨cur, HG1, hcl, _⟩ := own_block hown1; clear hown1 hgrow1)
    | (refine wpList_copy_str rfl (.tmp 7) (.tmp 8) 89 9 rfl 5 Try.underlying89 size5 _ _ _ a rfl rfl (by omega) w.heap.size 0 cur 5 HG1.out (fun _ => rfl) (by omega) w.heap.size w hB1 (Nat.le_refl _) ?_; intro w2 HG2 hB2; have hcv := Lib.run_convert_whole (P := Try.prog) w2 89 5 9 Try.underlying89 Try.underlying5 Try.underlying9 w.heap.size 0 a (bytes_of_cells a HG2.out (copy_cells cur a hcl)) a.size))
  go_ret
  exact ⟨rfl, hB2⟩
end Go.Proofs.Ytancfnpmbddfoaa
