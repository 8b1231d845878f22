/- THE WALKS of the program's texts put together: joinTexts answers the texts of a row, one behind the other, and copyText the same text; nothing that was there turns. -/
import Derived.Test.YtineecongiplgaaProg
import Derived.Test.YtineecongiplgaaPlain
import Derived.Test.YtineecongiplgaaLaws
import Derived.WalkKit
import Derived.WalkSpells
import Derived.Outline
namespace Go.Proofs.Ytineecongiplgaa
open Go.RowKit
set_option linter.unusedVariables false

theorem info5 : (Try.prog.info? 5).map (fun i => (i.zero, i.size, i.bytes)) = some (some (.int .u8 0), 1, 1) := by kernel_rfl
theorem size5 : (Try.prog.info? 5).map (·.size) = some 1 := by kernel_rfl

/-- texts one behind the other -/
def joinT (ss : List ByteArray) : ByteArray := ss.foldl (· ++ ·) ByteArray.empty
theorem joinT_snoc (ss : List ByteArray) (s : ByteArray) : joinT (ss ++ [s]) = joinT ss ++ s := by simp [joinT, List.foldl_append]
theorem joinT_size_snoc (ss : List ByteArray) (s : ByteArray) : (joinT (ss ++ [s])).size = (joinT ss).size + s.size := by rw [joinT_snoc, ByteArray.size_append]
theorem take_more (ss : List ByteArray) (k : Nat) (h : k < ss.length) : ss.take (k + 1) = ss.take k ++ [ss[k]] := by
  rw [List.take_succ_eq_append_getElem h]
theorem joinT_le (ss : List ByteArray) (hz : ∀ s ∈ ss, s.size ≤ 1000000) : ∀ k, k ≤ ss.length → (joinT (ss.take k)).size ≤ 1000000 * k := by
  intro k
  induction k with
  | zero => intro _; simp [joinT]
  | succ k ih =>
    intro hk
    rw [take_more ss k hk, joinT_size_snoc]
    have := ih (by omega)
    have := hz ss[k] (List.getElem_mem _)
    omega
theorem joinT_mono (ss : List ByteArray) (k : Nat) (h : k ≤ ss.length) : (joinT (ss.take k)).size ≤ (joinT ss).size := by
  have key : ∀ (m : List ByteArray) (l : List ByteArray), (joinT l).size ≤ (joinT (l ++ m)).size := by
    intro m
    induction m with
    | nil => intro l; simp
    | cons c m ih =>
      intro l
      have h1 := ih (l ++ [c])
      rw [joinT_size_snoc, List.append_assoc] at h1
      exact Nat.le_trans (Nat.le_add_right _ _) h1
  have := key (ss.drop k) (ss.take k)
  rwa [List.take_append_drop] at this
theorem splice_more (cur : List Value) (a b : ByteArray) (off : Nat) (ho : a.size = off) (h : cur.take off = cellsB a) (hl : off + b.size ≤ cur.length) : (splice cur off (cellsB b)).take (off + b.size) = cellsB (a ++ b) := by
  rw [cellsB_append]
  simp only [splice]
  rw [h]
  have e : (cellsB a ++ cellsB b).length = off + b.size := by rw [List.length_append, cellsB_length, cellsB_length, ho]
  rw [← e, ← List.append_assoc]
  exact List.take_left
theorem row_str {w : World} {g : Nat} {ss : List ByteArray} {t : TypeId} {fz : Nat × Nat} (hg : w.heap[g]? = some (.cells (ss.map Value.string).toArray t fz)) (k : Nat) (hk : k < ss.length) : w.cell? ⟨g, k, none⟩ = some (.string ss[k]) := by
  simp [World.cell?, hg, hk]

set_option maxRecDepth 100000 in
set_option maxHeartbeats 1600000 in
theorem join_row (g : Nat) (fz : Nat × Nat) (ss : List ByteArray) (w : World) (hg : w.heap[g]? = some (.cells (ss.map Value.string).toArray 9 fz)) (hl : ss.length ≤ 8) (hz : ∀ s ∈ ss, s.size ≤ 1000000) :
    Calls Try.prog 81 #[.slice (some ⟨g, 0, none⟩) ss.length ss.length] w fun e w' => e = .returned (.string (joinT ss)) ∧ Below w.heap.size w w' := by
  obtain ⟨i0, hi, hz0, hz1, hz2⟩ := info_parts info5
  have HG : Hid _ := hg
  have HM : Hid _ := joinT_mono ss
  have HLE : Hid _ := joinT_le ss hz
  have htot : (joinT ss).size ≤ 8000000 := by have := joinT_le ss hz ss.length (Nat.le_refl _); rw [List.take_length] at this; omega
  have hgl : g < w.heap.size := by
    rcases Nat.lt_or_ge g w.heap.size with h | h
    · exact h
    · simp [Array.getElem?_eq_none h] at hg
  clear hg hz
  obtain ⟨J, HJ⟩ : ∃ J : Nat, Hid ((joinT ss).size = J) := ⟨_, show _ = _ from rfl⟩
  have htJ : J ≤ 8000000 := by rw [← HJ.out]; exact htot
  clear htot
  go_enter Try.func81, Try.ntmps81
  go_wp2
  go_loop [3, 12] (fun x i => ∃ k L : Nat, k ≤ ss.length ∧ i = .int .i64 k ∧ x = .int .i64 L ∧ L ≤ 8000000 ∧ Hid (L = (joinT (ss.take k)).size)) (fun _ i => ss.length - (intOf i).toNat)
  case atStart => exact ⟨0, 0, Nat.zero_le _, rfl, rfl, by omega, rfl⟩
  case round =>
    obtain ⟨k, L, hk, rfl, rfl, hL, HL⟩ := hrel
    by_cases hlt : k < ss.length
    · have hc := row_str HG.out k hlt
      have hle := HLE.out (k + 1) hlt
      have HS : Hid ((joinT (ss.take (k + 1))).size = L + ss[k].size) := by rw [take_more ss k hlt, joinT_size_snoc, HL.out]; rfl
      rw [HS.out] at hle
      obtain ⟨s, HSK⟩ : ∃ s, Hid (ss[k] = s) := ⟨_, show _ = _ from rfl⟩
      rw [HSK.out] at hc HS hle
      have hle2 : L + s.size ≤ 8000000 := by omega
      clear hle
      go_wp2
      go_round
      case rel => exact ⟨k + 1, L + s.size, by omega, by go_num, by go_num, by omega, HS.out.symm⟩
      case measure => simp [intOf]; omega
    · have hLJ : L = J := by rw [HL.out, ← HJ.out, List.take_of_length_le (by omega)]
      subst hLJ
      go_wp2_with (at_make; refine wpList_make_full _ rfl (.tmp 21) (.tmp 21) 22 rfl w.heap.size 5 i0 (.int .u8 0) 1 Try.underlying22 hi hz0 hz1 .i64 .i64 _ _ L rfl rfl (by omega) (by omega) (by rw [hz2]; omega) (by unfold maxLen; omega) (Nat.le_refl _) ?_; intro w1 hown1 hgrow1; have hB1 := (Below.refl w.heap.size w).grown hgrow1 (Nat.le_refl _) (fun k e => by cases e); obtain ⟨cur, HG1, hcl, _⟩ := own_block hown1; clear hown1 hgrow1)
      go_loopw [7, 25] (fun x i wr => ∃ (k A : Nat) (cs : List Value), k ≤ ss.length ∧ i = .int .i64 k ∧ x = .int .i64 A ∧ A ≤ L ∧ Hid (A = (joinT (ss.take k)).size) ∧ Hid (wr.heap[w.heap.size]? = some (.cells cs.toArray 5 (0, 0))) ∧ cs.length = L ∧ Hid (cs.take A = cellsB (joinT (ss.take k))) ∧ Below w.heap.size w wr) (fun _ i _ => ss.length - (intOf i).toNat)
      case atStart => exact ⟨0, 0, cur, Nat.zero_le _, rfl, rfl, by omega, rfl, HG1.out, hcl, rfl, hB1⟩
      case round =>
        obtain ⟨k, A, cs, hk, rfl, rfl, hA, HA, HW, hcs, HT, hbel⟩ := hrel
        by_cases hlt2 : k < ss.length
        · have hc := (hbel.cell (p := ⟨g, k, none⟩) hgl).trans (row_str HG.out k hlt2)
          have hmo := HM.out (k + 1) hlt2
          rw [HJ.out] at hmo
          have HS : Hid (joinT (ss.take (k + 1)) = joinT (ss.take k) ++ ss[k]) := by rw [take_more ss k hlt2, joinT_snoc]; rfl
          rw [HS.out, ByteArray.size_append, ← HA.out] at hmo
          obtain ⟨s, HSK⟩ : ∃ s, Hid (ss[k] = s) := ⟨_, show _ = _ from rfl⟩
          rw [HSK.out] at hc HS hmo
          by_cases hA0 : A = L
          all_goals
            go_wp2_with (refine wpList_copy_str rfl (.tmp 32) (.tmp 33) 22 9 rfl 5 Try.underlying22 size5 _ _ _ s rfl rfl (by omega) w.heap.size A cs 5 HW.out (by intro h; first | rfl | omega) (by omega) w.heap.size w hbel (Nat.le_refl _) ?_; intro w3 HG3 hB3)
            go_roundw
            case rel => exact ⟨k + 1, A + s.size, splice cs A (cellsB s), by omega, by go_num, by go_num, by omega, (show _ = _ by rw [HS.out, ByteArray.size_append, HA.out]), HG3.out, by rw [length_splice _ _ _ (by rw [cellsB_length]; omega)]; exact hcs, (show _ = _ by rw [HS.out]; exact splice_more cs _ s A HA.out.symm HT.out (by omega)), hB3⟩
            case measure => simp [intOf]; omega
        · have e1 : joinT (ss.take k) = joinT ss := by rw [List.take_of_length_le (by omega)]
          have hcv := Lib.run_convert_whole (P := Try.prog) wr 22 5 9 Try.underlying22 Try.underlying5 Try.underlying9 w.heap.size 0 (joinT ss) (bytes_of_cells (joinT ss) HW.out (by have h1 := HT.out; rw [HA.out, e1] at h1; exact h1)) L
          rw [HJ.out] at hcv
          go_wp2
          go_ret
          exact ⟨rfl, hbel⟩
theorem copy_cells (cur : List Value) (a : ByteArray) (h : cur.length = a.size) : (splice cur 0 (cellsB a)).take a.size = cellsB a := by
  have ha := cellsB_length a
  simp only [splice, List.take_zero, List.nil_append, Nat.zero_add]
  rw [ha, List.drop_of_length_le (by omega), List.append_nil]
  exact List.take_of_length_le (by omega)
theorem join_two (a b : ByteArray) (W : World) (ha : a.size ≤ 1000000) (hb : b.size ≤ 1000000) :
    Calls Try.prog 81 #[.slice (some ⟨W.heap.size, 0, none⟩) 2 2] (W.alloc (.cells #[.string a, .string b] 9)) fun e w' => e = .returned (.string (a ++ b)) ∧ Below W.heap.size W w' := by
  refine (join_row W.heap.size (0, 0) [a, b] _ (heap_alloc_new W _) (by simp) (by intro s hs; simp at hs; rcases hs with rfl | rfl <;> assumption)).mono ?_
  rintro e w' ⟨rfl, hb⟩
  refine ⟨by simp [joinT], ((Below.refl W.heap.size W).alloc (Nat.le_refl _) _).trans (hb.mono (by simp))⟩
end Go.Proofs.Ytineecongiplgaa
