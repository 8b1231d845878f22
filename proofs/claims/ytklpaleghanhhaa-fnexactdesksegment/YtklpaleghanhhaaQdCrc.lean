/- WHETHER EACH NUMBER IS FROM 0 TO A TOP: the program's allUpTo. -/
import Derived.Test.YtklpaleghanhhaaQdBox
import Derived.Test.YtklpaleghanhhaaProg
import Derived.Test.YtklpaleghanhhaaQdPlainNums
import Derived.Test.YtklpaleghanhhaaQdKeep
import Derived.WalkKit
import Derived.WalkSpells
import Derived.Outline
import Derived.Below
import Derived.Laws.BitsAllLaws
namespace Go.Proofs.Ytklpaleghanhhaa
open Go.RowKit
set_option linter.unusedVariables false
set_option linter.unusedSimpArgs false

def upToS (top n : Int) : Bool := decide (0 ≤ n) && decide (n ≤ top)
theorem all_noS {p : Int → Bool} {zs : List Int} {k : Nat} (h : k < zs.length) (hk : p zs[k] = false) : zs.all p = false := by
  rw [Bool.eq_false_iff]
  intro h1
  rw [List.all_eq_true] at h1
  have := h1 _ (List.getElem_mem h)
  rw [hk] at this
  cases this
theorem all_takeS {p : Int → Bool} {zs : List Int} {k : Nat} (h : k < zs.length) (h1 : (zs.take k).all p = true) (hk : p zs[k] = true) : (zs.take (k + 1)).all p = true := by
  rw [List.take_succ_eq_append_getElem h, List.all_append, h1]
  simp [hk]
end Go.Proofs.Ytklpaleghanhhaa
/- THE WALKS of PutNum, the program's and the model's: both answer the number's bytes. -/
namespace Go.Proofs.Ytklpaleghanhhaa
open Go.RowKit

theorem foldSign_any (n : Int) (w : World) (hn : (Lit.int .i64 n).wf = true) :
    Calls Try.prog 130 #[.int .i64 n] w fun e w' => e = .returned (.int .u64 (foldN n : Nat)) ∧ w = w' := by
  have hb := bounds_i64 hn
  by_cases h : 0 ≤ n
  · go_enter Try.func130, Try.ntmps130
    go_wp2
    go_ret
    exact ⟨ret_int (by rw [foldN_pos h]), rfl⟩
  · go_enter Try.func130, Try.ntmps130
    go_wp2
    go_ret
    exact ⟨ret_int (by rw [foldN_neg (by omega)]), rfl⟩
theorem l01Fold_any (n : Int) (w : World) (hn : (Lit.int .i64 n).wf = true) :
    Calls Try.prog 109 #[.int .i64 n] w fun e w' => e = .returned (.int .u64 (foldN n : Nat)) ∧ w = w' := by
  have hb := bounds_i64 hn
  by_cases h : 0 ≤ n
  · go_enter Try.func109, Try.ntmps109
    go_wp2
    go_ret
    exact ⟨ret_int (by rw [foldN_pos h]), rfl⟩
  · go_enter Try.func109, Try.ntmps109
    go_wp2
    go_ret
    exact ⟨ret_int (by rw [foldN_neg (by omega)]), rfl⟩

theorem info5n : (Try.prog.info? 5).map (fun i => (i.zero, i.size, i.bytes)) = some (some (.int .u8 0), 1, 1) := by kernel_rfl

set_option maxRecDepth 100000 in
set_option maxHeartbeats 800000 in
theorem specPutNum_any (n : Int) (w : World) (hn : (Lit.int .i64 n).wf = true) :
    Calls Try.prog 72 #[.int .i64 n] w fun e w' => e = .returned (.string (putB n)) ∧ Below w.heap.size w w' := by
  obtain ⟨i0, hi, hz0, hz1, hz2⟩ := info_parts info5n
  have hlt := foldN_lt hn
  have hlen := putU_len10 hlt
  go_enter Try.func72, Try.ntmps72
  go_wp2_with (go_at_call 109; refine (l01Fold_any n _ hn).mono ?_; rintro e w' ⟨rfl, rfl⟩)
  go_loopw [3, 4] (fun x v wr => ∃ (u : Nat) (pre : List UInt8), x = .int .u64 u ∧ u < 18446744073709551616 ∧ Hid (pre ++ putU u = putU (foldN n)) ∧ wr.ownsRow w.heap.size 5 1 v pre.length (cellsL pre) ∧ Below w.heap.size w wr)
    (fun x _ _ => (intOf x).toNat)
  case atStart => exact ⟨foldN n, [], rfl, hlt, rfl, World.ownsRow_made _ #[] 0 (Nat.le_refl _) (by decide) rfl, (Below.refl _ _).alloc (Nat.le_refl _) _⟩
  case round =>
    obtain ⟨u, pre, rfl, hu, HP, hown, hbel⟩ := hrel
    have hsz := hbel.size
    have hpl : pre.length ≤ 10 := by have := congrArg List.length HP.out; simp at this; omega
    clear hlen hlt
    by_cases hge : 128 ≤ u
    · go_wp2_with (at_builtin; refine wpList_append_own _ rfl (.tmp 10) (.tmp 15) 155 rfl w.heap.size 5 i0 (.int .u8 0) 1 1 Try.underlying155 hi hz0 hz1 hz2 rfl (by decide) _ _ _ rfl (hown.alloc _) ⟨wr.heap.size, 0, none⟩ 1 1 [_] rfl rfl (cell_one_new _ _ _) (by intro x hx; simp at hx; subst hx; rfl) (by unfold maxLen; omega) (by omega) (by simp; omega) ?_; intro v' w2 hown' hgrow _)
      go_roundw
      case rel => exact ⟨u / 128, pre ++ [UInt8.ofNat (u % 128 + 128)], by go_num, by omega, next_hi hge HP.out, own_hi hown', (hbel.alloc hsz _).grown hgrow (by simp; omega) (fun k e => (hown.lt k e).1)⟩
      case measure => simp [intOf]; omega
    · have hlo : u < 128 := by omega
      clear hge
      go_wp2_with (at_builtin; refine wpList_append_own _ rfl (.tmp 19) (.tmp 22) 155 rfl w.heap.size 5 i0 (.int .u8 0) 1 1 Try.underlying155 hi hz0 hz1 hz2 rfl (by decide) _ _ _ rfl (hown.alloc _) ⟨wr.heap.size, 0, none⟩ 1 1 [_] rfl rfl (cell_one_new _ _ _) (by intro x hx; simp at hx; subst hx; rfl) (by unfold maxLen; omega) (by omega) (by simp; omega) ?_; intro v' w2 hown' hgrow _; have hb2 := (hbel.alloc hsz (.cells #[.int .u8 (u : Int)] 5)).grown hgrow (by simp; omega) (fun k e => (hown.lt k e).1); obtain ⟨g, cap, hv, hcv⟩ := own_conv (P := Try.prog) 155 5 9 Try.underlying155 Try.underlying5 Try.underlying9 (own_last hlo HP.out hown') (putB_pos n); clear hown' hgrow; rw [hv])
      go_ret
      exact ⟨rfl, hb2⟩

theorem len10 : Try.prog.underlying 179 = some (.array 10 5) := by kernel_rfl
theorem slice10 (w : World) (g k : Nat) (hk : k + 1 ≤ 10) : (Instr.sliceAt 179 (.pointer (some ⟨g, 0, none⟩)) none (some (.int .i64 ((k : Int) + 1))) none).run Try.prog w = .ok (.slice (some ⟨g, 0, none⟩) (k + 1) 10) w := by
  have e1 : Try.prog.arrayLen 179 = 10 := by kernel_rfl
  have e2 : Try.prog.elem 179 = 5 := by kernel_rfl
  have h := run_sliceAt_array_h (P := Try.prog) w 179 ⟨g, 0, none⟩ (by rw [e1, e2]; exact len10) .i64 ((k : Int) + 1) (by omega) (by rw [e1]; omega)
  rw [h, e1, e2]
  have e3 : (Go.sizeOf 5).run Try.prog w = .ok 1 w := by kernel_rfl
  rw [e3]
  have e4 : ((k : Int) + 1).toNat = k + 1 := by omega
  simp [Result.andThen, slicedAt, e4, Addr.add]
set_option maxRecDepth 100000 in
set_option maxHeartbeats 800000 in
theorem putNum_any (n : Int) (w : World) (hn : (Lit.int .i64 n).wf = true) :
    Calls Try.prog 112 #[.int .i64 n] w fun e w' => e = .returned (.string (putB n)) ∧ Below w.heap.size w w' := by
  have hlt := foldN_lt hn
  have hlen := putU_len10 hlt
  go_enter Try.func112, Try.ntmps112
  go_wp2_with (go_at_call 130; refine (foldSign_any n _ hn).mono ?_; rintro e w' ⟨rfl, rfl⟩)
  go_loopw [4, 5] (fun i x wr => ∃ (u : Nat) (pre : List UInt8) (cs : List Value), i = .int .i64 pre.length ∧ x = .int .u64 u ∧ u < 18446744073709551616 ∧ Hid (pre ++ putU u = putU (foldN n)) ∧ Hid (wr.heap[w.heap.size]? = some (.cells cs.toArray 179 (0, 0))) ∧ cs.length = 10 ∧ Hid (cs.take pre.length = cellsL pre) ∧ Below w.heap.size w wr)
    (fun _ x _ => (intOf x).toNat)
  case atStart => exact ⟨foldN n, [], List.replicate 10 (.int .u8 0), rfl, rfl, hlt, rfl, heap_alloc_new w _, rfl, rfl, (Below.refl _ _).alloc (Nat.le_refl _) _⟩
  case round =>
    obtain ⟨u, pre, cs, rfl, rfl, hu, HP, HG, hcs, HT, hbel⟩ := hrel
    have hp := putU_pos u
    have hpl : pre.length < 10 := by have := congrArg List.length HP.out; simp at this; omega
    obtain ⟨hc, hf⟩ := cell_at HG.out (show pre.length < cs.length by omega)
    clear hlen hlt hp
    by_cases hge : 128 ≤ u
    · go_wp2
      go_roundw
      case rel => exact ⟨u / 128, pre ++ [UInt8.ofNat (u % 128 + 128)], cs.set pre.length (.int .u8 ((u : Int) % 128 + 128)), by simp, by go_num, by omega, next_hi hge HP.out, set_at _ _ HG.out, by simpa using hcs, by rw [List.length_append]; exact (take_set _ (by omega)).trans (by rw [HT.out, step_hi]), hbel.setCell (Nat.le_refl _) _⟩
      case measure => simp [intOf]; omega
    · have hlo : u < 128 := by omega
      clear hge
      have hsl := fun wx => slice10 wx w.heap.size pre.length (by omega)
      have hcv := Lib.run_convert_whole (P := Try.prog) (wr.setCell ⟨w.heap.size, pre.length, none⟩ (.int .u8 (u : Int))) 155 5 9 Try.underlying155 Try.underlying5 Try.underlying9 w.heap.size 0 (putB n) (bytes_of_cells (putB n) (set_at _ _ HG.out) (by rw [last_size hlo HP.out, take_set _ (by omega), HT.out, last_cells hlo HP.out])) 10
      rw [last_size hlo HP.out] at hcv
      go_wp2
      go_ret
      exact ⟨rfl, hbel.setCell (Nat.le_refl _) _⟩
end Go.Proofs.Ytklpaleghanhhaa
/- THE WALKS of the program's texts put together: joinTexts answers the texts of a row, one behind the other, and copyText the same text; nothing that was there turns. -/
namespace Go.Proofs.Ytklpaleghanhhaa
open Go.RowKit
set_option linter.unusedVariables false

theorem info5 : (Try.prog.info? 5).map (fun i => (i.zero, i.size, i.bytes)) = some (some (.int .u8 0), 1, 1) := by kernel_rfl
theorem size5 : (Try.prog.info? 5).map (·.size) = some 1 := by kernel_rfl

/-- texts one behind the other -/
def joinT (ss : List ByteArray) : ByteArray := ss.foldl (· ++ ·) ByteArray.empty
theorem joinT_snoc (ss : List ByteArray) (s : ByteArray) : joinT (ss ++ [s]) = joinT ss ++ s := by simp [joinT, List.foldl_append]
theorem joinT_size_snoc (ss : List ByteArray) (s : ByteArray) : (joinT (ss ++ [s])).size = (joinT ss).size + s.size := by rw [joinT_snoc, ByteArray.size_append]
theorem take_more (ss : List ByteArray) (k : Nat) (h : k < ss.length) : ss.take (k + 1) = ss.take k ++ [ss[k]] := by
  rw [List.take_succ_eq_append_getElem h]
theorem joinT_le (ss : List ByteArray) (hz : ∀ s ∈ ss, s.size ≤ 1000000) : ∀ k, k ≤ ss.length → (joinT (ss.take k)).size ≤ 1000000 * k := by
  intro k
  induction k with
  | zero => intro _; simp [joinT]
  | succ k ih =>
    intro hk
    rw [take_more ss k hk, joinT_size_snoc]
    have := ih (by omega)
    have := hz ss[k] (List.getElem_mem _)
    omega
theorem joinT_mono (ss : List ByteArray) (k : Nat) (h : k ≤ ss.length) : (joinT (ss.take k)).size ≤ (joinT ss).size := by
  have key : ∀ (m : List ByteArray) (l : List ByteArray), (joinT l).size ≤ (joinT (l ++ m)).size := by
    intro m
    induction m with
    | nil => intro l; simp
    | cons c m ih =>
      intro l
      have h1 := ih (l ++ [c])
      rw [joinT_size_snoc, List.append_assoc] at h1
      exact Nat.le_trans (Nat.le_add_right _ _) h1
  have := key (ss.drop k) (ss.take k)
  rwa [List.take_append_drop] at this
theorem splice_more (cur : List Value) (a b : ByteArray) (off : Nat) (ho : a.size = off) (h : cur.take off = cellsB a) (hl : off + b.size ≤ cur.length) : (splice cur off (cellsB b)).take (off + b.size) = cellsB (a ++ b) := by
  rw [cellsB_append]
  simp only [splice]
  rw [h]
  have e : (cellsB a ++ cellsB b).length = off + b.size := by rw [List.length_append, cellsB_length, cellsB_length, ho]
  rw [← e, ← List.append_assoc]
  exact List.take_left
theorem row_str {w : World} {g : Nat} {ss : List ByteArray} {t : TypeId} {fz : Nat × Nat} (hg : w.heap[g]? = some (.cells (ss.map Value.string).toArray t fz)) (k : Nat) (hk : k < ss.length) : w.cell? ⟨g, k, none⟩ = some (.string ss[k]) := by
  simp [World.cell?, hg, hk]

set_option maxRecDepth 100000 in
set_option maxHeartbeats 1600000 in
theorem join_row (g : Nat) (fz : Nat × Nat) (ss : List ByteArray) (w : World) (hg : w.heap[g]? = some (.cells (ss.map Value.string).toArray 9 fz)) (hl : ss.length ≤ 8) (hz : ∀ s ∈ ss, s.size ≤ 1000000) :
    Calls Try.prog 111 #[.slice (some ⟨g, 0, none⟩) ss.length ss.length] w fun e w' => e = .returned (.string (joinT ss)) ∧ Below w.heap.size w w' := by
  obtain ⟨i0, hi, hz0, hz1, hz2⟩ := info_parts info5
  have HG : Hid _ := hg
  have HM : Hid _ := joinT_mono ss
  have HLE : Hid _ := joinT_le ss hz
  have htot : (joinT ss).size ≤ 8000000 := by have := joinT_le ss hz ss.length (Nat.le_refl _); rw [List.take_length] at this; omega
  have hgl : g < w.heap.size := by
    rcases Nat.lt_or_ge g w.heap.size with h | h
    · exact h
    · simp [Array.getElem?_eq_none h] at hg
  clear hg hz
  obtain ⟨J, HJ⟩ : ∃ J : Nat, Hid ((joinT ss).size = J) := ⟨_, show _ = _ from rfl⟩
  have htJ : J ≤ 8000000 := by rw [← HJ.out]; exact htot
  clear htot
  go_enter Try.func111, Try.ntmps111
  go_wp2
  go_loop [3, 12] (fun x i => ∃ k L : Nat, k ≤ ss.length ∧ i = .int .i64 k ∧ x = .int .i64 L ∧ L ≤ 8000000 ∧ Hid (L = (joinT (ss.take k)).size)) (fun _ i => ss.length - (intOf i).toNat)
  case atStart => exact ⟨0, 0, Nat.zero_le _, rfl, rfl, by omega, rfl⟩
  case round =>
    obtain ⟨k, L, hk, rfl, rfl, hL, HL⟩ := hrel
    by_cases hlt : k < ss.length
    · have hc := row_str HG.out k hlt
      have hle := HLE.out (k + 1) hlt
      have HS : Hid ((joinT (ss.take (k + 1))).size = L + ss[k].size) := by rw [take_more ss k hlt, joinT_size_snoc, HL.out]; rfl
      rw [HS.out] at hle
      obtain ⟨s, HSK⟩ : ∃ s, Hid (ss[k] = s) := ⟨_, show _ = _ from rfl⟩
      rw [HSK.out] at hc HS hle
      have hle2 : L + s.size ≤ 8000000 := by omega
      clear hle
      go_wp2
      go_round
      case rel => exact ⟨k + 1, L + s.size, by omega, by go_num, by go_num, by omega, HS.out.symm⟩
      case measure => simp [intOf]; omega
    · have hLJ : L = J := by rw [HL.out, ← HJ.out, List.take_of_length_le (by omega)]
      subst hLJ
      go_wp2_with (at_make; refine wpList_make_full _ rfl (.tmp 21) (.tmp 21) 155 rfl w.heap.size 5 i0 (.int .u8 0) 1 Try.underlying155 hi hz0 hz1 .i64 .i64 _ _ L rfl rfl (by omega) (by omega) (by rw [hz2]; omega) (by unfold maxLen; omega) (Nat.le_refl _) ?_; intro w1 hown1 hgrow1; have hB1 := (Below.refl w.heap.size w).grown hgrow1 (Nat.le_refl _) (fun k e => by cases e); obtain ⟨cur, HG1, hcl, _⟩ := own_block hown1; clear hown1 hgrow1)
      go_loopw [7, 25] (fun x i wr => ∃ (k A : Nat) (cs : List Value), k ≤ ss.length ∧ i = .int .i64 k ∧ x = .int .i64 A ∧ A ≤ L ∧ Hid (A = (joinT (ss.take k)).size) ∧ Hid (wr.heap[w.heap.size]? = some (.cells cs.toArray 5 (0, 0))) ∧ cs.length = L ∧ Hid (cs.take A = cellsB (joinT (ss.take k))) ∧ Below w.heap.size w wr) (fun _ i _ => ss.length - (intOf i).toNat)
      case atStart => exact ⟨0, 0, cur, Nat.zero_le _, rfl, rfl, by omega, rfl, HG1.out, hcl, rfl, hB1⟩
      case round =>
        obtain ⟨k, A, cs, hk, rfl, rfl, hA, HA, HW, hcs, HT, hbel⟩ := hrel
        by_cases hlt2 : k < ss.length
        · have hc := (hbel.cell (p := ⟨g, k, none⟩) hgl).trans (row_str HG.out k hlt2)
          have hmo := HM.out (k + 1) hlt2
          rw [HJ.out] at hmo
          have HS : Hid (joinT (ss.take (k + 1)) = joinT (ss.take k) ++ ss[k]) := by rw [take_more ss k hlt2, joinT_snoc]; rfl
          rw [HS.out, ByteArray.size_append, ← HA.out] at hmo
          obtain ⟨s, HSK⟩ : ∃ s, Hid (ss[k] = s) := ⟨_, show _ = _ from rfl⟩
          rw [HSK.out] at hc HS hmo
          by_cases hA0 : A = L
          all_goals
            go_wp2_with (refine wpList_copy_str rfl (.tmp 32) (.tmp 33) 155 9 rfl 5 Try.underlying155 size5 _ _ _ s rfl rfl (by omega) w.heap.size A cs 5 HW.out (by intro h; first | rfl | omega) (by omega) w.heap.size w hbel (Nat.le_refl _) ?_; intro w3 HG3 hB3)
            go_roundw
            case rel => exact ⟨k + 1, A + s.size, splice cs A (cellsB s), by omega, by go_num, by go_num, by omega, (show _ = _ by rw [HS.out, ByteArray.size_append, HA.out]), HG3.out, by rw [length_splice _ _ _ (by rw [cellsB_length]; omega)]; exact hcs, (show _ = _ by rw [HS.out]; exact splice_more cs _ s A HA.out.symm HT.out (by omega)), hB3⟩
            case measure => simp [intOf]; omega
        · have e1 : joinT (ss.take k) = joinT ss := by rw [List.take_of_length_le (by omega)]
          have hcv := Lib.run_convert_whole (P := Try.prog) wr 155 5 9 Try.underlying155 Try.underlying5 Try.underlying9 w.heap.size 0 (joinT ss) (bytes_of_cells (joinT ss) HW.out (by have h1 := HT.out; rw [HA.out, e1] at h1; exact h1)) L
          rw [HJ.out] at hcv
          go_wp2
          go_ret
          exact ⟨rfl, hbel⟩
theorem copy_cells (cur : List Value) (a : ByteArray) (h : cur.length = a.size) : (splice cur 0 (cellsB a)).take a.size = cellsB a := by
  have ha := cellsB_length a
  simp only [splice, List.take_zero, List.nil_append, Nat.zero_add]
  rw [ha, List.drop_of_length_le (by omega), List.append_nil]
  exact List.take_of_length_le (by omega)
set_option maxHeartbeats 800000 in
theorem copyText_any (a : ByteArray) (w : World) (ha : a.size ≤ 1073741824) :
    Calls Try.prog 80 #[.string a] w fun e w' => e = .returned (.string a) ∧ Below w.heap.size w w' := by
  obtain ⟨i0, hi, hz0, hz1, hz2⟩ := info_parts info5
  have hmax : a.size ≤ maxLen := by unfold maxLen; omega
  go_enter Try.func80, Try.ntmps80
  go_wp2_with (first
    | (at_make; refine wpList_make_full _ rfl (.tmp 5) (.tmp 5) 155 rfl w.heap.size 5 i0 (.int .u8 0) 1 Try.underlying155 hi hz0 hz1 .i64 .i64 _ _ a.size rfl rfl (by omega) (by omega) (by rw [hz2]; omega) hmax (Nat.le_refl _) ?_; intro w1 hown1 hgrow1; have hB1 := (Below.refl w.heap.size w).grown hgrow1 (Nat.le_refl _) (fun k e => by cases e); obtain ⟨cur, HG1, hcl, _⟩ := own_block hown1; clear hown1 hgrow1)
    | (refine wpList_copy_str rfl (.tmp 7) (.tmp 8) 155 9 rfl 5 Try.underlying155 size5 _ _ _ a rfl rfl (by omega) w.heap.size 0 cur 5 HG1.out (fun _ => rfl) (by omega) w.heap.size w hB1 (Nat.le_refl _) ?_; intro w2 HG2 hB2; have hcv := Lib.run_convert_whole (P := Try.prog) w2 155 5 9 Try.underlying155 Try.underlying5 Try.underlying9 w.heap.size 0 a (bytes_of_cells a HG2.out (copy_cells cur a hcl)) a.size))
  go_ret
  exact ⟨rfl, hB2⟩
theorem join_two (a b : ByteArray) (W : World) (ha : a.size ≤ 1000000) (hb : b.size ≤ 1000000) :
    Calls Try.prog 111 #[.slice (some ⟨W.heap.size, 0, none⟩) 2 2] (W.alloc (.cells #[.string a, .string b] 9)) fun e w' => e = .returned (.string (a ++ b)) ∧ Below W.heap.size W w' := by
  refine (join_row W.heap.size (0, 0) [a, b] _ (heap_alloc_new W _) (by simp) (by intro s hs; simp at hs; rcases hs with rfl | rfl <;> assumption)).mono ?_
  rintro e w' ⟨rfl, hb⟩
  refine ⟨by simp [joinT], ((Below.refl W.heap.size W).alloc (Nat.le_refl _) _).trans (hb.mono (by simp))⟩
end Go.Proofs.Ytklpaleghanhhaa
/- THE WALKS of the CRC's functions: what each answers at every argument. -/
namespace Go.Proofs.Ytklpaleghanhhaa
open Go.RowKit

set_option maxHeartbeats 400000 in
theorem crcByte_any (r b : Nat) (w : World) (hr : r < 4294967296) (hb : b < 256) :
    Calls Try.prog 134 #[.int .u32 r, .int .u8 b] w fun e w' => e = .returned (.int .u32 (crcB r b : Nat)) ∧ w' = w := by
  go_enter Try.func134, Try.ntmps134
  go_wp2
  go_loop [0, 5] (fun x i => ∃ k : Nat, k ≤ 8 ∧ i = .int .i64 k ∧ x = .int .u32 (bitSteps b k r : Nat)) (fun _ i => 8 - (intOf i).toNat)
  case atStart => exact ⟨0, Nat.zero_le _, rfl, rfl⟩
  case round =>
    obtain ⟨k, hk, rfl, rfl⟩ := hrel
    have hx := bitSteps_lt b k hr
    by_cases hlt : k < 8
    · go_wp2
      · have ht : ((bits BinOp.xor IntKind.u32 (↑(bitSteps b k r)) (↑b / 2 ^ k % 4294967296)).tmod 2 == 1) = true := by assumption
        go_round
        case rel => exact ⟨k + 1, by omega, by go_num, congrArg _ (bit_yes hx hb ht)⟩
        case measure => simp [intOf]; omega
      · have ht : ((bits BinOp.xor IntKind.u32 (↑(bitSteps b k r)) (↑b / 2 ^ k % 4294967296)).tmod 2 == 1) = false := by assumption
        go_round
        case rel => exact ⟨k + 1, by omega, by go_num, congrArg _ (bit_no hx hb ht)⟩
        case measure => simp [intOf]; omega
    · have e8 : k = 8 := by omega
      subst e8
      go_wp2
      go_ret
      exact ⟨ret_int (by rw [bitSteps_crcB b r hb]), rfl⟩

set_option maxHeartbeats 800000 in
theorem l01Crc_any (c : Nat) (s : ByteArray) (w : World) (hc : c < 4294967296) (hs : s.size ≤ maxLen) :
    Calls Try.prog 108 #[.int .i64 c, .string s] w fun e w' => e = .returned (.int .i64 (crcL (c ^^^ 4294967295) s.data.toList ^^^ 4294967295 : Nat)) ∧ w' = w := by
  unfold maxLen at hs
  have hc' : c ^^^ 4294967295 < 4294967296 := xor_lt32 hc (by decide)
  go_enter Try.func108, Try.ntmps108
  go_wp2
  go_loop [5, 6] (fun x i => ∃ k : Nat, k ≤ s.size ∧ i = .int .i64 k ∧ x = .int .u32 (crcL (c ^^^ 4294967295) (s.data.toList.take k) : Nat)) (fun _ i => s.size - (intOf i).toNat)
  case atStart => exact ⟨0, Nat.zero_le _, rfl, congrArg _ (xor_ones c hc)⟩
  case round =>
    obtain ⟨k, hk, rfl, rfl⟩ := hrel
    have hR := crcL_lt (s.data.toList.take k) hc'
    by_cases hlt : k < s.size
    · have HS : Hid (crcL (c ^^^ 4294967295) (s.data.toList.take (k + 1)) = crcSteps 8 (crcL (c ^^^ 4294967295) (s.data.toList.take k) ^^^ s[k].toNat)) := by rw [take_snoc s k hlt, crcL_snoc]; rfl
      have hb := u8_lt s[k]
      generalize crcL (c ^^^ 4294967295) (s.data.toList.take k) = R at hR HS
      have hY := xor_lt32 hR (show s[k].toNat < 4294967296 by omega)
      go_wp2
      go_loop [5, 7] (fun x i => ∃ j : Nat, j ≤ 8 ∧ i = .int .i64 j ∧ x = .int .u32 (crcSteps j (R ^^^ s[k].toNat) : Nat)) (fun _ i => 8 - (intOf i).toNat)
      case atStart => exact ⟨0, Nat.zero_le _, rfl, by rw [start_plain _ _ hR hb]⟩
      case round =>
        obtain ⟨j, hj, rfl, rfl⟩ := hrel
        have hX := crcSteps_lt j hY
        have SY := @step_yes (crcSteps j (R ^^^ s[k].toNat)) hX
        have SN := @step_no (crcSteps j (R ^^^ s[k].toNat)) hX
        have HN : Hid (crcSteps (j + 1) (R ^^^ s[k].toNat) = crcStep (crcSteps j (R ^^^ s[k].toNat))) := rfl
        obtain ⟨X, HX⟩ : ∃ X, Hid (crcSteps j (R ^^^ s[k].toNat) = X) := ⟨_, show _ = _ from rfl⟩
        rw [HX.out] at hX SY SN HN ⊢
        by_cases hlt8 : j < 8
        · go_wp2
          · have ht : (bits BinOp.and IntKind.u32 (↑X) 1 == 1) = true := by assumption
            go_round
            case rel => exact ⟨j + 1, by omega, by go_num, by rw [HN.out]⟩
            case measure => simp [intOf]; omega
          · have ht : (bits BinOp.and IntKind.u32 (↑X) 1 == 1) = false := by assumption
            go_round
            case rel => exact ⟨j + 1, by omega, by go_num, by rw [HN.out]⟩
            case measure => simp [intOf]; omega
        · go_wp2
          go_round
          case rel => exact ⟨k + 1, by omega, by go_num, by rw [HS.out, ← HX.out, show j = 8 by omega]⟩
          case measure => simp [intOf]; omega
    · go_wp2
      go_ret
      exact ⟨ret_int (by rw [List.take_of_length_le (by simp; omega)]; rw [xor_ones _ (crcL_lt _ hc')]; have := xor_lt32 (crcL_lt s.data.toList hc') (show 4294967295 < 4294967296 by decide); unfold wrap64; omega), rfl⟩

/-- of all arguments -/
def crcM (c : Int) (s : ByteArray) : Int := if 8000 < s.size ∨ c < 0 ∨ 4294967295 < c then 0 else (crcL (c.toNat ^^^ 4294967295) s.data.toList ^^^ 4294967295 : Nat)

set_option maxHeartbeats 800000 in
theorem crcMore_in (c : Nat) (s : ByteArray) (w : World) (hc : c < 4294967296) (hs : s.size ≤ 8000) :
    Calls Try.prog 133 #[.int .i64 c, .string s] w fun e w' => e = .returned (.int .i64 (crcL (c ^^^ 4294967295) s.data.toList ^^^ 4294967295 : Nat)) ∧ w' = w := by
  have hc' : c ^^^ 4294967295 < 4294967296 := xor_lt32 hc (by decide)
  go_enter Try.func133, Try.ntmps133
  go_wp2
  go_loop [5, 6] (fun x i => ∃ k : Nat, k ≤ s.size ∧ i = .int .i64 k ∧ x = .int .u32 (crcL (c ^^^ 4294967295) (s.data.toList.take k) : Nat)) (fun _ i => s.size - (intOf i).toNat)
  case atStart => exact ⟨0, Nat.zero_le _, rfl, by rw [ones_xor c hc]; rfl⟩
  case round =>
    obtain ⟨k, hk, rfl, rfl⟩ := hrel
    have hR := crcL_lt (s.data.toList.take k) hc'
    by_cases hlt : k < s.size
    · have HS : Hid (crcL (c ^^^ 4294967295) (s.data.toList.take (k + 1)) = crcB (crcL (c ^^^ 4294967295) (s.data.toList.take k)) s[k].toNat) := by rw [take_snoc s k hlt, crcL_snoc]; rfl
      have hb := u8_lt s[k]
      generalize crcL (c ^^^ 4294967295) (s.data.toList.take k) = R at hR HS
      go_wp2_with (go_at_call 134; refine (crcByte_any R s[k].toNat _ hR hb).mono ?_; rintro e w' ⟨rfl, rfl⟩)
      go_round
      case rel => exact ⟨k + 1, by omega, by go_num, by rw [HS.out]⟩
      case measure => simp [intOf]; omega
    · go_wp2
      go_ret
      exact ⟨ret_int (by rw [List.take_of_length_le (by simp; omega)]; rw [ones_xor _ (crcL_lt _ hc')]; have := xor_lt32 (crcL_lt s.data.toList hc') (show 4294967295 < 4294967296 by decide); unfold wrap64; omega), rfl⟩

theorem crcMore_any (c : Int) (s : ByteArray) (w : World) (hs : s.size ≤ maxLen) :
    Calls Try.prog 133 #[.int .i64 c, .string s] w fun e w' => e = .returned (.int .i64 (crcM c s)) ∧ w' = w := by
  unfold maxLen at hs
  by_cases h1 : 8000 < s.size
  · unfold crcM; rw [if_pos (by omega)]
    go_enter Try.func133, Try.ntmps133
    go_wp2
    go_ret
    exact ⟨rfl, rfl⟩
  by_cases h2 : c < 0
  · unfold crcM; rw [if_pos (by omega)]
    go_enter Try.func133, Try.ntmps133
    go_wp2
    go_ret
    exact ⟨rfl, rfl⟩
  by_cases h3 : 4294967295 < c
  · unfold crcM; rw [if_pos (by omega)]
    go_enter Try.func133, Try.ntmps133
    go_wp2
    go_ret
    exact ⟨rfl, rfl⟩
  · unfold crcM; rw [if_neg (by omega)]
    obtain ⟨C, rfl⟩ := Int.eq_ofNat_of_zero_le (show 0 ≤ c by omega)
    exact crcMore_in C s w (by omega) (by omega)

theorem crc_any (s : ByteArray) (w : World) (hs : s.size ≤ maxLen) :
    Calls Try.prog 129 #[.string s] w fun e w' => e = .returned (.int .i64 (crcM 0 s)) ∧ w' = w := by
  go_enter Try.func129, Try.ntmps129
  go_wp2_with (go_at_call 133; refine (crcMore_any 0 s _ hs).mono ?_; rintro e w' ⟨rfl, rfl⟩)
  go_ret
  exact ⟨rfl, rfl⟩

end Go.Proofs.Ytklpaleghanhhaa
