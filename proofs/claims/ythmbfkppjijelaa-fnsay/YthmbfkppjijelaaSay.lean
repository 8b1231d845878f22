/- THE WALKS of what is said: right, and its bytes: the program's and the model's. -/
import Derived.Test.YthmbfkppjijelaaProg
import Derived.Test.YthmbfkppjijelaaPlainSay
import Derived.Test.YthmbfkppjijelaaSt
import Derived.Test.YthmbfkppjijelaaInts
import Derived.Test.YthmbfkppjijelaaUpTo
import Derived.Test.YthmbfkppjijelaaNum
import Derived.Test.YthmbfkppjijelaaJoin2
import Derived.Test.YthmbfkppjijelaaSeal
import Derived.Test.YthmbfkppjijelaaWire
import Derived.WalkKit
import Derived.WalkSpells
import Derived.Outline
import Derived.Below
namespace Go.Proofs.Ythmbfkppjijelaa
open Go.RowKit
set_option linter.unusedVariables false
set_option linter.unusedSimpArgs false

theorem all_word_no {zs : List Int} {k : Nat} (h : k < zs.length) (hk : wordB zs[k] = false) : zs.all wordB = false := by
  rw [Bool.eq_false_iff]
  intro h1
  rw [List.all_eq_true] at h1
  have := h1 _ (List.getElem_mem h)
  rw [hk] at this
  cases this
theorem all_word_take {zs : List Int} {k : Nat} (h : k < zs.length) (h1 : (zs.take k).all wordB = true) (hk : wordB zs[k] = true) : (zs.take (k + 1)).all wordB = true := by
  rw [List.take_succ_eq_append_getElem h, List.all_append, h1]
  simp [hk]
set_option maxRecDepth 100000 in
set_option maxHeartbeats 800000 in
theorem wordsRight_any (v : Value) (zs : List Int) (w : World) (hl : zs.length ≤ 10000000) (hr : RowI w v zs) :
    Calls Try.prog 43 #[v] w fun e w' => e = .returned (.bool (decide (zs.length ≤ 4) && zs.all wordB)) ∧ Below w.heap.size w w' := by
  have HA : Hid (Calls Try.prog 69 #[v, .int .i64 65535] w fun e w' => e = .returned (.bool (zs.all wordB)) ∧ w = w') := allUpToS_any v zs 65535 w hl hr
  obtain ⟨p, c, rfl, hr⟩ := hr
  clear hr
  by_cases h4 : zs.length ≤ 4
  · rw [decide_eq_true h4, Bool.true_and]
    go_enter Try.func43, Try.ntmps43
    go_wp2_with (go_at_call 69; refine HA.out.mono ?_; rintro e w1 ⟨rfl, rfl⟩)
    go_ret
    exact ⟨rfl, Below.refl _ _⟩
  · rw [decide_eq_false h4, Bool.false_and]
    go_enter Try.func43, Try.ntmps43
    go_wp2
    go_ret
    exact ⟨rfl, Below.refl _ _⟩
set_option maxRecDepth 100000 in
set_option maxHeartbeats 800000 in
theorem l03Words_any (v : Value) (zs : List Int) (w : World) (hl : zs.length ≤ 10000000) (hr : RowI w v zs) :
    Calls Try.prog 46 #[v] w fun e w' => e = .returned (.bool (decide (zs.length ≤ 4) && zs.all wordB)) ∧ Below w.heap.size w w' := by
  obtain ⟨p, c, rfl, hr⟩ := hr
  have HR : Hid _ := hr
  clear hr
  obtain ⟨B, hB⟩ : ∃ B, Hid (zs.all wordB = B) := ⟨_, show _ = _ from rfl⟩
  rw [hB.out]
  go_enter Try.func46, Try.ntmps46
  go_wp2
  go_loop [3] (fun i => ∃ k : Nat, k ≤ zs.length ∧ i = .int .i64 k ∧ Hid ((zs.take k).all wordB = true)) (fun i => zs.length - (intOf i).toNat)
  case atStart => exact ⟨0, Nat.zero_le _, rfl, rfl⟩
  case round =>
    obtain ⟨k, hk, rfl, HA⟩ := hrel
    by_cases hlt : k < zs.length
    · obtain ⟨g, rfl, l1, q1⟩ := HR.out k hlt
      have HN : Hid _ := @all_word_no zs k hlt
      have HY : Hid _ := @all_word_take zs k hlt HA.out
      generalize zs[k] = z at q1 HN HY
      cases hz : wordB z with
      | true =>
        go_wp2_with (go_at_call 70; refine (l02Word_any z _).mono ?_; rintro e w1 ⟨rfl, rfl⟩; rw [hz])
        go_round
        case rel => exact ⟨k + 1, by omega, by go_num, HY.out hz⟩
        case measure => simp [intOf]; omega
      | false =>
        go_wp2_with (go_at_call 70; refine (l02Word_any z _).mono ?_; rintro e w1 ⟨rfl, rfl⟩; rw [hz])
        go_ret
        exact ⟨ret_bool (by rw [← hB.out, HN.out hz, Bool.and_false]), Below.refl _ _⟩
    · have e1 : zs.take k = zs := List.take_of_length_le (by omega)
      have e2 : B = true := by rw [← hB.out, ← HA.out, e1]
      by_cases h4 : zs.length ≤ 4
      all_goals
        go_wp2
        go_ret
        exact ⟨ret_bool (by first | exact decide_eq_true (by omega) | exact decide_eq_false (by omega) | (rw [e2, Bool.and_true]; exact decide_eq_decide.2 (by omega))), Below.refl _ _⟩

theorem joinT_data (ss : List ByteArray) : (joinT ss).data.toList = ss.flatMap (·.data.toList) := by
  have key : ∀ (l : List ByteArray) (a : ByteArray), (l.foldl (· ++ ·) a).data.toList = a.data.toList ++ l.flatMap (·.data.toList) := by
    intro l
    induction l with
    | nil => intro a; simp
    | cons b l ih => intro a; rw [List.foldl_cons, ih]; simp [ByteArray.data_append]
  have := key ss ByteArray.empty
  simpa [joinT] using this
theorem bytes_ext {a b : ByteArray} (h : a.data.toList = b.data.toList) : a = b := ByteArray.ext (Array.ext' h)
theorem joinT_nums (zs : List Int) : joinT (zs.map putB) = numsB zs := by
  apply bytes_ext
  rw [joinT_data]
  simp [numsB, numsL, List.flatMap_map, putB_list]
theorem infoS : (Try.prog.info? 9).map (fun i => (i.zero, i.size, i.bytes)) = some (some (.string ByteArray.empty), 1, 16) := by kernel_rfl
def cellsN (zs : List Int) (k : Nat) : List Value := (zs.take k).map (fun n => Value.string (putB n)) ++ List.replicate (zs.length - k) (.string ByteArray.empty)
theorem cellsN_length (zs : List Int) (k : Nat) (h : k ≤ zs.length) : (cellsN zs k).length = zs.length := by
  simp [cellsN]; omega
theorem cellsN_zero (zs : List Int) : cellsN zs 0 = List.replicate zs.length (.string ByteArray.empty) := by simp [cellsN]
theorem cellsN_step (zs : List Int) (k : Nat) (h : k < zs.length) : (cellsN zs k).set k (.string (putB zs[k])) = cellsN zs (k + 1) := by
  unfold cellsN
  rw [List.take_succ_eq_append_getElem h, List.map_append, List.set_append_right _ _ (by simp; omega)]
  rw [show zs.length - k = (zs.length - (k + 1)) + 1 by omega, List.replicate_succ]
  simp [Nat.min_eq_left (Nat.le_of_lt h)]
theorem cellsN_all (zs : List Int) : cellsN zs zs.length = (zs.map putB).map Value.string := by simp [cellsN]
set_option maxRecDepth 100000 in
set_option maxHeartbeats 1600000 in
theorem putNums_any (v : Value) (zs : List Int) (w : World) (hl : zs.length ≤ 8) (hwf : ∀ n ∈ zs, (Lit.int .i64 n).wf = true) (hr : RowI w v zs) :
    Calls Try.prog 31 #[v] w fun e w' => e = .returned (.string (numsB zs)) ∧ Below w.heap.size w w' := by
  obtain ⟨i0, hi, hz0, hz1, hz2⟩ := info_parts infoS
  obtain ⟨p, c, rfl, hr⟩ := hr
  have HR : Hid _ := hr
  have HWF : Hid _ := hwf
  clear hr hwf
  go_enter Try.func31, Try.ntmps31
  go_wp2_with (at_make; refine wpList_make_full _ rfl (.tmp 7) (.tmp 7) 82 rfl w.heap.size 9 i0 (.string ByteArray.empty) 1 Try.underlying82 hi hz0 hz1 .i64 .i64 _ _ zs.length rfl rfl (by omega) (by omega) (by rw [hz2]; omega) (by unfold maxLen; omega) (Nat.le_refl _) ?_; intro w1 hown1 hgrow1; have hB1 := (Below.refl w.heap.size w).grown hgrow1 (Nat.le_refl _) (fun k e => by cases e))
  have HG1 : Hid (w1.heap[w.heap.size]? = some (.cells (cellsN zs 0).toArray 9 (0, 0))) := by
    obtain ⟨_, ⟨h1, _⟩ | ⟨g, cap, cur, h1, hb, hg, h2, h3, h4, ht⟩⟩ := hown1
    · cases h1
    · cases h1
      show _ = _
      rw [hg, cellsN_zero]
      rw [show (Value.string ByteArray.empty).cells = #[Value.string ByteArray.empty] from rfl, toList_madeCells_one, Nat.mul_one] at ht
      have : cur.toList = List.replicate zs.length (Value.string ByteArray.empty) := by
        rw [← ht, List.take_of_length_le (by rw [Array.length_toList]; omega)]
      rw [← this]
  clear hown1 hgrow1
  go_loopw [11] (fun i wr => ∃ k : Nat, k ≤ zs.length ∧ i = .int .i64 k ∧ Hid (wr.heap[w.heap.size]? = some (.cells (cellsN zs k).toArray 9 (0, 0))) ∧ Below w.heap.size w wr) (fun i _ => zs.length - (intOf i).toNat)
  case atStart => exact ⟨0, Nat.zero_le _, rfl, HG1.out, hB1⟩
  case round =>
    obtain ⟨k, hk, rfl, HG, hbel⟩ := hrel
    have hlen := cellsN_length zs k hk
    by_cases hlt : k < zs.length
    · obtain ⟨g, rfl, l1, q1⟩ := HR.out k hlt
      have q1' := (hbel.cell (p := ⟨g, k, none⟩) l1).trans q1
      clear q1
      have hz := HWF.out zs[k] (List.getElem_mem _)
      have HST : Hid _ := cellsN_step zs k hlt
      generalize zs[k] = z at q1' hz HST
      generalize hcs : cellsN zs k = cs at HG HST hlen
      have hgl := (Array.getElem?_eq_some_iff.1 HG.out).1
      go_wp2_with (go_at_call 32; refine (putNum_any z _ hz).mono ?_; rintro e w2 ⟨rfl, hb2⟩; have HG2 : Hid _ := ((hb2.block w.heap.size hgl).trans HG.out); obtain ⟨hc2, hf2⟩ := cell_at HG2.out (show k < cs.length by omega); have hbel2 := keepB hbel (Nat.le_refl _) hb2)
      go_roundw
      case rel => exact ⟨k + 1, by omega, by go_num, (show _ = _ by rw [← HST.out]; exact set_at _ _ HG2.out), hbel2.setCell (Nat.le_refl _) _⟩
      case measure => simp [intOf]; omega
    · obtain rfl : k = zs.length := by omega
      have hG := HG.out
      rw [cellsN_all] at hG
      have HJ := join_row w.heap.size (0, 0) (zs.map putB) wr hG (by rw [List.length_map]; exact hl) (by intro s hs; obtain ⟨n, hn, rfl⟩ := List.mem_map.1 hs; have := putB_le10 (HWF.out n hn); omega)
      rw [List.length_map, joinT_nums] at HJ
      go_wp2_with (go_at_call 30; refine HJ.mono ?_; rintro e w2 ⟨rfl, hb2⟩)
      go_ret
      exact ⟨rfl, keepB hbel (Nat.le_refl _) hb2⟩
end Go.Proofs.Ythmbfkppjijelaa
