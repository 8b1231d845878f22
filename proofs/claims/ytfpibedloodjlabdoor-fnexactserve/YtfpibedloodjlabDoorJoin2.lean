/- BITS AS BYTES: the model's own BitsText. -/
import Derived.Test.YtfpibedloodjlabDoorBits
import Derived.Test.YtfpibedloodjlabDoorWire
import Derived.Test.YtfpibedloodjlabDoorAskQ
import Derived.Test.YtfpibedloodjlabDoorProg
import Derived.Test.YtfpibedloodjlabDoorInts
import Derived.WalkKit
import Derived.WalkSpells
import Derived.Outline
namespace Go.Proofs.YtfpibedloodjlabDoor
open Go.RowKit
set_option linter.unusedVariables false
set_option linter.unusedSimpArgs false

end Go.Proofs.YtfpibedloodjlabDoor
/- BYTES AND WORDS as texts: the program's and the model's. -/
namespace Go.Proofs.YtfpibedloodjlabDoor
open Go.RowKit
set_option linter.unusedVariables false
set_option linter.unusedSimpArgs false

theorem conv_new (w : World) (l : List UInt8) (hl : l.length ≤ 1000) : (convert 60 9 (.slice (some ⟨w.heap.size, 0, none⟩) l.length l.length)).run Tryd.prog (w.alloc (.cells (cellsC l).toArray 5)) = .ok (.string ⟨l.toArray⟩) (w.alloc (.cells (cellsC l).toArray 5)) :=
  OwnM.conv (base := 0) _ _ Tryd.underlying60 Tryd.underlying5 Tryd.underlying9 (.inr ⟨w.heap.size, _, _, (0, 0), rfl, Nat.zero_le _, heap_alloc_new w _, .inl rfl, Nat.le_refl _, by unfold maxLen; omega, by simp [cellsC], by rw [List.take_of_length_le]; simp [cellsC]⟩)
theorem u8_ofNat {n : Nat} (h : n < 256) : (UInt8.ofNat n).toNat = n := by rw [UInt8.toNat_ofNat']; omega
theorem conv_one (w : World) (n : Int) (h : 0 ≤ n ∧ n ≤ 255) : (convert 60 9 (.slice (some ⟨w.heap.size, 0, none⟩) 1 1)).run Tryd.prog (w.alloc (.cells #[.int .u8 n] 5)) = .ok (.string (oneB n)) (w.alloc (.cells #[.int .u8 n] 5)) := by
  have := conv_new w [UInt8.ofNat n.toNat] (by simp)
  simp only [cellsC, List.map_cons, List.map_nil, u8_ofNat (show n.toNat < 256 by omega), List.length_cons, List.length_nil, Int.toNat_of_nonneg h.1] at this
  exact this
theorem conv_two (w : World) (n : Int) (h : 0 ≤ n ∧ n ≤ 65535) : (convert 60 9 (.slice (some ⟨w.heap.size, 0, none⟩) 2 2)).run Tryd.prog (w.alloc (.cells #[.int .u8 (n / 256), .int .u8 (n % 256)] 5)) = .ok (.string (twoB n)) (w.alloc (.cells #[.int .u8 (n / 256), .int .u8 (n % 256)] 5)) := by
  have := conv_new w (twoL n) (by simp [twoL])
  have e1 : ((n.toNat / 256 : Nat) : Int) = n / 256 := by omega
  have e2 : ((n.toNat % 256 : Nat) : Int) = n % 256 := by omega
  simp only [cellsC, twoL, List.map_cons, List.map_nil, u8_ofNat (show n.toNat / 256 < 256 by omega), u8_ofNat (show n.toNat % 256 < 256 by omega), List.length_cons, List.length_nil, e1, e2] at this
  exact this
set_option maxRecDepth 100000 in
theorem byteText_any (n : Int) (w : World) (h : 0 ≤ n ∧ n ≤ 255) :
    Calls Tryd.prog 25 #[.int .i64 n] w fun e w' => e = .returned (.string (oneB n)) ∧ Below w.heap.size w w' := by
  have hc := conv_one w n h
  have e0 : n % 256 = n := by omega
  obtain ⟨h1, h2⟩ := h
  generalize oneB n = R at hc ⊢
  go_enter Tryd.func25, Tryd.ntmps25
  go_wp2
  go_ret
  exact ⟨rfl, all_alloc _ _⟩
set_option maxRecDepth 100000 in
theorem l04Two_any (n : Int) (w : World) (h : 0 ≤ n ∧ n ≤ 65535) :
    Calls Tryd.prog 59 #[.int .i64 n] w fun e w' => e = .returned (.string (twoB n)) ∧ Below w.heap.size w w' := by
  have hc := conv_two w n h
  have e0 : n / 256 % 256 = n / 256 := by omega
  have e1 : n.tdiv 256 = n / 256 := Int.tdiv_eq_ediv_of_nonneg h.1
  have e2 : n.tmod 256 = n % 256 := Int.tmod_eq_emod_of_nonneg h.1
  obtain ⟨h1, h2⟩ := h
  generalize twoB n = R at hc ⊢
  go_enter Tryd.func59, Tryd.ntmps59
  go_wp2
  go_ret
  exact ⟨rfl, all_alloc _ _⟩
theorem counted_eq (s : ByteArray) : oneB (s.size : Int) ++ s = ⟨(countedL s.data.toList).toArray⟩ := by
  apply ByteArray.ext
  rw [ByteArray.data_append]
  apply Array.ext'
  simp [oneB, countedL]
set_option maxRecDepth 100000 in
theorem l04Counted_any (s : ByteArray) (w : World) (h : s.size ≤ 255) :
    Calls Tryd.prog 48 #[.string s] w fun e w' => e = .returned (.string ⟨(countedL s.data.toList).toArray⟩) ∧ Below w.heap.size w w' := by
  have hc := conv_one w s.size (by omega)
  have e0 : (s.size : Int) % 256 = s.size := by omega
  have hcat : ¬ 9223372036854775807 < (oneB (s.size : Int)).size + s.size := by have : (oneB (s.size : Int)).size = 1 := rfl; omega
  rw [← counted_eq]
  generalize oneB (s.size : Int) = R at hc hcat ⊢
  go_enter Tryd.func48, Tryd.ntmps48
  go_wp2
  go_ret
  exact ⟨rfl, all_alloc _ _⟩
theorem wordsB_snoc (l : List Int) (n : Int) : wordsB (l ++ [n]) = wordsB l ++ twoB n := by
  apply ByteArray.ext
  rw [ByteArray.data_append]
  apply Array.ext'
  simp [wordsB, wordsL_snoc, twoB]
theorem wordsB_size (l : List Int) : (wordsB l).size = 2 * l.length := by
  have := wordsL_length l
  simpa [wordsB, ByteArray.size] using this
set_option maxRecDepth 100000 in
set_option maxHeartbeats 800000 in
theorem l04Words_any (v : Value) (zs : List Int) (w : World) (hl : zs.length ≤ 1000) (hw : zs.all wordB = true) (hr : RowI w v zs) :
    Calls Tryd.prog 50 #[v] w fun e w' => e = .returned (.string (wordsB zs)) ∧ Below w.heap.size w w' := by
  obtain ⟨p, c, rfl, hr⟩ := hr
  have HR : Hid _ := hr
  have HWD : Hid (∀ k (h : k < zs.length), 0 ≤ zs[k] ∧ zs[k] ≤ 65535) := fun k h => (wordB_iff _).1 (List.all_eq_true.1 hw _ (List.getElem_mem h))
  clear hr hw
  obtain ⟨R, hR⟩ : ∃ R, Hid (wordsB zs = R) := ⟨_, show _ = _ from rfl⟩
  rw [hR.out]
  go_enter Tryd.func50, Tryd.ntmps50
  go_wp2
  go_loopw [3, 4] (fun t i wr => ∃ (k : Nat) (s : ByteArray), k ≤ zs.length ∧ i = .int .i64 k ∧ t = .string s ∧ Hid (s = wordsB (zs.take k)) ∧ Below w.heap.size w wr) (fun _ i _ => zs.length - (intOf i).toNat)
  case atStart => exact ⟨0, ByteArray.empty, Nat.zero_le _, rfl, rfl, (show _ = _ from rfl), Below.refl _ _⟩
  case round =>
    obtain ⟨k, s, hk, rfl, rfl, HS, hbel⟩ := hrel
    by_cases hlt : k < zs.length
    · obtain ⟨g, rfl, l1, q1⟩ := HR.out k hlt
      have q1' := (hbel.cell (p := ⟨g, k, none⟩) l1).trans q1
      clear q1
      have HZ : Hid _ := HWD.out k hlt
      have hsz : s.size ≤ 2000 := by have := wordsB_size (zs.take k); rw [← HS.out, List.length_take] at this; omega
      have HN : Hid (wordsB (zs.take (k + 1)) = s ++ twoB zs[k]) := by show _ = _; rw [List.take_succ_eq_append_getElem hlt, wordsB_snoc, ← HS.out]
      generalize zs[k] = z at q1' HZ HN
      have h2 : (twoB z).size = 2 := rfl
      have HT : Hid (∀ W, Calls Tryd.prog 59 #[.int .i64 z] W fun e w' => e = .returned (.string (twoB z)) ∧ Below W.heap.size W w') := fun W => l04Two_any z W HZ.out
      generalize twoB z = t2 at HN h2 HT
      have hcat : ¬ 9223372036854775807 < s.size + t2.size := by omega
      go_wp2_with (go_at_call 59; refine (HT.out _).mono ?_; rintro e w2 ⟨rfl, hb2⟩)
      go_roundw
      case rel => exact ⟨k + 1, s ++ t2, by omega, by go_num, rfl, HN.out.symm, keepB hbel (Nat.le_refl _) hb2⟩
      case measure => simp [intOf]; omega
    · obtain rfl : k = zs.length := by omega
      have hs : s = R := by rw [HS.out, List.take_length, hR.out]
      go_wp2
      go_ret
      exact ⟨by rw [← hs]; rfl, hbel⟩
theorem cellsC_two (n : Int) (h : 0 ≤ n ∧ n ≤ 65535) : cellsC (twoL n) = [.int .u8 (n / 256), .int .u8 (n % 256)] := by
  have e1 : ((n.toNat / 256 : Nat) : Int) = n / 256 := by omega
  have e2 : ((n.toNat % 256 : Nat) : Int) = n % 256 := by omega
  simp only [cellsC, twoL, List.map_cons, List.map_nil, u8_ofNat (show n.toNat / 256 < 256 by omega), u8_ofNat (show n.toNat % 256 < 256 by omega), e1, e2]
set_option maxRecDepth 100000 in
set_option maxHeartbeats 800000 in
theorem wordsText_any (v : Value) (zs : List Int) (w : World) (hl : zs.length ≤ 1000) (hw : zs.all wordB = true) (hr : RowI w v zs) :
    Calls Tryd.prog 58 #[v] w fun e w' => e = .returned (.string (wordsB zs)) ∧ Below w.heap.size w w' := by
  obtain ⟨i0, hi, hz0, hz1, hz2⟩ := info_parts info8
  obtain ⟨p, c, rfl, hr⟩ := hr
  have HR : Hid _ := hr
  have HWD : Hid (∀ k (h : k < zs.length), 0 ≤ zs[k] ∧ zs[k] ≤ 65535) := fun k h => (wordB_iff _).1 (List.all_eq_true.1 hw _ (List.getElem_mem h))
  clear hr hw
  go_enter Tryd.func58, Tryd.ntmps58
  go_wp2_with (at_make; refine wpList_make_own _ rfl (.const (.int .i64 0)) (.tmp 8) 60 rfl w.heap.size 5 i0 (.int .u8 0) 1 Tryd.underlying60 hi hz0 hz1 .i64 .i64 _ (2 * zs.length) rfl rfl (by omega) (by rw [hz2]; omega) (by unfold maxLen; omega) (Nat.le_refl _) ?_; intro w1 hown1 hgrow1; have hB1 := (Below.refl w.heap.size w).grown hgrow1 (Nat.le_refl _) (fun k e => by cases e))
  go_loopw [3, 12] (fun v i wr => ∃ k : Nat, k ≤ zs.length ∧ i = .int .i64 k ∧ Hid (wr.ownsRow w.heap.size 5 1 v (wordsL (zs.take k)).length (cellsC (wordsL (zs.take k)))) ∧ Below w.heap.size w wr) (fun _ i _ => zs.length - (intOf i).toNat)
  case atStart => exact ⟨0, Nat.zero_le _, rfl, hown1, hB1⟩
  case round =>
    obtain ⟨k, hk, rfl, HW, hbel⟩ := hrel
    by_cases hlt : k < zs.length
    · obtain ⟨g, rfl, l1, q1⟩ := HR.out k hlt
      have q1' := (hbel.cell (p := ⟨g, k, none⟩) l1).trans q1
      clear q1
      have hsz := hbel.size
      have hlk : (wordsL (zs.take k)).length = 2 * k := by rw [wordsL_length, List.length_take]; omega
      have hz := HWD.out k hlt
      have HN : Hid (wordsL (zs.take (k + 1)) = wordsL (zs.take k) ++ twoL zs[k]) := by show _ = _; rw [List.take_succ_eq_append_getElem hlt, wordsL_snoc]
      generalize zs[k] = z at q1' hz HN
      have HC : Hid _ := cellsC_two z hz
      obtain ⟨z0, z1⟩ := hz
      have es : z / 256 % 256 = z / 256 := by omega
      go_wp2_with (at_builtin; refine wpList_append_own _ rfl (.tmp 16) (.tmp 22) 60 rfl w.heap.size 5 i0 (.int .u8 0) 1 1 Tryd.underlying60 hi hz0 hz1 hz2 rfl (by decide) _ _ _ rfl (World.ownsRow.alloc HW.out _) ⟨wr.heap.size, 0, none⟩ 2 2 [_, _] rfl rfl (cells_newG _ _ _ _ rfl) (by intro x hx; simp at hx; rcases hx with rfl | rfl <;> rfl) (by unfold maxLen; omega) (by omega) (by simp; omega) ?_; intro v' w2 hown' hgrow _)
      go_roundw
      case rel =>
        have hbl : Below w.heap.size w w2 := (hbel.alloc (by omega) _).grown hgrow (by simp; omega) (fun k e => (World.ownsRow.lt HW.out k e).1)
        refine ⟨k + 1, by omega, by go_num, ?_, hbl⟩
        show World.ownsRow _ _ _ _ _ _ _
        rw [HN.out, List.length_append, cellsC_append, HC.out]
        exact hown'
      case measure => simp [intOf]; omega
    · obtain rfl : k = zs.length := by omega
      have HC : Hid _ := OwnM.conv (P := Tryd.prog) 60 9 Tryd.underlying60 Tryd.underlying5 Tryd.underlying9 (OwnM.own HW.out)
      have hc := HC.out
      rw [List.take_length] at hc
      go_wp2
      go_ret
      exact ⟨rfl, hbel⟩
def valsB (c : Int) (vs : List Int) : ByteArray := if coilB c then bitsB vs else wordsB vs
set_option maxRecDepth 100000 in
theorem valuesText_any (k : Int) (v : Value) (zs : List Int) (w : World) (hl : zs.length ≤ 1000) (hw : coilB k = false → zs.all wordB = true) (hr : RowI w v zs) :
    Calls Tryd.prog 43 #[.int .i64 k, v] w fun e w' => e = .returned (.string (valsB k zs)) ∧ Below w.heap.size w w' := by
  have HC : Hid (Calls Tryd.prog 39 #[.int .i64 k] w fun e w' => e = .returned (.bool (coilB k)) ∧ w = w') := asksCoils_any k w
  unfold valsB
  cases hk : coilB k with
  | true =>
    rw [hk] at HC
    rw [if_pos rfl]
    have HB : Hid (Calls Tryd.prog 57 #[v] w fun e w' => e = .returned (.string (bitsB zs)) ∧ Below w.heap.size w w') := bitsText_any v zs w (by omega) hr
    obtain ⟨p, c, rfl, hr⟩ := hr
    clear hr hw hk
    go_enter Tryd.func43, Tryd.ntmps43
    go_wp2_with (first
      | (go_at_call 39; refine HC.out.mono ?_; rintro e w1 ⟨rfl, rfl⟩)
      | (go_at_call 57; refine HB.out.mono ?_; rintro e w1 ⟨rfl, hb1⟩))
    go_ret
    exact ⟨rfl, hb1⟩
  | false =>
    have hww := hw hk
    rw [hk] at HC
    rw [if_neg (by decide)]
    have HB : Hid (Calls Tryd.prog 58 #[v] w fun e w' => e = .returned (.string (wordsB zs)) ∧ Below w.heap.size w w') := wordsText_any v zs w (by omega) hww hr
    obtain ⟨p, c, rfl, hr⟩ := hr
    clear hr hw hk hww
    go_enter Tryd.func43, Tryd.ntmps43
    go_wp2_with (first
      | (go_at_call 39; refine HC.out.mono ?_; rintro e w1 ⟨rfl, rfl⟩)
      | (go_at_call 58; refine HB.out.mono ?_; rintro e w1 ⟨rfl, hb1⟩))
    go_ret
    exact ⟨rfl, hb1⟩
end Go.Proofs.YtfpibedloodjlabDoor
/- THE WALKS of the program's texts put together: joinTexts answers the texts of a row, one behind the other, and copyText the same text; nothing that was there turns. -/
namespace Go.Proofs.YtfpibedloodjlabDoor
open Go.RowKit
set_option linter.unusedVariables false

theorem info5 : (Tryd.prog.info? 5).map (fun i => (i.zero, i.size, i.bytes)) = some (some (.int .u8 0), 1, 1) := by kernel_rfl
theorem size5 : (Tryd.prog.info? 5).map (·.size) = some 1 := by kernel_rfl

/-- texts one behind the other -/
def joinT (ss : List ByteArray) : ByteArray := ss.foldl (· ++ ·) ByteArray.empty
theorem joinT_snoc (ss : List ByteArray) (s : ByteArray) : joinT (ss ++ [s]) = joinT ss ++ s := by simp [joinT, List.foldl_append]
theorem joinT_size_snoc (ss : List ByteArray) (s : ByteArray) : (joinT (ss ++ [s])).size = (joinT ss).size + s.size := by rw [joinT_snoc, ByteArray.size_append]
theorem take_more (ss : List ByteArray) (k : Nat) (h : k < ss.length) : ss.take (k + 1) = ss.take k ++ [ss[k]] := by
  rw [List.take_succ_eq_append_getElem h]
theorem joinT_le (ss : List ByteArray) (hz : ∀ s ∈ ss, s.size ≤ 1000000) : ∀ k, k ≤ ss.length → (joinT (ss.take k)).size ≤ 1000000 * k := by
  intro k
  induction k with
  | zero => intro _; simp [joinT]
  | succ k ih =>
    intro hk
    rw [take_more ss k hk, joinT_size_snoc]
    have := ih (by omega)
    have := hz ss[k] (List.getElem_mem _)
    omega
theorem joinT_mono (ss : List ByteArray) (k : Nat) (h : k ≤ ss.length) : (joinT (ss.take k)).size ≤ (joinT ss).size := by
  have key : ∀ (m : List ByteArray) (l : List ByteArray), (joinT l).size ≤ (joinT (l ++ m)).size := by
    intro m
    induction m with
    | nil => intro l; simp
    | cons c m ih =>
      intro l
      have h1 := ih (l ++ [c])
      rw [joinT_size_snoc, List.append_assoc] at h1
      exact Nat.le_trans (Nat.le_add_right _ _) h1
  have := key (ss.drop k) (ss.take k)
  rwa [List.take_append_drop] at this
theorem splice_more (cur : List Value) (a b : ByteArray) (off : Nat) (ho : a.size = off) (h : cur.take off = cellsB a) (hl : off + b.size ≤ cur.length) : (splice cur off (cellsB b)).take (off + b.size) = cellsB (a ++ b) := by
  rw [cellsB_append]
  simp only [splice]
  rw [h]
  have e : (cellsB a ++ cellsB b).length = off + b.size := by rw [List.length_append, cellsB_length, cellsB_length, ho]
  rw [← e, ← List.append_assoc]
  exact List.take_left
theorem row_str {w : World} {g : Nat} {ss : List ByteArray} {t : TypeId} {fz : Nat × Nat} (hg : w.heap[g]? = some (.cells (ss.map Value.string).toArray t fz)) (k : Nat) (hk : k < ss.length) : w.cell? ⟨g, k, none⟩ = some (.string ss[k]) := by
  simp [World.cell?, hg, hk]

set_option maxRecDepth 100000 in
set_option maxHeartbeats 1600000 in
theorem join_row (g : Nat) (fz : Nat × Nat) (ss : List ByteArray) (w : World) (hg : w.heap[g]? = some (.cells (ss.map Value.string).toArray 9 fz)) (hl : ss.length ≤ 8) (hz : ∀ s ∈ ss, s.size ≤ 1000000) :
    Calls Tryd.prog 24 #[.slice (some ⟨g, 0, none⟩) ss.length ss.length] w fun e w' => e = .returned (.string (joinT ss)) ∧ Below w.heap.size w w' := by
  obtain ⟨i0, hi, hz0, hz1, hz2⟩ := info_parts info5
  have HG : Hid _ := hg
  have HM : Hid _ := joinT_mono ss
  have HLE : Hid _ := joinT_le ss hz
  have htot : (joinT ss).size ≤ 8000000 := by have := joinT_le ss hz ss.length (Nat.le_refl _); rw [List.take_length] at this; omega
  have hgl : g < w.heap.size := by
    rcases Nat.lt_or_ge g w.heap.size with h | h
    · exact h
    · simp [Array.getElem?_eq_none h] at hg
  clear hg hz
  obtain ⟨J, HJ⟩ : ∃ J : Nat, Hid ((joinT ss).size = J) := ⟨_, show _ = _ from rfl⟩
  have htJ : J ≤ 8000000 := by rw [← HJ.out]; exact htot
  clear htot
  go_enter Tryd.func24, Tryd.ntmps24
  go_wp2
  go_loop [3, 12] (fun x i => ∃ k L : Nat, k ≤ ss.length ∧ i = .int .i64 k ∧ x = .int .i64 L ∧ L ≤ 8000000 ∧ Hid (L = (joinT (ss.take k)).size)) (fun _ i => ss.length - (intOf i).toNat)
  case atStart => exact ⟨0, 0, Nat.zero_le _, rfl, rfl, by omega, rfl⟩
  case round =>
    obtain ⟨k, L, hk, rfl, rfl, hL, HL⟩ := hrel
    by_cases hlt : k < ss.length
    · have hc := row_str HG.out k hlt
      have hle := HLE.out (k + 1) hlt
      have HS : Hid ((joinT (ss.take (k + 1))).size = L + ss[k].size) := by rw [take_more ss k hlt, joinT_size_snoc, HL.out]; rfl
      rw [HS.out] at hle
      obtain ⟨s, HSK⟩ : ∃ s, Hid (ss[k] = s) := ⟨_, show _ = _ from rfl⟩
      rw [HSK.out] at hc HS hle
      have hle2 : L + s.size ≤ 8000000 := by omega
      clear hle
      go_wp2
      go_round
      case rel => exact ⟨k + 1, L + s.size, by omega, by go_num, by go_num, by omega, HS.out.symm⟩
      case measure => simp [intOf]; omega
    · have hLJ : L = J := by rw [HL.out, ← HJ.out, List.take_of_length_le (by omega)]
      subst hLJ
      go_wp2_with (at_make; refine wpList_make_full _ rfl (.tmp 21) (.tmp 21) 60 rfl w.heap.size 5 i0 (.int .u8 0) 1 Tryd.underlying60 hi hz0 hz1 .i64 .i64 _ _ L rfl rfl (by omega) (by omega) (by rw [hz2]; omega) (by unfold maxLen; omega) (Nat.le_refl _) ?_; intro w1 hown1 hgrow1; have hB1 := (Below.refl w.heap.size w).grown hgrow1 (Nat.le_refl _) (fun k e => by cases e); obtain ⟨cur, HG1, hcl, _⟩ := own_block hown1; clear hown1 hgrow1)
      go_loopw [7, 25] (fun x i wr => ∃ (k A : Nat) (cs : List Value), k ≤ ss.length ∧ i = .int .i64 k ∧ x = .int .i64 A ∧ A ≤ L ∧ Hid (A = (joinT (ss.take k)).size) ∧ Hid (wr.heap[w.heap.size]? = some (.cells cs.toArray 5 (0, 0))) ∧ cs.length = L ∧ Hid (cs.take A = cellsB (joinT (ss.take k))) ∧ Below w.heap.size w wr) (fun _ i _ => ss.length - (intOf i).toNat)
      case atStart => exact ⟨0, 0, cur, Nat.zero_le _, rfl, rfl, by omega, rfl, HG1.out, hcl, rfl, hB1⟩
      case round =>
        obtain ⟨k, A, cs, hk, rfl, rfl, hA, HA, HW, hcs, HT, hbel⟩ := hrel
        by_cases hlt2 : k < ss.length
        · have hc := (hbel.cell (p := ⟨g, k, none⟩) hgl).trans (row_str HG.out k hlt2)
          have hmo := HM.out (k + 1) hlt2
          rw [HJ.out] at hmo
          have HS : Hid (joinT (ss.take (k + 1)) = joinT (ss.take k) ++ ss[k]) := by rw [take_more ss k hlt2, joinT_snoc]; rfl
          rw [HS.out, ByteArray.size_append, ← HA.out] at hmo
          obtain ⟨s, HSK⟩ : ∃ s, Hid (ss[k] = s) := ⟨_, show _ = _ from rfl⟩
          rw [HSK.out] at hc HS hmo
          by_cases hA0 : A = L
          all_goals
            go_wp2_with (refine wpList_copy_str rfl (.tmp 32) (.tmp 33) 60 9 rfl 5 Tryd.underlying60 size5 _ _ _ s rfl rfl (by omega) w.heap.size A cs 5 HW.out (by intro h; first | rfl | omega) (by omega) w.heap.size w hbel (Nat.le_refl _) ?_; intro w3 HG3 hB3)
            go_roundw
            case rel => exact ⟨k + 1, A + s.size, splice cs A (cellsB s), by omega, by go_num, by go_num, by omega, (show _ = _ by rw [HS.out, ByteArray.size_append, HA.out]), HG3.out, by rw [length_splice _ _ _ (by rw [cellsB_length]; omega)]; exact hcs, (show _ = _ by rw [HS.out]; exact splice_more cs _ s A HA.out.symm HT.out (by omega)), hB3⟩
            case measure => simp [intOf]; omega
        · have e1 : joinT (ss.take k) = joinT ss := by rw [List.take_of_length_le (by omega)]
          have hcv := Lib.run_convert_whole (P := Tryd.prog) wr 60 5 9 Tryd.underlying60 Tryd.underlying5 Tryd.underlying9 w.heap.size 0 (joinT ss) (bytes_of_cells (joinT ss) HW.out (by have h1 := HT.out; rw [HA.out, e1] at h1; exact h1)) L
          rw [HJ.out] at hcv
          go_wp2
          go_ret
          exact ⟨rfl, hbel⟩
theorem copy_cells (cur : List Value) (a : ByteArray) (h : cur.length = a.size) : (splice cur 0 (cellsB a)).take a.size = cellsB a := by
  have ha := cellsB_length a
  simp only [splice, List.take_zero, List.nil_append, Nat.zero_add]
  rw [ha, List.drop_of_length_le (by omega), List.append_nil]
  exact List.take_of_length_le (by omega)
set_option maxHeartbeats 800000 in
theorem copyText_any (a : ByteArray) (w : World) (ha : a.size ≤ 1073741824) :
    Calls Tryd.prog 27 #[.string a] w fun e w' => e = .returned (.string a) ∧ Below w.heap.size w w' := by
  obtain ⟨i0, hi, hz0, hz1, hz2⟩ := info_parts info5
  have hmax : a.size ≤ maxLen := by unfold maxLen; omega
  go_enter Tryd.func27, Tryd.ntmps27
  go_wp2_with (first
    | (at_make; refine wpList_make_full _ rfl (.tmp 5) (.tmp 5) 60 rfl w.heap.size 5 i0 (.int .u8 0) 1 Tryd.underlying60 hi hz0 hz1 .i64 .i64 _ _ a.size rfl rfl (by omega) (by omega) (by rw [hz2]; omega) hmax (Nat.le_refl _) ?_; intro w1 hown1 hgrow1; have hB1 := (Below.refl w.heap.size w).grown hgrow1 (Nat.le_refl _) (fun k e => by cases e); obtain ⟨cur, HG1, hcl, _⟩ := own_block hown1; clear hown1 hgrow1)
    | (refine wpList_copy_str rfl (.tmp 7) (.tmp 8) 60 9 rfl 5 Tryd.underlying60 size5 _ _ _ a rfl rfl (by omega) w.heap.size 0 cur 5 HG1.out (fun _ => rfl) (by omega) w.heap.size w hB1 (Nat.le_refl _) ?_; intro w2 HG2 hB2; have hcv := Lib.run_convert_whole (P := Tryd.prog) w2 60 5 9 Tryd.underlying60 Tryd.underlying5 Tryd.underlying9 w.heap.size 0 a (bytes_of_cells a HG2.out (copy_cells cur a hcl)) a.size))
  go_ret
  exact ⟨rfl, hB2⟩
theorem join_two (a b : ByteArray) (W : World) (ha : a.size ≤ 1000000) (hb : b.size ≤ 1000000) :
    Calls Tryd.prog 24 #[.slice (some ⟨W.heap.size, 0, none⟩) 2 2] (W.alloc (.cells #[.string a, .string b] 9)) fun e w' => e = .returned (.string (a ++ b)) ∧ Below W.heap.size W w' := by
  refine (join_row W.heap.size (0, 0) [a, b] _ (heap_alloc_new W _) (by simp) (by intro s hs; simp at hs; rcases hs with rfl | rfl <;> assumption)).mono ?_
  rintro e w' ⟨rfl, hb⟩
  refine ⟨by simp [joinT], ((Below.refl W.heap.size W).alloc (Nat.le_refl _) _).trans (hb.mono (by simp))⟩
end Go.Proofs.YtfpibedloodjlabDoor
