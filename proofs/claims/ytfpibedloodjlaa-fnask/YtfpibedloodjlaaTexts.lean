/- BYTES AND WORDS as texts: the program's and the model's. -/
import Derived.Test.YtfpibedloodjlaaAsk
import Derived.Test.YtfpibedloodjlaaBitsT
import Derived.Test.YtfpibedloodjlaaBitsR
namespace Go.Proofs.Ytfpibedloodjlaa
open Go.RowKit
set_option linter.unusedVariables false
set_option linter.unusedSimpArgs false

theorem conv_new (w : World) (l : List UInt8) (hl : l.length ≤ 1000) : (convert 22 9 (.slice (some ⟨w.heap.size, 0, none⟩) l.length l.length)).run Try.prog (w.alloc (.cells (cellsC l).toArray 5)) = .ok (.string ⟨l.toArray⟩) (w.alloc (.cells (cellsC l).toArray 5)) :=
  OwnM.conv (base := 0) _ _ Try.underlying22 Try.underlying5 Try.underlying9 (.inr ⟨w.heap.size, _, _, (0, 0), rfl, Nat.zero_le _, heap_alloc_new w _, .inl rfl, Nat.le_refl _, by unfold maxLen; omega, by simp [cellsC], by rw [List.take_of_length_le]; simp [cellsC]⟩)
theorem u8_ofNat {n : Nat} (h : n < 256) : (UInt8.ofNat n).toNat = n := by rw [UInt8.toNat_ofNat']; omega
theorem conv_one (w : World) (n : Int) (h : 0 ≤ n ∧ n ≤ 255) : (convert 22 9 (.slice (some ⟨w.heap.size, 0, none⟩) 1 1)).run Try.prog (w.alloc (.cells #[.int .u8 n] 5)) = .ok (.string (oneB n)) (w.alloc (.cells #[.int .u8 n] 5)) := by
  have := conv_new w [UInt8.ofNat n.toNat] (by simp)
  simp only [cellsC, List.map_cons, List.map_nil, u8_ofNat (show n.toNat < 256 by omega), List.length_cons, List.length_nil, Int.toNat_of_nonneg h.1] at this
  exact this
theorem conv_two (w : World) (n : Int) (h : 0 ≤ n ∧ n ≤ 65535) : (convert 22 9 (.slice (some ⟨w.heap.size, 0, none⟩) 2 2)).run Try.prog (w.alloc (.cells #[.int .u8 (n / 256), .int .u8 (n % 256)] 5)) = .ok (.string (twoB n)) (w.alloc (.cells #[.int .u8 (n / 256), .int .u8 (n % 256)] 5)) := by
  have := conv_new w (twoL n) (by simp [twoL])
  have e1 : ((n.toNat / 256 : Nat) : Int) = n / 256 := by omega
  have e2 : ((n.toNat % 256 : Nat) : Int) = n % 256 := by omega
  simp only [cellsC, twoL, List.map_cons, List.map_nil, u8_ofNat (show n.toNat / 256 < 256 by omega), u8_ofNat (show n.toNat % 256 < 256 by omega), List.length_cons, List.length_nil, e1, e2] at this
  exact this
set_option maxRecDepth 100000 in
theorem byteText_any (n : Int) (w : World) (h : 0 ≤ n ∧ n ≤ 255) :
    Calls Try.prog 35 #[.int .i64 n] w fun e w' => e = .returned (.string (oneB n)) ∧ Below w.heap.size w w' := by
  have hc := conv_one w n h
  have e0 : n % 256 = n := by omega
  obtain ⟨h1, h2⟩ := h
  generalize oneB n = R at hc ⊢
  go_enter Try.func35, Try.ntmps35
  go_wp2
  go_ret
  exact ⟨rfl, all_alloc _ _⟩
set_option maxRecDepth 100000 in
theorem l04Two_any (n : Int) (w : World) (h : 0 ≤ n ∧ n ≤ 65535) :
    Calls Try.prog 46 #[.int .i64 n] w fun e w' => e = .returned (.string (twoB n)) ∧ Below w.heap.size w w' := by
  have hc := conv_two w n h
  have e0 : n / 256 % 256 = n / 256 := by omega
  have e1 : n.tdiv 256 = n / 256 := Int.tdiv_eq_ediv_of_nonneg h.1
  have e2 : n.tmod 256 = n % 256 := Int.tmod_eq_emod_of_nonneg h.1
  obtain ⟨h1, h2⟩ := h
  generalize twoB n = R at hc ⊢
  go_enter Try.func46, Try.ntmps46
  go_wp2
  go_ret
  exact ⟨rfl, all_alloc _ _⟩
theorem counted_eq (s : ByteArray) : oneB (s.size : Int) ++ s = ⟨(countedL s.data.toList).toArray⟩ := by
  apply ByteArray.ext
  rw [ByteArray.data_append]
  apply Array.ext'
  simp [oneB, countedL]
set_option maxRecDepth 100000 in
theorem l04Counted_any (s : ByteArray) (w : World) (h : s.size ≤ 255) :
    Calls Try.prog 47 #[.string s] w fun e w' => e = .returned (.string ⟨(countedL s.data.toList).toArray⟩) ∧ Below w.heap.size w w' := by
  have hc := conv_one w s.size (by omega)
  have e0 : (s.size : Int) % 256 = s.size := by omega
  have hcat : ¬ 9223372036854775807 < (oneB (s.size : Int)).size + s.size := by have : (oneB (s.size : Int)).size = 1 := rfl; omega
  rw [← counted_eq]
  generalize oneB (s.size : Int) = R at hc hcat ⊢
  go_enter Try.func47, Try.ntmps47
  go_wp2
  go_ret
  exact ⟨rfl, all_alloc _ _⟩
theorem wordsB_snoc (l : List Int) (n : Int) : wordsB (l ++ [n]) = wordsB l ++ twoB n := by
  apply ByteArray.ext
  rw [ByteArray.data_append]
  apply Array.ext'
  simp [wordsB, wordsL_snoc, twoB]
theorem wordsB_size (l : List Int) : (wordsB l).size = 2 * l.length := by
  have := wordsL_length l
  simpa [wordsB, ByteArray.size] using this
set_option maxRecDepth 100000 in
set_option maxHeartbeats 800000 in
theorem l04Words_any (v : Value) (zs : List Int) (w : World) (hl : zs.length ≤ 1000) (hw : zs.all wordB = true) (hr : RowI w v zs) :
    Calls Try.prog 49 #[v] w fun e w' => e = .returned (.string (wordsB zs)) ∧ Below w.heap.size w w' := by
  obtain ⟨p, c, rfl, hr⟩ := hr
  have HR : Hid _ := hr
  have HWD : Hid (∀ k (h : k < zs.length), 0 ≤ zs[k] ∧ zs[k] ≤ 65535) := fun k h => (wordB_iff _).1 (List.all_eq_true.1 hw _ (List.getElem_mem h))
  clear hr hw
  obtain ⟨R, hR⟩ : ∃ R, Hid (wordsB zs = R) := ⟨_, show _ = _ from rfl⟩
  rw [hR.out]
  go_enter Try.func49, Try.ntmps49
  go_wp2
  go_loopw [3, 4] (fun t i wr => ∃ (k : Nat) (s : ByteArray), k ≤ zs.length ∧ i = .int .i64 k ∧ t = .string s ∧ Hid (s = wordsB (zs.take k)) ∧ Below w.heap.size w wr) (fun _ i _ => zs.length - (intOf i).toNat)
  case atStart => exact ⟨0, ByteArray.empty, Nat.zero_le _, rfl, rfl, (show _ = _ from rfl), Below.refl _ _⟩
  case round =>
    obtain ⟨k, s, hk, rfl, rfl, HS, hbel⟩ := hrel
    by_cases hlt : k < zs.length
    · obtain ⟨g, rfl, l1, q1⟩ := HR.out k hlt
      have q1' := (hbel.cell (p := ⟨g, k, none⟩) l1).trans q1
      clear q1
      have HZ : Hid _ := HWD.out k hlt
      have hsz : s.size ≤ 2000 := by have := wordsB_size (zs.take k); rw [← HS.out, List.length_take] at this; omega
      have HN : Hid (wordsB (zs.take (k + 1)) = s ++ twoB zs[k]) := by show _ = _; rw [List.take_succ_eq_append_getElem hlt, wordsB_snoc, ← HS.out]
      generalize zs[k] = z at q1' HZ HN
      have h2 : (twoB z).size = 2 := rfl
      have HT : Hid (∀ W, Calls Try.prog 46 #[.int .i64 z] W fun e w' => e = .returned (.string (twoB z)) ∧ Below W.heap.size W w') := fun W => l04Two_any z W HZ.out
      generalize twoB z = t2 at HN h2 HT
      have hcat : ¬ 9223372036854775807 < s.size + t2.size := by omega
      go_wp2_with (go_at_call 46; refine (HT.out _).mono ?_; rintro e w2 ⟨rfl, hb2⟩)
      go_roundw
      case rel => exact ⟨k + 1, s ++ t2, by omega, by go_num, rfl, HN.out.symm, keepB hbel (Nat.le_refl _) hb2⟩
      case measure => simp [intOf]; omega
    · obtain rfl : k = zs.length := by omega
      have hs : s = R := by rw [HS.out, List.take_length, hR.out]
      go_wp2
      go_ret
      exact ⟨by rw [← hs]; rfl, hbel⟩
theorem cellsC_two (n : Int) (h : 0 ≤ n ∧ n ≤ 65535) : cellsC (twoL n) = [.int .u8 (n / 256), .int .u8 (n % 256)] := by
  have e1 : ((n.toNat / 256 : Nat) : Int) = n / 256 := by omega
  have e2 : ((n.toNat % 256 : Nat) : Int) = n % 256 := by omega
  simp only [cellsC, twoL, List.map_cons, List.map_nil, u8_ofNat (show n.toNat / 256 < 256 by omega), u8_ofNat (show n.toNat % 256 < 256 by omega), e1, e2]
set_option maxRecDepth 100000 in
set_option maxHeartbeats 800000 in
theorem wordsText_any (v : Value) (zs : List Int) (w : World) (hl : zs.length ≤ 1000) (hw : zs.all wordB = true) (hr : RowI w v zs) :
    Calls Try.prog 36 #[v] w fun e w' => e = .returned (.string (wordsB zs)) ∧ Below w.heap.size w w' := by
  obtain ⟨i0, hi, hz0, hz1, hz2⟩ := info_parts info8
  obtain ⟨p, c, rfl, hr⟩ := hr
  have HR : Hid _ := hr
  have HWD : Hid (∀ k (h : k < zs.length), 0 ≤ zs[k] ∧ zs[k] ≤ 65535) := fun k h => (wordB_iff _).1 (List.all_eq_true.1 hw _ (List.getElem_mem h))
  clear hr hw
  go_enter Try.func36, Try.ntmps36
  go_wp2_with (at_make; refine wpList_make_own _ rfl (.const (.int .i64 0)) (.tmp 8) 22 rfl w.heap.size 5 i0 (.int .u8 0) 1 Try.underlying22 hi hz0 hz1 .i64 .i64 _ (2 * zs.length) rfl rfl (by omega) (by rw [hz2]; omega) (by unfold maxLen; omega) (Nat.le_refl _) ?_; intro w1 hown1 hgrow1; have hB1 := (Below.refl w.heap.size w).grown hgrow1 (Nat.le_refl _) (fun k e => by cases e))
  go_loopw [3, 12] (fun v i wr => ∃ k : Nat, k ≤ zs.length ∧ i = .int .i64 k ∧ Hid (wr.ownsRow w.heap.size 5 1 v (wordsL (zs.take k)).length (cellsC (wordsL (zs.take k)))) ∧ Below w.heap.size w wr) (fun _ i _ => zs.length - (intOf i).toNat)
  case atStart => exact ⟨0, Nat.zero_le _, rfl, hown1, hB1⟩
  case round =>
    obtain ⟨k, hk, rfl, HW, hbel⟩ := hrel
    by_cases hlt : k < zs.length
    · obtain ⟨g, rfl, l1, q1⟩ := HR.out k hlt
      have q1' := (hbel.cell (p := ⟨g, k, none⟩) l1).trans q1
      clear q1
      have hsz := hbel.size
      have hlk : (wordsL (zs.take k)).length = 2 * k := by rw [wordsL_length, List.length_take]; omega
      have hz := HWD.out k hlt
      have HN : Hid (wordsL (zs.take (k + 1)) = wordsL (zs.take k) ++ twoL zs[k]) := by show _ = _; rw [List.take_succ_eq_append_getElem hlt, wordsL_snoc]
      generalize zs[k] = z at q1' hz HN
      have HC : Hid _ := cellsC_two z hz
      obtain ⟨z0, z1⟩ := hz
      have es : z / 256 % 256 = z / 256 := by omega
      go_wp2_with (at_builtin; refine wpList_append_own _ rfl (.tmp 16) (.tmp 22) 22 rfl w.heap.size 5 i0 (.int .u8 0) 1 1 Try.underlying22 hi hz0 hz1 hz2 rfl (by decide) _ _ _ rfl (World.ownsRow.alloc HW.out _) ⟨wr.heap.size, 0, none⟩ 2 2 [_, _] rfl rfl (cells_newG _ _ _ _ rfl) (by intro x hx; simp at hx; rcases hx with rfl | rfl <;> rfl) (by unfold maxLen; omega) (by omega) (by simp; omega) ?_; intro v' w2 hown' hgrow _)
      go_roundw
      case rel =>
        have hbl : Below w.heap.size w w2 := (hbel.alloc (by omega) _).grown hgrow (by simp; omega) (fun k e => (World.ownsRow.lt HW.out k e).1)
        refine ⟨k + 1, by omega, by go_num, ?_, hbl⟩
        show World.ownsRow _ _ _ _ _ _ _
        rw [HN.out, List.length_append, cellsC_append, HC.out]
        exact hown'
      case measure => simp [intOf]; omega
    · obtain rfl : k = zs.length := by omega
      have HC : Hid _ := OwnM.conv (P := Try.prog) 22 9 Try.underlying22 Try.underlying5 Try.underlying9 (OwnM.own HW.out)
      have hc := HC.out
      rw [List.take_length] at hc
      go_wp2
      go_ret
      exact ⟨rfl, hbel⟩
def valsB (c : Int) (vs : List Int) : ByteArray := if coilB c then bitsB vs else wordsB vs
set_option maxRecDepth 100000 in
theorem valuesText_any (k : Int) (v : Value) (zs : List Int) (w : World) (hl : zs.length ≤ 1000) (hw : coilB k = false → zs.all wordB = true) (hr : RowI w v zs) :
    Calls Try.prog 69 #[.int .i64 k, v] w fun e w' => e = .returned (.string (valsB k zs)) ∧ Below w.heap.size w w' := by
  have HC : Hid (Calls Try.prog 61 #[.int .i64 k] w fun e w' => e = .returned (.bool (coilB k)) ∧ w = w') := asksCoils_any k w
  unfold valsB
  cases hk : coilB k with
  | true =>
    rw [hk] at HC
    rw [if_pos rfl]
    have HB : Hid (Calls Try.prog 13 #[v] w fun e w' => e = .returned (.string (bitsB zs)) ∧ Below w.heap.size w w') := bitsText_any v zs w (by omega) hr
    obtain ⟨p, c, rfl, hr⟩ := hr
    clear hr hw hk
    go_enter Try.func69, Try.ntmps69
    go_wp2_with (first
      | (go_at_call 61; refine HC.out.mono ?_; rintro e w1 ⟨rfl, rfl⟩)
      | (go_at_call 13; refine HB.out.mono ?_; rintro e w1 ⟨rfl, hb1⟩))
    go_ret
    exact ⟨rfl, hb1⟩
  | false =>
    have hww := hw hk
    rw [hk] at HC
    rw [if_neg (by decide)]
    have HB : Hid (Calls Try.prog 36 #[v] w fun e w' => e = .returned (.string (wordsB zs)) ∧ Below w.heap.size w w') := wordsText_any v zs w (by omega) hww hr
    obtain ⟨p, c, rfl, hr⟩ := hr
    clear hr hw hk hww
    go_enter Try.func69, Try.ntmps69
    go_wp2_with (first
      | (go_at_call 61; refine HC.out.mono ?_; rintro e w1 ⟨rfl, rfl⟩)
      | (go_at_call 36; refine HB.out.mono ?_; rintro e w1 ⟨rfl, hb1⟩))
    go_ret
    exact ⟨rfl, hb1⟩
end Go.Proofs.Ytfpibedloodjlaa
