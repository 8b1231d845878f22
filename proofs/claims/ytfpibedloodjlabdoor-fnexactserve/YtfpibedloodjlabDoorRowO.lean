/- LISTS OF NUMBERS THAT BEGIN ANYWHERE IN THEIR ROW: as bytes, by the program and the model. -/
import Derived.Test.YtfpibedloodjlabDoorTailQ
import Derived.Test.YtfpibedloodjlabDoorJoin2
namespace Go.Proofs.YtfpibedloodjlabDoor
open Go.RowKit
set_option linter.unusedVariables false
set_option linter.unusedSimpArgs false

/-- a list of numbers that can be read, from some place of a row on -/
def RowO (w : World) (v : Value) (zs : List Int) : Prop :=
  ∃ (p : Option Addr) (c : Nat), v = .slice p zs.length c ∧ ∀ k (h : k < zs.length), ∃ g o, p = some ⟨g, o, none⟩ ∧ g < w.heap.size ∧ w.cell? ⟨g, o + k, none⟩ = some (.int .i64 zs[k])
theorem RowO.below {w w' : World} {v : Value} {zs : List Int} (h : RowO w v zs) (hb : Below w.heap.size w w') : RowO w' v zs := by
  obtain ⟨p, c, e, h⟩ := h
  refine ⟨p, c, e, fun k hk => ?_⟩
  obtain ⟨g, o, e1, h1, h2⟩ := h k hk
  exact ⟨g, o, e1, Nat.lt_of_lt_of_le h1 hb.size, (hb.cell (p := ⟨g, o + k, none⟩) h1).trans h2⟩
/-- a part of a list -/
theorem RowI.part {w : World} {p : Option Addr} {c : Nat} {zs : List Int} (h : RowI w (.slice p zs.length c) zs) (a m C : Nat) (hm : a + m ≤ zs.length) (g : Nat) (hp : p = some ⟨g, 0, none⟩) : RowO w (.slice (some ⟨g, a, none⟩) m C) ((zs.drop a).take m) := by
  obtain ⟨p', c', e, h⟩ := h
  cases e
  have hlen : ((zs.drop a).take m).length = m := by rw [List.length_take, List.length_drop]; omega
  refine ⟨_, _, by rw [hlen], fun k hk => ?_⟩
  rw [hlen] at hk
  obtain ⟨g', e1, h1, h2⟩ := h (a + k) (by omega)
  rw [hp] at e1
  cases e1
  refine ⟨g, a, rfl, h1, ?_⟩
  rw [h2, List.getElem_take, List.getElem_drop]
set_option maxRecDepth 100000 in
set_option maxHeartbeats 800000 in
theorem allUpTo_o (v : Value) (zs : List Int) (top : Int) (w : World) (hl : zs.length ≤ 10000000) (hr : RowO w v zs) :
    Calls Tryd.prog 37 #[v, .int .i64 top] w fun e w' => e = .returned (.bool (zs.all (upTo top))) ∧ w = w' := by
  obtain ⟨p, c, rfl, hr⟩ := hr
  have HR : Hid _ := hr
  clear hr
  obtain ⟨B, hB⟩ : ∃ B, Hid (zs.all (upTo top) = B) := ⟨_, show _ = _ from rfl⟩
  rw [hB.out]
  go_enter Tryd.func37, Tryd.ntmps37
  go_wp2
  go_loop [9] (fun i => ∃ k : Nat, k ≤ zs.length ∧ i = .int .i64 k ∧ Hid ((zs.take k).all (upTo top) = true)) (fun i => zs.length - (intOf i).toNat)
  case atStart => exact ⟨0, Nat.zero_le _, rfl, rfl⟩
  case round =>
    obtain ⟨k, hk, rfl, HA⟩ := hrel
    by_cases hlt : k < zs.length
    · obtain ⟨g, ofs, rfl, l1, q1⟩ := HR.out k hlt
      have HN : Hid _ := @all_no (upTo top) zs k hlt
      have HY : Hid _ := @all_take (upTo top) zs k hlt HA.out
      generalize zs[k] = z at q1 HN HY
      by_cases h0 : z < 0
      · go_wp2
        go_ret
        exact ⟨ret_bool (by rw [← hB.out, HN.out (by unfold upTo; rw [decide_eq_false (by omega)]; rfl)]), rfl⟩
      · by_cases h1 : top < z
        · go_wp2
          go_ret
          exact ⟨ret_bool (by rw [← hB.out, HN.out (by unfold upTo; rw [decide_eq_false (show ¬ z ≤ top by omega), Bool.and_false])]), rfl⟩
        · go_wp2
          go_round
          case rel => exact ⟨k + 1, by omega, by go_num, HY.out (by unfold upTo; rw [decide_eq_true (show 0 ≤ z by omega), decide_eq_true (show z ≤ top by omega)]; rfl)⟩
          case measure => simp [intOf]; omega
    · have e1 : zs.take k = zs := List.take_of_length_le (by omega)
      go_wp2
      go_ret
      exact ⟨ret_bool (by rw [← hB.out, ← HA.out, e1]), rfl⟩
set_option maxRecDepth 100000 in
set_option maxHeartbeats 800000 in
theorem bitsText_yes_o (v : Value) (zs : List Int) (w : World) (hl : zs.length ≤ 64) (hb : zs.all bitB = true) (hr : RowO w v zs) :
    Calls Tryd.prog 57 #[v] w fun e w' => e = .returned (.string (packB zs)) ∧ Below w.heap.size w w' := by
  obtain ⟨i0, hi, hz0, hz1, hz2⟩ := info_parts info8
  have HAU : Hid (Calls Tryd.prog 37 #[v, .int .i64 1] w fun e w' => e = .returned (.bool (zs.all (upTo 1))) ∧ w = w') := allUpTo_o v zs 1 w (by omega) hr
  obtain ⟨p, c, rfl, hr⟩ := hr
  have HR : Hid _ := hr
  have HB : Hid (∀ k (h : k < zs.length), zs[k] = 0 ∨ zs[k] = 1) := fun k h => (bitB_iff _).1 (List.all_eq_true.1 hb _ (List.getElem_mem h))
  have e1 : zs.all (upTo 1) = true := hb
  rw [e1] at HAU
  clear hr hb e1
  obtain ⟨nb, hnb⟩ : ∃ nb : Nat, Hid (nb = (zs.length + 7) / 8) := ⟨_, show _ = _ from rfl⟩
  have hnb8 : nb ≤ 8 := by have := hnb.out; omega
  go_enter Tryd.func57, Tryd.ntmps57
  go_wp2_with (first
    | (go_at_call 37; refine HAU.out.mono ?_; rintro e w1 ⟨rfl, rfl⟩)
    | (go_at_call 71; refine (bytesFor_any zs.length w (by omega) (by omega)).mono ?_; rintro e w1 ⟨rfl, rfl⟩; rw [show ((zs.length : Int) + 7) / 8 = (nb : Int) by have := hnb.out; omega])
    | (at_make; refine wpList_make_full _ rfl (.tmp 16) (.tmp 16) 60 rfl w.heap.size 5 i0 (.int .u8 0) 1 Tryd.underlying60 hi hz0 hz1 .i64 .i64 _ _ nb rfl rfl (by omega) (by omega) (by rw [hz2]; omega) (by unfold maxLen; omega) (Nat.le_refl _) ?_; intro w1 hown1 hgrow1; have hB1 := (Below.refl w.heap.size w).grown hgrow1 (Nat.le_refl _) (fun k e => by cases e); rw [zeros_list8] at hown1))
  have HO1 : Hid (OwnU w1 w.heap.size (.slice (some ⟨w.heap.size, 0, none⟩) nb nb) (packAt zs 0)) := by
    show OwnU _ _ _ _
    rw [packAt_zero, ← hnb.out]
    unfold OwnU
    rw [List.length_replicate]
    exact hown1
  clear hown1 hgrow1 HAU
  go_loopw [20] (fun i wr => ∃ k : Nat, k ≤ zs.length ∧ i = .int .i64 k ∧ Hid (OwnU wr w.heap.size (.slice (some ⟨w.heap.size, 0, none⟩) nb nb) (packAt zs k)) ∧ Below w.heap.size w wr) (fun i _ => zs.length - (intOf i).toNat)
  case atStart => exact ⟨0, Nat.zero_le _, rfl, HO1.out, hB1⟩
  case round =>
    obtain ⟨k, hk, rfl, HW, hbel⟩ := hrel
    have hlen : (packAt zs k).length = nb := by rw [packAt_length, hnb.out]
    by_cases hlt : k < zs.length
    · have hk8 : k / 8 < (packAt zs k).length := by rw [hlen]; have := hnb.out; omega
      obtain ⟨g, hpg, _, hgl, hq, hf⟩ := HW.out.cell (k / 8) hk8
      cases hpg
      obtain ⟨ga, ofs, rfl, la, qa⟩ := HR.out k hlt
      have qa' := (hbel.cell (p := ⟨ga, ofs + k, none⟩) la).trans qa
      clear qa
      have HST : Hid _ := packAt_step zs k hlt
      have HNX : Hid _ := byteOf_next zs k hlt
      have hbit := HB.out k hlt
      rw [packAt_get] at hq
      generalize hzk : zs[k] = z at qa' HNX hbit
      have h1 := fun m => HW.out.set (k / 8) hk8 m
      generalize hold : byteOf (zs.take k) (k / 8) = old at hq HNX
      have hmod : (k : Int).tmod 8 = ((k % 8 : Nat) : Int) := by rw [Int.tmod_eq_emod_of_nonneg (by omega)]; omega
      have hdiv : (k : Int).tdiv 8 = ((k / 8 : Nat) : Int) := by rw [Int.tdiv_eq_ediv_of_nonneg (by omega)]; omega
      have hkn : k / 8 < nb := by rw [hlen] at hk8; exact hk8
      go_wp2
      go_region
      go_wp2
      go_roundw
      case rel => exact ⟨k + 1, by omega, by go_num, (show OwnU _ _ _ _ by have e := or_in (show k % 8 < 8 by omega) HNX.out.2 hbit; rw [← HNX.out.1] at e; rw [← HST.out _ e]; exact h1 _), (hbel.setCell (Nat.le_refl _) _).drew⟩
      case measure => simp [intOf]; omega
    · obtain rfl : k = zs.length := by omega
      have HC : Hid ((convert 60 9 (.slice (some ⟨w.heap.size, 0, none⟩) nb nb)).run Tryd.prog wr = .ok (.string (packB zs)) wr) := by
        have := HW.out
        rw [packAt_all] at this
        exact this.text
      have hc := HC.out
      go_wp2
      go_ret
      exact ⟨rfl, hbel⟩
set_option maxRecDepth 100000 in
set_option maxHeartbeats 800000 in
theorem bitsText_o (v : Value) (zs : List Int) (w : World) (hl : zs.length ≤ 10000000) (hr : RowO w v zs) :
    Calls Tryd.prog 57 #[v] w fun e w' => e = .returned (.string (bitsB zs)) ∧ Below w.heap.size w w' := by
  unfold bitsB
  by_cases h6 : zs.length ≤ 64
  · cases hb : zs.all bitB with
    | true =>
      rw [decide_eq_true h6, Bool.and_true, if_pos rfl]
      exact bitsText_yes_o v zs w h6 hb hr
    | false =>
      have HAU : Hid (Calls Tryd.prog 37 #[v, .int .i64 1] w fun e w' => e = .returned (.bool (zs.all bitB)) ∧ w = w') := allUpTo_o v zs 1 w hl hr
      obtain ⟨p, c, rfl, hr⟩ := hr
      rw [hb] at HAU
      rw [Bool.false_and, if_neg (by decide)]
      clear hr hb
      go_enter Tryd.func57, Tryd.ntmps57
      go_wp2_with (go_at_call 37; refine HAU.out.mono ?_; rintro e w1 ⟨rfl, rfl⟩)
      go_ret
      exact ⟨rfl, Below.refl _ _⟩
  · obtain ⟨p, c, rfl, hr⟩ := hr
    rw [decide_eq_false h6, Bool.and_false, if_neg (by decide)]
    clear hr
    go_enter Tryd.func57, Tryd.ntmps57
    go_wp2
    go_ret
    exact ⟨rfl, Below.refl _ _⟩
set_option maxRecDepth 100000 in
set_option maxHeartbeats 800000 in
theorem l04Pack_o (v : Value) (zs : List Int) (w : World) (hl : zs.length ≤ 64) (hr : RowO w v zs) :
    Calls Tryd.prog 49 #[v] w fun e w' => e = .returned (.string (packB zs)) ∧ Below w.heap.size w w' := by
  obtain ⟨i0, hi, hz0, hz1, hz2⟩ := info_parts info8
  obtain ⟨p, c, rfl, hr⟩ := hr
  have HR : Hid _ := hr
  clear hr
  obtain ⟨nb, hnb⟩ : ∃ nb : Nat, Hid (nb = (zs.length + 7) / 8) := ⟨_, show _ = _ from rfl⟩
  have hnb8 : nb ≤ 8 := by have := hnb.out; omega
  have hdv : ((zs.length : Int) + 7).tdiv 8 = (nb : Int) := by rw [Int.tdiv_eq_ediv_of_nonneg (by omega)]; have := hnb.out; omega
  go_enter Tryd.func49, Tryd.ntmps49
  go_wp2_with (at_make; refine wpList_make_full _ rfl (.tmp 8) (.tmp 8) 60 rfl w.heap.size 5 i0 (.int .u8 0) 1 Tryd.underlying60 hi hz0 hz1 .i64 .i64 _ _ nb rfl rfl (by omega) (by omega) (by rw [hz2]; omega) (by unfold maxLen; omega) (Nat.le_refl _) ?_; intro w1 hown1 hgrow1; have hB1 := (Below.refl w.heap.size w).grown hgrow1 (Nat.le_refl _) (fun k e => by cases e); rw [zeros_list8] at hown1)
  have HO1 : Hid (OwnU w1 w.heap.size (.slice (some ⟨w.heap.size, 0, none⟩) nb nb) (packAt zs 0)) := by
    show OwnU _ _ _ _
    rw [packAt_zero, ← hnb.out]
    unfold OwnU
    rw [List.length_replicate]
    exact hown1
  clear hown1 hgrow1
  go_loopw [4] (fun i wr => ∃ k : Nat, k ≤ zs.length ∧ i = .int .i64 k ∧ Hid (OwnU wr w.heap.size (.slice (some ⟨w.heap.size, 0, none⟩) nb nb) (packAt zs k)) ∧ Below w.heap.size w wr) (fun i _ => zs.length - (intOf i).toNat)
  case atStart => exact ⟨0, Nat.zero_le _, rfl, HO1.out, hB1⟩
  case round =>
    obtain ⟨k, hk, rfl, HW, hbel⟩ := hrel
    have hlen : (packAt zs k).length = nb := by rw [packAt_length, hnb.out]
    by_cases hlt : k < zs.length
    · have hk8 : k / 8 < (packAt zs k).length := by rw [hlen]; have := hnb.out; omega
      obtain ⟨g, hpg, _, hgl, hq, hf⟩ := HW.out.cell (k / 8) hk8
      cases hpg
      obtain ⟨ga, ofs, rfl, la, qa⟩ := HR.out k hlt
      have qa' := (hbel.cell (p := ⟨ga, ofs + k, none⟩) la).trans qa
      clear qa
      have HST : Hid _ := packAt_step zs k hlt
      have HNX : Hid _ := byteOf_next zs k hlt
      have HSA : Hid _ := packAt_same zs k hlt
      rw [packAt_get] at hq
      generalize hzk : zs[k] = z at qa' HNX HSA
      generalize hold : byteOf (zs.take k) (k / 8) = old at hq HNX
      have hmod : (k : Int).tmod 8 = ((k % 8 : Nat) : Int) := by rw [Int.tmod_eq_emod_of_nonneg (by omega)]; omega
      have hdiv : (k : Int).tdiv 8 = ((k / 8 : Nat) : Int) := by rw [Int.tdiv_eq_ediv_of_nonneg (by omega)]; omega
      have hkn : k / 8 < nb := by rw [hlen] at hk8; exact hk8
      by_cases h1 : z = 1
      · have e1 : (z == 1) = true := by simp [h1]
        rw [if_pos h1] at HNX
        have qn : (wr.alloc (.cells #[.int .u8 1, .int .u8 2, .int .u8 4, .int .u8 8, .int .u8 16, .int .u8 32, .int .u8 64, .int .u8 128] 5)).cell? ⟨wr.heap.size, k % 8, none⟩ = some (.int .u8 ((2 ^ (k % 8) : Nat) : Int)) := by
          simp only [World.cell?, heap_alloc_new]
          exact pow_cell _ (by omega)
        have h9 := fun m => HW.out.set (k / 8) hk8 m
        have hk9 : k % 8 < 8 := by omega
        clear h1 HSA
        go_wp2
        go_region
        go_wp2
        go_roundw
        case rel => exact ⟨k + 1, by omega, by go_num, (show OwnU _ _ _ _ by have e := or_in1 (show k % 8 < 8 by omega) HNX.out.2; rw [← HNX.out.1] at e; rw [← HST.out _ e]; exact (h9 _).below ((Below.refl _ _).alloc (Nat.le_refl _) _).drew), ((hbel.setCell (Nat.le_refl _) _).alloc (by show w.heap.size ≤ (wr.setCell _ _).heap.size; rw [size_set]; omega) _).drew⟩
        case measure => simp [intOf]; omega
      · have e1 : (z == 1) = false := by simp [h1]
        have HSB : Hid _ := HSA.out h1
        clear h1 HSA HNX
        go_wp2
        go_roundw
        case rel => exact ⟨k + 1, by omega, by go_num, (show OwnU _ _ _ _ by rw [HSB.out]; exact HW.out), hbel⟩
        case measure => simp [intOf]; omega
    · obtain rfl : k = zs.length := by omega
      have HC : Hid ((convert 60 9 (.slice (some ⟨w.heap.size, 0, none⟩) nb nb)).run Tryd.prog wr = .ok (.string (packB zs)) wr) := by
        have := HW.out
        rw [packAt_all] at this
        exact this.text
      have hc := HC.out
      go_wp2
      go_ret
      exact ⟨rfl, hbel⟩
set_option maxRecDepth 100000 in
set_option maxHeartbeats 800000 in
theorem l04Words_o (v : Value) (zs : List Int) (w : World) (hl : zs.length ≤ 1000) (hw : zs.all wordB = true) (hr : RowO w v zs) :
    Calls Tryd.prog 50 #[v] w fun e w' => e = .returned (.string (wordsB zs)) ∧ Below w.heap.size w w' := by
  obtain ⟨p, c, rfl, hr⟩ := hr
  have HR : Hid _ := hr
  have HWD : Hid (∀ k (h : k < zs.length), 0 ≤ zs[k] ∧ zs[k] ≤ 65535) := fun k h => (wordB_iff _).1 (List.all_eq_true.1 hw _ (List.getElem_mem h))
  clear hr hw
  obtain ⟨R, hR⟩ : ∃ R, Hid (wordsB zs = R) := ⟨_, show _ = _ from rfl⟩
  rw [hR.out]
  go_enter Tryd.func50, Tryd.ntmps50
  go_wp2
  go_loopw [3, 4] (fun t i wr => ∃ (k : Nat) (s : ByteArray), k ≤ zs.length ∧ i = .int .i64 k ∧ t = .string s ∧ Hid (s = wordsB (zs.take k)) ∧ Below w.heap.size w wr) (fun _ i _ => zs.length - (intOf i).toNat)
  case atStart => exact ⟨0, ByteArray.empty, Nat.zero_le _, rfl, rfl, (show _ = _ from rfl), Below.refl _ _⟩
  case round =>
    obtain ⟨k, s, hk, rfl, rfl, HS, hbel⟩ := hrel
    by_cases hlt : k < zs.length
    · obtain ⟨g, ofs, rfl, l1, q1⟩ := HR.out k hlt
      have q1' := (hbel.cell (p := ⟨g, ofs + k, none⟩) l1).trans q1
      clear q1
      have HZ : Hid _ := HWD.out k hlt
      have hsz : s.size ≤ 2000 := by have := wordsB_size (zs.take k); rw [← HS.out, List.length_take] at this; omega
      have HN : Hid (wordsB (zs.take (k + 1)) = s ++ twoB zs[k]) := by show _ = _; rw [List.take_succ_eq_append_getElem hlt, wordsB_snoc, ← HS.out]
      generalize zs[k] = z at q1' HZ HN
      have h2 : (twoB z).size = 2 := rfl
      have HT : Hid (∀ W, Calls Tryd.prog 59 #[.int .i64 z] W fun e w' => e = .returned (.string (twoB z)) ∧ Below W.heap.size W w') := fun W => l04Two_any z W HZ.out
      generalize twoB z = t2 at HN h2 HT
      have hcat : ¬ 9223372036854775807 < s.size + t2.size := by omega
      go_wp2_with (go_at_call 59; refine (HT.out _).mono ?_; rintro e w2 ⟨rfl, hb2⟩)
      go_roundw
      case rel => exact ⟨k + 1, s ++ t2, by omega, by go_num, rfl, HN.out.symm, keepB hbel (Nat.le_refl _) hb2⟩
      case measure => simp [intOf]; omega
    · obtain rfl : k = zs.length := by omega
      have hs : s = R := by rw [HS.out, List.take_length, hR.out]
      go_wp2
      go_ret
      exact ⟨by rw [← hs]; rfl, hbel⟩
set_option maxRecDepth 100000 in
set_option maxHeartbeats 800000 in
theorem wordsText_o (v : Value) (zs : List Int) (w : World) (hl : zs.length ≤ 1000) (hw : zs.all wordB = true) (hr : RowO w v zs) :
    Calls Tryd.prog 58 #[v] w fun e w' => e = .returned (.string (wordsB zs)) ∧ Below w.heap.size w w' := by
  obtain ⟨i0, hi, hz0, hz1, hz2⟩ := info_parts info8
  obtain ⟨p, c, rfl, hr⟩ := hr
  have HR : Hid _ := hr
  have HWD : Hid (∀ k (h : k < zs.length), 0 ≤ zs[k] ∧ zs[k] ≤ 65535) := fun k h => (wordB_iff _).1 (List.all_eq_true.1 hw _ (List.getElem_mem h))
  clear hr hw
  go_enter Tryd.func58, Tryd.ntmps58
  go_wp2_with (at_make; refine wpList_make_own _ rfl (.const (.int .i64 0)) (.tmp 8) 60 rfl w.heap.size 5 i0 (.int .u8 0) 1 Tryd.underlying60 hi hz0 hz1 .i64 .i64 _ (2 * zs.length) rfl rfl (by omega) (by rw [hz2]; omega) (by unfold maxLen; omega) (Nat.le_refl _) ?_; intro w1 hown1 hgrow1; have hB1 := (Below.refl w.heap.size w).grown hgrow1 (Nat.le_refl _) (fun k e => by cases e))
  go_loopw [3, 12] (fun v i wr => ∃ k : Nat, k ≤ zs.length ∧ i = .int .i64 k ∧ Hid (wr.ownsRow w.heap.size 5 1 v (wordsL (zs.take k)).length (cellsC (wordsL (zs.take k)))) ∧ Below w.heap.size w wr) (fun _ i _ => zs.length - (intOf i).toNat)
  case atStart => exact ⟨0, Nat.zero_le _, rfl, hown1, hB1⟩
  case round =>
    obtain ⟨k, hk, rfl, HW, hbel⟩ := hrel
    by_cases hlt : k < zs.length
    · obtain ⟨g, ofs, rfl, l1, q1⟩ := HR.out k hlt
      have q1' := (hbel.cell (p := ⟨g, ofs + k, none⟩) l1).trans q1
      clear q1
      have hsz := hbel.size
      have hlk : (wordsL (zs.take k)).length = 2 * k := by rw [wordsL_length, List.length_take]; omega
      have hz := HWD.out k hlt
      have HN : Hid (wordsL (zs.take (k + 1)) = wordsL (zs.take k) ++ twoL zs[k]) := by show _ = _; rw [List.take_succ_eq_append_getElem hlt, wordsL_snoc]
      generalize zs[k] = z at q1' hz HN
      have HC : Hid _ := cellsC_two z hz
      obtain ⟨z0, z1⟩ := hz
      have es : z / 256 % 256 = z / 256 := by omega
      go_wp2_with (at_builtin; refine wpList_append_own _ rfl (.tmp 16) (.tmp 22) 60 rfl w.heap.size 5 i0 (.int .u8 0) 1 1 Tryd.underlying60 hi hz0 hz1 hz2 rfl (by decide) _ _ _ rfl (World.ownsRow.alloc HW.out _) ⟨wr.heap.size, 0, none⟩ 2 2 [_, _] rfl rfl (cells_newG _ _ _ _ rfl) (by intro x hx; simp at hx; rcases hx with rfl | rfl <;> rfl) (by unfold maxLen; omega) (by omega) (by simp; omega) ?_; intro v' w2 hown' hgrow _)
      go_roundw
      case rel =>
        have hbl : Below w.heap.size w w2 := (hbel.alloc (by omega) _).grown hgrow (by simp; omega) (fun k e => (World.ownsRow.lt HW.out k e).1)
        refine ⟨k + 1, by omega, by go_num, ?_, hbl⟩
        show World.ownsRow _ _ _ _ _ _ _
        rw [HN.out, List.length_append, cellsC_append, HC.out]
        exact hown'
      case measure => simp [intOf]; omega
    · obtain rfl : k = zs.length := by omega
      have HC : Hid _ := OwnM.conv (P := Tryd.prog) 60 9 Tryd.underlying60 Tryd.underlying5 Tryd.underlying9 (OwnM.own HW.out)
      have hc := HC.out
      rw [List.take_length] at hc
      go_wp2
      go_ret
      exact ⟨rfl, hbel⟩
set_option maxRecDepth 100000 in
theorem valuesText_o (k : Int) (v : Value) (zs : List Int) (w : World) (hl : zs.length ≤ 1000) (hw : coilB k = false → zs.all wordB = true) (hr : RowO w v zs) :
    Calls Tryd.prog 43 #[.int .i64 k, v] w fun e w' => e = .returned (.string (valsB k zs)) ∧ Below w.heap.size w w' := by
  have HC : Hid (Calls Tryd.prog 39 #[.int .i64 k] w fun e w' => e = .returned (.bool (coilB k)) ∧ w = w') := asksCoils_any k w
  unfold valsB
  cases hk : coilB k with
  | true =>
    rw [hk] at HC
    rw [if_pos rfl]
    have HB : Hid (Calls Tryd.prog 57 #[v] w fun e w' => e = .returned (.string (bitsB zs)) ∧ Below w.heap.size w w') := bitsText_o v zs w (by omega) hr
    obtain ⟨p, c, rfl, hr⟩ := hr
    clear hr hw hk
    go_enter Tryd.func43, Tryd.ntmps43
    go_wp2_with (first
      | (go_at_call 39; refine HC.out.mono ?_; rintro e w1 ⟨rfl, rfl⟩)
      | (go_at_call 57; refine HB.out.mono ?_; rintro e w1 ⟨rfl, hb1⟩))
    go_ret
    exact ⟨rfl, hb1⟩
  | false =>
    have hww := hw hk
    rw [hk] at HC
    rw [if_neg (by decide)]
    have HB : Hid (Calls Tryd.prog 58 #[v] w fun e w' => e = .returned (.string (wordsB zs)) ∧ Below w.heap.size w w') := wordsText_o v zs w (by omega) hww hr
    obtain ⟨p, c, rfl, hr⟩ := hr
    clear hr hw hk hww
    go_enter Tryd.func43, Tryd.ntmps43
    go_wp2_with (first
      | (go_at_call 39; refine HC.out.mono ?_; rintro e w1 ⟨rfl, rfl⟩)
      | (go_at_call 58; refine HB.out.mono ?_; rintro e w1 ⟨rfl, hb1⟩))
    go_ret
    exact ⟨rfl, hb1⟩
theorem countedText_o (k : Int) (v : Value) (zs : List Int) (w : World) (hl : zs.length ≤ 1000) (hw : coilB k = false → zs.all wordB = true) (hz : (valsB k zs).size ≤ 255) (hr : RowO w v zs) :
    Calls Tryd.prog 26 #[.int .i64 k, v] w fun e w' => e = .returned (.string (oneB ((valsB k zs).size : Int) ++ valsB k zs)) ∧ Below w.heap.size w w' := by
  have HV : Hid (Calls Tryd.prog 43 #[.int .i64 k, v] w fun e w' => e = .returned (.string (valsB k zs)) ∧ Below w.heap.size w w') := valuesText_o k v zs w hl hw hr
  generalize valsB k zs = D at HV hz ⊢
  have HB : Hid (∀ W : World, Calls Tryd.prog 25 #[.int .i64 (D.size : Int)] W fun e w' => e = .returned (.string (oneB (D.size : Int))) ∧ Below W.heap.size W w') := fun W => byteText_any _ W (by omega)
  have z2 : (oneB (D.size : Int)).size = 1 := rfl
  generalize oneB (D.size : Int) = t2 at HB z2 ⊢
  have HJ : Hid (∀ W : World, Calls Tryd.prog 24 #[.slice (some ⟨W.heap.size, 0, none⟩) 2 2] (W.alloc (.cells #[.string t2, .string D] 9)) fun e w' => e = .returned (.string (t2 ++ D)) ∧ Below W.heap.size W w') := fun W => join_2t t2 D W (by omega) (by omega)
  generalize t2 ++ D = R at HJ ⊢
  obtain ⟨p, c, rfl, hr⟩ := hr
  clear hr hw
  go_enter Tryd.func26, Tryd.ntmps26
  go_wp2_with (first
    | (go_at_call 43; refine HV.out.mono ?_; rintro e w1 ⟨rfl, hb1⟩)
    | (go_at_call 25; refine (HB.out _).mono ?_; rintro e w3 ⟨rfl, hb3⟩)
    | (go_at_call 24; refine (HJ.out _).mono ?_; rintro e w4 ⟨rfl, hb4⟩))
  go_ret
  exact ⟨rfl, keepB (keepB hb1 (Nat.le_refl _) hb3) (Nat.le_refl _) hb4⟩
end Go.Proofs.YtfpibedloodjlabDoor
