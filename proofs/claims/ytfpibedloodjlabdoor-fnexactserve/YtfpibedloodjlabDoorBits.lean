/- THE WALKS of bits as bytes: the program's and the model's. -/
import Derived.Test.YtfpibedloodjlabDoorOwnU
import Derived.Test.YtfpibedloodjlabDoorPlainAsk
import Derived.Laws.BitsAllLaws
import Derived.BigRegion
namespace Go.Proofs.YtfpibedloodjlabDoor
open Go.RowKit
set_option linter.unusedVariables false
set_option linter.unusedSimpArgs false

def upTo (top n : Int) : Bool := decide (0 ≤ n) && decide (n ≤ top)
theorem all_no {p : Int → Bool} {zs : List Int} {k : Nat} (h : k < zs.length) (hk : p zs[k] = false) : zs.all p = false := by
  rw [Bool.eq_false_iff]
  intro h1
  rw [List.all_eq_true] at h1
  have := h1 _ (List.getElem_mem h)
  rw [hk] at this
  cases this
theorem all_take {p : Int → Bool} {zs : List Int} {k : Nat} (h : k < zs.length) (h1 : (zs.take k).all p = true) (hk : p zs[k] = true) : (zs.take (k + 1)).all p = true := by
  rw [List.take_succ_eq_append_getElem h, List.all_append, h1]
  simp [hk]
set_option maxRecDepth 100000 in
set_option maxHeartbeats 800000 in
theorem allUpTo_any (v : Value) (zs : List Int) (top : Int) (w : World) (hl : zs.length ≤ 10000000) (hr : RowI w v zs) :
    Calls Tryd.prog 37 #[v, .int .i64 top] w fun e w' => e = .returned (.bool (zs.all (upTo top))) ∧ w = w' := by
  obtain ⟨p, c, rfl, hr⟩ := hr
  have HR : Hid _ := hr
  clear hr
  obtain ⟨B, hB⟩ : ∃ B, Hid (zs.all (upTo top) = B) := ⟨_, show _ = _ from rfl⟩
  rw [hB.out]
  go_enter Tryd.func37, Tryd.ntmps37
  go_wp2
  go_loop [9] (fun i => ∃ k : Nat, k ≤ zs.length ∧ i = .int .i64 k ∧ Hid ((zs.take k).all (upTo top) = true)) (fun i => zs.length - (intOf i).toNat)
  case atStart => exact ⟨0, Nat.zero_le _, rfl, rfl⟩
  case round =>
    obtain ⟨k, hk, rfl, HA⟩ := hrel
    by_cases hlt : k < zs.length
    · obtain ⟨g, rfl, l1, q1⟩ := HR.out k hlt
      have HN : Hid _ := @all_no (upTo top) zs k hlt
      have HY : Hid _ := @all_take (upTo top) zs k hlt HA.out
      generalize zs[k] = z at q1 HN HY
      by_cases h0 : z < 0
      · go_wp2
        go_ret
        exact ⟨ret_bool (by rw [← hB.out, HN.out (by unfold upTo; rw [decide_eq_false (by omega)]; rfl)]), rfl⟩
      · by_cases h1 : top < z
        · go_wp2
          go_ret
          exact ⟨ret_bool (by rw [← hB.out, HN.out (by unfold upTo; rw [decide_eq_false (show ¬ z ≤ top by omega), Bool.and_false])]), rfl⟩
        · go_wp2
          go_round
          case rel => exact ⟨k + 1, by omega, by go_num, HY.out (by unfold upTo; rw [decide_eq_true (show 0 ≤ z by omega), decide_eq_true (show z ≤ top by omega)]; rfl)⟩
          case measure => simp [intOf]; omega
    · have e1 : zs.take k = zs := List.take_of_length_le (by omega)
      go_wp2
      go_ret
      exact ⟨ret_bool (by rw [← hB.out, ← HA.out, e1]), rfl⟩
set_option maxRecDepth 100000 in
set_option maxHeartbeats 800000 in
theorem l04Bits_any (v : Value) (zs : List Int) (top : Nat) (w : World) (hl : zs.length ≤ 10000000) (ht : top ≤ 1000) (hr : RowI w v zs) :
    Calls Tryd.prog 32 #[v, .int .i64 top] w fun e w' => e = .returned (.bool (zs.all bitB && decide (zs.length ≤ top))) ∧ w = w' := by
  obtain ⟨p, c, rfl, hr⟩ := hr
  have HR : Hid _ := hr
  clear hr
  obtain ⟨B, hB⟩ : ∃ B, Hid (zs.all bitB = B) := ⟨_, show _ = _ from rfl⟩
  rw [hB.out]
  go_enter Tryd.func32, Tryd.ntmps32
  go_wp2
  go_loop [5] (fun i => ∃ k : Nat, k ≤ zs.length ∧ i = .int .i64 k ∧ Hid ((zs.take k).all bitB = true)) (fun i => zs.length - (intOf i).toNat)
  case atStart => exact ⟨0, Nat.zero_le _, rfl, rfl⟩
  case round =>
    obtain ⟨k, hk, rfl, HA⟩ := hrel
    by_cases hlt : k < zs.length
    · obtain ⟨g, rfl, l1, q1⟩ := HR.out k hlt
      have HN : Hid _ := @all_no bitB zs k hlt
      have HY : Hid _ := @all_take bitB zs k hlt HA.out
      generalize zs[k] = z at q1 HN HY
      by_cases h0 : z = 0
      · have e0 : (z != 0) = false := by simp [h0]
        go_wp2
        go_round
        case rel => exact ⟨k + 1, by omega, by go_num, HY.out ((bitB_iff _).2 (.inl h0))⟩
        case measure => simp [intOf]; omega
      · have e0 : (z != 0) = true := by simp [h0]
        by_cases h1 : z = 1
        · have e1 : (z != 1) = false := by simp [h1]
          have HY1 : Hid _ := HY.out ((bitB_iff _).2 (.inr h1))
          clear h1 h0
          go_wp2
          go_round
          case rel => exact ⟨k + 1, by omega, by go_num, HY1.out⟩
          case measure => simp [intOf]; omega
        · have e1 : (z != 1) = true := by simp [h1]
          go_wp2
          go_ret
          exact ⟨ret_bool (by rw [← hB.out, HN.out (by rw [Bool.eq_false_iff]; intro h; have := (bitB_iff _).1 h; omega), Bool.false_and]), rfl⟩
    · have e1 : zs.take k = zs := List.take_of_length_le (by omega)
      have e2 : B = true := by rw [← hB.out, ← HA.out, e1]
      go_wp2
      go_ret
      exact ⟨ret_bool (by first | rfl | (rw [e2, Bool.true_and]) | exact decide_eq_decide.2 (by omega)), rfl⟩
theorem bytesFor_any (n : Int) (w : World) (h0 : 0 ≤ n) (h1 : n ≤ 10000) :
    Calls Tryd.prog 71 #[.int .i64 n] w fun e w' => e = .returned (.int .i64 ((n + 7) / 8)) ∧ w = w' := by
  go_enter Tryd.func71, Tryd.ntmps71
  go_wp2
  go_ret
  exact ⟨ret_int (by go_num), rfl⟩
theorem or_table : ∀ r : Fin 8, ∀ o : Fin 128, o.val < 2 ^ r.val → bits BinOp.or IntKind.u8 (o.val : Int) (1 * 2 ^ r.val % 256) = ((o.val + 1 * 2 ^ r.val : Nat) : Int) ∧ bits BinOp.or IntKind.u8 (o.val : Int) (0 * 2 ^ r.val % 256) = ((o.val + 0 * 2 ^ r.val : Nat) : Int) := by decide +kernel
theorem or_in {old r : Nat} {z : Int} (hr : r < 8) (ho : old < 2 ^ r) (hz : z = 0 ∨ z = 1) : bits BinOp.or IntKind.u8 (old : Int) (z * 2 ^ r % 256) = ((old + (if z = 1 then 1 else 0) * 2 ^ r : Nat) : Int) := by
  have h128 : old < 128 := by
    have : 2 ^ r ≤ 2 ^ 7 := Nat.pow_le_pow_right (by decide) (by omega)
    omega
  have := or_table ⟨r, hr⟩ ⟨old, h128⟩ ho
  rcases hz with rfl | rfl
  · exact this.2
  · exact this.1
set_option maxRecDepth 100000 in
set_option maxHeartbeats 800000 in
theorem bitsText_yes (v : Value) (zs : List Int) (w : World) (hl : zs.length ≤ 64) (hb : zs.all bitB = true) (hr : RowI w v zs) :
    Calls Tryd.prog 57 #[v] w fun e w' => e = .returned (.string (packB zs)) ∧ Below w.heap.size w w' := by
  obtain ⟨i0, hi, hz0, hz1, hz2⟩ := info_parts info8
  have HAU : Hid (Calls Tryd.prog 37 #[v, .int .i64 1] w fun e w' => e = .returned (.bool (zs.all (upTo 1))) ∧ w = w') := allUpTo_any v zs 1 w (by omega) hr
  obtain ⟨p, c, rfl, hr⟩ := hr
  have HR : Hid _ := hr
  have HB : Hid (∀ k (h : k < zs.length), zs[k] = 0 ∨ zs[k] = 1) := fun k h => (bitB_iff _).1 (List.all_eq_true.1 hb _ (List.getElem_mem h))
  have e1 : zs.all (upTo 1) = true := hb
  rw [e1] at HAU
  clear hr hb e1
  obtain ⟨nb, hnb⟩ : ∃ nb : Nat, Hid (nb = (zs.length + 7) / 8) := ⟨_, show _ = _ from rfl⟩
  have hnb8 : nb ≤ 8 := by have := hnb.out; omega
  go_enter Tryd.func57, Tryd.ntmps57
  go_wp2_with (first
    | (go_at_call 37; refine HAU.out.mono ?_; rintro e w1 ⟨rfl, rfl⟩)
    | (go_at_call 71; refine (bytesFor_any zs.length w (by omega) (by omega)).mono ?_; rintro e w1 ⟨rfl, rfl⟩; rw [show ((zs.length : Int) + 7) / 8 = (nb : Int) by have := hnb.out; omega])
    | (at_make; refine wpList_make_full _ rfl (.tmp 16) (.tmp 16) 60 rfl w.heap.size 5 i0 (.int .u8 0) 1 Tryd.underlying60 hi hz0 hz1 .i64 .i64 _ _ nb rfl rfl (by omega) (by omega) (by rw [hz2]; omega) (by unfold maxLen; omega) (Nat.le_refl _) ?_; intro w1 hown1 hgrow1; have hB1 := (Below.refl w.heap.size w).grown hgrow1 (Nat.le_refl _) (fun k e => by cases e); rw [zeros_list8] at hown1))
  have HO1 : Hid (OwnU w1 w.heap.size (.slice (some ⟨w.heap.size, 0, none⟩) nb nb) (packAt zs 0)) := by
    show OwnU _ _ _ _
    rw [packAt_zero, ← hnb.out]
    unfold OwnU
    rw [List.length_replicate]
    exact hown1
  clear hown1 hgrow1 HAU
  go_loopw [20] (fun i wr => ∃ k : Nat, k ≤ zs.length ∧ i = .int .i64 k ∧ Hid (OwnU wr w.heap.size (.slice (some ⟨w.heap.size, 0, none⟩) nb nb) (packAt zs k)) ∧ Below w.heap.size w wr) (fun i _ => zs.length - (intOf i).toNat)
  case atStart => exact ⟨0, Nat.zero_le _, rfl, HO1.out, hB1⟩
  case round =>
    obtain ⟨k, hk, rfl, HW, hbel⟩ := hrel
    have hlen : (packAt zs k).length = nb := by rw [packAt_length, hnb.out]
    by_cases hlt : k < zs.length
    · have hk8 : k / 8 < (packAt zs k).length := by rw [hlen]; have := hnb.out; omega
      obtain ⟨g, hpg, _, hgl, hq, hf⟩ := HW.out.cell (k / 8) hk8
      cases hpg
      obtain ⟨ga, rfl, la, qa⟩ := HR.out k hlt
      have qa' := (hbel.cell (p := ⟨ga, k, none⟩) la).trans qa
      clear qa
      have HST : Hid _ := packAt_step zs k hlt
      have HNX : Hid _ := byteOf_next zs k hlt
      have hbit := HB.out k hlt
      rw [packAt_get] at hq
      generalize hzk : zs[k] = z at qa' HNX hbit
      have h1 := fun m => HW.out.set (k / 8) hk8 m
      generalize hold : byteOf (zs.take k) (k / 8) = old at hq HNX
      have hmod : (k : Int).tmod 8 = ((k % 8 : Nat) : Int) := by rw [Int.tmod_eq_emod_of_nonneg (by omega)]; omega
      have hdiv : (k : Int).tdiv 8 = ((k / 8 : Nat) : Int) := by rw [Int.tdiv_eq_ediv_of_nonneg (by omega)]; omega
      have hkn : k / 8 < nb := by rw [hlen] at hk8; exact hk8
      go_wp2
      go_region
      go_wp2
      go_roundw
      case rel => exact ⟨k + 1, by omega, by go_num, (show OwnU _ _ _ _ by have e := or_in (show k % 8 < 8 by omega) HNX.out.2 hbit; rw [← HNX.out.1] at e; rw [← HST.out _ e]; exact h1 _), (hbel.setCell (Nat.le_refl _) _).drew⟩
      case measure => simp [intOf]; omega
    · obtain rfl : k = zs.length := by omega
      have HC : Hid ((convert 60 9 (.slice (some ⟨w.heap.size, 0, none⟩) nb nb)).run Tryd.prog wr = .ok (.string (packB zs)) wr) := by
        have := HW.out
        rw [packAt_all] at this
        exact this.text
      have hc := HC.out
      go_wp2
      go_ret
      exact ⟨rfl, hbel⟩
def bitsB (zs : List Int) : ByteArray := if zs.all bitB && decide (zs.length ≤ 64) then packB zs else ByteArray.empty
set_option maxRecDepth 100000 in
set_option maxHeartbeats 800000 in
theorem bitsText_any (v : Value) (zs : List Int) (w : World) (hl : zs.length ≤ 10000000) (hr : RowI w v zs) :
    Calls Tryd.prog 57 #[v] w fun e w' => e = .returned (.string (bitsB zs)) ∧ Below w.heap.size w w' := by
  unfold bitsB
  by_cases h6 : zs.length ≤ 64
  · cases hb : zs.all bitB with
    | true =>
      rw [decide_eq_true h6, Bool.and_true, if_pos rfl]
      exact bitsText_yes v zs w h6 hb hr
    | false =>
      have HAU : Hid (Calls Tryd.prog 37 #[v, .int .i64 1] w fun e w' => e = .returned (.bool (zs.all bitB)) ∧ w = w') := allUpTo_any v zs 1 w hl hr
      obtain ⟨p, c, rfl, hr⟩ := hr
      rw [hb] at HAU
      rw [Bool.false_and, if_neg (by decide)]
      clear hr hb
      go_enter Tryd.func57, Tryd.ntmps57
      go_wp2_with (go_at_call 37; refine HAU.out.mono ?_; rintro e w1 ⟨rfl, rfl⟩)
      go_ret
      exact ⟨rfl, Below.refl _ _⟩
  · obtain ⟨p, c, rfl, hr⟩ := hr
    rw [decide_eq_false h6, Bool.and_false, if_neg (by decide)]
    clear hr
    go_enter Tryd.func57, Tryd.ntmps57
    go_wp2
    go_ret
    exact ⟨rfl, Below.refl _ _⟩
theorem size_set (w : World) (a : Addr) (v : Value) : (w.setCell a v).heap.size = w.heap.size := by simp [World.setCell]
theorem or_in1 {old r : Nat} (hr : r < 8) (ho : old < 2 ^ r) : bits BinOp.or IntKind.u8 (old : Int) (2 ^ r) = ((old + 1 * 2 ^ r : Nat) : Int) := by
  have := or_in (z := 1) hr ho (.inr rfl)
  rw [if_pos rfl] at this
  rw [← this]
  have h2 : (2 : Int) ^ r < 256 := by
    have : 2 ^ r ≤ 2 ^ 7 := Nat.pow_le_pow_right (by decide) (show r ≤ 7 by omega)
    have h3 : ((2 ^ r : Nat) : Int) ≤ ((2 ^ 7 : Nat) : Int) := by omega
    simp at h3
    omega
  have h0 : (0 : Int) < 2 ^ r := Int.pow_pos (by decide)
  rw [Int.one_mul, Int.emod_eq_of_lt (by omega) h2]
theorem pow_cell {k : IntKind} (r : Nat) (hr : r < 8) : (#[Value.int k 1, .int k 2, .int k 4, .int k 8, .int k 16, .int k 32, .int k 64, .int k 128] : Array Value)[r]? = some (.int k ((2 ^ r : Nat) : Int)) := by
  match r, hr with
  | 0, _ => rfl
  | 1, _ => rfl
  | 2, _ => rfl
  | 3, _ => rfl
  | 4, _ => rfl
  | 5, _ => rfl
  | 6, _ => rfl
  | 7, _ => rfl
set_option maxRecDepth 100000 in
set_option maxHeartbeats 800000 in
theorem l04Pack_any (v : Value) (zs : List Int) (w : World) (hl : zs.length ≤ 64) (hr : RowI w v zs) :
    Calls Tryd.prog 49 #[v] w fun e w' => e = .returned (.string (packB zs)) ∧ Below w.heap.size w w' := by
  obtain ⟨i0, hi, hz0, hz1, hz2⟩ := info_parts info8
  obtain ⟨p, c, rfl, hr⟩ := hr
  have HR : Hid _ := hr
  clear hr
  obtain ⟨nb, hnb⟩ : ∃ nb : Nat, Hid (nb = (zs.length + 7) / 8) := ⟨_, show _ = _ from rfl⟩
  have hnb8 : nb ≤ 8 := by have := hnb.out; omega
  have hdv : ((zs.length : Int) + 7).tdiv 8 = (nb : Int) := by rw [Int.tdiv_eq_ediv_of_nonneg (by omega)]; have := hnb.out; omega
  go_enter Tryd.func49, Tryd.ntmps49
  go_wp2_with (at_make; refine wpList_make_full _ rfl (.tmp 8) (.tmp 8) 60 rfl w.heap.size 5 i0 (.int .u8 0) 1 Tryd.underlying60 hi hz0 hz1 .i64 .i64 _ _ nb rfl rfl (by omega) (by omega) (by rw [hz2]; omega) (by unfold maxLen; omega) (Nat.le_refl _) ?_; intro w1 hown1 hgrow1; have hB1 := (Below.refl w.heap.size w).grown hgrow1 (Nat.le_refl _) (fun k e => by cases e); rw [zeros_list8] at hown1)
  have HO1 : Hid (OwnU w1 w.heap.size (.slice (some ⟨w.heap.size, 0, none⟩) nb nb) (packAt zs 0)) := by
    show OwnU _ _ _ _
    rw [packAt_zero, ← hnb.out]
    unfold OwnU
    rw [List.length_replicate]
    exact hown1
  clear hown1 hgrow1
  go_loopw [4] (fun i wr => ∃ k : Nat, k ≤ zs.length ∧ i = .int .i64 k ∧ Hid (OwnU wr w.heap.size (.slice (some ⟨w.heap.size, 0, none⟩) nb nb) (packAt zs k)) ∧ Below w.heap.size w wr) (fun i _ => zs.length - (intOf i).toNat)
  case atStart => exact ⟨0, Nat.zero_le _, rfl, HO1.out, hB1⟩
  case round =>
    obtain ⟨k, hk, rfl, HW, hbel⟩ := hrel
    have hlen : (packAt zs k).length = nb := by rw [packAt_length, hnb.out]
    by_cases hlt : k < zs.length
    · have hk8 : k / 8 < (packAt zs k).length := by rw [hlen]; have := hnb.out; omega
      obtain ⟨g, hpg, _, hgl, hq, hf⟩ := HW.out.cell (k / 8) hk8
      cases hpg
      obtain ⟨ga, rfl, la, qa⟩ := HR.out k hlt
      have qa' := (hbel.cell (p := ⟨ga, k, none⟩) la).trans qa
      clear qa
      have HST : Hid _ := packAt_step zs k hlt
      have HNX : Hid _ := byteOf_next zs k hlt
      have HSA : Hid _ := packAt_same zs k hlt
      rw [packAt_get] at hq
      generalize hzk : zs[k] = z at qa' HNX HSA
      generalize hold : byteOf (zs.take k) (k / 8) = old at hq HNX
      have hmod : (k : Int).tmod 8 = ((k % 8 : Nat) : Int) := by rw [Int.tmod_eq_emod_of_nonneg (by omega)]; omega
      have hdiv : (k : Int).tdiv 8 = ((k / 8 : Nat) : Int) := by rw [Int.tdiv_eq_ediv_of_nonneg (by omega)]; omega
      have hkn : k / 8 < nb := by rw [hlen] at hk8; exact hk8
      by_cases h1 : z = 1
      · have e1 : (z == 1) = true := by simp [h1]
        rw [if_pos h1] at HNX
        have qn : (wr.alloc (.cells #[.int .u8 1, .int .u8 2, .int .u8 4, .int .u8 8, .int .u8 16, .int .u8 32, .int .u8 64, .int .u8 128] 5)).cell? ⟨wr.heap.size, k % 8, none⟩ = some (.int .u8 ((2 ^ (k % 8) : Nat) : Int)) := by
          simp only [World.cell?, heap_alloc_new]
          exact pow_cell _ (by omega)
        have h9 := fun m => HW.out.set (k / 8) hk8 m
        have hk9 : k % 8 < 8 := by omega
        clear h1 HSA
        go_wp2
        go_region
        go_wp2
        go_roundw
        case rel => exact ⟨k + 1, by omega, by go_num, (show OwnU _ _ _ _ by have e := or_in1 (show k % 8 < 8 by omega) HNX.out.2; rw [← HNX.out.1] at e; rw [← HST.out _ e]; exact (h9 _).below ((Below.refl _ _).alloc (Nat.le_refl _) _).drew), ((hbel.setCell (Nat.le_refl _) _).alloc (by show w.heap.size ≤ (wr.setCell _ _).heap.size; rw [size_set]; omega) _).drew⟩
        case measure => simp [intOf]; omega
      · have e1 : (z == 1) = false := by simp [h1]
        have HSB : Hid _ := HSA.out h1
        clear h1 HSA HNX
        go_wp2
        go_roundw
        case rel => exact ⟨k + 1, by omega, by go_num, (show OwnU _ _ _ _ by rw [HSB.out]; exact HW.out), hbel⟩
        case measure => simp [intOf]; omega
    · obtain rfl : k = zs.length := by omega
      have HC : Hid ((convert 60 9 (.slice (some ⟨w.heap.size, 0, none⟩) nb nb)).run Tryd.prog wr = .ok (.string (packB zs)) wr) := by
        have := HW.out
        rw [packAt_all] at this
        exact this.text
      have hc := HC.out
      go_wp2
      go_ret
      exact ⟨rfl, hbel⟩
end Go.Proofs.YtfpibedloodjlabDoor
