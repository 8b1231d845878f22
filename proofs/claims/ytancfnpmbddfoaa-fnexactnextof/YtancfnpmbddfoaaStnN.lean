/- WHO IS NEXT: the program's and the model's. Written by mkstnn.py. -/
import Derived.Test.YtancfnpmbddfoaaStnL
import Derived.Test.YtancfnpmbddfoaaStnU
import Derived.Test.YtancfnpmbddfoaaLoadS
namespace Go.Proofs.Ytancfnpmbddfoaa
open Go.RowKit
set_option linter.unusedVariables false
set_option linter.unusedSimpArgs false

def nextK (ad : Int) (kn : List Int) : Int := match kn.find? (fun a => decide (ad < a)) with | some a => a | none => kn.headD 0
def Stn.next (s : Stn) : Int := if s.right then nextK s.ad s.kn else 0
def noneAbove (ad : Int) (kn : List Int) : Bool := kn.all fun a => !decide (ad < a)
theorem next_none {ad : Int} {kn : List Int} (h : noneAbove ad kn = true) : nextK ad kn = kn.headD 0 := by
  unfold nextK
  rw [List.find?_eq_none.2]
  intro x hx
  unfold noneAbove at h
  rw [List.all_eq_true] at h
  simpa using h x hx
theorem next_hit {ad : Int} {kn : List Int} {k : Nat} (hk : k < kn.length) (h : noneAbove ad (kn.take k) = true) (hh : ad < kn[k]) : nextK ad kn = kn[k] := by
  unfold nextK
  have e : kn.find? (fun a => decide (ad < a)) = some kn[k] := by
    have h1 : kn.find? (fun a => decide (ad < a)) = (kn.take k ++ kn.drop k).find? (fun a => decide (ad < a)) := by rw [List.take_append_drop]
    rw [h1, List.find?_append, List.find?_eq_none.2]
    · rw [List.drop_eq_getElem_cons hk, List.find?_cons_of_pos (by simpa using hh)]
      simp
    · intro x hx
      unfold noneAbove at h
      rw [List.all_eq_true] at h
      simpa using h x hx
  rw [e]
theorem none_more {ad : Int} {kn : List Int} {k : Nat} (hk : k < kn.length) (h : noneAbove ad (kn.take k) = true) (hh : ¬ ad < kn[k]) : noneAbove ad (kn.take (k + 1)) = true := by
  unfold noneAbove at h ⊢
  rw [List.take_succ_eq_append_getElem hk, List.all_append, h]
  simpa using hh
theorem head_at {kn : List Int} (h : 0 < kn.length) : kn.headD 0 = kn[0] := by
  cases kn with
  | nil => simp at h
  | cons a l => rfl
set_option maxRecDepth 100000 in
set_option maxHeartbeats 3200000 in
theorem nextOf_any (s : Stn) (v1 v2 v3 v4 : Value) (w : World) (hl1 : s.kn.length ≤ 1048576) (hl2 : s.ws.length ≤ 1048576) (hl : s.gs.length ≤ 1048576) (hlw : ∀ g ∈ s.gs, g.2.length ≤ 1048576) (hl4 : s.os.length ≤ 1048576) (hz : ∀ b ∈ s.os, b.size ≤ 9223372036854775807)
    (r1 : RowI w v1 s.kn) (r2 : RowI w v2 s.ws) (r3 : RowG w v3 s.gs) (r4 : RowS w v4 s.os) :
    Calls Try.prog 20 #[.agg #[.int .i64 s.ad, .int .i64 s.bo, .int .i64 s.st, .int .i64 s.s.g, .int .i64 s.s.o, .int .i64 s.s.b, .int .i64 s.s.h, .int .i64 s.t.g, .int .i64 s.t.o, .int .i64 s.t.b, .int .i64 s.t.h, .int .i64 s.qu, .int .i64 s.tr, .int .i64 s.he, .int .i64 s.po, v1, v2, v3, v4]] w fun e w' => e = .returned (.int .i64 s.next) ∧ Below w.heap.size w w' := by
  have HC : Hid (∀ W, Below w.heap.size w W → Calls Try.prog 12 #[.agg #[.int .i64 s.ad, .int .i64 s.bo, .int .i64 s.st, .int .i64 s.s.g, .int .i64 s.s.o, .int .i64 s.s.b, .int .i64 s.s.h, .int .i64 s.t.g, .int .i64 s.t.o, .int .i64 s.t.b, .int .i64 s.t.h, .int .i64 s.qu, .int .i64 s.tr, .int .i64 s.he, .int .i64 s.po, v1, v2, v3, v4]] W fun e w' => e = .returned (.bool s.right) ∧ Below W.heap.size W w') := fun W hW => stationRight_any s v1 v2 v3 v4 W hl1 hl2 hl hlw hl4 hz (r1.below hW) (r2.below hW) (r3.below hW) (r4.below hW)
  have HK : Hid (∀ W, Below w.heap.size w W → RowI W v1 s.kn) := fun W hW => r1.below hW
  obtain ⟨p, c, rfl, _⟩ := r1
  clear r2 r3 r4 hl2 hl hlw hl4 hz
  have hA : Below w.heap.size w _ := all_alloc w (.cells #[.int .i64 s.ad, .int .i64 s.bo, .int .i64 s.st, .int .i64 s.s.g, .int .i64 s.s.o, .int .i64 s.s.b, .int .i64 s.s.h, .int .i64 s.t.g, .int .i64 s.t.o, .int .i64 s.t.b, .int .i64 s.t.h, .int .i64 s.qu, .int .i64 s.tr, .int .i64 s.he, .int .i64 s.po, .slice p s.kn.length c, v2, v3, v4] 34)
  have hX : Hid _ := heap_alloc_new w (.cells #[.int .i64 s.ad, .int .i64 s.bo, .int .i64 s.st, .int .i64 s.s.g, .int .i64 s.s.o, .int .i64 s.s.b, .int .i64 s.s.h, .int .i64 s.t.g, .int .i64 s.t.o, .int .i64 s.t.b, .int .i64 s.t.h, .int .i64 s.qu, .int .i64 s.tr, .int .i64 s.he, .int .i64 s.po, .slice p s.kn.length c, v2, v3, v4] 34)
  unfold Stn.next
  cases hR : s.right with
  | false =>
    rw [hR] at HC
    simp only [Bool.false_eq_true, if_false]
    go_enter Try.func20, Try.ntmps20
    go_upto_region 1 with fail
    generalize w.alloc (.cells #[.int .i64 s.ad, .int .i64 s.bo, .int .i64 s.st, .int .i64 s.s.g, .int .i64 s.s.o, .int .i64 s.s.b, .int .i64 s.s.h, .int .i64 s.t.g, .int .i64 s.t.o, .int .i64 s.t.b, .int .i64 s.t.h, .int .i64 s.qu, .int .i64 s.tr, .int .i64 s.he, .int .i64 s.po, .slice p s.kn.length c, v2, v3, v4] 34) = A at hA hX ⊢
    go_wp2_with (first
      | (refine wpList_load_rowG (by rfl) 34 (.tmp 1) rfl w.heap.size rfl _ _ _ _ hX.out Try.underlying34 rfl (by kernel_rfl) ?_)
      | (go_at_call 12; refine (HC.out _ hA).mono ?_; rintro e w1 ⟨rfl, hb1⟩))
    go_ret
    exact ⟨rfl, keepB hA (Nat.le_refl _) hb1⟩
  | true =>
    rw [hR] at HC
    clear hR
    simp only [if_true]
    obtain ⟨V, hV⟩ : ∃ V, Hid (nextK s.ad s.kn = V) := ⟨_, show _ = _ from rfl⟩
    rw [hV.out]
    by_cases h0 : s.kn.length = 0
    · have e0 : ((s.kn.length : Int) == 0) = true := by simpa using h0
      have hV0 : V = 0 := by rw [← hV.out, List.eq_nil_of_length_eq_zero h0]; rfl
      subst hV0
      clear HK hV hl1
      generalize s.kn.length = n at h0 e0 HC hA hX ⊢
      subst h0
      go_enter Try.func20, Try.ntmps20
      go_upto_region 1 with fail
      generalize w.alloc (.cells #[.int .i64 s.ad, .int .i64 s.bo, .int .i64 s.st, .int .i64 s.s.g, .int .i64 s.s.o, .int .i64 s.s.b, .int .i64 s.s.h, .int .i64 s.t.g, .int .i64 s.t.o, .int .i64 s.t.b, .int .i64 s.t.h, .int .i64 s.qu, .int .i64 s.tr, .int .i64 s.he, .int .i64 s.po, .slice p 0 c, v2, v3, v4] 34) = A at hA hX ⊢
      go_wp2_with (first
        | (refine wpList_load_rowG (by rfl) 34 (.tmp 1) rfl w.heap.size rfl _ _ _ _ hX.out Try.underlying34 rfl (by kernel_rfl) ?_)
        | (go_at_call 12; refine (HC.out _ hA).mono ?_; rintro e w1 ⟨rfl, hb1⟩; have c15 := cellW hX.out 15 _ rfl w1 hb1))
      go_ret
      exact ⟨rfl, keepB hA (Nat.le_refl _) hb1⟩
    · have e0 : ((s.kn.length : Int) == 0) = false := by simpa using h0
      have hpos : 0 < s.kn.length := by omega
      go_enter Try.func20, Try.ntmps20
      go_upto_region 1 with fail
      generalize w.alloc (.cells #[.int .i64 s.ad, .int .i64 s.bo, .int .i64 s.st, .int .i64 s.s.g, .int .i64 s.s.o, .int .i64 s.s.b, .int .i64 s.s.h, .int .i64 s.t.g, .int .i64 s.t.o, .int .i64 s.t.b, .int .i64 s.t.h, .int .i64 s.qu, .int .i64 s.tr, .int .i64 s.he, .int .i64 s.po, .slice p s.kn.length c, v2, v3, v4] 34) = A at hA hX ⊢
      go_upto_region 3 with (first
        | (refine wpList_load_rowG (by rfl) 34 (.tmp 1) rfl w.heap.size rfl _ _ _ _ hX.out Try.underlying34 rfl (by kernel_rfl) ?_)
        | (go_at_call 12; refine (HC.out _ hA).mono ?_; rintro e w1 ⟨rfl, hb1⟩; have c15 := cellW hX.out 15 _ rfl w1 hb1; have c0 := cellW hX.out 0 _ rfl w1 hb1))
      have hW1 := keepB hA (Nat.le_refl _) hb1
      obtain ⟨p', c', e', hrow⟩ := HK.out w1 hW1
      cases e'
      have HR : Hid (∀ k (h : k < s.kn.length), ∃ g, p = some ⟨g, 0, none⟩ ∧ g < w1.heap.size ∧ w1.cell? ⟨g, k, none⟩ = some (.int .i64 s.kn[k])) := hrow
      clear hrow
      go_wp2
      go_loop [17] (fun i => ∃ k : Nat, k ≤ s.kn.length ∧ i = .int .i64 k ∧ Hid (noneAbove s.ad (s.kn.take k) = true)) (fun i => s.kn.length - (intOf i).toNat)
      case atStart => exact ⟨0, Nat.zero_le _, rfl, rfl⟩
      case round =>
        obtain ⟨k, hk, rfl, HN⟩ := hrel
        by_cases hlt : k < s.kn.length
        · obtain ⟨g, rfl, l1, q1⟩ := HR.out k hlt
          have HH : Hid (s.ad < s.kn[k] → V = s.kn[k]) := fun h => by rw [← hV.out]; exact next_hit hlt HN.out h
          have HM : Hid (¬ s.ad < s.kn[k] → noneAbove s.ad (s.kn.take (k + 1)) = true) := fun h => none_more hlt HN.out h
          generalize s.kn[k] = z at q1 HH HM
          by_cases hz : s.ad < z
          · go_wp2
            go_ret
            exact ⟨by rw [HH.out hz]; rfl, hW1⟩
          · go_wp2
            go_round
            case rel => exact ⟨k + 1, by omega, by go_num, HM.out (by omega)⟩
            case measure => simp [intOf]; omega
        · obtain ⟨g, rfl, l1, q1⟩ := HR.out 0 hpos
          have hV2 : V = s.kn[0] := by
            have h1 := HN.out
            rw [List.take_of_length_le (by omega)] at h1
            rw [← hV.out, next_none h1, head_at hpos]
          generalize s.kn[0] = z at q1 hV2
          subst hV2
          have b1 : (0 : Int) < (s.kn.length : Int) := by omega
          go_wp2
          go_ret
          exact ⟨rfl, hW1⟩
set_option maxRecDepth 100000 in
set_option maxHeartbeats 3200000 in
theorem l06Next_any (s : Stn) (v1 v2 v3 v4 : Value) (w : World) (hl1 : s.kn.length ≤ 1048576) (r1 : RowI w v1 s.kn) :
    Calls Try.prog 62 #[.agg #[.int .i64 s.ad, .int .i64 s.bo, .int .i64 s.st, .int .i64 s.s.g, .int .i64 s.s.o, .int .i64 s.s.b, .int .i64 s.s.h, .int .i64 s.t.g, .int .i64 s.t.o, .int .i64 s.t.b, .int .i64 s.t.h, .int .i64 s.qu, .int .i64 s.tr, .int .i64 s.he, .int .i64 s.po, v1, v2, v3, v4]] w fun e w' => e = .returned (.int .i64 (nextK s.ad s.kn)) ∧ Below w.heap.size w w' := by
  have HK : Hid (∀ W, Below w.heap.size w W → 0 < s.kn.length → ∃ g c, v1 = .slice (some ⟨g, 0, none⟩) s.kn.length c ∧ ∀ j (hj : j < s.kn.length), ∀ W', Below W.heap.size W W' → W'.cell? ⟨g, j, none⟩ = some (.int .i64 s.kn[j])) := fun W hW hn => rowI_at (r1.below hW) hn
  obtain ⟨p, c, rfl, _⟩ := r1
  have hA : Below w.heap.size w _ := all_alloc w (.cells #[.int .i64 s.ad, .int .i64 s.bo, .int .i64 s.st, .int .i64 s.s.g, .int .i64 s.s.o, .int .i64 s.s.b, .int .i64 s.s.h, .int .i64 s.t.g, .int .i64 s.t.o, .int .i64 s.t.b, .int .i64 s.t.h, .int .i64 s.qu, .int .i64 s.tr, .int .i64 s.he, .int .i64 s.po, .slice p s.kn.length c, v2, v3, v4] 34)
  have hX : Hid _ := heap_alloc_new w (.cells #[.int .i64 s.ad, .int .i64 s.bo, .int .i64 s.st, .int .i64 s.s.g, .int .i64 s.s.o, .int .i64 s.s.b, .int .i64 s.s.h, .int .i64 s.t.g, .int .i64 s.t.o, .int .i64 s.t.b, .int .i64 s.t.h, .int .i64 s.qu, .int .i64 s.tr, .int .i64 s.he, .int .i64 s.po, .slice p s.kn.length c, v2, v3, v4] 34)
  obtain ⟨V, hV⟩ : ∃ V, Hid (nextK s.ad s.kn = V) := ⟨_, show _ = _ from rfl⟩
  rw [hV.out]
  go_enter Try.func62, Try.ntmps62
  go_upto_region 1 with fail
  generalize w.alloc (.cells #[.int .i64 s.ad, .int .i64 s.bo, .int .i64 s.st, .int .i64 s.s.g, .int .i64 s.s.o, .int .i64 s.s.b, .int .i64 s.s.h, .int .i64 s.t.g, .int .i64 s.t.o, .int .i64 s.t.b, .int .i64 s.t.h, .int .i64 s.qu, .int .i64 s.tr, .int .i64 s.he, .int .i64 s.po, .slice p s.kn.length c, v2, v3, v4] 34) = A at hA hX ⊢
  have x0 : Hid _ := cellW hX.out 0 _ rfl
  have x15 : Hid _ := cellW hX.out 15 _ rfl
  go_upto_region 2 with fail
  go_loopw [3] (fun i wr => ∃ k : Nat, k ≤ s.kn.length ∧ i = .int .i64 k ∧ Hid (noneAbove s.ad (s.kn.take k) = true) ∧ Below A.heap.size A wr) (fun i _ => s.kn.length - (intOf i).toNat)
  case atStart => exact ⟨0, Nat.zero_le _, rfl, rfl, Below.refl _ _⟩
  case round =>
    obtain ⟨k, hk, rfl, HN, hbel⟩ := hrel
    have c15 := x15.out wr hbel
    have hWr := keepB hA (Nat.le_refl _) hbel
    by_cases hlt : k < s.kn.length
    · obtain ⟨g, c', e', hcell⟩ := HK.out wr hWr (by omega)
      cases e'
      have q1 := hcell k hlt
      clear hcell
      have d0 : ∀ W', Below wr.heap.size wr W' → W'.cell? ⟨w.heap.size, 0, none⟩ = some (.int .i64 s.ad) := fun W' hW' => x0.out W' (keepB hbel (Nat.le_refl _) hW')
      have d15 : ∀ W', Below wr.heap.size wr W' → W'.cell? ⟨w.heap.size, 15, none⟩ = some (.slice (some ⟨g, 0, none⟩) s.kn.length c) := fun W' hW' => x15.out W' (keepB hbel (Nat.le_refl _) hW')
      have HH : Hid (s.ad < s.kn[k] → V = s.kn[k]) := fun h => by rw [← hV.out]; exact next_hit hlt HN.out h
      have HM : Hid (¬ s.ad < s.kn[k] → noneAbove s.ad (s.kn.take (k + 1)) = true) := fun h => none_more hlt HN.out h
      generalize s.kn[k] = z at q1 HH HM
      have hR : Below wr.heap.size wr wr.drew := Below.drew (Below.refl _ _)
      go_upto_region 4 with fail
      by_cases hz : s.ad < z
      · refine wp_region_held_drew (S := (fun w' => Below wr.heap.size wr w')) (by kernel_rfl) ?_ (fun hHeld => ?_)
        · (try dsimp only); exact hR
        first
          | (refine skipH (i := 0) rfl (by kernel_rfl) (by kernel_rfl) (by kernel_rfl) (fun _ _ _ h => h) (by rfl) (by assumption) ?_; try simp only [Act.put, List.setIfInBounds_toArray, List.set_cons_zero, List.set_cons_succ, List.getElem_toArray, List.getElem_cons_succ, List.getElem_cons_zero])
          | (refine yieldH (i := 0) (v := ?_) rfl (by kernel_rfl) (by kernel_rfl) (by kernel_rfl) (fun _ _ _ h => h) (by rfl) ?_ (by assumption) ?_; rotate_left; (intro w hSw; (try dsimp only at hSw); go_simp; (try with_reducible rfl)); try simp only [Act.put, List.setIfInBounds_toArray, List.set_cons_zero, List.set_cons_succ, List.getElem_toArray, List.getElem_cons_succ, List.getElem_cons_zero])
          | fail
        first
          | (refine skipH (i := 1) rfl (by kernel_rfl) (by kernel_rfl) (by kernel_rfl) (fun _ _ _ h => h) (by rfl) (by assumption) ?_; try simp only [Act.put, List.setIfInBounds_toArray, List.set_cons_zero, List.set_cons_succ, List.getElem_toArray, List.getElem_cons_succ, List.getElem_cons_zero])
          | (refine yieldH (i := 1) (v := ?_) rfl (by kernel_rfl) (by kernel_rfl) (by kernel_rfl) (fun _ _ _ h => h) (by rfl) ?_ (by assumption) ?_; rotate_left; (intro w hSw; (try dsimp only at hSw); go_simp; (try with_reducible rfl)); try simp only [Act.put, List.setIfInBounds_toArray, List.set_cons_zero, List.set_cons_succ, List.getElem_toArray, List.getElem_cons_succ, List.getElem_cons_zero])
          | fail
        first
          | (refine skipH (i := 2) rfl (by kernel_rfl) (by kernel_rfl) (by kernel_rfl) (fun _ _ _ h => h) (by rfl) (by assumption) ?_; try simp only [Act.put, List.setIfInBounds_toArray, List.set_cons_zero, List.set_cons_succ, List.getElem_toArray, List.getElem_cons_succ, List.getElem_cons_zero])
          | (refine yieldH (i := 2) (v := ?_) rfl (by kernel_rfl) (by kernel_rfl) (by kernel_rfl) (fun _ _ _ h => h) (by rfl) ?_ (by assumption) ?_; rotate_left; (intro w hSw; (try dsimp only at hSw); go_simp; (try with_reducible rfl)); try simp only [Act.put, List.setIfInBounds_toArray, List.set_cons_zero, List.set_cons_succ, List.getElem_toArray, List.getElem_cons_succ, List.getElem_cons_zero])
          | fail
        first
          | (refine skipH (i := 3) rfl (by kernel_rfl) (by kernel_rfl) (by kernel_rfl) (fun _ _ _ h => h) (by rfl) (by assumption) ?_; try simp only [Act.put, List.setIfInBounds_toArray, List.set_cons_zero, List.set_cons_succ, List.getElem_toArray, List.getElem_cons_succ, List.getElem_cons_zero])
          | (refine yieldH (i := 3) (v := ?_) rfl (by kernel_rfl) (by kernel_rfl) (by kernel_rfl) (fun _ _ _ h => h) (by rfl) ?_ (by assumption) ?_; rotate_left; (intro w hSw; (try dsimp only at hSw); go_simp; (try with_reducible rfl)); try simp only [Act.put, List.setIfInBounds_toArray, List.set_cons_zero, List.set_cons_succ, List.getElem_toArray, List.getElem_cons_succ, List.getElem_cons_zero])
          | fail
        first
          | (refine skipH (i := 4) rfl (by kernel_rfl) (by kernel_rfl) (by kernel_rfl) (fun _ _ _ h => h) (by rfl) (by assumption) ?_; try simp only [Act.put, List.setIfInBounds_toArray, List.set_cons_zero, List.set_cons_succ, List.getElem_toArray, List.getElem_cons_succ, List.getElem_cons_zero])
          | (refine yieldH (i := 4) (v := ?_) rfl (by kernel_rfl) (by kernel_rfl) (by kernel_rfl) (fun _ _ _ h => h) (by rfl) ?_ (by assumption) ?_; rotate_left; (intro w hSw; (try dsimp only at hSw); go_simp; (try with_reducible rfl)); try simp only [Act.put, List.setIfInBounds_toArray, List.set_cons_zero, List.set_cons_succ, List.getElem_toArray, List.getElem_cons_succ, List.getElem_cons_zero])
          | fail
        first
          | (refine skipH (i := 5) rfl (by kernel_rfl) (by kernel_rfl) (by kernel_rfl) (fun _ _ _ h => h) (by rfl) (by assumption) ?_; try simp only [Act.put, List.setIfInBounds_toArray, List.set_cons_zero, List.set_cons_succ, List.getElem_toArray, List.getElem_cons_succ, List.getElem_cons_zero])
          | (refine yieldH (i := 5) (v := ?_) rfl (by kernel_rfl) (by kernel_rfl) (by kernel_rfl) (fun _ _ _ h => h) (by rfl) ?_ (by assumption) ?_; rotate_left; (intro w hSw; (try dsimp only at hSw); go_simp; (try with_reducible rfl)); try simp only [Act.put, List.setIfInBounds_toArray, List.set_cons_zero, List.set_cons_succ, List.getElem_toArray, List.getElem_cons_succ, List.getElem_cons_zero])
          | fail
        first
          | (refine skipH (i := 6) rfl (by kernel_rfl) (by kernel_rfl) (by kernel_rfl) (fun _ _ _ h => h) (by rfl) (by assumption) ?_; try simp only [Act.put, List.setIfInBounds_toArray, List.set_cons_zero, List.set_cons_succ, List.getElem_toArray, List.getElem_cons_succ, List.getElem_cons_zero])
          | (refine yieldH (i := 6) (v := ?_) rfl (by kernel_rfl) (by kernel_rfl) (by kernel_rfl) (fun _ _ _ h => h) (by rfl) ?_ (by assumption) ?_; rotate_left; (intro w hSw; (try dsimp only at hSw); go_simp; (try with_reducible rfl)); try simp only [Act.put, List.setIfInBounds_toArray, List.set_cons_zero, List.set_cons_succ, List.getElem_toArray, List.getElem_cons_succ, List.getElem_cons_zero])
          | fail
        first
          | (refine skipH (i := 7) rfl (by kernel_rfl) (by kernel_rfl) (by kernel_rfl) (fun _ _ _ h => h) (by rfl) (by assumption) ?_; try simp only [Act.put, List.setIfInBounds_toArray, List.set_cons_zero, List.set_cons_succ, List.getElem_toArray, List.getElem_cons_succ, List.getElem_cons_zero])
          | (refine yieldH (i := 7) (v := ?_) rfl (by kernel_rfl) (by kernel_rfl) (by kernel_rfl) (fun _ _ _ h => h) (by rfl) ?_ (by assumption) ?_; rotate_left; (intro w hSw; (try dsimp only at hSw); go_simp; (try with_reducible rfl)); try simp only [Act.put, List.setIfInBounds_toArray, List.set_cons_zero, List.set_cons_succ, List.getElem_toArray, List.getElem_cons_succ, List.getElem_cons_zero])
          | fail
        refine wpAnyH_done (by kernel_rfl) ?_ _
        have k15 := d15 wr.drew hR
        have kz := q1 wr.drew hR
        go_wp2
        go_ret
        exact ⟨by rw [HH.out hz]; rfl, keepB hWr (Nat.le_refl _) hR⟩
      · refine wp_region_held_drew (S := (fun w' => Below wr.heap.size wr w')) (by kernel_rfl) ?_ (fun hHeld => ?_)
        · (try dsimp only); exact hR
        first
          | (refine skipH (i := 0) rfl (by kernel_rfl) (by kernel_rfl) (by kernel_rfl) (fun _ _ _ h => h) (by rfl) (by assumption) ?_; try simp only [Act.put, List.setIfInBounds_toArray, List.set_cons_zero, List.set_cons_succ, List.getElem_toArray, List.getElem_cons_succ, List.getElem_cons_zero])
          | (refine yieldH (i := 0) (v := ?_) rfl (by kernel_rfl) (by kernel_rfl) (by kernel_rfl) (fun _ _ _ h => h) (by rfl) ?_ (by assumption) ?_; rotate_left; (intro w hSw; (try dsimp only at hSw); go_simp; (try with_reducible rfl)); try simp only [Act.put, List.setIfInBounds_toArray, List.set_cons_zero, List.set_cons_succ, List.getElem_toArray, List.getElem_cons_succ, List.getElem_cons_zero])
          | fail
        first
          | (refine skipH (i := 1) rfl (by kernel_rfl) (by kernel_rfl) (by kernel_rfl) (fun _ _ _ h => h) (by rfl) (by assumption) ?_; try simp only [Act.put, List.setIfInBounds_toArray, List.set_cons_zero, List.set_cons_succ, List.getElem_toArray, List.getElem_cons_succ, List.getElem_cons_zero])
          | (refine yieldH (i := 1) (v := ?_) rfl (by kernel_rfl) (by kernel_rfl) (by kernel_rfl) (fun _ _ _ h => h) (by rfl) ?_ (by assumption) ?_; rotate_left; (intro w hSw; (try dsimp only at hSw); go_simp; (try with_reducible rfl)); try simp only [Act.put, List.setIfInBounds_toArray, List.set_cons_zero, List.set_cons_succ, List.getElem_toArray, List.getElem_cons_succ, List.getElem_cons_zero])
          | fail
        first
          | (refine skipH (i := 2) rfl (by kernel_rfl) (by kernel_rfl) (by kernel_rfl) (fun _ _ _ h => h) (by rfl) (by assumption) ?_; try simp only [Act.put, List.setIfInBounds_toArray, List.set_cons_zero, List.set_cons_succ, List.getElem_toArray, List.getElem_cons_succ, List.getElem_cons_zero])
          | (refine yieldH (i := 2) (v := ?_) rfl (by kernel_rfl) (by kernel_rfl) (by kernel_rfl) (fun _ _ _ h => h) (by rfl) ?_ (by assumption) ?_; rotate_left; (intro w hSw; (try dsimp only at hSw); go_simp; (try with_reducible rfl)); try simp only [Act.put, List.setIfInBounds_toArray, List.set_cons_zero, List.set_cons_succ, List.getElem_toArray, List.getElem_cons_succ, List.getElem_cons_zero])
          | fail
        first
          | (refine skipH (i := 3) rfl (by kernel_rfl) (by kernel_rfl) (by kernel_rfl) (fun _ _ _ h => h) (by rfl) (by assumption) ?_; try simp only [Act.put, List.setIfInBounds_toArray, List.set_cons_zero, List.set_cons_succ, List.getElem_toArray, List.getElem_cons_succ, List.getElem_cons_zero])
          | (refine yieldH (i := 3) (v := ?_) rfl (by kernel_rfl) (by kernel_rfl) (by kernel_rfl) (fun _ _ _ h => h) (by rfl) ?_ (by assumption) ?_; rotate_left; (intro w hSw; (try dsimp only at hSw); go_simp; (try with_reducible rfl)); try simp only [Act.put, List.setIfInBounds_toArray, List.set_cons_zero, List.set_cons_succ, List.getElem_toArray, List.getElem_cons_succ, List.getElem_cons_zero])
          | fail
        first
          | (refine skipH (i := 4) rfl (by kernel_rfl) (by kernel_rfl) (by kernel_rfl) (fun _ _ _ h => h) (by rfl) (by assumption) ?_; try simp only [Act.put, List.setIfInBounds_toArray, List.set_cons_zero, List.set_cons_succ, List.getElem_toArray, List.getElem_cons_succ, List.getElem_cons_zero])
          | (refine yieldH (i := 4) (v := ?_) rfl (by kernel_rfl) (by kernel_rfl) (by kernel_rfl) (fun _ _ _ h => h) (by rfl) ?_ (by assumption) ?_; rotate_left; (intro w hSw; (try dsimp only at hSw); go_simp; (try with_reducible rfl)); try simp only [Act.put, List.setIfInBounds_toArray, List.set_cons_zero, List.set_cons_succ, List.getElem_toArray, List.getElem_cons_succ, List.getElem_cons_zero])
          | fail
        first
          | (refine skipH (i := 5) rfl (by kernel_rfl) (by kernel_rfl) (by kernel_rfl) (fun _ _ _ h => h) (by rfl) (by assumption) ?_; try simp only [Act.put, List.setIfInBounds_toArray, List.set_cons_zero, List.set_cons_succ, List.getElem_toArray, List.getElem_cons_succ, List.getElem_cons_zero])
          | (refine yieldH (i := 5) (v := ?_) rfl (by kernel_rfl) (by kernel_rfl) (by kernel_rfl) (fun _ _ _ h => h) (by rfl) ?_ (by assumption) ?_; rotate_left; (intro w hSw; (try dsimp only at hSw); go_simp; (try with_reducible rfl)); try simp only [Act.put, List.setIfInBounds_toArray, List.set_cons_zero, List.set_cons_succ, List.getElem_toArray, List.getElem_cons_succ, List.getElem_cons_zero])
          | fail
        first
          | (refine skipH (i := 6) rfl (by kernel_rfl) (by kernel_rfl) (by kernel_rfl) (fun _ _ _ h => h) (by rfl) (by assumption) ?_; try simp only [Act.put, List.setIfInBounds_toArray, List.set_cons_zero, List.set_cons_succ, List.getElem_toArray, List.getElem_cons_succ, List.getElem_cons_zero])
          | (refine yieldH (i := 6) (v := ?_) rfl (by kernel_rfl) (by kernel_rfl) (by kernel_rfl) (fun _ _ _ h => h) (by rfl) ?_ (by assumption) ?_; rotate_left; (intro w hSw; (try dsimp only at hSw); go_simp; (try with_reducible rfl)); try simp only [Act.put, List.setIfInBounds_toArray, List.set_cons_zero, List.set_cons_succ, List.getElem_toArray, List.getElem_cons_succ, List.getElem_cons_zero])
          | fail
        first
          | (refine skipH (i := 7) rfl (by kernel_rfl) (by kernel_rfl) (by kernel_rfl) (fun _ _ _ h => h) (by rfl) (by assumption) ?_; try simp only [Act.put, List.setIfInBounds_toArray, List.set_cons_zero, List.set_cons_succ, List.getElem_toArray, List.getElem_cons_succ, List.getElem_cons_zero])
          | (refine yieldH (i := 7) (v := ?_) rfl (by kernel_rfl) (by kernel_rfl) (by kernel_rfl) (fun _ _ _ h => h) (by rfl) ?_ (by assumption) ?_; rotate_left; (intro w hSw; (try dsimp only at hSw); go_simp; (try with_reducible rfl)); try simp only [Act.put, List.setIfInBounds_toArray, List.set_cons_zero, List.set_cons_succ, List.getElem_toArray, List.getElem_cons_succ, List.getElem_cons_zero])
          | fail
        refine wpAnyH_done (by kernel_rfl) ?_ _
        go_wp2
        go_roundw
        case rel => exact ⟨k + 1, by omega, by go_num, HM.out (by omega), keepB hbel (Nat.le_refl _) hR⟩
        case measure => simp [intOf]; omega
    · have h1 := HN.out
      rw [List.take_of_length_le (by omega)] at h1
      by_cases hpos : 0 < s.kn.length
      · obtain ⟨g, c', e', hcell⟩ := HK.out wr hWr hpos
        cases e'
        have q1 := hcell 0 hpos wr (Below.refl _ _)
        clear hcell
        have hV2 : V = s.kn[0] := by rw [← hV.out, next_none h1, head_at hpos]
        generalize s.kn[0] = z at q1 hV2
        subst hV2
        have b1 : (0 : Int) < (s.kn.length : Int) := by omega
        clear h1
        go_wp2
        go_ret
        exact ⟨rfl, hWr⟩
      · have hV2 : V = 0 := by rw [← hV.out, next_none h1, List.eq_nil_of_length_eq_zero (show s.kn.length = 0 by omega)]; rfl
        subst hV2
        have b1 : ¬ (0 : Int) < (s.kn.length : Int) := by omega
        clear h1
        go_wp2
        go_ret
        exact ⟨rfl, hWr⟩
set_option maxRecDepth 100000 in
set_option maxHeartbeats 3200000 in
theorem specNextOf_any (s : Stn) (v1 v2 v3 v4 : Value) (w : World) (hl1 : s.kn.length ≤ 1048576) (hl2 : s.ws.length ≤ 1048576) (hl : s.gs.length ≤ 1048576) (hlw : ∀ g ∈ s.gs, g.2.length ≤ 1048576) (hl4 : s.os.length ≤ 1048576) (hz : ∀ b ∈ s.os, b.size ≤ 9223372036854775807)
    (r1 : RowI w v1 s.kn) (r2 : RowI w v2 s.ws) (r3 : RowG w v3 s.gs) (r4 : RowS w v4 s.os) :
    Calls Try.prog 19 #[.agg #[.int .i64 s.ad, .int .i64 s.bo, .int .i64 s.st, .int .i64 s.s.g, .int .i64 s.s.o, .int .i64 s.s.b, .int .i64 s.s.h, .int .i64 s.t.g, .int .i64 s.t.o, .int .i64 s.t.b, .int .i64 s.t.h, .int .i64 s.qu, .int .i64 s.tr, .int .i64 s.he, .int .i64 s.po, v1, v2, v3, v4]] w fun e w' => e = .returned (.int .i64 s.next) ∧ Below w.heap.size w w' := by
  have HC : Hid (∀ W, Below w.heap.size w W → Calls Try.prog 10 #[.agg #[.int .i64 s.ad, .int .i64 s.bo, .int .i64 s.st, .int .i64 s.s.g, .int .i64 s.s.o, .int .i64 s.s.b, .int .i64 s.s.h, .int .i64 s.t.g, .int .i64 s.t.o, .int .i64 s.t.b, .int .i64 s.t.h, .int .i64 s.qu, .int .i64 s.tr, .int .i64 s.he, .int .i64 s.po, v1, v2, v3, v4]] W fun e w' => e = .returned (.bool s.right) ∧ Below W.heap.size W w') := fun W hW => specStationRight_any s v1 v2 v3 v4 W hl1 hl2 hl hlw hl4 hz (r1.below hW) (r2.below hW) (r3.below hW) (r4.below hW)
  have HN : Hid (∀ W, Below w.heap.size w W → Calls Try.prog 62 #[.agg #[.int .i64 s.ad, .int .i64 s.bo, .int .i64 s.st, .int .i64 s.s.g, .int .i64 s.s.o, .int .i64 s.s.b, .int .i64 s.s.h, .int .i64 s.t.g, .int .i64 s.t.o, .int .i64 s.t.b, .int .i64 s.t.h, .int .i64 s.qu, .int .i64 s.tr, .int .i64 s.he, .int .i64 s.po, v1, v2, v3, v4]] W fun e w' => e = .returned (.int .i64 (nextK s.ad s.kn)) ∧ Below W.heap.size W w') := fun W hW => l06Next_any s v1 v2 v3 v4 W hl1 (r1.below hW)
  clear r1 r2 r3 r4 hl1 hl2 hl hlw hl4 hz
  have hA : Below w.heap.size w _ := all_alloc w (.cells #[.int .i64 s.ad, .int .i64 s.bo, .int .i64 s.st, .int .i64 s.s.g, .int .i64 s.s.o, .int .i64 s.s.b, .int .i64 s.s.h, .int .i64 s.t.g, .int .i64 s.t.o, .int .i64 s.t.b, .int .i64 s.t.h, .int .i64 s.qu, .int .i64 s.tr, .int .i64 s.he, .int .i64 s.po, v1, v2, v3, v4] 34)
  have hX : Hid _ := heap_alloc_new w (.cells #[.int .i64 s.ad, .int .i64 s.bo, .int .i64 s.st, .int .i64 s.s.g, .int .i64 s.s.o, .int .i64 s.s.b, .int .i64 s.s.h, .int .i64 s.t.g, .int .i64 s.t.o, .int .i64 s.t.b, .int .i64 s.t.h, .int .i64 s.qu, .int .i64 s.tr, .int .i64 s.he, .int .i64 s.po, v1, v2, v3, v4] 34)
  unfold Stn.next
  generalize nextK s.ad s.kn = V at HN ⊢
  cases hR : s.right with
  | false =>
    rw [hR] at HC
    simp only [Bool.false_eq_true, if_false]
    go_enter Try.func19, Try.ntmps19
    go_upto_region 1 with fail
    generalize w.alloc (.cells #[.int .i64 s.ad, .int .i64 s.bo, .int .i64 s.st, .int .i64 s.s.g, .int .i64 s.s.o, .int .i64 s.s.b, .int .i64 s.s.h, .int .i64 s.t.g, .int .i64 s.t.o, .int .i64 s.t.b, .int .i64 s.t.h, .int .i64 s.qu, .int .i64 s.tr, .int .i64 s.he, .int .i64 s.po, v1, v2, v3, v4] 34) = A at hA hX ⊢
    go_wp2_with (first
      | (refine wpList_load_rowG (by rfl) 34 (.tmp 1) rfl w.heap.size rfl _ _ _ _ hX.out Try.underlying34 rfl (by kernel_rfl) ?_)
      | (go_at_call 10; refine (HC.out _ hA).mono ?_; rintro e w1 ⟨rfl, hb1⟩))
    go_ret
    exact ⟨rfl, keepB hA (Nat.le_refl _) hb1⟩
  | true =>
    rw [hR] at HC
    simp only [if_true]
    clear hR
    go_enter Try.func19, Try.ntmps19
    go_upto_region 1 with fail
    generalize w.alloc (.cells #[.int .i64 s.ad, .int .i64 s.bo, .int .i64 s.st, .int .i64 s.s.g, .int .i64 s.s.o, .int .i64 s.s.b, .int .i64 s.s.h, .int .i64 s.t.g, .int .i64 s.t.o, .int .i64 s.t.b, .int .i64 s.t.h, .int .i64 s.qu, .int .i64 s.tr, .int .i64 s.he, .int .i64 s.po, v1, v2, v3, v4] 34) = A at hA hX ⊢
    go_upto_region 3 with (first
      | (refine wpList_load_rowG (by rfl) 34 (.tmp 1) rfl w.heap.size rfl _ _ _ _ hX.out Try.underlying34 rfl (by kernel_rfl) ?_)
      | (go_at_call 10; refine (HC.out _ hA).mono ?_; rintro e w1 ⟨rfl, hb1⟩))
    have hX1 : Hid _ := blk hX.out hb1
    have hW1 := keepB hA (Nat.le_refl _) hb1
    go_wp2_with (first
      | (refine wpList_load_rowG (by rfl) 34 (.tmp 1) rfl w.heap.size rfl _ _ _ _ hX1.out Try.underlying34 rfl (by kernel_rfl) ?_)
      | (go_at_call 62; refine (HN.out _ hW1).mono ?_; rintro e w2 ⟨rfl, hb2⟩))
    go_ret
    exact ⟨rfl, keepB hW1 (Nat.le_refl _) hb2⟩
end Go.Proofs.Ytancfnpmbddfoaa
