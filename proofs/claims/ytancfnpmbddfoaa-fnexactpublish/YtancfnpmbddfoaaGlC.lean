/- WHAT ANOTHER ONE TOLD ALL: the program's and the model's. Written by mkstnc.py. -/
import Derived.Test.YtancfnpmbddfoaaStnL
import Derived.Test.YtancfnpmbddfoaaStnU
import Derived.Test.YtancfnpmbddfoaaGlB
import Derived.Test.YtancfnpmbddfoaaLoadS
import Derived.Test.YtancfnpmbddfoaaCopyI
namespace Go.Proofs.Ytancfnpmbddfoaa
open Go.RowKit
set_option linter.unusedVariables false
set_option linter.unusedSimpArgs false

def findG (a : Int) (gs : List (Int × List Int)) : List Int := match gs.find? (fun g => g.1 == a) with | some g => g.2 | none => []
def Stn.globW (s : Stn) (a : Int) : List Int := if s.right then findG a s.gs else []
def noG (a : Int) (gs : List (Int × List Int)) : Bool := gs.all fun g => !(g.1 == a)
theorem findG_none {a : Int} {gs : List (Int × List Int)} (h : noG a gs = true) : findG a gs = [] := by
  unfold findG
  rw [List.find?_eq_none.2]
  intro x hx
  unfold noG at h
  rw [List.all_eq_true] at h
  simpa using h x hx
theorem findG_hit {a : Int} {gs : List (Int × List Int)} {k : Nat} (hk : k < gs.length) (h : noG a (gs.take k) = true) (hh : gs[k].1 = a) : findG a gs = gs[k].2 := by
  unfold findG
  have e : gs.find? (fun g => g.1 == a) = some gs[k] := by
    have h1 : gs.find? (fun g => g.1 == a) = (gs.take k ++ gs.drop k).find? (fun g => g.1 == a) := by rw [List.take_append_drop]
    rw [h1, List.find?_append, List.find?_eq_none.2]
    · rw [List.drop_eq_getElem_cons hk, List.find?_cons_of_pos (by simpa using hh)]
      simp
    · intro x hx
      unfold noG at h
      rw [List.all_eq_true] at h
      simpa using h x hx
  rw [e]
theorem noG_more {a : Int} {gs : List (Int × List Int)} {k : Nat} (hk : k < gs.length) (h : noG a (gs.take k) = true) (hh : ¬ gs[k].1 = a) : noG a (gs.take (k + 1)) = true := by
  unfold noG at h ⊢
  rw [List.take_succ_eq_append_getElem hk, List.all_append, h]
  simpa using hh
theorem right_globs {s : Stn} (h : s.right = true) : globsB s.ad s.gs = true := by
  unfold Stn.right at h
  simp only [Bool.and_eq_true] at h
  exact h.2.2.2.2.2.2.2.2.2.1
theorem right_words {s : Stn} (h : s.right = true) : ∀ g ∈ s.gs, g.2.length ≤ 4 := fun g hg => by
  have := right_globs h
  unfold globsB at this
  rw [Bool.and_eq_true, List.all_eq_true] at this
  have h1 := this.1 g hg
  unfold wordsQ at h1
  rw [Bool.and_eq_true] at h1
  exact of_decide_eq_true h1.1
theorem globW_len (s : Stn) (a : Int) : (s.globW a).length ≤ 4 := by
  unfold Stn.globW
  cases h : s.right with
  | false => simp
  | true =>
    simp only [if_true]
    unfold findG
    cases hf : s.gs.find? (fun g => g.1 == a) with
    | none => simp
    | some g => exact right_words h g (List.mem_of_find?_eq_some hf)
theorem others_len {own : Int} {l : List Int} (h : othersB own l = true) : l.length ≤ 8 := by
  unfold othersB at h
  rw [List.all_eq_true] at h
  have key : ∀ k (hk : k < l.length), (k : Int) + 1 ≤ l[k] ∧ l[k] ≤ 8 := by
    intro k
    induction k with
    | zero =>
      intro hk
      have := h 0 (List.mem_range.2 hk)
      rw [othersF_zero own l hk] at this
      simp [addrB] at this
      omega
    | succ k ih =>
      intro hk
      have h1 := ih (by omega)
      have := h (k + 1) (List.mem_range.2 hk)
      rw [othersF_succ own l k hk] at this
      simp [riseB, addrB] at this
      omega
  rcases Nat.lt_or_ge 8 l.length with h1 | h1
  · have := key 8 h1
    omega
  · exact h1
theorem right_eight {s : Stn} (h : s.right = true) : s.gs.length ≤ 8 := by
  have := right_globs h
  unfold globsB at this
  rw [Bool.and_eq_true] at this
  have h1 := others_len this.2
  simpa using h1
set_option maxRecDepth 100000 in
set_option maxHeartbeats 3200000 in
theorem globalOf_any (s : Stn) (a : Int) (v1 v2 v3 v4 : Value) (w : World) (hl1 : s.kn.length ≤ 1048576) (hl2 : s.ws.length ≤ 1048576) (hl : s.gs.length ≤ 1048576) (hlw : ∀ g ∈ s.gs, g.2.length ≤ 1048576) (hl4 : s.os.length ≤ 1048576) (hz : ∀ b ∈ s.os, b.size ≤ 9223372036854775807)
    (r1 : RowI w v1 s.kn) (r2 : RowI w v2 s.ws) (B : Nat) (r3 : OwnG w B v3 s.gs) (r4 : RowS w v4 s.os) :
    Calls Try.prog 30 #[.agg #[.int .i64 s.ad, .int .i64 s.bo, .int .i64 s.st, .int .i64 s.s.g, .int .i64 s.s.o, .int .i64 s.s.b, .int .i64 s.s.h, .int .i64 s.t.g, .int .i64 s.t.o, .int .i64 s.t.b, .int .i64 s.t.h, .int .i64 s.qu, .int .i64 s.tr, .int .i64 s.he, .int .i64 s.po, v1, v2, v3, v4], .int .i64 a] w fun e w' => ∃ v, e = .returned v ∧ OwnI w' w.heap.size v (s.globW a) ∧ Below w.heap.size w w' := by
  have HC : Hid (∀ W, Below w.heap.size w W → Calls Try.prog 12 #[.agg #[.int .i64 s.ad, .int .i64 s.bo, .int .i64 s.st, .int .i64 s.s.g, .int .i64 s.s.o, .int .i64 s.s.b, .int .i64 s.s.h, .int .i64 s.t.g, .int .i64 s.t.o, .int .i64 s.t.b, .int .i64 s.t.h, .int .i64 s.qu, .int .i64 s.tr, .int .i64 s.he, .int .i64 s.po, v1, v2, v3, v4]] W fun e w' => e = .returned (.bool s.right) ∧ Below W.heap.size W w') := fun W hW => stationRight_any s v1 v2 v3 v4 W hl1 hl2 hl hlw hl4 hz (r1.below hW) (r2.below hW) (r3.row.below hW) (r4.below hW)
  have HG : Hid (∀ W, Below w.heap.size w W → ∀ k (hk : k < s.gs.length), ∃ g c u, v3 = .slice (some ⟨g, 0, none⟩) s.gs.length c ∧ W.cell? ⟨g, k * 2, none⟩ = some (.int .i64 s.gs[k].1) ∧ W.cell? ⟨g, k * 2 + 1, none⟩ = some u ∧ OwnI W B u s.gs[k].2) := fun W hW => ownG_cells (r3.below hW)
  obtain ⟨p, c, rfl⟩ := r3.shape
  clear r1 r2 r3 r4 hl1 hl2 hlw hl4 hz
  have hA : Below w.heap.size w _ := all_alloc w (.cells #[.int .i64 s.ad, .int .i64 s.bo, .int .i64 s.st, .int .i64 s.s.g, .int .i64 s.s.o, .int .i64 s.s.b, .int .i64 s.s.h, .int .i64 s.t.g, .int .i64 s.t.o, .int .i64 s.t.b, .int .i64 s.t.h, .int .i64 s.qu, .int .i64 s.tr, .int .i64 s.he, .int .i64 s.po, v1, v2, .slice p s.gs.length c, v4] 34)
  have hX : Hid _ := heap_alloc_new w (.cells #[.int .i64 s.ad, .int .i64 s.bo, .int .i64 s.st, .int .i64 s.s.g, .int .i64 s.s.o, .int .i64 s.s.b, .int .i64 s.s.h, .int .i64 s.t.g, .int .i64 s.t.o, .int .i64 s.t.b, .int .i64 s.t.h, .int .i64 s.qu, .int .i64 s.tr, .int .i64 s.he, .int .i64 s.po, v1, v2, .slice p s.gs.length c, v4] 34)
  have hsA : (w.alloc (.cells #[.int .i64 s.ad, .int .i64 s.bo, .int .i64 s.st, .int .i64 s.s.g, .int .i64 s.s.o, .int .i64 s.s.b, .int .i64 s.s.h, .int .i64 s.t.g, .int .i64 s.t.o, .int .i64 s.t.b, .int .i64 s.t.h, .int .i64 s.qu, .int .i64 s.tr, .int .i64 s.he, .int .i64 s.po, v1, v2, .slice p s.gs.length c, v4] 34)).heap.size = w.heap.size + 1 := by simp
  unfold Stn.globW
  cases hR : s.right with
  | false =>
    rw [hR] at HC
    simp only [Bool.false_eq_true, if_false]
    go_enter Try.func30, Try.ntmps30
    go_upto_region 1 with fail
    generalize w.alloc (.cells #[.int .i64 s.ad, .int .i64 s.bo, .int .i64 s.st, .int .i64 s.s.g, .int .i64 s.s.o, .int .i64 s.s.b, .int .i64 s.s.h, .int .i64 s.t.g, .int .i64 s.t.o, .int .i64 s.t.b, .int .i64 s.t.h, .int .i64 s.qu, .int .i64 s.tr, .int .i64 s.he, .int .i64 s.po, v1, v2, .slice p s.gs.length c, v4] 34) = A at hA hX hsA ⊢
    go_wp2_with (first
      | (refine wpList_load_rowG (by rfl) 34 (.tmp 2) rfl w.heap.size rfl _ _ _ _ hX.out Try.underlying34 rfl (by kernel_rfl) ?_)
      | (go_at_call 12; refine (HC.out _ hA).mono ?_; rintro e w1 ⟨rfl, hb1⟩))
    go_ret
    exact ⟨_, rfl, OwnI.nil _ _, keepB hA (Nat.le_refl _) hb1⟩
  | true =>
    rw [hR] at HC
    simp only [if_true]
    have HWD : Hid _ := right_words hR
    clear hR
    obtain ⟨V, hV⟩ : ∃ V, Hid (findG a s.gs = V) := ⟨_, show _ = _ from rfl⟩
    rw [hV.out]
    go_enter Try.func30, Try.ntmps30
    go_upto_region 1 with fail
    generalize w.alloc (.cells #[.int .i64 s.ad, .int .i64 s.bo, .int .i64 s.st, .int .i64 s.s.g, .int .i64 s.s.o, .int .i64 s.s.b, .int .i64 s.s.h, .int .i64 s.t.g, .int .i64 s.t.o, .int .i64 s.t.b, .int .i64 s.t.h, .int .i64 s.qu, .int .i64 s.tr, .int .i64 s.he, .int .i64 s.po, v1, v2, .slice p s.gs.length c, v4] 34) = A at hA hX hsA ⊢
    go_upto_region 3 with (first
      | (refine wpList_load_rowG (by rfl) 34 (.tmp 2) rfl w.heap.size rfl _ _ _ _ hX.out Try.underlying34 rfl (by kernel_rfl) ?_)
      | (go_at_call 12; refine (HC.out _ hA).mono ?_; rintro e w1 ⟨rfl, hb1⟩; have c17 := cellW hX.out 17 _ rfl w1 hb1))
    have hW1 := keepB hA (Nat.le_refl _) hb1
    go_wp2
    go_loopw [13] (fun i wr => ∃ k : Nat, k ≤ s.gs.length ∧ i = .int .i64 k ∧ Hid (noG a (s.gs.take k) = true) ∧ Below w.heap.size w wr) (fun i _ => s.gs.length - (intOf i).toNat)
    case atStart => exact ⟨0, Nat.zero_le _, rfl, rfl, hW1⟩
    case round =>
      obtain ⟨k, hk, rfl, HN, hbel⟩ := hrel
      by_cases hlt : k < s.gs.length
      · obtain ⟨g, c', u, e', q1, q2, hou⟩ := HG.out wr hbel k hlt
        cases e'
        have hwd := HWD.out s.gs[k] (List.getElem_mem hlt)
        have HH : Hid (s.gs[k].1 = a → V = s.gs[k].2) := fun h => by rw [← hV.out]; exact findG_hit hlt HN.out h
        have HM : Hid (¬ s.gs[k].1 = a → noG a (s.gs.take (k + 1)) = true) := fun h => noG_more hlt HN.out h
        have HO : Hid (∀ W, Below wr.heap.size wr W → Calls Try.prog 65 #[u] W fun e w' => ∃ v', e = .returned v' ∧ OwnI w' W.heap.size v' s.gs[k].2 ∧ Below W.heap.size W w') := fun W hW => copyNums_any B u s.gs[k].2 W (by omega) (hou.below hW)
        obtain ⟨pu, cu, rfl⟩ := hou.shape
        clear hou
        generalize s.gs[k].1 = z at q1 HH HM
        generalize s.gs[k].2 = ws at q2 HH HO hwd
        generalize ws.length = nw at q2 HO hwd
        have hbox : Below wr.heap.size wr (wr.alloc (.cells #[.int .i64 z, .slice pu nw cu] 79)) := all_alloc _ _
        by_cases hz : z = a
        · obtain rfl : V = ws := HH.out hz
          subst hz
          go_wp2_with (go_at_call 65; refine (HO.out _ hbox).mono ?_; rintro e w2 ⟨v', rfl, own2, hb2⟩)
          go_ret
          have hs := hbel.size
          exact ⟨_, rfl, OwnI.leT own2 (by simp; omega), keepB (keepB hbel (Nat.le_refl _) hbox) (Nat.le_refl _) hb2⟩
        · have ez : (z == a) = false := by simpa using hz
          have HM2 : Hid _ := HM.out hz
          clear HH HM hz
          go_wp2
          go_roundw
          case rel => exact ⟨k + 1, by omega, by go_num, HM2.out, keepB hbel (Nat.le_refl _) hbox⟩
          case measure => simp [intOf]; omega
      · have h1 := HN.out
        rw [List.take_of_length_le (by omega)] at h1
        have hV2 : V = [] := by rw [← hV.out, findG_none h1]
        subst hV2
        clear h1
        go_wp2
        go_ret
        exact ⟨_, rfl, OwnI.nil _ _, hbel⟩
end Go.Proofs.Ytancfnpmbddfoaa
namespace Go.Proofs.Ytancfnpmbddfoaa
open Go.RowKit
set_option linter.unusedVariables false
set_option linter.unusedSimpArgs false

set_option maxRecDepth 100000 in
set_option maxHeartbeats 3200000 in
theorem specGlobalOf_any (s : Stn) (a : Int) (v1 v2 v3 v4 : Value) (w : World) (hl1 : s.kn.length ≤ 1048576) (hl2 : s.ws.length ≤ 1048576) (hl : s.gs.length ≤ 1048576) (hlw : ∀ g ∈ s.gs, g.2.length ≤ 1048576) (hl4 : s.os.length ≤ 1048576) (hz : ∀ b ∈ s.os, b.size ≤ 9223372036854775807)
    (r1 : RowI w v1 s.kn) (r2 : RowI w v2 s.ws) (B : Nat) (r3 : OwnG w B v3 s.gs) (r4 : RowS w v4 s.os) :
    Calls Try.prog 29 #[.agg #[.int .i64 s.ad, .int .i64 s.bo, .int .i64 s.st, .int .i64 s.s.g, .int .i64 s.s.o, .int .i64 s.s.b, .int .i64 s.s.h, .int .i64 s.t.g, .int .i64 s.t.o, .int .i64 s.t.b, .int .i64 s.t.h, .int .i64 s.qu, .int .i64 s.tr, .int .i64 s.he, .int .i64 s.po, v1, v2, v3, v4], .int .i64 a] w fun e w' => ∃ v, e = .returned v ∧ OwnI w' w.heap.size v (s.globW a) ∧ Below w.heap.size w w' := by
  have HC : Hid (∀ W, Below w.heap.size w W → Calls Try.prog 10 #[.agg #[.int .i64 s.ad, .int .i64 s.bo, .int .i64 s.st, .int .i64 s.s.g, .int .i64 s.s.o, .int .i64 s.s.b, .int .i64 s.s.h, .int .i64 s.t.g, .int .i64 s.t.o, .int .i64 s.t.b, .int .i64 s.t.h, .int .i64 s.qu, .int .i64 s.tr, .int .i64 s.he, .int .i64 s.po, v1, v2, v3, v4]] W fun e w' => e = .returned (.bool s.right) ∧ Below W.heap.size W w') := fun W hW => specStationRight_any s v1 v2 v3 v4 W hl1 hl2 hl hlw hl4 hz (r1.below hW) (r2.below hW) (r3.row.below hW) (r4.below hW)
  have HG : Hid (∀ W, Below w.heap.size w W → ∀ k (hk : k < s.gs.length), ∃ g c u, v3 = .slice (some ⟨g, 0, none⟩) s.gs.length c ∧ W.cell? ⟨g, k * 2, none⟩ = some (.int .i64 s.gs[k].1) ∧ W.cell? ⟨g, k * 2 + 1, none⟩ = some u ∧ OwnI W B u s.gs[k].2) := fun W hW => ownG_cells (r3.below hW)
  obtain ⟨p, c, rfl⟩ := r3.shape
  clear r1 r2 r3 r4 hl1 hl2 hlw hl4 hz
  have hA : Below w.heap.size w _ := all_alloc w (.cells #[.int .i64 s.ad, .int .i64 s.bo, .int .i64 s.st, .int .i64 s.s.g, .int .i64 s.s.o, .int .i64 s.s.b, .int .i64 s.s.h, .int .i64 s.t.g, .int .i64 s.t.o, .int .i64 s.t.b, .int .i64 s.t.h, .int .i64 s.qu, .int .i64 s.tr, .int .i64 s.he, .int .i64 s.po, v1, v2, .slice p s.gs.length c, v4] 34)
  have hX : Hid _ := heap_alloc_new w (.cells #[.int .i64 s.ad, .int .i64 s.bo, .int .i64 s.st, .int .i64 s.s.g, .int .i64 s.s.o, .int .i64 s.s.b, .int .i64 s.s.h, .int .i64 s.t.g, .int .i64 s.t.o, .int .i64 s.t.b, .int .i64 s.t.h, .int .i64 s.qu, .int .i64 s.tr, .int .i64 s.he, .int .i64 s.po, v1, v2, .slice p s.gs.length c, v4] 34)
  have hsA : (w.alloc (.cells #[.int .i64 s.ad, .int .i64 s.bo, .int .i64 s.st, .int .i64 s.s.g, .int .i64 s.s.o, .int .i64 s.s.b, .int .i64 s.s.h, .int .i64 s.t.g, .int .i64 s.t.o, .int .i64 s.t.b, .int .i64 s.t.h, .int .i64 s.qu, .int .i64 s.tr, .int .i64 s.he, .int .i64 s.po, v1, v2, .slice p s.gs.length c, v4] 34)).heap.size = w.heap.size + 1 := by simp
  unfold Stn.globW
  have HWD : Hid (s.right = true → ∀ g ∈ s.gs, g.2.length ≤ 4) := right_words
  have HEI : Hid (s.right = true → s.gs.length ≤ 8) := right_eight
  generalize s.right = R at HC HWD HEI ⊢
  obtain ⟨V, hV⟩ : ∃ V, Hid ((if R then findG a s.gs else []) = V) := ⟨_, show _ = _ from rfl⟩
  rw [hV.out]
  go_enter Try.func29, Try.ntmps29
  go_upto_region 1 with fail
  generalize w.alloc (.cells #[.int .i64 s.ad, .int .i64 s.bo, .int .i64 s.st, .int .i64 s.s.g, .int .i64 s.s.o, .int .i64 s.s.b, .int .i64 s.s.h, .int .i64 s.t.g, .int .i64 s.t.o, .int .i64 s.t.b, .int .i64 s.t.h, .int .i64 s.qu, .int .i64 s.tr, .int .i64 s.he, .int .i64 s.po, v1, v2, .slice p s.gs.length c, v4] 34) = A at hA hX hsA ⊢
  have x17 : Hid _ := cellW hX.out 17 _ rfl
  go_upto_region 2 with fail
  go_loopw [5] (fun i wr => ∃ k : Nat, k ≤ s.gs.length ∧ k ≤ 8 ∧ i = .int .i64 k ∧ Hid (R = true → noG a (s.gs.take k) = true) ∧ Below A.heap.size A wr) (fun i _ => s.gs.length - (intOf i).toNat)
  case atStart => exact ⟨0, Nat.zero_le _, by omega, rfl, (fun _ => rfl : R = true → noG a (s.gs.take 0) = true), Below.refl _ _⟩
  case round =>
    obtain ⟨k, hk, hk8, rfl, HN, hbel⟩ := hrel
    have hbw := keepB hA (Nat.le_refl _) hbel
    have c17 := x17.out wr hbel
    have hXr : Hid _ := blk hX.out hbel
    have hsz := hbel.size
    by_cases hlt : k < s.gs.length
    · by_cases h8 : k < 8
      · obtain ⟨g, c', u, e', q1, q2, hou⟩ := HG.out wr hbw k hlt
        cases e'
        have HWK : Hid (R = true → s.gs[k].2.length ≤ 4) := fun h => HWD.out h s.gs[k] (List.getElem_mem hlt)
        have HH : Hid (R = true → s.gs[k].1 = a → V = s.gs[k].2) := fun hr h => by rw [← hV.out, hr]; exact findG_hit hlt (HN.out hr) h
        have HM : Hid (¬ s.gs[k].1 = a → R = true → noG a (s.gs.take (k + 1)) = true) := fun h hr => noG_more hlt (HN.out hr) h
        have HOU : Hid (∀ W, Below wr.heap.size wr W → OwnI W B u s.gs[k].2) := fun W hW => hou.below hW
        obtain ⟨pu, cu, rfl⟩ := hou.shape
        clear hou
        generalize s.gs[k].1 = z at q1 HH HM
        generalize s.gs[k].2 = ws at q2 HH HWK HOU
        by_cases hz : z = a
        · subst hz
          cases R with
          | false =>
            go_wp2_with (first
              | (refine wpList_load_rowG (by rfl) 34 (.tmp 2) rfl w.heap.size rfl _ _ _ _ hXr.out Try.underlying34 rfl (by kernel_rfl) ?_)
              | (go_at_call 10; refine (HC.out _ hbw).mono ?_; rintro e w1 ⟨rfl, hb1⟩))
            go_roundw
            case rel => exact ⟨k + 1, by omega, by omega, by go_num, (show false = true → noG z (s.gs.take (k + 1)) = true from fun h => absurd h (by simp)), keepB hbel (Nat.le_refl _) hb1⟩
            case measure => simp [intOf]; omega
          | true =>
            obtain rfl : V = ws := HH.out rfl rfl
            have hwl := HWK.out rfl
            go_upto_region 5 with (first
              | (refine wpList_load_rowG (by rfl) 34 (.tmp 2) rfl w.heap.size rfl _ _ _ _ hXr.out Try.underlying34 rfl (by kernel_rfl) ?_)
              | (go_at_call 10; refine (HC.out _ hbw).mono ?_; rintro e w1 ⟨rfl, hb1⟩; have d17 := x17.out w1 (keepB hbel (Nat.le_refl _) hb1)))
            have hg : g < wr.heap.size := World.block_lt_of_cell? wr ⟨g, k * 2 + 1, none⟩ q2
            have q3 : w1.cell? ⟨g, k * 2 + 1, none⟩ = some (.slice pu V.length cu) := (hb1.cell (p := ⟨g, k * 2 + 1, none⟩) hg).trans q2
            have d17' := x17.out (w1.alloc (.cells #[] 2)) (keepB (keepB hbel (Nat.le_refl _) hb1) (Nat.le_refl _) (all_alloc _ _))
            have q3' : (w1.alloc (.cells #[] 2)).cell? ⟨g, k * 2 + 1, none⟩ = some (.slice pu V.length cu) := ((all_alloc w1 _).cell (p := ⟨g, k * 2 + 1, none⟩) (by have := hb1.size; simp only; omega)).trans q3
            obtain ⟨G', c2, w', hrun, _, hown, hbw'⟩ := app_empty (w1.alloc (.cells #[] 2)) 24 w1.heap.size (heap_alloc_new w1 _) B _ V (HOU.out _ (keepB hb1 (Nat.le_refl _) (all_alloc _ _))) (by omega)
            have ho := hown w.heap.size (by have := hb1.size; omega)
            have hO : Hid (OwnI w' w.heap.size _ V) := ho
            clear ho hown
            have hBf := keepB (keepB (keepB hbw (Nat.le_refl _) hb1) (Nat.le_refl _) (all_alloc w1 (.cells #[] 2))) (Nat.le_refl _) hbw'
            go_wp2_with (at_builtin; refine wpList_plain rfl fun K hK => ?_; unfold Oper.wp; simp [execOp, resolve, invoke, builtin, Act.eval, hrun, Result.andThen]; refine hK _ _ ?_)
            go_ret
            exact ⟨_, rfl, hO.out, hBf⟩
        · have ez : (z == a) = false := by simpa using hz
          have HM2 : Hid (R = true → noG a (s.gs.take (k + 1)) = true) := HM.out hz
          clear HH HM hz
          go_wp2
          go_roundw
          case rel => exact ⟨k + 1, by omega, by omega, by go_num, HM2.out, hbel⟩
          case measure => simp [intOf]; omega
      · have hV2 : V = [] := by
          cases R with
          | false => rw [← hV.out]; rfl
          | true => have := HEI.out rfl; omega
        subst hV2
        go_wp2
        go_ret
        exact ⟨_, rfl, own_madeI wr _ (by omega), hbw.alloc (by omega) _⟩
    · have hV2 : V = [] := by
        cases R with
        | false => rw [← hV.out]; rfl
        | true =>
          have h1 := HN.out rfl
          rw [List.take_of_length_le (by omega)] at h1
          rw [← hV.out, if_pos rfl, findG_none h1]
      subst hV2
      go_wp2
      go_ret
      exact ⟨_, rfl, own_madeI wr _ (by omega), hbw.alloc (by omega) _⟩
end Go.Proofs.Ytancfnpmbddfoaa
