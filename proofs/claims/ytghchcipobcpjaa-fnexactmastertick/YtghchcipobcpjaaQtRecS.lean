/- LISTS OF TEXTS, own ones: held against each other, marked from any number on, and still marked. Written out of Marks, Marks2 and StnY. -/
import Derived.Test.YtghchcipobcpjaaQtJoin2
import Derived.Test.YtghchcipobcpjaaQtPlainGet
import Derived.Deep.QuietTactic
import Derived.BigQuiet
import Derived.Deep.RegionHeld3
namespace Go.Proofs.Ytghchcipobcpjaa
open Go.RowKit
set_option linter.unusedVariables false
set_option linter.unusedSimpArgs false

def OwnSr (w : World) (base : Nat) (v : Value) (ss : List ByteArray) : Prop := w.ownsRow base 9 1 v ss.length (ss.map Value.string)
theorem OwnSr.shape {w : World} {base : Nat} {v : Value} {ss : List ByteArray} (h : OwnSr w base v ss) : ∃ a cap, v = .slice a ss.length cap := by
  obtain ⟨_, ⟨rfl, h0⟩ | ⟨g, cap, cur, rfl, _⟩⟩ := h
  · rw [h0]; exact ⟨_, _, rfl⟩
  · exact ⟨_, _, rfl⟩
theorem OwnSr.cell {w : World} {base : Nat} {a : Option Addr} {n cap : Nat} {ss : List ByteArray} (h : OwnSr w base (.slice a n cap) ss) (k : Nat) (hk : k < ss.length) : ∃ g, a = some ⟨g, 0, none⟩ ∧ base ≤ g ∧ g < w.heap.size ∧ w.cell? ⟨g, k, none⟩ = some (.string ss[k]) ∧ w.frozen? ⟨g, k, none⟩ = false := by
  obtain ⟨_, ⟨h1, h0⟩ | ⟨g, cap, cur, h1, hb, hg, _, _, _, ht⟩⟩ := h
  · omega
  · cases h1
    have hg' := (Array.getElem?_eq_some_iff.1 hg).1
    have e : cur[k]? = some (.string ss[k]) := by
      have : (cur.toList.take (ss.length * 1))[k]? = some (.string ss[k]) := by rw [ht, List.getElem?_map, List.getElem?_eq_getElem hk]; rfl
      rw [List.getElem?_take_of_lt (by omega)] at this
      simpa using this
    exact ⟨g, rfl, hb, hg', by simp [World.cell?, hg, e], by simp [World.frozen?, hg]⟩
theorem OwnSr.below {w w' : World} {base : Nat} {v : Value} {ss : List ByteArray} (h : OwnSr w base v ss) (hb : Below w.heap.size w w') : OwnSr w' base v ss := by
  refine ⟨h.1, h.2.imp id ?_⟩
  rintro ⟨g, cap, cur, e1, e2, e3, e4⟩
  exact ⟨g, cap, cur, e1, e2, (hb.block g (Array.getElem?_eq_some_iff.1 e3).1).trans e3, e4⟩
set_option maxRecDepth 100000 in
set_option maxHeartbeats 800000 in
theorem rcEqStringS (b1 b2 : Nat) (v1 v2 : Value) (ss : List ByteArray) (w : World) (hl : ss.length ≤ 100000) (h1 : OwnSr w b1 v1 ss) (h2 : OwnSr w b2 v2 ss) :
    Calls Try.prog 31 #[v1, v2] w fun e w' => e = .returned (.bool true) ∧ Below w.heap.size w w' := by
  obtain ⟨p1, c1, rfl⟩ := h1.shape
  obtain ⟨p2, c2, rfl⟩ := h2.shape
  have e0 : ((ss.length : Int) != (ss.length : Int)) = false := by simp
  have H1 : Hid _ := fun W hW => (OwnSr.below (w' := W) h1 hW).cell
  have H2 : Hid _ := fun W hW => (OwnSr.below (w' := W) h2 hW).cell
  clear h1 h2
  go_enter Try.func31, Try.ntmps31
  go_wp2
  go_loopw [5] (fun i wr => ∃ k : Nat, k ≤ ss.length ∧ i = .int .i64 k ∧ Below w.heap.size w wr) (fun i _ => ss.length - (intOf i).toNat)
  case atStart => exact ⟨0, Nat.zero_le _, rfl, Below.refl _ _⟩
  case round =>
    obtain ⟨k, hk, rfl, hbel⟩ := hrel
    by_cases hlt : k < ss.length
    · obtain ⟨g1, rfl, _, _, q1, _⟩ := H1.out wr hbel k hlt
      obtain ⟨g2, rfl, _, _, q2, _⟩ := H2.out wr hbel k hlt
      have es : (ss[k].toList == ss[k].toList) = true := by simp
      go_wp2
      go_quiet (fail)
      go_wp2
      go_roundw
      case rel => exact ⟨k + 1, by omega, by go_num, hbel.trans ((Below.refl _ wr).trans ⟨rfl, rfl, rfl, Nat.le_refl _, fun _ _ => rfl⟩)⟩
      case measure => simp [intOf]; omega
    · go_wp2
      go_ret
      exact ⟨rfl, hbel⟩
theorem OwnSr.set {w : World} {base g n cap : Nat} {ss : List ByteArray} (h : OwnSr w base (.slice (some ⟨g, 0, none⟩) n cap) ss) (j : Nat) (hj : j < ss.length) (m : ByteArray) : OwnSr (w.setCell ⟨g, j, none⟩ (.string m)) base (.slice (some ⟨g, 0, none⟩) n cap) (ss.set j m) := by
  obtain ⟨h0, ⟨h1, _⟩ | ⟨g, cap, cur, h1, hb, hg, h2, h3, h4, ht⟩⟩ := h
  · cases h1
  · cases h1
    refine ⟨by simp, .inr ⟨g, cap, cur.setIfInBounds j (.string m), by rw [List.length_set], hb, ?_, by rw [List.length_set]; exact h2, h3, by simpa using h4, ?_⟩⟩
    · rw [setCell_eq_setRow w g j cur _ (0, 0) _ hg, setRow_heap w g cur _ _ _ hg]
    · rw [List.length_set, Array.toList_setIfInBounds, List.take_set, ht, List.map_set]
theorem rcSet_mid {l m : List ByteArray} {c : ByteArray} (h : m ≠ []) : (l ++ m).set l.length c = (l ++ [c]) ++ m.drop 1 := by
  cases m with
  | nil => exact absurd rfl h
  | cons a m => simp
/-- own texts in a stretch -/
def OwnSB (w : World) (lo hi : Nat) (v : Value) (ss : List ByteArray) : Prop := OwnSr w lo v ss ∧ ∀ k, v.ownBlock = some k → k < hi
theorem OwnSr.lt {w : World} {base : Nat} {v : Value} {ss : List ByteArray} (h : OwnSr w base v ss) : ∀ k, v.ownBlock = some k → base ≤ k ∧ k < w.heap.size := World.ownsRow.lt h
theorem OwnSr.sb {w : World} {lo : Nat} {v : Value} {ss : List ByteArray} (h : OwnSr w lo v ss) : OwnSB w lo w.heap.size v ss := ⟨h, fun k e => (h.lt k e).2⟩
theorem OwnSB.same {w w' : World} {lo hi : Nat} {v : Value} {ss : List ByteArray} (h : OwnSB w lo hi v ss) (hs : SameR w w' lo hi) : OwnSB w' lo hi v ss := by
  refine ⟨⟨h.1.1, h.1.2.imp id ?_⟩, h.2⟩
  rintro ⟨g, cap, cur, e1, e2, e3, e4⟩
  exact ⟨g, cap, cur, e1, e2, (hs g e2 (h.2 g (by rw [e1]; rfl))).trans e3, e4⟩
/-- texts marked -/
def rcMarks (k n : Nat) : List ByteArray := (List.range n).map fun i => markB (k + i)
theorem rcMarks_length (k n : Nat) : (rcMarks k n).length = n := by simp [rcMarks]
theorem rcMarks_at (k n i : Nat) (h : i < (rcMarks k n).length) : (rcMarks k n)[i] = markB (k + i) := by simp [rcMarks]
theorem rcMarks_succ (k n : Nat) : rcMarks k (n + 1) = rcMarks k n ++ [markB (k + n)] := by simp [rcMarks, List.range_succ]
theorem rcMarks_step (k : Nat) (ss : List ByteArray) (j : Nat) (h : j < ss.length) : (rcMarks k j ++ ss.drop j).set j (markB (k + j)) = rcMarks k (j + 1) ++ ss.drop (j + 1) := by
  have := rcSet_mid (l := rcMarks k j) (m := ss.drop j) (c := markB (k + j)) (by intro e; have := congrArg List.length e; simp at this; omega)
  rw [rcMarks_length] at this
  rw [this, rcMarks_succ, List.drop_drop]
set_option maxRecDepth 100000 in
set_option maxHeartbeats 1600000 in
theorem rcMarkStringS (k : Nat) (hk0 : 0 < k ∧ k ≤ 7000000) (lo hi : Nat) (v : Value) (ss : List ByteArray) (w : World) (hl : ss.length ≤ 1048576) (h : OwnSB w lo hi v ss) :
    Calls Try.prog 36 #[v, .int .i64 k] w fun e w' => e = .returned (.int .i64 ((k : Int) + (ss.length : Int))) ∧ OwnSB w' lo hi v (rcMarks k ss.length) ∧ OnlyR w w' lo hi := by
  obtain ⟨p, cap, rfl⟩ := h.1.shape
  have HH : Hid (∀ g, (Value.slice p ss.length cap).ownBlock = some g → lo ≤ g ∧ g < hi) := fun g e => ⟨(h.1.lt g e).1, h.2 g e⟩
  have HO : Hid (OwnSr w lo (.slice p ss.length cap) ss) := h.1
  have HB : Hid _ := h.2
  clear h
  go_enter Try.func36, Try.ntmps36
  go_wp2
  go_loopw [1, 5] (fun x i wr => ∃ j : Nat, j ≤ ss.length ∧ i = .int .i64 j ∧ x = .int .i64 ((k : Int) + (j : Int)) ∧ Hid (OwnSr wr lo (.slice p ss.length cap) (rcMarks k j ++ ss.drop j)) ∧ Hid (w.grownBy wr (Value.slice p ss.length cap).ownBlock)) (fun _ i _ => ss.length - (intOf i).toNat)
  case atStart => exact ⟨0, Nat.zero_le _, rfl, by simp, (show OwnSr _ _ _ _ from HO.out), grown_reflI _ _⟩
  case round =>
    obtain ⟨j, hj, rfl, rfl, HW, HGR⟩ := hrel
    have hlen : (rcMarks k j ++ ss.drop j).length = ss.length := by rw [List.length_append, rcMarks_length, List.length_drop]; omega
    by_cases hlt : j < ss.length
    · obtain ⟨g, hpg, _, hgl, _, _⟩ := HW.out.cell j (by rw [hlen]; exact hlt)
      subst hpg
      have HM : Hid (∀ w : World, Calls Try.prog 60 #[.int .i64 ((k : Int) + (j : Int))] w fun e w' => e = .returned (.string (markB (k + j))) ∧ Below w.heap.size w w') := fun W => by have := markText_any (k + j) W (by omega) (by omega); rwa [show ((k + j : Nat) : Int) = (k : Int) + (j : Int) by omega] at this
      have HST : Hid _ := rcMarks_step k ss j hlt
      generalize markB (k + j) = m at HM HST
      have hk : j < (rcMarks k j ++ ss.drop j).length := by rw [hlen]; exact hlt
      obtain ⟨old, hqq⟩ : ∃ old, ∀ W, Below wr.heap.size wr W → W.cell? ⟨g, j, none⟩ = some (.string old) ∧ W.frozen? ⟨g, j, none⟩ = false := by
        refine ⟨(rcMarks k j ++ ss.drop j)[j], fun W hW => ?_⟩
        obtain ⟨g', hg', _, _, q1, q2⟩ := (HW.out.below hW).cell j hk
        cases hg'
        exact ⟨q1, q2⟩
      have hq := fun W hW => (hqq W hW).1
      have hf := fun W hW => (hqq W hW).2
      clear hqq
      go_wp2_with (go_at_call 60; refine (HM.out _).mono ?_; rintro e w1 ⟨rfl, hb1⟩)
      have h1 := HW.out.below hb1
      go_roundw
      case rel => exact ⟨j + 1, by omega, by go_num, by go_num, (show OwnSr _ _ _ _ by rw [← HST.out]; exact h1.set j hk m), grown_setI (grown_belowI HGR.out hb1) j _⟩
      case measure => simp [intOf]; omega
    · obtain rfl : j = ss.length := by omega
      go_wp2
      go_ret
      refine ⟨rfl, ⟨?_, HB.out⟩, OnlyR.grown HGR.out HH.out⟩
      have := HW.out
      rwa [List.drop_length, List.append_nil] at this
set_option maxRecDepth 100000 in
set_option maxHeartbeats 1600000 in
theorem rcHeldStringS (k : Nat) (hk0 : 0 < k ∧ k ≤ 7000000) (lo : Nat) (v : Value) (n : Nat) (w : World) (hl : n ≤ 1048576) (h : OwnSr w lo v (rcMarks k n)) :
    Calls Try.prog 38 #[v, .int .i64 k] w fun e w' => e = .returned (.int .i64 ((k : Int) + (n : Int))) ∧ Below w.heap.size w w' := by
  obtain ⟨p, cap, rfl⟩ := h.shape
  have HO : Hid _ := fun W hW => (OwnSr.below (w' := W) h hW).cell
  clear h
  rw [rcMarks_length]
  go_enter Try.func38, Try.ntmps38
  go_wp2
  go_loopw [1, 5] (fun x i wr => ∃ j : Nat, j ≤ n ∧ i = .int .i64 j ∧ x = .int .i64 ((k : Int) + (j : Int)) ∧ Below w.heap.size w wr) (fun _ i _ => n - (intOf i).toNat)
  case atStart => exact ⟨0, Nat.zero_le _, rfl, by simp, Below.refl _ _⟩
  case round =>
    obtain ⟨j, hj, rfl, rfl, hbel⟩ := hrel
    by_cases hlt : j < n
    · obtain ⟨g, hpg, _, hgl, _, _⟩ := HO.out wr hbel j (by rw [rcMarks_length]; exact hlt)
      subst hpg
      have HM : Hid (∀ w : World, Calls Try.prog 60 #[.int .i64 ((k : Int) + (j : Int))] w fun e w' => e = .returned (.string (markB (k + j))) ∧ Below w.heap.size w w') := fun W => by have := markText_any (k + j) W (by omega) (by omega); rwa [show ((k + j : Nat) : Int) = (k : Int) + (j : Int) by omega] at this
      have hq : ∀ W, Below w.heap.size w W → W.cell? ⟨g, j, none⟩ = some (.string (markB (k + j))) := by
        intro W hW
        obtain ⟨g', hg', _, _, q1, _⟩ := HO.out W hW j (by rw [rcMarks_length]; exact hlt)
        cases hg'
        rw [rcMarks_at] at q1
        exact q1
      generalize markB (k + j) = m at HM hq
      have es : (m.toList == m.toList) = true := by simp
      go_wp2
      go_region_held3 (fun w' => Below w.heap.size w w') (first | assumption | exact Below.drew hbel | exact keepB (by assumption) (by simp) hb1) (first | (go_at_call 60; refine (HM.out _).mono ?_; rintro e w1 ⟨rfl, hb1⟩))
      have hS : Below w.heap.size w w1 := by assumption
      go_wp2
      go_roundw
      case rel => exact ⟨j + 1, by omega, by go_num, by go_num, hS⟩
      case measure => simp [intOf]; omega
    · obtain rfl : j = n := by omega
      go_wp2
      go_ret
      exact ⟨rfl, hbel⟩
end Go.Proofs.Ytghchcipobcpjaa
