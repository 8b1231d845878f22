/- THE WALKS of the law's own marks: put into a list of texts, and looked for again. -/
import Derived.Test.YtpejljjjfplmlaeMarks
import Derived.WalkKit
import Derived.WalkSpells
import Derived.Outline
import Derived.Below
import Derived.Deep.RegionHeld3
import Derived.Deep.QuietTactic
import Derived.BigQuiet
namespace Go.Proofs.Ytpejljjjfplmlae
open Go.RowKit
set_option linter.unusedVariables false
set_option linter.unusedSimpArgs false

def marksL (n : Nat) : List ByteArray := (List.range n).map fun i => markB (1 + i)
theorem marksL_length (n : Nat) : (marksL n).length = n := by simp [marksL]
theorem marksL_at (n k : Nat) (h : k < (marksL n).length) : (marksL n)[k] = markB (1 + k) := by simp [marksL]
theorem marksL_succ (n : Nat) : marksL (n + 1) = marksL n ++ [markB (1 + n)] := by simp [marksL, List.range_succ]
theorem OwnS.set {w : World} {base g n cap : Nat} {ss : List ByteArray} (h : OwnS w base (.slice (some ⟨g, 0, none⟩) n cap) ss) (j : Nat) (hj : j < ss.length) (m : ByteArray) : OwnS (w.setCell ⟨g, j, none⟩ (.string m)) base (.slice (some ⟨g, 0, none⟩) n cap) (ss.set j m) := by
  obtain ⟨h0, ⟨h1, _⟩ | ⟨g, cap, cur, h1, hb, hg, h2, h3, h4, ht⟩⟩ := h
  · cases h1
  · cases h1
    refine ⟨by simp, .inr ⟨g, cap, cur.setIfInBounds j (.string m), by rw [List.length_set], hb, ?_, by rw [List.length_set]; exact h2, h3, by simpa using h4, ?_⟩⟩
    · rw [setCell_eq_setRow w g j cur _ (0, 0) _ hg, setRow_heap w g cur _ _ _ hg]
    · rw [List.length_set, Array.toList_setIfInBounds, List.take_set, ht, List.map_set]
theorem grown_below {w a b : World} {row : Option Nat} (h : w.grownBy a row) (k : Below a.heap.size a b) : w.grownBy b row :=
  ⟨k.os.trans h.os, k.tape.trans h.tape, k.output.trans h.output, Nat.le_trans h.size k.size, fun i hi hr => (k.block i (Nat.lt_of_lt_of_le hi h.size)).trans (h.block i hi hr)⟩
theorem grown_set {w a : World} {g : Nat} (h : w.grownBy a (some g)) (o : Nat) (v : Value) : w.grownBy (a.setCell ⟨g, o, none⟩ v) (some g) :=
  ⟨h.os, h.tape, h.output, by simpa [World.setCell] using h.size, fun i hi hr => (Below.heap_setCell _ _ _ _ (fun e => hr (by rw [e]))).trans (h.block i hi hr)⟩
theorem grown_refl (w : World) (row : Option Nat) : w.grownBy w row := ⟨rfl, rfl, rfl, Nat.le_refl _, fun _ _ _ => rfl⟩
theorem set_mid {l m : List ByteArray} {c : ByteArray} (h : m ≠ []) : (l ++ m).set l.length c = (l ++ [c]) ++ m.drop 1 := by
  cases m with
  | nil => exact absurd rfl h
  | cons a m => simp
theorem mark_step (ss : List ByteArray) (j : Nat) (h : j < ss.length) : (marksL j ++ ss.drop j).set j (markB (1 + j)) = marksL (j + 1) ++ ss.drop (j + 1) := by
  have := set_mid (l := marksL j) (m := ss.drop j) (c := markB (1 + j)) (by intro e; have := congrArg List.length e; simp at this; omega)
  rw [marksL_length] at this
  rw [this, marksL_succ, List.drop_drop]
set_option maxRecDepth 100000 in
set_option maxHeartbeats 800000 in
theorem markStringS_any (base : Nat) (v : Value) (ss : List ByteArray) (w : World) (hl : ss.length ≤ 10000) (h : OwnS w base v ss) :
    Calls Try.prog 46 #[v, .int .i64 1] w fun e w' => e = .returned (.int .i64 (1 + (ss.length : Int))) ∧ OwnS w' base v (marksL ss.length) ∧ w.grownBy w' v.ownBlock := by
  obtain ⟨p, cap, rfl⟩ := h.shape
  have HO : Hid _ := h
  clear h
  go_enter Try.func46, Try.ntmps46
  go_wp2
  go_loopw [1, 5] (fun x i wr => ∃ j : Nat, j ≤ ss.length ∧ i = .int .i64 j ∧ x = .int .i64 (1 + (j : Int)) ∧ Hid (OwnS wr base (.slice p ss.length cap) (marksL j ++ ss.drop j)) ∧ Hid (w.grownBy wr (Value.slice p ss.length cap).ownBlock)) (fun _ i _ => ss.length - (intOf i).toNat)
  case atStart => exact ⟨0, Nat.zero_le _, rfl, rfl, HO.out, grown_refl _ _⟩
  case round =>
    obtain ⟨j, hj, rfl, rfl, HW, HGR⟩ := hrel
    have hlen : (marksL j ++ ss.drop j).length = ss.length := by rw [List.length_append, marksL_length, List.length_drop]; omega
    by_cases hlt : j < ss.length
    · obtain ⟨g, hpg, _, hgl, _, _⟩ := HW.out.cell j (by rw [hlen]; exact hlt)
      subst hpg
      have HM : Hid (∀ w : World, Calls Try.prog 53 #[.int .i64 (1 + (j : Int))] w fun e w' => e = .returned (.string (markB (1 + j))) ∧ Below w.heap.size w w') := fun W => markText_any (1 + j) W (by omega) (by omega)
      have HST : Hid _ := mark_step ss j hlt
      generalize markB (1 + j) = m at HM HST
      have hk : j < (marksL j ++ ss.drop j).length := by rw [hlen]; exact hlt
      obtain ⟨old, hqq⟩ : ∃ old, ∀ W, Below wr.heap.size wr W → W.cell? ⟨g, j, none⟩ = some (.string old) ∧ W.frozen? ⟨g, j, none⟩ = false := by
        refine ⟨(marksL j ++ ss.drop j)[j], fun W hW => ?_⟩
        obtain ⟨g', hg', _, _, q1, q2⟩ := (HW.out.below hW).cell j hk
        cases hg'
        exact ⟨q1, q2⟩
      have hq := fun W hW => (hqq W hW).1
      have hf := fun W hW => (hqq W hW).2
      clear hqq
      go_wp2_with (go_at_call 53; refine (HM.out _).mono ?_; rintro e w1 ⟨rfl, hb1⟩)
      have h1 := HW.out.below hb1
      go_roundw
      case rel => exact ⟨j + 1, by omega, by go_num, by go_num, (show OwnS _ _ _ _ by rw [← HST.out]; exact h1.set j hk m), grown_set (grown_below HGR.out hb1) j _⟩
      case measure => simp [intOf]; omega
    · obtain rfl : j = ss.length := by omega
      go_wp2
      go_ret
      refine ⟨rfl, ?_, HGR.out⟩
      have := HW.out
      rwa [List.drop_length, List.append_nil] at this
set_option maxRecDepth 100000 in
set_option maxHeartbeats 800000 in
theorem heldStringS_any (base : Nat) (v : Value) (n : Nat) (w : World) (hl : n ≤ 10000) (h : OwnS w base v (marksL n)) :
    Calls Try.prog 47 #[v, .int .i64 1] w fun e w' => e = .returned (.int .i64 (1 + (n : Int))) ∧ Below w.heap.size w w' := by
  obtain ⟨p, cap, rfl⟩ := h.shape
  have HO : Hid _ := fun W hW => (OwnS.below (w' := W) h hW).cell
  clear h
  rw [marksL_length]
  go_enter Try.func47, Try.ntmps47
  go_wp2
  go_loopw [1, 5] (fun x i wr => ∃ j : Nat, j ≤ n ∧ i = .int .i64 j ∧ x = .int .i64 (1 + (j : Int)) ∧ Below w.heap.size w wr) (fun _ i _ => n - (intOf i).toNat)
  case atStart => exact ⟨0, Nat.zero_le _, rfl, rfl, Below.refl _ _⟩
  case round =>
    obtain ⟨j, hj, rfl, rfl, hbel⟩ := hrel
    by_cases hlt : j < n
    · obtain ⟨g, hpg, _, hgl, _, _⟩ := HO.out wr hbel j (by rw [marksL_length]; exact hlt)
      subst hpg
      have HM : Hid (∀ w : World, Calls Try.prog 53 #[.int .i64 (1 + (j : Int))] w fun e w' => e = .returned (.string (markB (1 + j))) ∧ Below w.heap.size w w') := fun W => markText_any (1 + j) W (by omega) (by omega)
      have hq : ∀ W, Below w.heap.size w W → W.cell? ⟨g, j, none⟩ = some (.string (markB (1 + j))) := by
        intro W hW
        obtain ⟨g', hg', _, _, q1, _⟩ := HO.out W hW j (by rw [marksL_length]; exact hlt)
        cases hg'
        rw [marksL_at] at q1
        exact q1
      generalize markB (1 + j) = m at HM hq
      have es : (m.toList == m.toList) = true := by simp
      go_wp2
      go_region_held3 (fun w' => Below w.heap.size w w') (first | assumption | exact Below.drew hbel | exact keepB (by assumption) (by simp) hb1) (first | (go_at_call 53; refine (HM.out _).mono ?_; rintro e w1 ⟨rfl, hb1⟩))
      have hS : Below w.heap.size w w1 := by assumption
      go_wp2
      go_roundw
      case rel => exact ⟨j + 1, by omega, by go_num, by go_num, hS⟩
      case measure => simp [intOf]; omega
    · obtain rfl : j = n := by omega
      go_wp2
      go_ret
      exact ⟨rfl, hbel⟩
end Go.Proofs.Ytpejljjjfplmlae
