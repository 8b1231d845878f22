/- THE WALKS of GetText, the program's and the model's, and of the compare of two answers. -/
import Derived.Test.YthmbfkppjijelaaProg
import Derived.Test.YthmbfkppjijelaaGetTN
import Derived.WalkKit
import Derived.WalkSpells
import Derived.Outline
import Derived.Below
import Derived.Deep.RegionHeld3
namespace Go.Proofs.Ythmbfkppjijelaa
open Go.RowKit

theorem store3 {B : Nat} {W w1 : World} (h : Below B W w1) (hB : B ≤ W.heap.size) {a b c : Addr} (x y z : Value) (o : Obj) (ha : B ≤ a.block) (hb : B ≤ b.block) (hc : B ≤ c.block) :
    Below B W ((((w1.setCell a x).setCell b y).setCell c z).alloc o) := by
  have k := ((h.setCell ha x).setCell hb y).setCell hc z
  exact k.alloc (Nat.le_trans hB k.size) o
theorem getT_bad (s : ByteArray) (a : Int) (h : (getT s a).2.2 ≠ 0) : getT s a = (ByteArray.empty, 0, (getT s a).2.2) := by
  unfold getT at h ⊢
  split
  · rfl
  · rename_i h1
    rw [if_neg h1] at h
    split
    · rfl
    · rename_i h2
      rw [if_neg h2] at h
      split
      · rfl
      · rename_i h3
        rw [if_neg h3] at h
        exact absurd rfl h
theorem getT_size (s : ByteArray) (a : Int) (h1 : 8000 < s.size) : getT s a = (ByteArray.empty, 0, 2) := by
  have e : getR s a = (0, 0, 2) := by unfold getR; rw [if_pos h1]
  unfold getT
  rw [e]
  rfl

set_option maxRecDepth 100000 in
set_option maxHeartbeats 1600000 in
theorem specGetText_any (s : ByteArray) (a : Int) (w : World) (hs : s.size ≤ maxLen) :
    Calls Try.prog 72 #[.string s, .int .i64 a] w fun e w' => e = .returned (textV (getT s a)) ∧ Below w.heap.size w w' := by
  have HRN : Hid (∀ w : World, Calls Try.prog 71 #[.string s, .int .i64 a] w fun e w' => e = .returned (numV (getR s a)) ∧ Below w.heap.size w w') := fun w => specGetNum_any s a w hs
  unfold maxLen at hs
  have hbad := getR_bad s a
  have hat := getR_at s a
  unfold getT
  generalize getR s a = R at HRN hbad hat
  obtain ⟨n, q, c⟩ := R
  by_cases hc : c = 0
  · subst hc
    rw [if_neg (by simp)]
    obtain ⟨hq1, hq2, hs8⟩ := hat rfl
    simp only at hq1 hq2
    clear hbad hat
    by_cases h1 : n < 0 ∨ 8000 < n
    · rw [if_pos h1]
      have h1' : n < 0 ∨ (¬ n < 0 ∧ 8000 < n) := by omega
      clear h1
      rcases h1' with h1 | ⟨h1a, h1⟩
      all_goals
        go_enter Try.func72, Try.ntmps72
        go_wp2_with (go_at_call 71; refine (HRN.out _).mono ?_; rintro e w1 ⟨rfl, hb1⟩; unfold numV; obtain ⟨hc1, hf1⟩ := bcell hb1; have hz1 : w.heap.size < w1.heap.size := (by have := hb1.size; simp at this; omega))
        exact bodyPost_ret (v := textV (ByteArray.empty, 0, 3)) (by simp [results, Try.results72, go_sem, textV, hc1, hz1]; rfl) rfl ⟨rfl, store3 (keepS ((Below.refl _ _).alloc (Nat.le_refl _) _) (Nat.le_refl _) hb1) (Nat.le_refl _) _ _ _ _ (Nat.le_refl _) (Nat.le_refl _) (Nat.le_refl _)⟩
    rw [if_neg h1]
    have h1a : ¬ n < 0 := fun h => h1 (.inl h)
    have h1b : ¬ 8000 < n := fun h => h1 (.inr h)
    clear h1
    by_cases h2 : (s.size : Int) < q + n
    · rw [if_pos h2]
      go_enter Try.func72, Try.ntmps72
      go_wp2_with (go_at_call 71; refine (HRN.out _).mono ?_; rintro e w1 ⟨rfl, hb1⟩; unfold numV; obtain ⟨hc1, hf1⟩ := bcell hb1; have hz1 : w.heap.size < w1.heap.size := (by have := hb1.size; simp at this; omega))
      exact bodyPost_ret (v := textV (ByteArray.empty, 0, 4)) (by simp [results, Try.results72, go_sem, textV, hc1, hz1]; rfl) rfl ⟨rfl, store3 (keepS ((Below.refl _ _).alloc (Nat.le_refl _) _) (Nat.le_refl _) hb1) (Nat.le_refl _) _ _ _ _ (Nat.le_refl _) (Nat.le_refl _) (Nat.le_refl _)⟩
    · rw [if_neg h2]
      obtain ⟨t, HT⟩ : ∃ t, Hid (s.extract q.toNat (q + n).toNat = t) := ⟨_, show _ = _ from rfl⟩
      show Calls _ _ _ _ fun e w' => e = .returned (textV (s.extract q.toNat (q + n).toNat, q + n, 0)) ∧ _
      rw [HT.out]
      have hsl : ∀ w, (Instr.slice 9 (.string s) (some (.int .i64 q)) (some (.int .i64 (q + n))) none).run Try.prog w = .ok (.string t) w := by
        intro w
        rw [← HT.out]
        exact run_slice_string w 9 s .i64 .i64 q (q + n) Try.underlying9 (by omega) (by omega) (by omega)
      have hwr : IntKind.i64.wrap (q + n) = q + n := by simp [IntKind.wrap, IntKind.bits, IntKind.signed]; omega
      go_enter Try.func72, Try.ntmps72
      go_wp2_with (go_at_call 71; refine (HRN.out _).mono ?_; rintro e w1 ⟨rfl, hb1⟩; unfold numV; obtain ⟨hc1, hf1⟩ := bcell hb1; have hz1 : w.heap.size < w1.heap.size := (by have := hb1.size; simp at this; omega))
      go_region_held3 (fun w' => w'.cell? ⟨w1.heap.size, 0, none⟩ = some (.int .i64 n) ∧ w'.cell? ⟨w1.heap.size, 1, none⟩ = some (.int .i64 q)) (simp [go_sem]) (fail)
      go_wp2
      exact bodyPost_ret (v := textV (t, q + n, 0)) (by simp [results, Try.results72, go_sem, textV, hc1, hz1]) rfl ⟨rfl, (store3 (keepS ((Below.refl _ _).alloc (Nat.le_refl _) _) (Nat.le_refl _) hb1) (Nat.le_refl _) _ _ _ _ (Nat.le_refl _) (Nat.le_refl _) (Nat.le_refl _)).drew⟩
  · rw [hbad hc] at HRN ⊢
    rw [if_pos hc]
    clear hbad hat
    have hcn : (c != 0) = true := by simp; exact hc
    clear hc
    go_enter Try.func72, Try.ntmps72
    go_wp2_with (go_at_call 71; refine (HRN.out _).mono ?_; rintro e w1 ⟨rfl, hb1⟩; unfold numV; obtain ⟨hc1, hf1⟩ := bcell hb1; have hz1 : w.heap.size < w1.heap.size := (by have := hb1.size; simp at this; omega))
    exact bodyPost_ret (v := textV (ByteArray.empty, 0, c)) (by simp [results, Try.results72, go_sem, textV, hc1, hz1]; rfl) rfl ⟨rfl, store3 (keepS ((Below.refl _ _).alloc (Nat.le_refl _) _) (Nat.le_refl _) hb1) (Nat.le_refl _) _ _ _ _ (Nat.le_refl _) (Nat.le_refl _) (Nat.le_refl _)⟩
end Go.Proofs.Ythmbfkppjijelaa
