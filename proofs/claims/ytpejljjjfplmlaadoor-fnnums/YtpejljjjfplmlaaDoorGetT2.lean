/- THE WALKS of GetText, the program's and the model's, and of the compare of two answers. -/
import Derived.Test.YtpejljjjfplmlaaDoorProg
import Derived.Test.YtpejljjjfplmlaaDoorGetT
import Derived.WalkKit
import Derived.WalkSpells
import Derived.Outline
import Derived.Below
import Derived.Deep.RegionHeld3
namespace Go.Proofs.YtpejljjjfplmlaaDoor
open Go.RowKit

theorem store3 {B : Nat} {W w1 : World} (h : Below B W w1) (hB : B ≤ W.heap.size) {a b c : Addr} (x y z : Value) (o : Obj) (ha : B ≤ a.block) (hb : B ≤ b.block) (hc : B ≤ c.block) :
    Below B W ((((w1.setCell a x).setCell b y).setCell c z).alloc o) := by
  have k := ((h.setCell ha x).setCell hb y).setCell hc z
  exact k.alloc (Nat.le_trans hB k.size) o
theorem getT_bad (s : ByteArray) (a : Int) (h : (getT s a).2.2 ≠ 0) : getT s a = (ByteArray.empty, 0, (getT s a).2.2) := by
  unfold getT at h ⊢
  split
  · rfl
  · rename_i h1
    rw [if_neg h1] at h
    split
    · rfl
    · rename_i h2
      rw [if_neg h2] at h
      split
      · rfl
      · rename_i h3
        rw [if_neg h3] at h
        exact absurd rfl h
theorem getT_size (s : ByteArray) (a : Int) (h1 : 8000 < s.size) : getT s a = (ByteArray.empty, 0, 2) := by
  have e : getR s a = (0, 0, 2) := by unfold getR; rw [if_pos h1]
  unfold getT
  rw [e]
  rfl

set_option maxRecDepth 100000 in
set_option maxHeartbeats 800000 in
theorem getText_any (s : ByteArray) (a : Int) (w : World) (hs : s.size ≤ maxLen) (hg : w.cell? ⟨0, 0, none⟩ = some (.iface 74 (.agg #[.pointer (some ⟨1, 41, none⟩)]))) :
    Calls Tryd.prog 11 #[.string s, .int .i64 a] w fun e w' => e = .returned (textV (getT s a)) ∧ Below w.heap.size w w' := by
  unfold maxLen at hs
  by_cases h1 : 8000 < s.size
  · rw [getT_size s a h1]
    go_enter Tryd.func11, Tryd.ntmps11
    go_wp2
    exact bodyPost_ret (v := textV (ByteArray.empty, 0, 2)) (by simp [results, Tryd.results11, go_sem, textV]; rfl) rfl ⟨rfl, (Below.refl _ _).alloc (Nat.le_refl _) _⟩
  have hs8 : s.size ≤ 8000 := by omega
  have hlt : 0 < w.heap.size := by
    rcases Nat.eq_zero_or_pos w.heap.size with h0 | h
    · simp [World.cell?, h0] at hg
    · exact h
  have HRN : Hid (∀ w : World, Calls Tryd.prog 22 #[.string s, .int .i64 a] w fun e w' => e = .returned (tupT (getT s a)) ∧ Below w.heap.size w w') := fun w => readText_any s a w hs8
  have hbad := getT_bad s a
  generalize getT s a = R at HRN hbad
  obtain ⟨n, q, c⟩ := R
  by_cases hc : c = 0
  · subst hc
    rw [tupT_ok] at HRN
    clear hbad hg hlt
    go_enter Tryd.func11, Tryd.ntmps11
    go_wp2_with (go_at_call 22; refine (HRN.out _).mono ?_; rintro e w1 ⟨rfl, hb1⟩; obtain ⟨hc1, hf1⟩ := bcell hb1)
    exact bodyPost_ret (v := textV (n, q, 0)) (by simp [results, Tryd.results11, go_sem, textV, hc1]) rfl ⟨rfl, ((((keepS ((Below.refl _ _).alloc (Nat.le_refl _) _) (Nat.le_refl _) hb1).setCell (by simp) _).setCell (by simp) _).setCell (by simp) _)⟩
  · rw [hbad hc] at HRN ⊢
    rw [tupT_no hc] at HRN
    clear hbad
    go_enter Tryd.func11, Tryd.ntmps11
    go_wp2_with (first | (go_at_call 22; refine (HRN.out _).mono ?_; rintro e w1 ⟨rfl, hb1⟩; have hb1' := keepS ((Below.refl _ _).alloc (Nat.le_refl _) _) (Nat.le_refl _) hb1; have hg1 := (hb1'.cell (p := ⟨0, 0, none⟩) hlt).trans hg; obtain ⟨hc1, hf1⟩ := bcell hb1; have hz1 : w.heap.size < w1.heap.size := (by have := hb1.size; simp at this; omega)) | (go_at_call 17; refine (faultCode_any c _ hg1).mono ?_; rintro e w2 ⟨rfl, hb2⟩; obtain ⟨hc2, hf2⟩ := bcell hb2))
    exact bodyPost_ret (v := textV (ByteArray.empty, 0, c)) (by simp [results, Tryd.results11, go_sem, textV, hc2, hc1, hz1]; rfl) rfl ⟨rfl, ((((keepS hb1' (Nat.le_refl _) hb2).setCell (by simp) _).setCell (by simp) _).setCell (by simp) _)⟩

end Go.Proofs.YtpejljjjfplmlaaDoor
