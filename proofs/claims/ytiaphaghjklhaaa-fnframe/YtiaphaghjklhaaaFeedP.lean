/- THE WALK of the program's WireFeed: it tells what the model tells. -/
import Derived.Test.YtiaphaghjklhaaaHearB
import Derived.Test.YtiaphaghjklhaaaFeed
import Derived.WalkKit
import Derived.WalkSpells
import Derived.Outline
import Derived.Below
namespace Go.Proofs.Ytiaphaghjklhaaa
open Go.RowKit
set_option linter.unusedVariables false
set_option linter.unusedSimpArgs false

set_option maxRecDepth 100000 in
set_option maxHeartbeats 1600000 in
theorem wireFeed_any (i e d : Bool) (b t : ByteArray) (w : World) (hb : b.size ≤ maxLen) (ht : t.size ≤ maxLen) :
    Calls Try.prog 20 #[.agg #[.bool i, .bool e, .bool d, .string b], .string t] w fun x w' => ∃ v, x = .returned (foV (feedR (wrOf i e d b) t) v) ∧ OwnS w' w.heap.size v ((feedR (wrOf i e d b) t).2.1.map bytesOf) ∧ Below w.heap.size w w' := by
  have ht' := ht
  unfold maxLen at ht'
  unfold feedR
  by_cases h1 : 8000 < t.size
  · rw [if_pos h1]
    go_enter Try.func20, Try.ntmps20
    go_wp2
    exact bodyPost_ret (v := foV (zeroW, [], 2) (.slice none 0 0)) (by simp [results, Try.results20, go_sem, foV, zeroW]; rfl) rfl ⟨_, rfl, OwnS.nil _ _, by
      repeat (first | exact Below.refl _ _ | refine Below.setCell ?_ (by simp <;> omega) _ | refine Below.alloc ?_ (by simp <;> omega) _)⟩
  rw [if_neg h1]
  have HR : Hid _ := fun w => wireRight_any i e d b w hb
  rw [← right_eq] at HR
  by_cases h2 : (wrOf i e d b).right = false
  · rw [if_pos h2]
    rw [h2] at HR
    clear h2
    go_enter Try.func20, Try.ntmps20
    go_wp2_with (go_at_call 28; refine (HR.out _).mono ?_; rintro e' w1 ⟨rfl, hb1⟩; obtain ⟨hc1, hf1⟩ := bcellF hb1)
    exact bodyPost_ret (v := foV (zeroW, [], 1) (.slice none 0 0)) (by simp [results, Try.results20, go_sem, foV, zeroW, hc1]; rfl) rfl ⟨_, rfl, OwnS.nil _ _, by
      repeat (refine Below.setCell ?_ (by simp <;> omega) _)
      exact ((((Below.refl w.heap.size w).alloc (Nat.le_refl _) _).alloc (by simp) _).trans (hb1.mono (by simp <;> omega)))⟩
  rw [if_neg h2]
  have h2' : (wrOf i e d b).right = true := by simpa using h2
  rw [h2'] at HR
  have h62 : b.size ≤ 62 := by have := right_len h2'; simpa [wrOf, list_length] using this
  have HB : Hid _ := fun w => hearBytes_any i e d b t w h2' h62 (by omega)
  clear h2 h2' hb
  obtain ⟨y, hy⟩ : ∃ y, Hid ((wrOf i e d b).feed t.data.toList = y) := ⟨_, show _ = _ from rfl⟩
  obtain ⟨fs, hfs⟩ : ∃ fs, Hid ((wrOf i e d b).feeds t.data.toList = fs) := ⟨_, show _ = _ from rfl⟩
  have HB' : Hid (∀ W, Calls Try.prog 66 #[.agg #[.bool i, .bool e, .bool d, .string b], .string t] W fun x w' => ∃ v, x = .returned (.tuple #[.agg #[.bool y.inn, .bool y.esc, .bool y.bad, .string (bytesOf y.buf)], v]) ∧ OwnS w' W.heap.size v (fs.map bytesOf) ∧ Below W.heap.size W w') := by
    intro W
    have := HB.out W
    unfold PH at this
    rw [hy.out, hfs.out] at this
    exact this
  rw [hy.out, hfs.out]
  clear HB
  go_enter Try.func20, Try.ntmps20
  go_wp2_with (first | (go_at_call 28; refine (HR.out _).mono ?_; rintro e' w1 ⟨rfl, hb1⟩; obtain ⟨hc1, hf1⟩ := bcellF hb1) | (go_at_call 66; refine (HB'.out _).mono ?_; rintro e' w2 ⟨v, rfl, ho2, hb2⟩; have hS := keepB hb1 (Nat.le_refl _) hb2; obtain ⟨hc2, hf2⟩ := bcellF hS; obtain ⟨p, cap, rfl⟩ := ho2.shape; have hz2 : w.heap.size + 1 < w2.heap.size := (by have := hS.size; simp at this; omega)))
  have hB2 : Below w.heap.size w w2 := (((Below.refl w.heap.size w).alloc (Nat.le_refl _) _).alloc (by simp) _).trans (hS.mono (by simp <;> omega))
  have hz1 : w.heap.size + 1 < w1.heap.size := by have := hb1.size; simp at this; omega
  refine bodyPost_ret (v := foV (y, fs, 0) (.slice p (fs.map bytesOf).length cap)) (by simp [results, Try.results20, go_sem, foV, hc2, hz2]) rfl ⟨.slice p (fs.map bytesOf).length cap, rfl, ?_, ?_⟩
  · refine OwnS.monoH (base := w1.heap.size) ?_ (by omega)
    refine ho2.keptH fun g h1 h2 => ?_
    have hne : g ≠ w.heap.size + 1 := by omega
    rw [heap_alloc_old _ _ (by simp [World.setCell]; omega)]
    rw [Below.heap_setCell _ _ _ _ hne, Below.heap_setCell _ _ _ _ hne, Below.heap_setCell _ _ _ _ hne, Below.heap_setCell _ _ _ _ hne, Below.heap_setCell _ _ _ _ hne, Below.heap_setCell _ _ _ _ hne]
  · refine Below.alloc ?_ (by have := hB2.size; simp [World.setCell]; omega) _
    repeat (refine Below.setCell ?_ (by simp <;> omega) _)
    exact hB2
end Go.Proofs.Ytiaphaghjklhaaa
