/- THE WALKS of FrameRead, the program's and the model's: both tell the same of a text. -/
import Derived.Test.YtiaphaghjklhaaaRead2
import Derived.WalkKit
import Derived.WalkSpells
import Derived.Outline
import Derived.Below
import Derived.Deep.RegionHeld3
namespace Go.Proofs.Ytiaphaghjklhaaa
open Go.RowKit
set_option linter.unusedVariables false
set_option linter.unusedSimpArgs false

theorem unescL_length (l : List UInt8) : (unescL l).length ≤ l.length := by
  induction l using unescL.induct with
  | case1 => simp [unescL]
  | case2 c => simp [unescL]
  | case3 d l ih => rw [unescL_turned]; simp only [List.length_cons]; omega
  | case4 c d l h ih => rw [unescL_plain c _ h]; simp only [List.length_cons] at ih ⊢; omega
theorem rd_of {s : ByteArray} {x : List UInt8} {c : Int} {t : ByteArray} (h : readL s.data.toList = (x, c)) (ht : bytesOf x = t) : rdV s = textOutF t 0 c := by
  unfold rdV; rw [h, ht]
theorem readL_big {s : ByteArray} (h : 8000 < s.size) : readL s.data.toList = ([], 2) := by
  unfold readL; rw [if_pos (by rw [list_length]; exact h)]
theorem readL_cases (s : ByteArray) (h : ¬ 8000 < s.size) (P : ByteArray) (hP : unescL (innerL s.data.toList) = P.data.toList) :
    ((P.size < 3 ∨ 62 < P.size ∨ bytesOf (frameL P.data.toList) ≠ s) → rdV s = textOutF ByteArray.empty 0 3) ∧
    (3 ≤ P.size → P.size ≤ 62 → bytesOf (frameL P.data.toList) = s → (checkB (headB P) ≠ tailB P → rdV s = textOutF ByteArray.empty 0 5) ∧ (checkB (headB P) = tailB P → rdV s = textOutF (headB P) 0 0)) := by
  have hf : bytesOf (frameL P.data.toList) = s ↔ frameL P.data.toList = s.data.toList := by rw [bytes_ext, bytesOf_list]
  constructor
  · intro hc
    refine rd_of (x := []) (c := 3) ?_ rfl
    unfold readL
    rw [if_neg (by rw [list_length]; exact h), hP, if_pos (by rw [list_length]; rw [ne_eq, hf] at hc; exact hc)]
  · intro h1 h2 h3
    have hq : ¬ (P.data.toList.length < 3 ∨ 62 < P.data.toList.length ∨ frameL P.data.toList ≠ s.data.toList) := by
      rw [list_length]
      rintro (q | q | q)
      · omega
      · omega
      · exact q (hf.1 h3)
    constructor
    · intro hk
      refine rd_of (x := []) (c := 5) ?_ rfl
      unfold readL
      rw [if_neg (by rw [list_length]; exact h), hP, if_neg hq, if_pos (fun e => hk ((check_iff P).2 e))]
    · intro hk
      refine rd_of (x := P.data.toList.take (P.data.toList.length - 2)) (c := 0) ?_ (by rw [bytes_ext, bytesOf_list, headB_list])
      unfold readL
      rw [if_neg (by rw [list_length]; exact h), hP, if_neg hq, if_neg (fun e => e ((check_iff P).1 hk))]

set_option maxRecDepth 100000 in
set_option maxHeartbeats 1600000 in
theorem specFrameRead_any (s : ByteArray) (w : World) (hs : s.size ≤ maxLen) :
    Calls Try.prog 23 #[.string s] w fun e w' => e = .returned (rdV s) ∧ Below w.heap.size w w' := by
  unfold maxLen at hs
  by_cases h1 : 8000 < s.size
  · rw [rd_of (readL_big h1) rfl]
    go_enter Try.func23, Try.ntmps23
    go_wp2
    exact bodyPost_ret (v := textOutF ByteArray.empty 0 2) (by simp [results, Try.results23, go_sem, textOutF]; rfl) rfl ⟨rfl, (Below.refl _ _).alloc (Nat.le_refl _) _⟩
  have HP : Hid _ := fun w => l02Plain_any s w (by omega)
  have hpl : (unescL (innerL s.data.toList)).length ≤ 8000 := by
    have := unescL_length (innerL s.data.toList)
    rw [innerL_length, list_length] at this
    omega
  have HRC : Hid _ := readL_cases s h1
  generalize unescL (innerL s.data.toList) = p at HP hpl HRC
  obtain ⟨P, HPP⟩ : ∃ P, Hid (bytesOf p = P) := ⟨_, show _ = _ from rfl⟩
  obtain rfl : p = P.data.toList := by rw [← HPP.out, bytesOf_list]
  rw [bytesOf_data] at HP
  rw [list_length] at hpl
  obtain ⟨R1, R2⟩ := HRC.out P rfl
  clear HRC HPP
  have HF : Hid _ := fun w => l02Frame_any P w (by omega)
  generalize bytesOf (frameL P.data.toList) = F at HF R1 R2
  generalize rdV s = R at R1 R2 ⊢
  by_cases a1 : P.size < 3
  · rw [R1 (.inl a1)]
    have t1 : (P.size : Int) - 2 < 1 := by omega
    clear R1 R2
    go_enter Try.func23, Try.ntmps23
    go_wp2_with (go_at_call 70; refine (HP.out _).mono ?_; rintro e w1 ⟨rfl, hb1⟩; obtain ⟨hc1, hf1⟩ := bcellF hb1; have hz1 : w.heap.size < w1.heap.size := (by have := hb1.size; simp at this; omega))
    exact bodyPost_ret (v := textOutF ByteArray.empty 0 3) (by simp [results, Try.results23, go_sem, textOutF, hc1, hz1]; rfl) rfl ⟨rfl, ((((((Below.refl _ _).alloc (Nat.le_refl _) _).trans (hb1.mono (by simp))).setCell (by simp) _).setCell (by simp) _).setCell (by simp) _)⟩
  have t1 : ¬ (P.size : Int) - 2 < 1 := by omega
  by_cases a2 : 62 < P.size
  · rw [R1 (.inr (.inl a2))]
    have t2 : 60 < (P.size : Int) - 2 := by omega
    clear R1 R2
    go_enter Try.func23, Try.ntmps23
    go_wp2_with (go_at_call 70; refine (HP.out _).mono ?_; rintro e w1 ⟨rfl, hb1⟩; obtain ⟨hc1, hf1⟩ := bcellF hb1; have hz1 : w.heap.size < w1.heap.size := (by have := hb1.size; simp at this; omega))
    exact bodyPost_ret (v := textOutF ByteArray.empty 0 3) (by simp [results, Try.results23, go_sem, textOutF, hc1, hz1]; rfl) rfl ⟨rfl, ((((((Below.refl _ _).alloc (Nat.le_refl _) _).trans (hb1.mono (by simp))).setCell (by simp) _).setCell (by simp) _).setCell (by simp) _)⟩
  have t2 : ¬ 60 < (P.size : Int) - 2 := by omega
  by_cases a3 : F = s
  · have e0 := beqF_yes a3
    obtain ⟨R3, R4⟩ := R2 (by omega) (by omega) a3
    clear R1 R2 a3
    have s1 := slice_head P (by omega)
    have s2 := slice_tail P (by omega)
    have HK : Hid _ := fun w => l02Check_any (headB P) w (by rw [headB_size]; unfold maxLen; omega)
    generalize headB P = t at HK s1 R3 R4
    generalize tailB P = u at s2 R3 R4
    generalize checkB t = K at HK R3 R4
    by_cases h3 : K = u
    · rw [R4 h3]
      have e1 := beqF_yes h3
      clear h3 R3 R4
      go_enter Try.func23, Try.ntmps23
      go_wp2_with (first | (go_at_call 70; refine (HP.out _).mono ?_; rintro e w1 ⟨rfl, hb1⟩) | (go_at_call 68; refine (HF.out _).mono ?_; rintro e w2 ⟨rfl, hb2⟩))
      have hS2 := keepB hb1 (Nat.le_refl _) hb2
      go_region_held3 (fun w' => Below (w.heap.size + 1) (w.alloc (.cells #[.string ⟨#[]⟩, .int .i64 0, .int .i64 0] 27)) w') (first | assumption | exact (Below.drew (hS2.mono (by simp))) | exact keepB (by assumption) (by simp) hb3) (first | (go_at_call 69; refine (HK.out _).mono ?_; rintro e w3 ⟨rfl, hb3⟩))
      have hS : Below (w.heap.size + 1) (w.alloc (.cells #[.string ⟨#[]⟩, .int .i64 0, .int .i64 0] 27)) w3 := by assumption
      obtain ⟨hc1, hf1⟩ := bcellF hS
      go_wp2
      exact bodyPost_ret (v := textOutF t 0 0) (by simp [results, Try.results23, go_sem, textOutF, hc1]) rfl ⟨rfl, ((((((Below.refl _ _).alloc (Nat.le_refl _) _).trans (hS.mono (by simp))).setCell (by simp) _).setCell (by simp) _).setCell (by simp) _)⟩
    · rw [R3 h3]
      have e1 := beqF_no h3
      clear h3 R3 R4
      go_enter Try.func23, Try.ntmps23
      go_wp2_with (first | (go_at_call 70; refine (HP.out _).mono ?_; rintro e w1 ⟨rfl, hb1⟩) | (go_at_call 68; refine (HF.out _).mono ?_; rintro e w2 ⟨rfl, hb2⟩))
      have hS2 := keepB hb1 (Nat.le_refl _) hb2
      go_region_held3 (fun w' => Below (w.heap.size + 1) (w.alloc (.cells #[.string ⟨#[]⟩, .int .i64 0, .int .i64 0] 27)) w') (first | assumption | exact (Below.drew (hS2.mono (by simp))) | exact keepB (by assumption) (by simp) hb3) (first | (go_at_call 69; refine (HK.out _).mono ?_; rintro e w3 ⟨rfl, hb3⟩))
      have hS : Below (w.heap.size + 1) (w.alloc (.cells #[.string ⟨#[]⟩, .int .i64 0, .int .i64 0] 27)) w3 := by assumption
      obtain ⟨hc1, hf1⟩ := bcellF hS
      go_wp2
      exact bodyPost_ret (v := textOutF ByteArray.empty 0 5) (by simp [results, Try.results23, go_sem, textOutF, hc1]; rfl) rfl ⟨rfl, ((((((Below.refl _ _).alloc (Nat.le_refl _) _).trans (hS.mono (by simp))).setCell (by simp) _).setCell (by simp) _).setCell (by simp) _)⟩
  · rw [R1 (.inr (.inr a3))]
    have e0 := beqF_no a3
    clear R1 R2 a3
    go_enter Try.func23, Try.ntmps23
    go_wp2_with (first | (go_at_call 70; refine (HP.out _).mono ?_; rintro e w1 ⟨rfl, hb1⟩) | (go_at_call 68; refine (HF.out _).mono ?_; rintro e w2 ⟨rfl, hb2⟩; have hS := keepB hb1 (Nat.le_refl _) hb2; obtain ⟨hc1, hf1⟩ := bcellF hS; have hz1 : w.heap.size < w2.heap.size := (by have := hS.size; simp at this; omega)))
    exact bodyPost_ret (v := textOutF ByteArray.empty 0 3) (by simp [results, Try.results23, go_sem, textOutF, hc1, hz1]; rfl) rfl ⟨rfl, ((((((Below.refl _ _).alloc (Nat.le_refl _) _).trans (hS.mono (by simp))).setCell (by simp) _).setCell (by simp) _).setCell (by simp) _)⟩
end Go.Proofs.Ytiaphaghjklhaaa
