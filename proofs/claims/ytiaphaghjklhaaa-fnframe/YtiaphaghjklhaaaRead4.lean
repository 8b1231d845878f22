/- THE WALK of the program's FrameRead: it tells of a text what the model tells. -/
import Derived.Test.YtiaphaghjklhaaaRead3
import Derived.WalkKit
import Derived.WalkSpells
import Derived.Outline
import Derived.Below
namespace Go.Proofs.Ytiaphaghjklhaaa
open Go.RowKit
set_option linter.unusedVariables false
set_option linter.unusedSimpArgs false

def innerB (s : ByteArray) : ByteArray := s.extract 1 (s.size - 1)
theorem innerB_list (s : ByteArray) : (innerB s).data.toList = innerL s.data.toList := by
  unfold innerB innerL
  rw [Lib.extract_data, list_length]
  congr 1
theorem innerB_size (s : ByteArray) : (innerB s).size = s.size - 2 := by
  rw [← list_length, innerB_list, innerL_length, list_length]
def lastB (s : ByteArray) : UInt8 := s.data.toList.getLastD 0
theorem head_at (s : ByteArray) (h : 0 < s.size) : s.data.toList.head? = some s[0] := by
  rw [List.head?_eq_getElem?, List.getElem?_eq_getElem (by simpa using h)]; rfl
theorem last_at (s : ByteArray) (h : 0 < s.size) : s.data.toList.getLast? = some (s[s.size - 1]'(by omega)) := by
  rw [List.getLast?_eq_getElem?, list_length, List.getElem?_eq_getElem (by simp; omega)]; rfl
theorem rdV_P (s : ByteArray) {x : List UInt8} {c : Int} {t : ByteArray} (h : readP s.data.toList = (x, c)) (ht : bytesOf x = t) : rdV s = textOutF t 0 c := rd_of (by rw [← readP_eq]; exact h) ht
theorem readP_flags (s : ByteArray) (h8 : ¬ 8000 < s.size) (h : s.data.toList.length < 2 ∨ s.data.toList.head? ≠ some 126 ∨ s.data.toList.getLast? ≠ some 126) : rdV s = textOutF ByteArray.empty 0 3 := by
  refine rdV_P s (x := []) (c := 3) ?_ rfl
  unfold readP
  rw [if_neg (by rw [list_length]; exact h8), if_pos h]
theorem readP_in (s : ByteArray) (h8 : ¬ 8000 < s.size) (h : 2 ≤ s.size) (h1 : s.data.toList.head? = some 126) (h2 : s.data.toList.getLast? = some 126) :
    (unV (innerB s) = .tuple #[.string ByteArray.empty, .bool false] ∧ rdV s = textOutF ByteArray.empty 0 3) ∨
    ∃ P : ByteArray, P.size ≤ 8000 ∧ unV (innerB s) = .tuple #[.string P, .bool true] ∧ ((P.size < 3 ∨ 62 < P.size) → rdV s = textOutF ByteArray.empty 0 3) ∧
      (3 ≤ P.size → P.size ≤ 62 → (checkB (headB P) ≠ tailB P → rdV s = textOutF ByteArray.empty 0 5) ∧ (checkB (headB P) = tailB P → rdV s = textOutF (headB P) 0 0)) := by
  have hq : ¬ (s.data.toList.length < 2 ∨ s.data.toList.head? ≠ some 126 ∨ s.data.toList.getLast? ≠ some 126) := by
    rw [h1, h2, list_length]; simp; omega
  have hrp : ∀ r, (match unT (innerL s.data.toList) with
    | none => (([], 3) : List UInt8 × Int)
    | some p => if p.length < 3 ∨ 62 < p.length then ([], 3) else if checkL (p.take (p.length - 2)) ≠ p.drop (p.length - 2) then ([], 5) else (p.take (p.length - 2), 0)) = r → readP s.data.toList = r := by
    intro r hr
    unfold readP
    rw [if_neg (by rw [list_length]; exact h8), if_neg hq]
    exact hr
  unfold unV
  rw [innerB_list]
  cases hu : unT (innerL s.data.toList) with
  | none => rw [hu] at hrp; exact .inl ⟨rfl, rdV_P s (hrp _ rfl) rfl⟩
  | some p =>
    rw [hu] at hrp
    have hlen : p.length ≤ 8000 := by
      have e := esc_unT _ _ hu
      have h3 := (escL_length p).1
      rw [e, innerL_length, list_length] at h3
      omega
    refine .inr ⟨bytesOf p, by rw [bytesOf_size]; exact hlen, rfl, ?_, ?_⟩
    · intro hc
      rw [bytesOf_size] at hc
      exact rdV_P s (hrp _ (if_pos hc)) rfl
    · intro c1 c2
      rw [bytesOf_size] at c1 c2
      have hci := check_iff (bytesOf p)
      rw [bytesOf_list] at hci
      constructor
      · intro hk
        exact rdV_P s (hrp _ ((if_neg (by omega)).trans (if_pos (fun e => hk (hci.2 e))))) rfl
      · intro hk
        refine rdV_P s (hrp _ ((if_neg (by omega)).trans (if_neg (fun e => e (hci.1 hk))))) ?_
        rw [bytes_ext, bytesOf_list, headB_list, bytesOf_list]
theorem slice_inner (s : ByteArray) (h : 2 ≤ s.size) (w : World) : (Instr.slice 9 (.string s) (some (.int .i64 1)) (some (.int .i64 ((s.size : Int) - 1))) none).run Try.prog w = .ok (.string (innerB s)) w := by
  rw [run_slice_string_if w 9 s .i64 .i64 1 ((s.size : Int) - 1) Try.underlying9, if_pos (by omega)]
  unfold innerB
  have e : ((s.size : Int) - 1).toNat = s.size - 1 := by omega
  rw [e, if_pos (by omega)]
  rfl
theorem index_last (s : ByteArray) (h : 0 < s.size) (w : World) : (Instr.index 9 (.string s) (.int .i64 ((s.size : Int) - 1))).run Try.prog w = .ok (.int .u8 ((s[s.size - 1]'(by omega)).toNat : Int)) w := by
  rw [run_index_string w 9 s .i64 _ Try.underlying9, dif_pos (by omega)]
  congr 5
  omega
theorem ne_u8 (c : UInt8) (k : Nat) (hk : k < 256) : ((c.toNat : Int) != (k : Int)) = decide (c ≠ UInt8.ofNat k) := by
  rw [bne, eq_u8 c k hk, decide_not]
theorem not126 (c : UInt8) : ((c.toNat : Int) != 126) = decide (c ≠ 126) := ne_u8 c 126 (by decide)
set_option maxRecDepth 100000 in
set_option maxHeartbeats 1600000 in
theorem frameRead_any (s : ByteArray) (w : World) (hs : s.size ≤ maxLen) :
    Calls Try.prog 18 #[.string s] w fun e w' => e = .returned (rdV s) ∧ Below w.heap.size w w' := by
  unfold maxLen at hs
  by_cases h1 : 8000 < s.size
  · rw [rd_of (readL_big h1) rfl]
    go_enter Try.func18, Try.ntmps18
    go_wp2
    exact bodyPost_ret (v := textOutF ByteArray.empty 0 2) (by simp [results, Try.results18, go_sem, textOutF]; rfl) rfl ⟨rfl, (Below.refl _ _).alloc (Nat.le_refl _) _⟩
  by_cases h2 : s.size < 2
  · rw [readP_flags s h1 (.inl (by rw [list_length]; exact h2))]
    have t1 : (s.size : Int) - 1 < 1 := by omega
    go_enter Try.func18, Try.ntmps18
    go_wp2
    exact bodyPost_ret (v := textOutF ByteArray.empty 0 3) (by simp [results, Try.results18, go_sem, textOutF]; rfl) rfl ⟨rfl, (Below.refl _ _).alloc (Nat.le_refl _) _⟩
  have t1 : ¬ (s.size : Int) - 1 < 1 := by omega
  have p0 : 0 < s.size := by omega
  have q0 := not126 s[0]
  have hh := head_at s p0
  by_cases h3 : s[0] = 126
  · simp only [h3, ne_eq, not_true_eq_false, decide_false] at q0
    rw [h3] at hh
    rw [← h3] at q0
    clear h3
    have hl := last_at s p0
    have ix := index_last s p0
    have q1 := not126 (s[s.size - 1]'(by omega))
    generalize s[s.size - 1]'(by omega) = z at hl ix q1
    by_cases h4 : z = 126
    · subst h4
      have sl := slice_inner s (by omega)
      have HU : Hid _ := fun w => unescapeText_any (innerB s) w (by rw [innerB_size]; omega)
      have hin := readP_in s h1 (by omega) hh hl
      generalize innerB s = I at sl HU hin
      generalize rdV s = R at hin ⊢
      rcases hin with ⟨hu, rfl⟩ | ⟨P, hp8, hu, R1, R2⟩
      · rw [hu] at HU
        clear hu hh hl
        go_enter Try.func18, Try.ntmps18
        go_wp2_with (go_at_call 62; refine (HU.out _).mono ?_; rintro e w1 ⟨rfl, hb1⟩; obtain ⟨hc1, hf1⟩ := bcellF hb1; have hz1 : w.heap.size < w1.heap.size := (by have := hb1.size; simp at this; omega))
        exact bodyPost_ret (v := textOutF ByteArray.empty 0 3) (by simp [results, Try.results18, go_sem, textOutF, hc1, hz1]; rfl) rfl ⟨rfl, ((((((Below.refl _ _).alloc (Nat.le_refl _) _).trans (hb1.mono (by simp))).setCell (by simp) _).setCell (by simp) _).setCell (by simp) _)⟩
      · rw [hu] at HU
        have HC : Hid _ := fun w => checkedBody_any P w hp8
        clear hu hh hl
        by_cases a1 : P.size < 3
        · rw [R1 (.inl a1)]
          clear R1 R2
          go_enter Try.func18, Try.ntmps18
          go_wp2_with (go_at_call 62; refine (HU.out _).mono ?_; rintro e w1 ⟨rfl, hb1⟩; obtain ⟨hc1, hf1⟩ := bcellF hb1; have hz1 : w.heap.size < w1.heap.size := (by have := hb1.size; simp at this; omega))
          exact bodyPost_ret (v := textOutF ByteArray.empty 0 3) (by simp [results, Try.results18, go_sem, textOutF, hc1, hz1]; rfl) rfl ⟨rfl, ((((((Below.refl _ _).alloc (Nat.le_refl _) _).trans (hb1.mono (by simp))).setCell (by simp) _).setCell (by simp) _).setCell (by simp) _)⟩
        by_cases a2 : 62 < P.size
        · rw [R1 (.inr a2)]
          clear R1 R2
          go_enter Try.func18, Try.ntmps18
          go_wp2_with (go_at_call 62; refine (HU.out _).mono ?_; rintro e w1 ⟨rfl, hb1⟩; obtain ⟨hc1, hf1⟩ := bcellF hb1; have hz1 : w.heap.size < w1.heap.size := (by have := hb1.size; simp at this; omega))
          exact bodyPost_ret (v := textOutF ByteArray.empty 0 3) (by simp [results, Try.results18, go_sem, textOutF, hc1, hz1]; rfl) rfl ⟨rfl, ((((((Below.refl _ _).alloc (Nat.le_refl _) _).trans (hb1.mono (by simp))).setCell (by simp) _).setCell (by simp) _).setCell (by simp) _)⟩
        obtain ⟨R3, R4⟩ := R2 (by omega) (by omega)
        clear R1 R2
        by_cases h5 : checkB (headB P) = tailB P
        · rw [R4 h5]
          have hv : chkV P = .tuple #[.string (headB P), .bool true] := by unfold chkV; rw [if_pos ⟨by omega, h5⟩]
          rw [hv] at HC
          clear R3 R4 h5 hv
          generalize headB P = t at HC ⊢
          go_enter Try.func18, Try.ntmps18
          go_wp2_with (first | (go_at_call 62; refine (HU.out _).mono ?_; rintro e w1 ⟨rfl, hb1⟩) | (go_at_call 63; refine (HC.out _).mono ?_; rintro e w2 ⟨rfl, hb2⟩; have hS := keepB hb1 (Nat.le_refl _) hb2; obtain ⟨hc1, hf1⟩ := bcellF hS; have hz1 : w.heap.size < w2.heap.size := (by have := hS.size; simp at this; omega)))
          exact bodyPost_ret (v := textOutF t 0 0) (by simp [results, Try.results18, go_sem, textOutF, hc1, hz1]) rfl ⟨rfl, ((((((Below.refl _ _).alloc (Nat.le_refl _) _).trans (hS.mono (by simp))).setCell (by simp) _).setCell (by simp) _).setCell (by simp) _)⟩
        · rw [R3 h5]
          have hv : chkV P = .tuple #[.string ByteArray.empty, .bool false] := by unfold chkV; rw [if_neg (fun h => h5 h.2)]
          rw [hv] at HC
          clear R3 R4 h5 hv
          go_enter Try.func18, Try.ntmps18
          go_wp2_with (first | (go_at_call 62; refine (HU.out _).mono ?_; rintro e w1 ⟨rfl, hb1⟩) | (go_at_call 63; refine (HC.out _).mono ?_; rintro e w2 ⟨rfl, hb2⟩; have hS := keepB hb1 (Nat.le_refl _) hb2; obtain ⟨hc1, hf1⟩ := bcellF hS; have hz1 : w.heap.size < w2.heap.size := (by have := hS.size; simp at this; omega)))
          exact bodyPost_ret (v := textOutF ByteArray.empty 0 5) (by simp [results, Try.results18, go_sem, textOutF, hc1, hz1]; rfl) rfl ⟨rfl, ((((((Below.refl _ _).alloc (Nat.le_refl _) _).trans (hS.mono (by simp))).setCell (by simp) _).setCell (by simp) _).setCell (by simp) _)⟩
    · rw [readP_flags s h1 (.inr (.inr (by rw [hl]; simpa using h4)))]
      simp only [ne_eq, h4, not_false_eq_true, decide_true] at q1
      clear hh hl h4
      go_enter Try.func18, Try.ntmps18
      go_wp2
      exact bodyPost_ret (v := textOutF ByteArray.empty 0 3) (by simp [results, Try.results18, go_sem, textOutF]; rfl) rfl ⟨rfl, (Below.refl _ _).alloc (Nat.le_refl _) _⟩
  · rw [readP_flags s h1 (.inr (.inl (by rw [hh]; simpa using h3)))]
    simp only [ne_eq, h3, not_false_eq_true, decide_true] at q0
    clear hh h3
    go_enter Try.func18, Try.ntmps18
    go_wp2
    exact bodyPost_ret (v := textOutF ByteArray.empty 0 3) (by simp [results, Try.results18, go_sem, textOutF]; rfl) rfl ⟨rfl, (Below.refl _ _).alloc (Nat.le_refl _) _⟩
theorem rdV_form (s : ByteArray) : ∃ t n c, rdV s = textOutF t n c := ⟨_, _, _, rfl⟩
end Go.Proofs.Ytiaphaghjklhaaa
