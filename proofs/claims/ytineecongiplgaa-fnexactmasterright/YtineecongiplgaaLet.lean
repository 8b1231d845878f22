/- LETTERS, the program's and the model's: LetterOf answers the seal of the number and the text, or nothing; nothing that was there turns. -/
import Derived.Test.YtineecongiplgaaProg
import Derived.Test.YtineecongiplgaaSeal
import Derived.Test.YtineecongiplgaaSt
import Derived.WalkKit
import Derived.WalkSpells
import Derived.Outline
namespace Go.Proofs.Ytineecongiplgaa
open Go.RowKit
set_option linter.unusedVariables false
set_option linter.unusedSimpArgs false

/-- what a letter may have in it -/
def bodyB (s : ByteArray) : Bool := decide (1 ≤ s.size) && decide (s.size ≤ 40)
def idB (n : Int) : Bool := decide (1 ≤ n) && decide (n ≤ 1000000)
/-- the letter, of what may be -/
def letF (n : Int) (s : ByteArray) : ByteArray := sealB (putB n ++ putT s)
/-- the letter, or nothing -/
def letB (n : Int) (s : ByteArray) : ByteArray := if idB n = true ∧ bodyB s = true then letF n s else ByteArray.empty
theorem bodyB_iff (s : ByteArray) : bodyB s = true ↔ 1 ≤ s.size ∧ s.size ≤ 40 := by unfold bodyB; simp
theorem idB_iff (n : Int) : idB n = true ↔ 1 ≤ n ∧ n ≤ 1000000 := by unfold idB; simp
theorem id_wf {n : Int} (h : idB n = true) : (Lit.int .i64 n).wf = true := by
  have := (idB_iff n).1 h
  simp [Lit.wf, IntKind.min, IntKind.max, IntKind.signed, IntKind.bits]; omega
theorem putT_le {s : ByteArray} (h : s.size ≤ 40) : (putT s).size ≤ 50 := by
  unfold putT
  rw [if_neg (by omega), ByteArray.size_append]
  have := putB_le _ (wf_size (s := s) (by omega))
  omega
theorem lett_le {n : Int} {s : ByteArray} (hn : (Lit.int .i64 n).wf = true) (h : s.size ≤ 40) : (putB n ++ putT s).size ≤ 60 := by
  rw [ByteArray.size_append]
  have := putB_le _ hn
  have := putT_le h
  omega

set_option maxRecDepth 100000 in
theorem letterFits_any (s : ByteArray) (w : World) (hs : s.size ≤ maxLen) :
    Calls Try.prog 77 #[.string s] w fun e w' => e = .returned (.bool (bodyB s)) ∧ w = w' := by
  unfold maxLen at hs
  unfold bodyB
  by_cases h1 : 1 ≤ s.size
  · by_cases h2 : s.size ≤ 40
    · have e : (decide (1 ≤ s.size) && decide (s.size ≤ 40)) = true := by simp [h1, h2]
      rw [e]
      go_enter Try.func77, Try.ntmps77
      go_wp2
      go_ret
      exact ⟨by simp [h1]; omega, rfl⟩
    · have e : (decide (1 ≤ s.size) && decide (s.size ≤ 40)) = false := by simp [h2]
      rw [e]
      go_enter Try.func77, Try.ntmps77
      go_wp2
      go_ret
      exact ⟨by simp <;> omega, rfl⟩
  · have e : (decide (1 ≤ s.size) && decide (s.size ≤ 40)) = false := by simp [h1]
    rw [e]
    go_enter Try.func77, Try.ntmps77
    go_wp2
    go_ret
    exact ⟨by simp <;> omega, rfl⟩
set_option maxRecDepth 100000 in
theorem l09Body_any (s : ByteArray) (w : World) (hs : s.size ≤ maxLen) :
    Calls Try.prog 73 #[.string s] w fun e w' => e = .returned (.bool (bodyB s)) ∧ w = w' := by
  unfold maxLen at hs
  unfold bodyB
  by_cases h1 : 1 ≤ s.size
  · by_cases h2 : s.size ≤ 40
    · have e : (decide (1 ≤ s.size) && decide (s.size ≤ 40)) = true := by simp [h1, h2]
      rw [e]
      go_enter Try.func73, Try.ntmps73
      go_wp2
      go_ret
      exact ⟨by simp [h1]; omega, rfl⟩
    · have e : (decide (1 ≤ s.size) && decide (s.size ≤ 40)) = false := by simp [h2]
      rw [e]
      go_enter Try.func73, Try.ntmps73
      go_wp2
      go_ret
      exact ⟨by simp <;> omega, rfl⟩
  · have e : (decide (1 ≤ s.size) && decide (s.size ≤ 40)) = false := by simp [h1]
    rw [e]
    go_enter Try.func73, Try.ntmps73
    go_wp2
    go_ret
    exact ⟨by simp <;> omega, rfl⟩
set_option maxRecDepth 100000 in
theorem l09Id_any (n : Int) (w : World) :
    Calls Try.prog 59 #[.int .i64 n] w fun e w' => e = .returned (.bool (idB n)) ∧ w = w' := by
  unfold idB
  have H : Hid (∀ W, Calls Try.prog 61 #[.int .i64 n, .int .i64 1, .int .i64 1000000] W fun e w' => e = .returned (.bool (decide (1 ≤ n) && decide (n ≤ 1000000))) ∧ W = w') := fun W => l02Is_any n 1 1000000 W
  generalize (decide (1 ≤ n) && decide (n ≤ 1000000)) = R at H ⊢
  go_enter Try.func59, Try.ntmps59
  go_wp2_with (go_at_call 61; refine (H.out _).mono ?_; rintro e w1 ⟨rfl, rfl⟩)
  go_ret
  exact ⟨rfl, rfl⟩

set_option maxRecDepth 100000 in
set_option maxHeartbeats 800000 in
theorem letterOf_any (n : Int) (s : ByteArray) (w : World) (hs : s.size ≤ maxLen) :
    Calls Try.prog 38 #[.int .i64 n, .string s] w fun e w' => e = .returned (.string (letB n s)) ∧ Below w.heap.size w w' := by
  have HF : Hid (∀ W, Calls Try.prog 77 #[.string s] W fun e w' => e = .returned (.bool (bodyB s)) ∧ W = w') := fun W => letterFits_any s W hs
  have hb := bodyB_iff s
  have hm := hs
  unfold maxLen at hm
  unfold letB
  by_cases h1 : idB n = true
  case neg =>
    rw [if_neg (fun h => h1 h.1)]
    rw [idB_iff] at h1
    by_cases h2 : n < 1
    · go_enter Try.func38, Try.ntmps38
      go_wp2
      go_ret
      exact ⟨rfl, Below.refl _ _⟩
    · have h3 : 1000000 < n := by omega
      go_enter Try.func38, Try.ntmps38
      go_wp2
      go_ret
      exact ⟨rfl, Below.refl _ _⟩
  have hwf := id_wf h1
  have hn := (idB_iff n).1 h1
  have g1 : ¬ n < 1 := by omega
  have g2 : ¬ 1000000 < n := by omega
  cases hB : bodyB s
  · rw [if_neg (fun h => by cases h.2)]
    rw [hB] at HF
    go_enter Try.func38, Try.ntmps38
    go_wp2_with (go_at_call 77; refine (HF.out _).mono ?_; rintro e w1 ⟨rfl, rfl⟩)
    go_ret
    exact ⟨rfl, Below.refl _ _⟩
  · rw [if_pos ⟨h1, rfl⟩]
    rw [hB] at HF
    have hb2 := hb.1 hB
    have HP : Hid (∀ W, Calls Try.prog 82 #[.int .i64 n] W fun e w' => e = .returned (.string (putB n)) ∧ Below W.heap.size W w') := fun W => putNum_any n W hwf
    have HT : Hid (∀ W, Calls Try.prog 83 #[.string s] W fun e w' => e = .returned (.string (putT s)) ∧ Below W.heap.size W w') := fun W => putText_any s W hs
    have hz1 := putB_le _ hwf
    have hz2 := putT_le hb2.2
    have hz3 := lett_le hwf hb2.2
    have HS : Hid (∀ W, Calls Try.prog 80 #[.string (putB n ++ putT s)] W fun e w' => e = .returned (.string (letF n s)) ∧ Below W.heap.size W w') := fun W => seal_any _ W (by unfold maxLen; omega)
    generalize letF n s = L at HS ⊢
    generalize putB n = P1 at HP HS hz1
    generalize putT s = P2 at HT HS hz2
    clear hz3 hb hb2 hwf h1
    go_enter Try.func38, Try.ntmps38
    go_wp2_with (first
      | (go_at_call 77; refine (HF.out _).mono ?_; rintro e w1 ⟨rfl, rfl⟩)
      | (go_at_call 82; refine (HP.out _).mono ?_; rintro e w2 ⟨rfl, hb2⟩)
      | (go_at_call 83; refine (HT.out _).mono ?_; rintro e w3 ⟨rfl, hb3⟩)
      | (go_at_call 81; refine (join_two P1 P2 _ (by omega) (by omega)).mono ?_; rintro e w4 ⟨rfl, hb4⟩)
      | (go_at_call 80; refine (HS.out _).mono ?_; rintro e w5 ⟨rfl, hb5⟩))
    go_ret
    exact ⟨rfl, ((hb2.trans (hb3.mono hb2.size)).trans (hb4.mono (Nat.le_trans hb2.size hb3.size))).trans (hb5.mono (Nat.le_trans (Nat.le_trans hb2.size hb3.size) hb4.size))⟩

set_option maxRecDepth 100000 in
theorem l09Letter_any (n : Int) (s : ByteArray) (w : World) (hs : s.size ≤ 40) (hwf : (Lit.int .i64 n).wf = true) :
    Calls Try.prog 79 #[.int .i64 n, .string s] w fun e w' => e = .returned (.string (letF n s)) ∧ Below w.heap.size w w' := by
  have HP : Hid (∀ W, Calls Try.prog 98 #[.int .i64 n] W fun e w' => e = .returned (.string (putB n)) ∧ Below W.heap.size W w') := fun W => specPutNum_any n W hwf
  have HT : Hid (∀ W, Calls Try.prog 99 #[.string s] W fun e w' => e = .returned (.string (putT s)) ∧ Below W.heap.size W w') := fun W => specPutText_any s W (by unfold maxLen; omega)
  have hz1 := putB_le _ hwf
  have hz2 := putT_le hs
  have hz3 := lett_le hwf hs
  have HS : Hid (∀ W, Calls Try.prog 97 #[.string (putB n ++ putT s)] W fun e w' => e = .returned (.string (letF n s)) ∧ Below W.heap.size W w') := fun W => specSeal_any _ W (by unfold maxLen; omega)
  generalize letF n s = L at HS ⊢
  generalize putB n = P1 at HP HS hz1
  generalize putT s = P2 at HT HS hz2
  clear hz3
  go_enter Try.func79, Try.ntmps79
  go_wp2_with (first
    | (go_at_call 98; refine (HP.out _).mono ?_; rintro e w2 ⟨rfl, hb2⟩)
    | (go_at_call 99; refine (HT.out _).mono ?_; rintro e w3 ⟨rfl, hb3⟩)
    | (go_at_call 97; refine (HS.out _).mono ?_; rintro e w5 ⟨rfl, hb5⟩))
  go_ret
  exact ⟨rfl, (hb2.trans (hb3.mono hb2.size)).trans (hb5.mono (Nat.le_trans hb2.size hb3.size))⟩

set_option maxRecDepth 100000 in
theorem specLetterOf_any (n : Int) (s : ByteArray) (w : World) (hs : s.size ≤ maxLen) :
    Calls Try.prog 37 #[.int .i64 n, .string s] w fun e w' => e = .returned (.string (letB n s)) ∧ Below w.heap.size w w' := by
  have HI : Hid (∀ W, Calls Try.prog 59 #[.int .i64 n] W fun e w' => e = .returned (.bool (idB n)) ∧ W = w') := fun W => l09Id_any n W
  have HF : Hid (∀ W, Calls Try.prog 73 #[.string s] W fun e w' => e = .returned (.bool (bodyB s)) ∧ W = w') := fun W => l09Body_any s W hs
  have HL : Hid (idB n = true → bodyB s = true → ∀ W, Calls Try.prog 79 #[.int .i64 n, .string s] W fun e w' => e = .returned (.string (letF n s)) ∧ Below W.heap.size W w') := fun h1 h2 W => l09Letter_any n s W ((bodyB_iff s).1 h2).2 (id_wf h1)
  unfold letB
  generalize idB n = I at HI HL ⊢
  generalize bodyB s = B at HF HL ⊢
  cases I
  · rw [if_neg (fun h => by cases h.1)]
    go_enter Try.func37, Try.ntmps37
    go_wp2_with (go_at_call 59; refine (HI.out _).mono ?_; rintro e w1 ⟨rfl, rfl⟩)
    go_ret
    exact ⟨rfl, Below.refl _ _⟩
  · cases B
    · rw [if_neg (fun h => by cases h.2)]
      go_enter Try.func37, Try.ntmps37
      go_wp2_with (first | (go_at_call 59; refine (HI.out _).mono ?_; rintro e w1 ⟨rfl, rfl⟩) | (go_at_call 73; refine (HF.out _).mono ?_; rintro e w2 ⟨rfl, rfl⟩))
      go_ret
      exact ⟨rfl, Below.refl _ _⟩
    · rw [if_pos ⟨rfl, rfl⟩]
      have HL2 : Hid (∀ W, Calls Try.prog 79 #[.int .i64 n, .string s] W fun e w' => e = .returned (.string (letF n s)) ∧ Below W.heap.size W w') := HL.out rfl rfl
      clear HL
      go_enter Try.func37, Try.ntmps37
      go_wp2_with (first | (go_at_call 59; refine (HI.out _).mono ?_; rintro e w1 ⟨rfl, rfl⟩) | (go_at_call 73; refine (HF.out _).mono ?_; rintro e w2 ⟨rfl, rfl⟩) | go_loud (go_at_call 79; refine (HL2.out _).mono ?_; rintro e w3 ⟨rfl, hb3⟩))
      go_ret
      exact ⟨rfl, hb3⟩
end Go.Proofs.Ytineecongiplgaa
