/- A RIGHT QUESTION comes back from its bytes. -/
import Derived.Test.YtfpibedloodjlaaPlainAsk
namespace Go.Proofs.Ytfpibedloodjlaa
open Go.RowKit
set_option linter.unusedVariables false
set_option linter.unusedSimpArgs false

theorem byteAt_list (l : List UInt8) (i : Nat) : byteAt ⟨l.toArray⟩ i = (l.getD i 0).toNat := rfl
theorem byteAt_pre (pre l : List UInt8) (i : Nat) : byteAt ⟨(pre ++ l).toArray⟩ (pre.length + i) = byteAt ⟨l.toArray⟩ i := by
  rw [byteAt_list, byteAt_list, List.getD_eq_getElem?_getD, List.getD_eq_getElem?_getD, List.getElem?_append_right (by omega), Nat.add_sub_cancel_left]
theorem wordB_iff (n : Int) : wordB n = true ↔ 0 ≤ n ∧ n ≤ 65535 := by unfold wordB; simp
theorem two_back {n : Int} (h : 0 ≤ n ∧ n ≤ 65535) : 256 * (UInt8.ofNat (n.toNat / 256)).toNat + (UInt8.ofNat (n.toNat % 256)).toNat = n.toNat := by
  simp only [UInt8.toNat_ofNat']
  omega
theorem wordAt_two (pre l : List UInt8) {n : Int} (h : 0 ≤ n ∧ n ≤ 65535) : wordAt ⟨(pre ++ (twoL n ++ l)).toArray⟩ pre.length = n := by
  unfold wordAt
  have e0 := byteAt_pre pre (twoL n ++ l) 0
  have e1 := byteAt_pre pre (twoL n ++ l) 1
  rw [Nat.add_zero] at e0
  rw [e0, e1, byteAt_list, byteAt_list]
  have := two_back h
  simp only [twoL, List.cons_append, List.getD_cons_zero, List.getD_cons_succ]
  rw [this]
  omega
theorem bitsAt_pre (pre l : List UInt8) (m : Nat) : bitsAt ⟨(pre ++ l).toArray⟩ pre.length m = unpackL ⟨l.toArray⟩ m := by
  unfold bitsAt unpackL
  apply List.map_congr_left
  intro i _
  rw [byteAt_pre]
theorem wordsAt_words (pre : List UInt8) (vs : List Int) (h : vs.all wordB = true) : wordsAt ⟨(pre ++ wordsL vs).toArray⟩ pre.length vs.length = vs := by
  induction vs generalizing pre with
  | nil => rfl
  | cons n vs ih =>
    rw [List.all_cons, Bool.and_eq_true] at h
    have e := ih (pre ++ twoL n) h.2
    have e1 : wordsL (n :: vs) = twoL n ++ wordsL vs := by simp [wordsL]
    have e2 := wordAt_two pre (wordsL vs) ((wordB_iff n).1 h.1)
    rw [List.append_assoc, ← e1] at e
    rw [← e1] at e2
    generalize (⟨(pre ++ wordsL (n :: vs)).toArray⟩ : ByteArray) = s at e e2 ⊢
    have e3 : (pre ++ twoL n).length = pre.length + 2 := by simp [twoL]
    rw [e3] at e
    unfold wordsAt at e ⊢
    rw [List.length_cons, List.range_succ_eq_map, List.map_cons, List.map_map]
    congr 1
    refine Eq.trans ?_ e
    apply List.map_congr_left
    intro k _
    show wordAt s (pre.length + 2 * (k + 1)) = _
    congr 1
    omega
theorem askL_head (q : Ak) (t : List UInt8) : oneL q.c ++ (twoL q.a ++ t) = (oneL q.c ++ twoL q.a) ++ t := by rw [List.append_assoc]
theorem askL_size (q : Ak) : (⟨(askL q).toArray⟩ : ByteArray).size = 3 + q.tail.length := by
  simp [ByteArray.size, askL, oneL, twoL]
  omega
theorem Ak.ext4 {c a m c' a' m' : Int} {l l' : List Int} (h1 : c = c') (h2 : a = a') (h3 : m = m') (h4 : l = l') : (⟨c, a, m, l⟩ : Ak) = ⟨c', a', m', l'⟩ := by subst h1; subst h2; subst h3; subst h4; rfl
theorem five_le (q : Ak) (h : q.right = true) : 5 ≤ (askB q).size := by
  unfold askB
  rw [if_pos h, askL_size]
  unfold Ak.tail
  repeat' split
  all_goals simp [twoL] <;> omega
theorem read_ask (q : Ak) (h : q.right = true) : readS (askB q) = q := by
  have hc := Ak.codes h
  have hr := h
  unfold Ak.right at h
  rw [Bool.and_eq_true] at h
  have ha := (wordB_iff _).1 h.1
  have hf := h.2
  have hb : askB q = ⟨(askL q).toArray⟩ := by unfold askB; rw [if_pos hr]
  rw [hb]
  have hsz := askL_size q
  have e0 : (byteAt ⟨(askL q).toArray⟩ 0 : Int) = q.c := by
    rw [byteAt_list]
    simp [askL, oneL]
    omega
  have e1 : wordAt ⟨(askL q).toArray⟩ 1 = q.a := wordAt_two (oneL q.c) q.tail ha
  have e3 : ∀ (n : Int) (t : List UInt8), 0 ≤ n ∧ n ≤ 65535 → q.tail = twoL n ++ t → wordAt ⟨(askL q).toArray⟩ 3 = n := by
    intro n t hn ht
    have := wordAt_two (oneL q.c ++ twoL q.a) t hn
    rw [← ht, ← askL_head] at this
    exact this
  have e6 : ∀ (n : Int) (l : List UInt8), q.tail = twoL n ++ countedL l → askL q = (oneL q.c ++ (twoL q.a ++ (twoL n ++ oneL (l.length : Int)))) ++ l ∧ (oneL q.c ++ (twoL q.a ++ (twoL n ++ oneL (l.length : Int)))).length = 6 := by
    intro n l ht
    unfold askL
    rw [ht]
    exact ⟨by simp [countedL], by simp [oneL, twoL]⟩
  unfold readS
  dsimp only
  rw [e0, e1]
  obtain ⟨c, a, m, vs⟩ := q
  dsimp only at *
  rcases hc with rfl | rfl | rfl | rfl | rfl | rfl
  · simp [Ak.fit] at hf
    have := e3 m [] (by omega) (by simp [Ak.tail])
    rw [this]
    simp
    exact hf.2
  · simp [Ak.fit] at hf
    have := e3 m [] (by omega) (by simp [Ak.tail])
    rw [this]
    simp
    exact hf.2
  · simp only [Ak.fit] at hf
    obtain ⟨v, rfl⟩ : ∃ v, vs = [v] := by
      simp at hf
      match vs, hf.2.1 with
      | [v], _ => exact ⟨v, rfl⟩
    simp at hf
    have hv := (bitB_iff _).1 hf.2
    have := e3 (65280 * v) [] (by omega) (by simp [Ak.tail])
    rw [this, if_pos rfl]
    exact Ak.ext4 rfl rfl hf.1.symm (by congr 1; omega)
  · simp only [Ak.fit] at hf
    obtain ⟨v, rfl⟩ : ∃ v, vs = [v] := by
      simp at hf
      match vs, hf.2.1 with
      | [v], _ => exact ⟨v, rfl⟩
    simp at hf
    have hv := (wordB_iff _).1 hf.2
    have := e3 v [] (by omega) (by simp [Ak.tail])
    rw [this, if_neg (by decide), if_pos rfl]
    exact Ak.ext4 rfl rfl hf.1.symm rfl
  · unfold Ak.fit at hf
    dsimp only at hf
    have htl : Ak.tail ⟨15, a, m, vs⟩ = twoL m ++ countedL (packL vs) := by simp [Ak.tail]
    have hall : vs.all bitB = true := by
      rw [if_neg (by decide), if_neg (by decide), if_neg (by decide), if_neg (by decide), if_pos rfl, Bool.and_eq_true, Bool.and_eq_true, Bool.and_eq_true] at hf
      exact hf.2.2
    have hm : (1 ≤ m ∧ m ≤ 16) ∧ (vs.length : Int) = m := by
      rw [if_neg (by decide), if_neg (by decide), if_neg (by decide), if_neg (by decide), if_pos rfl, Bool.and_eq_true, Bool.and_eq_true, Bool.and_eq_true, decide_eq_true_eq, decide_eq_true_eq, decide_eq_true_eq] at hf
      exact ⟨hf.1, hf.2.1⟩
    rw [e3 m _ (by omega) htl, if_neg (by decide), if_neg (by decide), if_pos rfl]
    have hl := packL_length vs
    have ht : (Ak.tail ⟨15, a, m, vs⟩).length = 3 + (vs.length + 7) / 8 := by rw [htl]; simp [twoL, countedL, oneL, hl]; omega
    refine Ak.ext4 rfl rfl rfl ?_
    rw [hsz, ht, if_pos ⟨by omega, by omega, by omega⟩]
    obtain ⟨e7, e8⟩ := e6 m _ htl
    rw [e7]
    have := bitsAt_pre (oneL 15 ++ (twoL a ++ (twoL m ++ oneL ((packL vs).length : Int)))) (packL vs) m.toNat
    rw [e8] at this
    rw [this, show m.toNat = vs.length by omega]
    exact unpack_pack vs hall
  · unfold Ak.fit at hf
    dsimp only at hf
    have htl : Ak.tail ⟨16, a, m, vs⟩ = twoL m ++ countedL (wordsL vs) := by simp [Ak.tail]
    have hall : vs.all wordB = true := by
      rw [if_neg (by decide), if_neg (by decide), if_neg (by decide), if_neg (by decide), if_neg (by decide), if_pos rfl, Bool.and_eq_true, Bool.and_eq_true, Bool.and_eq_true] at hf
      exact hf.2.2
    have hm : (1 ≤ m ∧ m ≤ 4) ∧ (vs.length : Int) = m := by
      rw [if_neg (by decide), if_neg (by decide), if_neg (by decide), if_neg (by decide), if_neg (by decide), if_pos rfl, Bool.and_eq_true, Bool.and_eq_true, Bool.and_eq_true, decide_eq_true_eq, decide_eq_true_eq, decide_eq_true_eq] at hf
      exact ⟨hf.1, hf.2.1⟩
    rw [e3 m _ (by omega) htl, if_neg (by decide), if_neg (by decide), if_neg (by decide), if_pos rfl]
    have hl := wordsL_length vs
    have ht : (Ak.tail ⟨16, a, m, vs⟩).length = 3 + 2 * vs.length := by rw [htl]; simp [twoL, countedL, oneL, hl]; omega
    refine Ak.ext4 rfl rfl rfl ?_
    rw [hsz, ht, show min 7 ((3 + (3 + 2 * vs.length) - 6) / 2) = vs.length by omega]
    obtain ⟨e7, e8⟩ := e6 m _ htl
    rw [e7]
    have := wordsAt_words (oneL 16 ++ (twoL a ++ (twoL m ++ oneL ((wordsL vs).length : Int)))) vs hall
    rw [e8] at this
    exact this
end Go.Proofs.Ytfpibedloodjlaa
