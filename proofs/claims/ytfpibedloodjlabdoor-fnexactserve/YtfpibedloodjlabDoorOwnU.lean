/- A RIGHT QUESTION comes back from its bytes. -/
import Derived.Test.YtfpibedloodjlabDoorPlainAsk
import Derived.Test.YtfpibedloodjlabDoorInts
import Derived.Test.YtfpibedloodjlabDoorProg
import Derived.WalkKit
import Derived.WalkSpells
import Derived.Below
import Derived.Laws.AppendOwn
import Derived.Lib.ConvBytes
namespace Go.Proofs.YtfpibedloodjlabDoor
open Go.RowKit
set_option linter.unusedVariables false
set_option linter.unusedSimpArgs false

theorem byteAt_list (l : List UInt8) (i : Nat) : byteAt ⟨l.toArray⟩ i = (l.getD i 0).toNat := rfl
theorem byteAt_pre (pre l : List UInt8) (i : Nat) : byteAt ⟨(pre ++ l).toArray⟩ (pre.length + i) = byteAt ⟨l.toArray⟩ i := by
  rw [byteAt_list, byteAt_list, List.getD_eq_getElem?_getD, List.getD_eq_getElem?_getD, List.getElem?_append_right (by omega), Nat.add_sub_cancel_left]
theorem wordB_iff (n : Int) : wordB n = true ↔ 0 ≤ n ∧ n ≤ 65535 := by unfold wordB; simp
theorem two_back {n : Int} (h : 0 ≤ n ∧ n ≤ 65535) : 256 * (UInt8.ofNat (n.toNat / 256)).toNat + (UInt8.ofNat (n.toNat % 256)).toNat = n.toNat := by
  simp only [UInt8.toNat_ofNat']
  omega
theorem wordAt_two (pre l : List UInt8) {n : Int} (h : 0 ≤ n ∧ n ≤ 65535) : wordAt ⟨(pre ++ (twoL n ++ l)).toArray⟩ pre.length = n := by
  unfold wordAt
  have e0 := byteAt_pre pre (twoL n ++ l) 0
  have e1 := byteAt_pre pre (twoL n ++ l) 1
  rw [Nat.add_zero] at e0
  rw [e0, e1, byteAt_list, byteAt_list]
  have := two_back h
  simp only [twoL, List.cons_append, List.getD_cons_zero, List.getD_cons_succ]
  rw [this]
  omega
theorem bitsAt_pre (pre l : List UInt8) (m : Nat) : bitsAt ⟨(pre ++ l).toArray⟩ pre.length m = unpackL ⟨l.toArray⟩ m := by
  unfold bitsAt unpackL
  apply List.map_congr_left
  intro i _
  rw [byteAt_pre]
theorem wordsAt_words (pre : List UInt8) (vs : List Int) (h : vs.all wordB = true) : wordsAt ⟨(pre ++ wordsL vs).toArray⟩ pre.length vs.length = vs := by
  induction vs generalizing pre with
  | nil => rfl
  | cons n vs ih =>
    rw [List.all_cons, Bool.and_eq_true] at h
    have e := ih (pre ++ twoL n) h.2
    have e1 : wordsL (n :: vs) = twoL n ++ wordsL vs := by simp [wordsL]
    have e2 := wordAt_two pre (wordsL vs) ((wordB_iff n).1 h.1)
    rw [List.append_assoc, ← e1] at e
    rw [← e1] at e2
    generalize (⟨(pre ++ wordsL (n :: vs)).toArray⟩ : ByteArray) = s at e e2 ⊢
    have e3 : (pre ++ twoL n).length = pre.length + 2 := by simp [twoL]
    rw [e3] at e
    unfold wordsAt at e ⊢
    rw [List.length_cons, List.range_succ_eq_map, List.map_cons, List.map_map]
    congr 1
    refine Eq.trans ?_ e
    apply List.map_congr_left
    intro k _
    show wordAt s (pre.length + 2 * (k + 1)) = _
    congr 1
    omega
theorem askL_head (q : Ak) (t : List UInt8) : oneL q.c ++ (twoL q.a ++ t) = (oneL q.c ++ twoL q.a) ++ t := by rw [List.append_assoc]
theorem askL_size (q : Ak) : (⟨(askL q).toArray⟩ : ByteArray).size = 3 + q.tail.length := by
  simp [ByteArray.size, askL, oneL, twoL]
  omega
theorem Ak.ext4 {c a m c' a' m' : Int} {l l' : List Int} (h1 : c = c') (h2 : a = a') (h3 : m = m') (h4 : l = l') : (⟨c, a, m, l⟩ : Ak) = ⟨c', a', m', l'⟩ := by subst h1; subst h2; subst h3; subst h4; rfl
theorem five_le (q : Ak) (h : q.right = true) : 5 ≤ (askB q).size := by
  unfold askB
  rw [if_pos h, askL_size]
  unfold Ak.tail
  repeat' split
  all_goals simp [twoL] <;> omega
theorem read_ask (q : Ak) (h : q.right = true) : readS (askB q) = q := by
  have hc := Ak.codes h
  have hr := h
  unfold Ak.right at h
  rw [Bool.and_eq_true] at h
  have ha := (wordB_iff _).1 h.1
  have hf := h.2
  have hb : askB q = ⟨(askL q).toArray⟩ := by unfold askB; rw [if_pos hr]
  rw [hb]
  have hsz := askL_size q
  have e0 : (byteAt ⟨(askL q).toArray⟩ 0 : Int) = q.c := by
    rw [byteAt_list]
    simp [askL, oneL]
    omega
  have e1 : wordAt ⟨(askL q).toArray⟩ 1 = q.a := wordAt_two (oneL q.c) q.tail ha
  have e3 : ∀ (n : Int) (t : List UInt8), 0 ≤ n ∧ n ≤ 65535 → q.tail = twoL n ++ t → wordAt ⟨(askL q).toArray⟩ 3 = n := by
    intro n t hn ht
    have := wordAt_two (oneL q.c ++ twoL q.a) t hn
    rw [← ht, ← askL_head] at this
    exact this
  have e6 : ∀ (n : Int) (l : List UInt8), q.tail = twoL n ++ countedL l → askL q = (oneL q.c ++ (twoL q.a ++ (twoL n ++ oneL (l.length : Int)))) ++ l ∧ (oneL q.c ++ (twoL q.a ++ (twoL n ++ oneL (l.length : Int)))).length = 6 := by
    intro n l ht
    unfold askL
    rw [ht]
    exact ⟨by simp [countedL], by simp [oneL, twoL]⟩
  unfold readS
  dsimp only
  rw [e0, e1]
  obtain ⟨c, a, m, vs⟩ := q
  dsimp only at *
  rcases hc with rfl | rfl | rfl | rfl | rfl | rfl
  · simp [Ak.fit] at hf
    have := e3 m [] (by omega) (by simp [Ak.tail])
    rw [this]
    simp
    exact hf.2
  · simp [Ak.fit] at hf
    have := e3 m [] (by omega) (by simp [Ak.tail])
    rw [this]
    simp
    exact hf.2
  · simp only [Ak.fit] at hf
    obtain ⟨v, rfl⟩ : ∃ v, vs = [v] := by
      simp at hf
      match vs, hf.2.1 with
      | [v], _ => exact ⟨v, rfl⟩
    simp at hf
    have hv := (bitB_iff _).1 hf.2
    have := e3 (65280 * v) [] (by omega) (by simp [Ak.tail])
    rw [this, if_pos rfl]
    exact Ak.ext4 rfl rfl hf.1.symm (by congr 1; omega)
  · simp only [Ak.fit] at hf
    obtain ⟨v, rfl⟩ : ∃ v, vs = [v] := by
      simp at hf
      match vs, hf.2.1 with
      | [v], _ => exact ⟨v, rfl⟩
    simp at hf
    have hv := (wordB_iff _).1 hf.2
    have := e3 v [] (by omega) (by simp [Ak.tail])
    rw [this, if_neg (by decide), if_pos rfl]
    exact Ak.ext4 rfl rfl hf.1.symm rfl
  · unfold Ak.fit at hf
    dsimp only at hf
    have htl : Ak.tail ⟨15, a, m, vs⟩ = twoL m ++ countedL (packL vs) := by simp [Ak.tail]
    have hall : vs.all bitB = true := by
      rw [if_neg (by decide), if_neg (by decide), if_neg (by decide), if_neg (by decide), if_pos rfl, Bool.and_eq_true, Bool.and_eq_true, Bool.and_eq_true] at hf
      exact hf.2.2
    have hm : (1 ≤ m ∧ m ≤ 16) ∧ (vs.length : Int) = m := by
      rw [if_neg (by decide), if_neg (by decide), if_neg (by decide), if_neg (by decide), if_pos rfl, Bool.and_eq_true, Bool.and_eq_true, Bool.and_eq_true, decide_eq_true_eq, decide_eq_true_eq, decide_eq_true_eq] at hf
      exact ⟨hf.1, hf.2.1⟩
    rw [e3 m _ (by omega) htl, if_neg (by decide), if_neg (by decide), if_pos rfl]
    have hl := packL_length vs
    have ht : (Ak.tail ⟨15, a, m, vs⟩).length = 3 + (vs.length + 7) / 8 := by rw [htl]; simp [twoL, countedL, oneL, hl]; omega
    refine Ak.ext4 rfl rfl rfl ?_
    rw [hsz, ht, if_pos ⟨by omega, by omega, by omega⟩]
    obtain ⟨e7, e8⟩ := e6 m _ htl
    rw [e7]
    have := bitsAt_pre (oneL 15 ++ (twoL a ++ (twoL m ++ oneL ((packL vs).length : Int)))) (packL vs) m.toNat
    rw [e8] at this
    rw [this, show m.toNat = vs.length by omega]
    exact unpack_pack vs hall
  · unfold Ak.fit at hf
    dsimp only at hf
    have htl : Ak.tail ⟨16, a, m, vs⟩ = twoL m ++ countedL (wordsL vs) := by simp [Ak.tail]
    have hall : vs.all wordB = true := by
      rw [if_neg (by decide), if_neg (by decide), if_neg (by decide), if_neg (by decide), if_neg (by decide), if_pos rfl, Bool.and_eq_true, Bool.and_eq_true, Bool.and_eq_true] at hf
      exact hf.2.2
    have hm : (1 ≤ m ∧ m ≤ 4) ∧ (vs.length : Int) = m := by
      rw [if_neg (by decide), if_neg (by decide), if_neg (by decide), if_neg (by decide), if_neg (by decide), if_pos rfl, Bool.and_eq_true, Bool.and_eq_true, Bool.and_eq_true, decide_eq_true_eq, decide_eq_true_eq, decide_eq_true_eq] at hf
      exact ⟨hf.1, hf.2.1⟩
    rw [e3 m _ (by omega) htl, if_neg (by decide), if_neg (by decide), if_neg (by decide), if_pos rfl]
    have hl := wordsL_length vs
    have ht : (Ak.tail ⟨16, a, m, vs⟩).length = 3 + 2 * vs.length := by rw [htl]; simp [twoL, countedL, oneL, hl]; omega
    refine Ak.ext4 rfl rfl rfl ?_
    rw [hsz, ht, show min 7 ((3 + (3 + 2 * vs.length) - 6) / 2) = vs.length by omega]
    obtain ⟨e7, e8⟩ := e6 m _ htl
    rw [e7]
    have := wordsAt_words (oneL 16 ++ (twoL a ++ (twoL m ++ oneL ((wordsL vs).length : Int)))) vs hall
    rw [e8] at this
    exact this
end Go.Proofs.YtfpibedloodjlabDoor
/- WHAT IS READ OF PARTS of a text. -/
namespace Go.Proofs.YtfpibedloodjlabDoor
open Go.RowKit
set_option linter.unusedVariables false
set_option linter.unusedSimpArgs false

theorem byteAt_extract (s : ByteArray) (i j k : Nat) (h : i + k < j) (hj : j ≤ s.size) : byteAt (s.extract i j) k = byteAt s (i + k) := by
  have h1 : k < (s.extract i j).size := by rw [ByteArray.size_extract]; omega
  rw [byteAt_eq _ _ h1, byteAt_eq s (i + k) (by omega), ByteArray.getElem_extract]
theorem words_head (s : ByteArray) (h : 5 ≤ s.size) : wordsAt (s.extract 1 5) 0 ((s.extract 1 5).size / 2) = [wordAt s 1, wordAt s 3] := by
  have hz : (s.extract 1 5).size = 4 := by rw [ByteArray.size_extract]; omega
  rw [hz]
  have e0 := byteAt_extract s 1 5 0 (by omega) h
  have e1 := byteAt_extract s 1 5 1 (by omega) h
  have e2 := byteAt_extract s 1 5 2 (by omega) h
  have e3 := byteAt_extract s 1 5 3 (by omega) h
  simp [wordsAt, wordAt, List.range_succ, e0, e1, e2, e3]
theorem wordAt_extract (s : ByteArray) (i : Nat) (k : Nat) (h : i + k + 1 < s.size) : wordAt (s.extract i s.size) k = wordAt s (i + k) := by
  unfold wordAt
  rw [byteAt_extract s i s.size k (by omega) (Nat.le_refl _), byteAt_extract s i s.size (k + 1) (by omega) (Nat.le_refl _), Nat.add_assoc]
theorem words_tail (s : ByteArray) (h : 6 ≤ s.size) : wordsAt (s.extract 6 s.size) 0 ((s.extract 6 s.size).size / 2) = wordsAt s 6 ((s.size - 6) / 2) := by
  have hz : (s.extract 6 s.size).size = s.size - 6 := by rw [ByteArray.size_extract]; omega
  rw [hz]
  unfold wordsAt
  apply List.map_congr_left
  intro k hk
  have := List.mem_range.1 hk
  rw [Nat.zero_add, wordAt_extract s 6 (2 * k) (by omega)]
theorem bits_tail (s : ByteArray) (m : Nat) (h : 6 + (m + 7) / 8 ≤ s.size) : unpackL (s.extract 6 s.size) m = bitsAt s 6 m := by
  unfold unpackL bitsAt
  apply List.map_congr_left
  intro k hk
  have := List.mem_range.1 hk
  rw [byteAt_extract s 6 s.size (k / 8) (by omega) (Nat.le_refl _)]
theorem wordAt_range (s : ByteArray) (i : Nat) : 0 ≤ wordAt s i ∧ wordAt s i ≤ 65535 := by
  have h1 : byteAt s i < 256 := by unfold byteAt; exact u8_lt _
  have h2 : byteAt s (i + 1) < 256 := by unfold byteAt; exact u8_lt _
  unfold wordAt
  omega
theorem byteAt_range (s : ByteArray) (i : Nat) : byteAt s i < 256 := by unfold byteAt; exact u8_lt _
end Go.Proofs.YtfpibedloodjlabDoor
/- ROWS of bytes that a call made for itself, by append or by a conversion of a text: what they read as, and a byte put behind. -/
namespace Go.Proofs.YtfpibedloodjlabDoor
open Go.RowKit
set_option linter.unusedVariables false

def cellsC (l : List UInt8) : List Value := l.map fun b => Value.int .u8 (b.toNat : Int)
theorem cellsC_length (l : List UInt8) : (cellsC l).length = l.length := by simp [cellsC]
theorem cellsC_append (l m : List UInt8) : cellsC (l ++ m) = cellsC l ++ cellsC m := by simp [cellsC]
def OwnM (w : World) (base : Nat) (e : TypeId) (v : Value) (l : List UInt8) : Prop :=
  (v = .slice none 0 0 ∧ l = []) ∨
  ∃ (g cap : Nat) (cur : Array Value) (fz : Nat × Nat), v = .slice (some ⟨g, 0, none⟩) l.length cap ∧ base ≤ g ∧ w.heap[g]? = some (.cells cur e fz) ∧ (fz = (0, 0) ∨ cap ≤ fz.1) ∧ l.length ≤ cap ∧ cap ≤ maxLen ∧ cur.size = cap ∧ cur.toList.take l.length = cellsC l
theorem OwnM.nil (w : World) (base : Nat) (e : TypeId) : OwnM w base e (.slice none 0 0) [] := .inl ⟨rfl, rfl⟩
theorem OwnM.own {w : World} {base : Nat} {e : TypeId} {v : Value} {l : List UInt8} (h : w.ownsRow base e 1 v l.length (cellsC l)) : OwnM w base e v l := by
  obtain ⟨_, ⟨rfl, h0⟩ | ⟨g, cap, cur, rfl, h1, h2, h3, h4, h5, h6⟩⟩ := h
  · exact .inl ⟨rfl, List.eq_nil_of_length_eq_zero h0⟩
  · exact .inr ⟨g, cap, cur, (0, 0), rfl, h1, h2, .inl rfl, h3, h4, by simpa using h5, by simpa using h6⟩
theorem OwnM.mono {w : World} {base B : Nat} {e : TypeId} {v : Value} {l : List UInt8} (h : OwnM w base e v l) (hB : B ≤ base) : OwnM w B e v l := by
  rcases h with h | ⟨g, cap, cur, fz, h1, h2, h3⟩
  · exact .inl h
  · exact .inr ⟨g, cap, cur, fz, h1, Nat.le_trans hB h2, h3⟩
theorem OwnM.shape {w : World} {base : Nat} {e : TypeId} {v : Value} {l : List UInt8} (h : OwnM w base e v l) : ∃ a cap, v = .slice a l.length cap := by
  rcases h with ⟨rfl, rfl⟩ | ⟨g, cap, _, _, rfl, _⟩
  · exact ⟨_, _, rfl⟩
  · exact ⟨_, _, rfl⟩
theorem OwnM.lt {w : World} {base : Nat} {e : TypeId} {v : Value} {l : List UInt8} (h : OwnM w base e v l) : ∀ k, v.ownBlock = some k → base ≤ k ∧ k < w.heap.size := by
  intro k hk
  rcases h with ⟨rfl, rfl⟩ | ⟨g, cap, cur, fz, rfl, hb, hg, _⟩
  · simp [Value.ownBlock] at hk
  · simp [Value.ownBlock] at hk
    subst hk
    exact ⟨hb, (Array.getElem?_eq_some_iff.1 hg).1⟩
theorem OwnM.kept {w w' : World} {base : Nat} {e : TypeId} {v : Value} {l : List UInt8} (h : OwnM w base e v l) (hk : ∀ g, v.ownBlock = some g → w'.heap[g]? = w.heap[g]?) : OwnM w' base e v l := by
  rcases h with h | ⟨g, cap, cur, fz, rfl, hb, hg, rest⟩
  · exact .inl h
  · exact .inr ⟨g, cap, cur, fz, rfl, hb, (hk g rfl).trans hg, rest⟩
theorem OwnM.below {w w' : World} {base B : Nat} {e : TypeId} {v : Value} {l : List UInt8} (h : OwnM w base e v l) (hb : Below B w w') (hB : w.heap.size ≤ B) : OwnM w' base e v l :=
  h.kept fun g hg => hb.block g (by have := (h.lt g hg).2; omega)
theorem OwnM.alloc {w : World} {base : Nat} {e : TypeId} {v : Value} {l : List UInt8} (h : OwnM w base e v l) (o : Obj) : OwnM (w.alloc o) base e v l :=
  h.kept fun g hg => heap_alloc_old w o (h.lt g hg).2
theorem OwnM.grown {w w' : World} {base : Nat} {e : TypeId} {v : Value} {l : List UInt8} {row : Option Nat} (h : OwnM w base e v l) (hg : w.grownBy w' row) (hne : v.ownBlock = none ∨ v.ownBlock ≠ row) : OwnM w' base e v l :=
  h.kept fun g hk => hg.block g (h.lt g hk).2 (by
    rcases hne with hn | hn
    · rw [hn] at hk; cases hk
    · rw [← hk]; exact hn)
theorem OwnM.conv {P : Program} {w : World} {base : Nat} {v : Value} {l : List UInt8} {e : TypeId} (src dst : TypeId) (hs : P.underlying src = some (.slice e)) (he : P.underlying e = some (.int .u8)) (hd : P.underlying dst = some .string)
    (h : OwnM w base e v l) : (convert src dst v).run P w = .ok (.string ⟨l.toArray⟩) w := by
  rcases h with ⟨rfl, rfl⟩ | ⟨g, cap, cur, fz, rfl, _, hg, _, _, _, _, ht⟩
  · rw [run_convert_bytes_string w src dst e none 0 0 hs he hd]
    simp [Conv.bytesToString, Sem.run_pure]
    rfl
  · have hz : (⟨l.toArray⟩ : ByteArray).size = l.length := by simp [ByteArray.size]
    have hc : cellsB ⟨l.toArray⟩ = cellsC l := by simp [cellsB, cellsC]
    have := Lib.run_convert_whole w src e dst hs he hd g 0 ⟨l.toArray⟩ (bytes_of_cells (cs := cur.toList) (fr := fz) _ (by simpa using hg) (by rw [hz, hc]; simpa using ht)) cap
    rw [hz] at this
    exact this
/-- '[]byte(s)' -/
theorem OwnM.made {P : Program} (w : World) (src dst e : TypeId) (s : ByteArray) {u : TypeDesc} (base : Nat) (hs : P.underlying src = some u) (hd : P.underlying dst = some (.slice e)) (he : P.underlying e = some (.int .u8)) (hb : base ≤ w.heap.size) (hm : s.size ≤ maxLen) :
    ∃ v w', (convert src dst (.string s)).run P w = .ok v w' ∧ OwnM w' base e v s.data.toList ∧ Below w.heap.size w w' ∧ w'.heap.size = w.heap.size + 1 ∧ v.ownBlock = some w.heap.size := by
  have hge : s.size ≤ grownCap w s.size 0 e := grownCap_ge w s.size 0 e
  have hle : grownCap w s.size 0 e ≤ maxLen := grownCap_le_maxLen w s.size 0 e hm
  have hsz : (Lib.bytesCells w e s).size = grownCap w s.size 0 e := by
    unfold Lib.bytesCells
    rw [Array.size_append, Array.size_map, Array.size_replicate]
    show s.size + _ = _
    omega
  refine ⟨_, _, Lib.run_convert_string_bytes w src dst e s hs hd he, .inr ⟨w.heap.size, _, _, _, ?_, hb, Lib.bytesWorld_at_new w e s, .inr ?_, ?_, hle, hsz, ?_⟩, ⟨rfl, rfl, rfl, by rw [Lib.bytesWorld_size]; omega, fun k hk => Lib.bytesWorld_at_old w e s k hk⟩, Lib.bytesWorld_size w e s, rfl⟩
  · rw [Array.length_toList]; rfl
  · show _ ≤ (Lib.bytesCells w e s).size
    omega
  · rw [Array.length_toList]; exact hge
  · unfold Lib.bytesCells cellsC
    rw [Array.toList_append, Array.toList_map]
    exact List.take_left' (by rw [List.length_map])
/-- a byte behind a row -/
theorem OwnM.append {P : Program} (w : World) (base : Nat) (t ty e : TypeId) (i : TypeInfo) (z : Value) (ht : P.underlying t = some (.slice e)) (hi : P.info? e = some i) (hz : i.zero = some z)
    (hsize : i.size = 1) (hby : i.bytes = 1) (hzs : z.cells.size = 1) (v : Value) (l : List UInt8) (hown : OwnM w base e v l) (a : Addr) (c : Nat) (x : UInt8) (hx : w.cell? (a.add 0) = some (.int .u8 (x.toNat : Int))) (hl : l.length ≤ 1000000) (hbase : base ≤ w.heap.size) :
    ∃ v' w', (Builtin.append_ #[t, t] ty #[v, .slice (some a) 1 c]).run P w = .ok v' w' ∧ OwnM w' base e v' (l ++ [x]) ∧ w.grownBy w' v.ownBlock ∧ (v'.ownBlock = v.ownBlock ∨ ∃ k, v'.ownBlock = some k ∧ w.heap.size ≤ k) := by
  have hnews : ∀ j u, [Value.int .u8 (x.toNat : Int)][j]? = some u → w.cell? (a.add j) = some u := by
    intro j u h
    match j, h with
    | 0, h => simp at h; subst h; exact hx
  have h1 : ∀ u ∈ [Value.int .u8 (x.toNat : Int)], u.oneCell' = true := by intro u hu; simp at hu; subst hu; rfl
  have hcx : cellsC l ++ [Value.int .u8 (x.toNat : Int)] = cellsC (l ++ [x]) := by simp [cellsC]
  rcases hown with ⟨rfl, rfl⟩ | ⟨g, cap, cur, fz, rfl, hbg, hg, hfz, hnc, hcm, hcs, htake⟩
  · obtain ⟨v', w', r1, r2, r3, r4⟩ := run_append_own (P := P) w w.heap.size t ty e i z 1 1 ht hi hz hsize hby hzs (by decide) (.slice none 0 0) 0 [] ⟨by simp, .inl ⟨rfl, rfl⟩⟩ a 1 c _ rfl hnews h1 (by unfold maxLen; omega) (by omega) (Nat.le_refl _)
    refine ⟨v', w', r1, OwnM.mono (.own r2) hbase, r3, ?_⟩
    cases hq : v'.ownBlock with
    | none => exact .inl rfl
    | some k => exact .inr ⟨k, rfl, (r2.lt k hq).1⟩
  · by_cases hroom : l.length + 1 ≤ cap
    · have hf := run_firstCells_some (P := P) w 1 1 a 1 c [Value.int .u8 (x.toNat : Int)] rfl hnews
      have hlt : l.length < cur.size := by omega
      have hcell : w.cell? ⟨g, l.length, none⟩ = some cur[l.length] := by simp [World.cell?, hg, hlt]
      have hfro : w.frozen? ⟨g, l.length, none⟩ = false := by
        obtain ⟨lo, hi'⟩ := fz
        simp only [World.frozen?, hg, Bool.and_eq_false_iff, decide_eq_false_iff_not]
        rcases hfz with h | h
        · cases h; right; omega
        · left; simp only at h; omega
      have hst : (storeCells ⟨g, l.length, none⟩ [Value.int .u8 (x.toNat : Int)] 0).run P w = .ok () (w.setRow g (cur.setIfInBounds l.length (.int .u8 (x.toNat : Int)))) := by
        have hadd : (⟨g, l.length, none⟩ : Addr).add 0 = ⟨g, l.length, none⟩ := by unfold Addr.add; split <;> simp_all
        simp only [storeCells, Sem.run_bind]
        rw [hadd, run_store P w _ _ _ rfl, hcell]
        simp [hfro, setCell_eq_setRow w g l.length cur e fz _ hg]
      refine ⟨.slice (some ⟨g, 0, none⟩) (l.length + 1) cap, w.setRow g (cur.setIfInBounds l.length (.int .u8 (x.toNat : Int))), ?_, .inr ⟨g, cap, _, fz, by rw [List.length_append]; rfl, hbg, setRow_heap w g cur _ e _ hg, hfz, by rw [List.length_append]; exact hroom, hcm, by simpa using hcs, ?_⟩, ⟨rfl, rfl, rfl, by simp, fun k _ hk => setRow_other w g k _ (fun e => hk (by simp [Value.ownBlock, e]))⟩, .inl rfl⟩
      · simp [Builtin.append_, run_underlying ht, sizeOf, typeInfo, hi, hsize, Builtin.lenOf, hroom, hf, Addr.add_lit, hst]
      · rw [← hcx, ← htake, List.length_append]
        have := take_set (cs := cur.toList) (k := l.length) (.int .u8 (x.toNat : Int)) (by simpa using hlt)
        simpa using this
    · have holds : ∀ j u, (cellsC l)[j]? = some u → w.cell? ((⟨g, 0, none⟩ : Addr).add j) = some u := by
        intro j u hu
        have hadd : (⟨g, 0, none⟩ : Addr).add j = ⟨g, j, none⟩ := by unfold Addr.add; split <;> simp_all
        rw [hadd, cell_of_row w g j cur e fz hg]
        rw [← htake, List.getElem?_take] at hu
        split at hu
        · simpa using hu
        · cases hu
      have hr := run_append_grow (P := P) w t ty e i z ht hi hz ⟨g, 0, none⟩ l.length cap (cellsC l) (by rw [hsize, cellsC_length]; omega) holds a 1 c [Value.int .u8 (x.toNat : Int)] (by rw [hsize]; rfl) hnews (by omega) (by omega) (growslice_fits (by omega) (by rw [hby]; omega))
      have hge := grownCap_ge w (l.length + 1) cap e
      have hcm2 : grownCap w (l.length + 1) cap e ≤ maxLen := grownCap_le_maxLen w (l.length + 1) cap e (by unfold maxLen; omega)
      refine ⟨_, _, hr, .inr ⟨w.heap.size, _, _, (0, 0), by rw [List.length_append]; rfl, hbase, heap_alloc_new w.drew _, .inl rfl, by rw [List.length_append]; exact hge, hcm2, ?_, ?_⟩, ⟨rfl, rfl, rfl, by simp, fun k hk _ => heap_alloc_old w.drew _ hk⟩, .inr ⟨w.heap.size, rfl, Nat.le_refl _⟩⟩
      · simp only [Array.size_append, List.size_toArray, size_zeroCells, hzs, cellsC_length, List.length_cons, List.length_nil]
        omega
      · simp only [Array.toList_append, List.append_assoc]
        rw [← hcx, ← List.append_assoc, List.length_append]
        exact List.take_left' (by rw [List.length_append, cellsC_length]; rfl)
theorem wpList_append_M {P : Program} {w : World} {ops : Array Oper} {rest : List Oper} {o : Oper} {a : Act} {Q : Exit → Act → World → Prop} (hgd : o.guard = none) (s x : Operand) (t : TypeId)
    (ho : o.op = .call { callee := .builtin .append, args := #[s, x], argTypes := #[t, t] })
    (base : Nat) (e : TypeId) (i : TypeInfo) (z : Value) (ht : P.underlying t = some (.slice e)) (hi : P.info? e = some i) (hz : i.zero = some z) (hsize : i.size = 1) (hby : i.bytes = 1) (hzs : z.cells.size = 1)
    (v : Value) (l : List UInt8) (hs : a.eval s = v) (hown : OwnM w base e v l) (ad : Addr) (c : Nat) (b : UInt8) (hx : a.eval x = .slice (some ad) 1 c) (hcell : w.cell? (ad.add 0) = some (.int .u8 (b.toNat : Int))) (hl : l.length ≤ 1000000) (hbase : base ≤ w.heap.size)
    (h : ∀ v' w', OwnM w' base e v' (l ++ [b]) → w.grownBy w' v.ownBlock → (v'.ownBlock = v.ownBlock ∨ ∃ k, v'.ownBlock = some k ∧ w.heap.size ≤ k) → wpList P ops Q rest (a.put o.dst v') w') : wpList P ops Q (o :: rest) a w := by
  refine wpList_plain hgd fun K hK => ?_
  obtain ⟨v', w', hr, h2, h3, h4⟩ := OwnM.append (P := P) w base t o.type e i z ht hi hz hsize hby hzs v l hown ad c b hcell hl hbase
  unfold Oper.wp execOp
  simp only [ho, resolve, invoke, builtin, Sem.run_bind, Sem.run_pure, Result.andThen_ok, List.map_toArray, List.map_cons, List.map_nil, hs, hx, hr]
  exact hK _ _ (h v' w' h2 h3 h4)
end Go.Proofs.YtfpibedloodjlabDoor
/- OWN ROWS of bytes told by their numbers: read, written, and turned to a text. -/
namespace Go.Proofs.YtfpibedloodjlabDoor
open Go.RowKit
set_option linter.unusedVariables false

def OwnU (w : World) (base : Nat) (v : Value) (zs : List Int) : Prop := w.ownsRow base 5 1 v zs.length (zs.map (Value.int .u8))
theorem OwnU.cell {w : World} {base : Nat} {a : Option Addr} {n cap : Nat} {zs : List Int} (h : OwnU w base (.slice a n cap) zs) (k : Nat) (hk : k < zs.length) : ∃ g, a = some ⟨g, 0, none⟩ ∧ base ≤ g ∧ g < w.heap.size ∧ w.cell? ⟨g, k, none⟩ = some (.int .u8 zs[k]) ∧ w.frozen? ⟨g, k, none⟩ = false := by
  obtain ⟨_, ⟨h1, h0⟩ | ⟨g, cap, cur, h1, hb, hg, _, _, _, ht⟩⟩ := h
  · omega
  · cases h1
    have hg' := (Array.getElem?_eq_some_iff.1 hg).1
    have e : cur[k]? = some (.int .u8 zs[k]) := by
      have : (cur.toList.take (zs.length * 1))[k]? = some (.int .u8 zs[k]) := by rw [ht, List.getElem?_map, List.getElem?_eq_getElem hk]; rfl
      rw [List.getElem?_take_of_lt (by omega)] at this
      simpa using this
    exact ⟨g, rfl, hb, hg', by simp [World.cell?, hg, e], by simp [World.frozen?, hg]⟩
theorem OwnU.below {w w' : World} {base : Nat} {v : Value} {zs : List Int} (h : OwnU w base v zs) (hb : Below w.heap.size w w') : OwnU w' base v zs := by
  refine ⟨h.1, h.2.imp id ?_⟩
  rintro ⟨g, cap, cur, e1, e2, e3, e4⟩
  exact ⟨g, cap, cur, e1, e2, (hb.block g (Array.getElem?_eq_some_iff.1 e3).1).trans e3, e4⟩
theorem OwnU.set {w : World} {base g n cap : Nat} {zs : List Int} (h : OwnU w base (.slice (some ⟨g, 0, none⟩) n cap) zs) (j : Nat) (hj : j < zs.length) (m : Int) : OwnU (w.setCell ⟨g, j, none⟩ (.int .u8 m)) base (.slice (some ⟨g, 0, none⟩) n cap) (zs.set j m) := by
  obtain ⟨h0, ⟨h1, _⟩ | ⟨g, cap, cur, h1, hb, hg, h2, h3, h4, ht⟩⟩ := h
  · cases h1
  · cases h1
    refine ⟨by simp, .inr ⟨g, cap, cur.setIfInBounds j (.int .u8 m), by rw [List.length_set], hb, ?_, by rw [List.length_set]; exact h2, h3, by simpa using h4, ?_⟩⟩
    · rw [setCell_eq_setRow w g j cur _ (0, 0) _ hg, setRow_heap w g cur _ _ _ hg]
    · rw [List.length_set, Array.toList_setIfInBounds, List.take_set, ht, List.map_set]
theorem OwnU.text {w : World} {base : Nat} {v : Value} {l : List UInt8} (h : OwnU w base v (l.map fun b => (b.toNat : Int))) : (convert 60 9 v).run Tryd.prog w = .ok (.string ⟨l.toArray⟩) w := by
  refine OwnM.conv _ _ Tryd.underlying60 Tryd.underlying5 Tryd.underlying9 (OwnM.own (w := w) (base := base) ?_)
  have := h
  unfold OwnU at this
  rw [List.length_map, List.map_map] at this
  exact this
theorem info8 : (Tryd.prog.info? 5).map (fun i => (i.zero, i.size, i.bytes)) = some (some (.int .u8 0), 1, 1) := by kernel_rfl
theorem zeros_list8 (n : Nat) : (madeCells (Value.int .u8 0).cells (n * 1)).toList = (List.replicate n (0 : Int)).map (Value.int .u8) := by
  rw [show (Value.int .u8 0).cells = #[Value.int .u8 0] from rfl, toList_madeCells_one, List.map_replicate, Nat.mul_one]
end Go.Proofs.YtfpibedloodjlabDoor
