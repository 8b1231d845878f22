/- THE WALK of the program's readSay. -/
import Derived.Test.YthmbfkppjijelaaSayN
import Derived.Test.YthmbfkppjijelaaGetTN
import Derived.Test.YthmbfkppjijelaaSayB
import Derived.Test.YthmbfkppjijelaaBox
import Derived.Deep.RegionHeld3
import Derived.Laws.CopyOwn
namespace Go.Proofs.Ythmbfkppjijelaa
open Go.RowKit
set_option linter.unusedVariables false
set_option linter.unusedSimpArgs false

theorem readNums_some {s : ByteArray} {a m : Int} {l : List Int} {q : Int} (h : numsR s a m.toNat = some (l, q)) (w : World) (hs : s.size ≤ 8000) (ha : 0 ≤ a) (has : a ≤ s.size) :
    Calls Try.prog 64 #[.string s, .int .i64 a, .int .i64 m] w fun e w' => ∃ v, e = .returned (.tuple #[v, .int .i64 q, .nilIface]) ∧ OwnI w' w.heap.size v l ∧ Below w.heap.size w w' := by
  refine (readNums_any s a m w hs ha has).mono ?_
  rintro e w' (⟨v, l', q', h', rfl, ho, hb⟩ | ⟨c, h', _⟩)
  · rw [h] at h'
    cases h'
    exact ⟨v, rfl, ho, hb⟩
  · rw [h] at h'
    cases h'
theorem readNums_none {s : ByteArray} {a m : Int} (h : numsR s a m.toNat = none) (w : World) (hs : s.size ≤ 8000) (ha : 0 ≤ a) (has : a ≤ s.size) :
    Calls Try.prog 64 #[.string s, .int .i64 a, .int .i64 m] w fun e w' => ∃ c, e = .returned (.tuple #[.slice none 0 0, .int .i64 0, .iface 101 (.agg #[.int .i64 c])]) ∧ Below w.heap.size w w' := by
  refine (readNums_any s a m w hs ha has).mono ?_
  rintro e w' (⟨v, l', q', h', _⟩ | ⟨c, h', rfl, hb⟩)
  · rw [h] at h'
    cases h'
  · exact ⟨c, rfl, hb⟩
theorem getT_badN (s : ByteArray) (a : Int) (h : (getT s a).2.2 ≠ 0) : getT s a = (ByteArray.empty, 0, (getT s a).2.2) := by
  unfold getT at h ⊢
  split
  · rfl
  · rename_i h1
    rw [if_neg h1] at h
    split
    · rfl
    · rename_i h2
      rw [if_neg h2] at h
      split
      · rfl
      · rename_i h3
        rw [if_neg h3] at h
        exact absurd rfl h
theorem list8 {l : List Int} (h : l.length = 8) : ∃ n0 n1 n2 n3 n4 n5 n6 n7, l = [n0, n1, n2, n3, n4, n5, n6, n7] := by
  match l, h with
  | [n0, n1, n2, n3, n4, n5, n6, n7], _ => exact ⟨n0, n1, n2, n3, n4, n5, n6, n7, rfl⟩
theorem stampOf_any (g o b h : Int) (w : World) : Calls Try.prog 66 #[.agg #[.int .i64 g, .int .i64 o, .int .i64 b, .int .i64 h]] w fun e w' => e = .returned (.agg #[.int .i64 g, .int .i64 o, .int .i64 b, .int .i64 h]) ∧ Below w.heap.size w w' := by
  go_enter Try.func66, Try.ntmps66
  go_wp2
  exact bodyPost_ret (v := .agg #[.int .i64 g, .int .i64 o, .int .i64 b, .int .i64 h]) (by simp [results, Try.results66, go_sem]) rfl ⟨rfl, by
    repeat (first | exact Below.refl _ _ | refine Below.setCell ?_ (by simp <;> omega) _ | refine Below.alloc ?_ (by simp <;> omega) _)⟩
theorem OwnI.form {w : World} {base : Nat} {v : Value} {zs : List Int} (h : OwnI w base v zs) (hn : 0 < zs.length) : ∃ g cap, v = .slice (some ⟨g, 0, none⟩) zs.length cap ∧ zs.length ≤ cap ∧ base ≤ g ∧ ∃ cur : Array Value, w.heap[g]? = some (.cells cur 2 (0, 0)) ∧ ∀ k (hk : k < zs.length), cur[k]? = some (.int .i64 zs[k]) := by
  obtain ⟨_, ⟨_, h0⟩ | ⟨g, cap, cur, e1, hb, hg, h2, h3, h4, ht⟩⟩ := h
  · omega
  · refine ⟨g, cap, e1, h2, hb, cur, hg, fun k hk => ?_⟩
    have : (cur.toList.take (zs.length * 1))[k]? = some (.int .i64 zs[k]) := by rw [ht, List.getElem?_map, List.getElem?_eq_getElem hk]; rfl
    rw [List.getElem?_take_of_lt (by omega)] at this
    simpa using this
set_option maxRecDepth 100000 in
set_option maxHeartbeats 1600000 in
theorem readSay_a (s : ByteArray) (w : World) (hs : s.size ≤ 8000) (h1 : numsR s 0 8 = none) :
    Calls Try.prog 36 #[.string s] w fun e w' => ∃ c, e = .returned (.tuple #[.agg #[.int .i64 0, .int .i64 0, .int .i64 0, .int .i64 0, .int .i64 0, .int .i64 0, .int .i64 0, .slice none 0 0, .string ⟨#[]⟩], .iface 101 (.agg #[.int .i64 c])]) ∧ Below w.heap.size w w' := by
  have H1 : Hid _ := fun W => readNums_none (s := s) (a := 0) (m := 8) h1 W hs (by omega) (by omega)
  clear h1
  go_enter Try.func36, Try.ntmps36
  go_wp2_with (go_at_call 64; refine (H1.out _).mono ?_; rintro e w1 ⟨c, rfl, hb1⟩; have hYw1 : Hid _ := blk (heap_alloc_new w (.cells #[.int .i64 0, .int .i64 0, .int .i64 0, .int .i64 0, .int .i64 0, .int .i64 0, .int .i64 0, .slice none 0 0, .string ⟨#[]⟩] 27)) hb1; have y0 := cellW hYw1.out 0 _ rfl w1 (Below.refl _ _); have y1 := cellW hYw1.out 1 _ rfl w1 (Below.refl _ _); have y2 := cellW hYw1.out 2 _ rfl w1 (Below.refl _ _); have y3 := cellW hYw1.out 3 _ rfl w1 (Below.refl _ _); have y4 := cellW hYw1.out 4 _ rfl w1 (Below.refl _ _); have y5 := cellW hYw1.out 5 _ rfl w1 (Below.refl _ _); have y6 := cellW hYw1.out 6 _ rfl w1 (Below.refl _ _); have y7 := cellW hYw1.out 7 _ rfl w1 (Below.refl _ _); have y8 := cellW hYw1.out 8 _ rfl w1 (Below.refl _ _); have g0 := frozenW hYw1.out 0 w1 (Below.refl _ _); have g1 := frozenW hYw1.out 1 w1 (Below.refl _ _); have g2 := frozenW hYw1.out 2 w1 (Below.refl _ _); have g3 := frozenW hYw1.out 3 w1 (Below.refl _ _); have g4 := frozenW hYw1.out 4 w1 (Below.refl _ _); have g5 := frozenW hYw1.out 5 w1 (Below.refl _ _); have g6 := frozenW hYw1.out 6 w1 (Below.refl _ _); have g7 := frozenW hYw1.out 7 w1 (Below.refl _ _); have g8 := frozenW hYw1.out 8 w1 (Below.refl _ _))
  have hBk := keepB (all_alloc w (.cells #[.int .i64 0, .int .i64 0, .int .i64 0, .int .i64 0, .int .i64 0, .int .i64 0, .int .i64 0, .slice none 0 0, .string ⟨#[]⟩] 27)) (Nat.le_refl _) hb1
  exact bodyPost_ret (v := .tuple #[.agg #[.int .i64 0, .int .i64 0, .int .i64 0, .int .i64 0, .int .i64 0, .int .i64 0, .int .i64 0, .slice none 0 0, .string ⟨#[]⟩], .iface 101 (.agg #[.int .i64 c])]) (by simp [results, Try.results36, go_sem, y0, y1, y2, y3, y4, y5, y6, y7, y8]) rfl ⟨c, rfl, (Below.setCell (Below.setCell (Below.setCell (Below.setCell (Below.setCell (Below.setCell (Below.setCell (Below.setCell (Below.setCell hBk (by simp only; omega) _) (by simp only; omega) _) (by simp only; omega) _) (by simp only; omega) _) (by simp only; omega) _) (by simp only; omega) _) (by simp only; omega) _) (by simp only; omega) _) (by simp only; omega) _)⟩
set_option maxRecDepth 100000 in
set_option maxHeartbeats 1600000 in
theorem readSay_b (s : ByteArray) (w : World) (hs : s.size ≤ 8000) (n0 n1 n2 n3 n4 n5 n6 n7 q : Int) (h1 : numsR s 0 8 = some ([n0, n1, n2, n3, n4, n5, n6, n7], q)) (h2 : numsR s q n7.toNat = none) :
    Calls Try.prog 36 #[.string s] w fun e w' => ∃ c, e = .returned (.tuple #[.agg #[.int .i64 0, .int .i64 0, .int .i64 0, .int .i64 0, .int .i64 0, .int .i64 0, .int .i64 0, .slice none 0 0, .string ⟨#[]⟩], .iface 101 (.agg #[.int .i64 c])]) ∧ Below w.heap.size w w' := by
  have hq := numsR_at (s := s) (a := 0) (by omega) (by omega) h1
  have H1 : Hid _ := fun W => readNums_some (s := s) (a := 0) (m := 8) h1 W hs (by omega) (by omega)
  have H2 : Hid _ := fun W => readNums_none (s := s) (a := q) (m := n7) h2 W hs (by omega) (by omega)
  clear h1 h2 hq
  go_enter Try.func36, Try.ntmps36
  go_wp2_with (first
    | (have _ := hYw1; go_at_call 64; refine (H2.out _).mono ?_; rintro e w2 ⟨c, rfl, hb2⟩; have hYw2 : Hid _ := blk hYw1.out hb2; have y0 := cellW hYw2.out 0 _ rfl w2 (Below.refl _ _); have y1 := cellW hYw2.out 1 _ rfl w2 (Below.refl _ _); have y2 := cellW hYw2.out 2 _ rfl w2 (Below.refl _ _); have y3 := cellW hYw2.out 3 _ rfl w2 (Below.refl _ _); have y4 := cellW hYw2.out 4 _ rfl w2 (Below.refl _ _); have y5 := cellW hYw2.out 5 _ rfl w2 (Below.refl _ _); have y6 := cellW hYw2.out 6 _ rfl w2 (Below.refl _ _); have y7 := cellW hYw2.out 7 _ rfl w2 (Below.refl _ _); have y8 := cellW hYw2.out 8 _ rfl w2 (Below.refl _ _); have g0 := frozenW hYw2.out 0 w2 (Below.refl _ _); have g1 := frozenW hYw2.out 1 w2 (Below.refl _ _); have g2 := frozenW hYw2.out 2 w2 (Below.refl _ _); have g3 := frozenW hYw2.out 3 w2 (Below.refl _ _); have g4 := frozenW hYw2.out 4 w2 (Below.refl _ _); have g5 := frozenW hYw2.out 5 w2 (Below.refl _ _); have g6 := frozenW hYw2.out 6 w2 (Below.refl _ _); have g7 := frozenW hYw2.out 7 w2 (Below.refl _ _); have g8 := frozenW hYw2.out 8 w2 (Below.refl _ _))
    | (go_at_call 64; refine (H1.out _).mono ?_; rintro e w1 ⟨v1, rfl, ho1, hb1⟩; have hYw1 : Hid _ := blk (heap_alloc_new w (.cells #[.int .i64 0, .int .i64 0, .int .i64 0, .int .i64 0, .int .i64 0, .int .i64 0, .int .i64 0, .slice none 0 0, .string ⟨#[]⟩] 27)) hb1; obtain ⟨g1, cap1, rfl, hcap, hg1, cur, hcur, hcells⟩ := ho1.form (by simp); have e7 := cellW hcur 7 _ (hcells 7 (by simp)) w1 (Below.refl _ _); simp only [List.length_cons, List.length_nil, List.getElem_cons_succ, List.getElem_cons_zero] at e7 hcap))
  have hBk := keepB (keepB (all_alloc w (.cells #[.int .i64 0, .int .i64 0, .int .i64 0, .int .i64 0, .int .i64 0, .int .i64 0, .int .i64 0, .slice none 0 0, .string ⟨#[]⟩] 27)) (Nat.le_refl _) hb1) (Nat.le_refl _) hb2
  exact bodyPost_ret (v := .tuple #[.agg #[.int .i64 0, .int .i64 0, .int .i64 0, .int .i64 0, .int .i64 0, .int .i64 0, .int .i64 0, .slice none 0 0, .string ⟨#[]⟩], .iface 101 (.agg #[.int .i64 c])]) (by simp [results, Try.results36, go_sem, y0, y1, y2, y3, y4, y5, y6, y7, y8]) rfl ⟨c, rfl, (Below.setCell (Below.setCell (Below.setCell (Below.setCell (Below.setCell (Below.setCell (Below.setCell (Below.setCell (Below.setCell hBk (by simp only; omega) _) (by simp only; omega) _) (by simp only; omega) _) (by simp only; omega) _) (by simp only; omega) _) (by simp only; omega) _) (by simp only; omega) _) (by simp only; omega) _) (by simp only; omega) _)⟩
set_option maxRecDepth 100000 in
set_option maxHeartbeats 1600000 in
theorem readSay_c (s : ByteArray) (w : World) (hs : s.size ≤ 8000) (n0 n1 n2 n3 n4 n5 n6 n7 q q2 : Int) (ws : List Int) (h1 : numsR s 0 8 = some ([n0, n1, n2, n3, n4, n5, n6, n7], q)) (h2 : numsR s q n7.toNat = some (ws, q2)) (h3 : (getT s q2).2.2 ≠ 0) :
    Calls Try.prog 36 #[.string s] w fun e w' => ∃ c, e = .returned (.tuple #[.agg #[.int .i64 0, .int .i64 0, .int .i64 0, .int .i64 0, .int .i64 0, .int .i64 0, .int .i64 0, .slice none 0 0, .string ⟨#[]⟩], .iface 101 (.agg #[.int .i64 c])]) ∧ Below w.heap.size w w' := by
  have hq := numsR_at (s := s) (a := 0) (by omega) (by omega) h1
  have H1 : Hid _ := fun W => readNums_some (s := s) (a := 0) (m := 8) h1 W hs (by omega) (by omega)
  have H2 : Hid _ := fun W => readNums_some (s := s) (a := q) (m := n7) h2 W hs (by omega) (by omega)
  have H3 : Hid (∀ W : World, Calls Try.prog 65 #[.string s, .int .i64 q2] W fun e w' => e = .returned (.tuple #[.string ByteArray.empty, .int .i64 0, .iface 101 (.agg #[.int .i64 (getT s q2).2.2])]) ∧ Below W.heap.size W w') := fun W => by
    have := readText_any s q2 W hs
    rw [getT_badN s q2 h3, tupT_no h3] at this
    exact this
  generalize (getT s q2).2.2 = c at H3
  clear h1 h2 hq h3
  go_enter Try.func36, Try.ntmps36
  go_wp2_with (first
    | (go_at_call 65; refine (H3.out _).mono ?_; rintro e w3 ⟨rfl, hb3⟩; have hYw3 : Hid _ := blk hYw2.out hb3; have y0 := cellW hYw3.out 0 _ rfl w3 (Below.refl _ _); have y1 := cellW hYw3.out 1 _ rfl w3 (Below.refl _ _); have y2 := cellW hYw3.out 2 _ rfl w3 (Below.refl _ _); have y3 := cellW hYw3.out 3 _ rfl w3 (Below.refl _ _); have y4 := cellW hYw3.out 4 _ rfl w3 (Below.refl _ _); have y5 := cellW hYw3.out 5 _ rfl w3 (Below.refl _ _); have y6 := cellW hYw3.out 6 _ rfl w3 (Below.refl _ _); have y7 := cellW hYw3.out 7 _ rfl w3 (Below.refl _ _); have y8 := cellW hYw3.out 8 _ rfl w3 (Below.refl _ _); have g0 := frozenW hYw3.out 0 w3 (Below.refl _ _); have g1 := frozenW hYw3.out 1 w3 (Below.refl _ _); have g2 := frozenW hYw3.out 2 w3 (Below.refl _ _); have g3 := frozenW hYw3.out 3 w3 (Below.refl _ _); have g4 := frozenW hYw3.out 4 w3 (Below.refl _ _); have g5 := frozenW hYw3.out 5 w3 (Below.refl _ _); have g6 := frozenW hYw3.out 6 w3 (Below.refl _ _); have g7 := frozenW hYw3.out 7 w3 (Below.refl _ _); have g8 := frozenW hYw3.out 8 w3 (Below.refl _ _))
    | (have _ := hYw1; go_at_call 64; refine (H2.out _).mono ?_; rintro e w2 ⟨v2, rfl, ho2, hb2⟩; have hYw2 : Hid _ := blk hYw1.out hb2; obtain ⟨p2, cap2, rfl⟩ := ho2.shape)
    | (go_at_call 64; refine (H1.out _).mono ?_; rintro e w1 ⟨v1, rfl, ho1, hb1⟩; have hYw1 : Hid _ := blk (heap_alloc_new w (.cells #[.int .i64 0, .int .i64 0, .int .i64 0, .int .i64 0, .int .i64 0, .int .i64 0, .int .i64 0, .slice none 0 0, .string ⟨#[]⟩] 27)) hb1; obtain ⟨g1, cap1, rfl, hcap, hg1, cur, hcur, hcells⟩ := ho1.form (by simp); have e7 := cellW hcur 7 _ (hcells 7 (by simp)) w1 (Below.refl _ _); simp only [List.length_cons, List.length_nil, List.getElem_cons_succ, List.getElem_cons_zero] at e7 hcap))
  have hBk := keepB (keepB (keepB (all_alloc w (.cells #[.int .i64 0, .int .i64 0, .int .i64 0, .int .i64 0, .int .i64 0, .int .i64 0, .int .i64 0, .slice none 0 0, .string ⟨#[]⟩] 27)) (Nat.le_refl _) hb1) (Nat.le_refl _) hb2) (Nat.le_refl _) hb3
  exact bodyPost_ret (v := .tuple #[.agg #[.int .i64 0, .int .i64 0, .int .i64 0, .int .i64 0, .int .i64 0, .int .i64 0, .int .i64 0, .slice none 0 0, .string ⟨#[]⟩], .iface 101 (.agg #[.int .i64 c])]) (by simp [results, Try.results36, go_sem, y0, y1, y2, y3, y4, y5, y6, y7, y8]) rfl ⟨c, rfl, (Below.setCell (Below.setCell (Below.setCell (Below.setCell (Below.setCell (Below.setCell (Below.setCell (Below.setCell (Below.setCell hBk (by simp only; omega) _) (by simp only; omega) _) (by simp only; omega) _) (by simp only; omega) _) (by simp only; omega) _) (by simp only; omega) _) (by simp only; omega) _) (by simp only; omega) _) (by simp only; omega) _)⟩
end Go.Proofs.Ythmbfkppjijelaa
