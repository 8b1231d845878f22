/- THE WALKS of the law's own copy, count and compare of what is said. -/
import Derived.Test.YthmbfkppjijelaaSayIn
namespace Go.Proofs.Ythmbfkppjijelaa
open Go.RowKit
set_option linter.unusedVariables false
set_option linter.unusedSimpArgs false

theorem OwnI.far {w : World} {base : Nat} {v : Value} {zs : List Int} {a : Addr} (h : OwnI w base v zs) (ha : a.block < base) (x : Value) : OwnI (w.setCell a x) base v zs := by
  refine ⟨h.1, h.2.imp id ?_⟩
  rintro ⟨g, cap, cur, e1, e2, e3, e4⟩
  exact ⟨g, cap, cur, e1, e2, (Below.heap_setCell _ _ _ _ (by omega)).trans e3, e4⟩
theorem OwnI.le {w : World} {base base' : Nat} {v : Value} {zs : List Int} (h : OwnI w base v zs) (hb : base' ≤ base) : OwnI w base' v zs := Joins.ownsRow_le h hb
set_option maxRecDepth 100000 in
theorem eqStamp_same (s : St) (w : World) : Calls Try.prog 57 #[.agg #[.int .i64 s.g, .int .i64 s.o, .int .i64 s.b, .int .i64 s.h], .agg #[.int .i64 s.g, .int .i64 s.o, .int .i64 s.b, .int .i64 s.h]] w fun x w' => x = .returned (.bool true) ∧ Below w.heap.size w w' := by
  have e0 : (s.g != s.g) = false := by simp
  have e1 : (s.o != s.o) = false := by simp
  have e2 : (s.b != s.b) = false := by simp
  have e3 : (s.h != s.h) = false := by simp
  go_enter Try.func57, Try.ntmps57
  go_wp2
  go_ret
  exact ⟨rfl, ((Below.refl _ _).alloc (Nat.le_refl _) _).alloc (by simp) _⟩
set_option maxRecDepth 100000 in
set_option maxHeartbeats 1600000 in
theorem szSay_any (y : Sy) (p : Option Addr) (c : Nat) (w : World) (hz : y.b.size ≤ maxLen) (hn : y.ws.length ≤ 9223372036854775807) :
    Calls Try.prog 21 #[.agg #[.int .i64 y.k, .int .i64 y.f, .int .i64 y.t, .int .i64 y.s.g, .int .i64 y.s.o, .int .i64 y.s.b, .int .i64 y.s.h, .slice p y.ws.length c, .string y.b], .int .i64 1048576] w fun x w' => x = .returned (.int .i64 (if y.ws.length + y.b.size ≤ 1048576 then 1048576 - (y.ws.length : Int) - (y.b.size : Int) else -1)) ∧ Below w.heap.size w w' := by
  unfold maxLen at hz
  have HI : Hid (∀ W : World, Calls Try.prog 54 #[.slice p y.ws.length c, .int .i64 1048576] W fun x w' => x = .returned (.int .i64 (if y.ws.length ≤ 1048576 then 1048576 - (y.ws.length : Int) else -1)) ∧ W = w') := fun W => szInt64S_any p y.ws.length c W hn
  obtain ⟨k, f, t, s, ws, b⟩ := y
  simp only at hz hn HI ⊢
  generalize ws.length = n at hn HI ⊢
  by_cases h : n ≤ 1048576
  · rw [if_pos h] at HI
    by_cases h2 : n + b.size ≤ 1048576
    · rw [if_pos h2]
      have h1 : ¬ (1048576 : Int) - (n : Int) < 0 := by omega
      have h3 : ¬ (1048576 : Int) - (n : Int) - (b.size : Int) < 0 := by omega
      go_enter Try.func21, Try.ntmps21
      go_wp2_with (go_at_call 54; refine (HI.out _).mono ?_; rintro e w1 ⟨rfl, rfl⟩)
      go_ret
      exact ⟨rfl, all_alloc _ _⟩
    · rw [if_neg h2]
      have h1 : ¬ (1048576 : Int) - (n : Int) < 0 := by omega
      have h3 : (1048576 : Int) - (n : Int) - (b.size : Int) < 0 := by omega
      go_enter Try.func21, Try.ntmps21
      go_wp2_with (go_at_call 54; refine (HI.out _).mono ?_; rintro e w1 ⟨rfl, rfl⟩)
      go_ret
      exact ⟨rfl, all_alloc _ _⟩
  · rw [if_neg h] at HI
    rw [if_neg (by omega)]
    go_enter Try.func21, Try.ntmps21
    go_wp2_with (go_at_call 54; refine (HI.out _).mono ?_; rintro e w1 ⟨rfl, rfl⟩)
    go_ret
    exact ⟨rfl, all_alloc _ _⟩
set_option maxRecDepth 100000 in
set_option maxHeartbeats 1600000 in
theorem eqSay_same (y : Sy) (v1 v2 : Value) (w : World) (hl : y.ws.length ≤ 10000000) (h1 : RowI w v1 y.ws) (h2 : RowI w v2 y.ws) :
    Calls Try.prog 23 #[.agg #[.int .i64 y.k, .int .i64 y.f, .int .i64 y.t, .int .i64 y.s.g, .int .i64 y.s.o, .int .i64 y.s.b, .int .i64 y.s.h, v1, .string y.b], .agg #[.int .i64 y.k, .int .i64 y.f, .int .i64 y.t, .int .i64 y.s.g, .int .i64 y.s.o, .int .i64 y.s.b, .int .i64 y.s.h, v2, .string y.b]] w fun x w' => x = .returned (.bool true) ∧ Below w.heap.size w w' := by
  have e0 : (y.k != y.k) = false := by simp
  have e1 : (y.f != y.f) = false := by simp
  have e2 : (y.t != y.t) = false := by simp
  have e3 : (y.b.toList == y.b.toList) = true := by simp
  have HE : Hid (∀ W, Below w.heap.size w W → Calls Try.prog 58 #[v1, v2] W fun e w' => e = .returned (.bool true) ∧ Below W.heap.size W w') := fun W hW => eqInt64S_same v1 v2 y.ws W hl (h1.below hW) (h2.below hW)
  have HS : Hid (∀ W : World, Calls Try.prog 57 #[.agg #[.int .i64 y.s.g, .int .i64 y.s.o, .int .i64 y.s.b, .int .i64 y.s.h], .agg #[.int .i64 y.s.g, .int .i64 y.s.o, .int .i64 y.s.b, .int .i64 y.s.h]] W fun x w' => x = .returned (.bool true) ∧ Below W.heap.size W w') := fun W => eqStamp_same y.s W
  obtain ⟨p1, c1, rfl, _⟩ := h1
  obtain ⟨p2, c2, rfl, _⟩ := h2
  have hA0 : Below w.heap.size w ((w.alloc (.cells #[.int .i64 y.k, .int .i64 y.f, .int .i64 y.t, .int .i64 y.s.g, .int .i64 y.s.o, .int .i64 y.s.b, .int .i64 y.s.h, .slice p1 y.ws.length c1, .string y.b] 27)).alloc (.cells #[.int .i64 y.k, .int .i64 y.f, .int .i64 y.t, .int .i64 y.s.g, .int .i64 y.s.o, .int .i64 y.s.b, .int .i64 y.s.h, .slice p2 y.ws.length c2, .string y.b] 27)) := keepB (all_alloc _ _) (Nat.le_refl _) (all_alloc _ _)
  go_enter Try.func23, Try.ntmps23
  go_wp2_with (first
    | (go_at_call 57; refine (HS.out _).mono ?_; rintro e w1 ⟨rfl, hb1⟩; obtain ⟨hc1, hf1⟩ := bcellF hb1; have hB1 := keepB hA0 (Nat.le_refl _) hb1; have hz1 : w.heap.size + 1 < w1.heap.size := (by have := hb1.size; simp at this; omega); have hz0 : w.heap.size < w1.heap.size := (by omega))
    | (go_at_call 58; refine (HE.out _ hB1).mono ?_; rintro e w2 ⟨rfl, hb2⟩; obtain ⟨hc2, hf2⟩ := bcellF hb2))
  go_ret
  exact ⟨rfl, keepB hB1 (Nat.le_refl _) hb2⟩
set_option maxRecDepth 100000 in
set_option maxHeartbeats 1600000 in
theorem toSay_any (y : Sy) (p : Option Addr) (c : Nat) (w : World) (hl : y.ws.length ≤ 1048576) (hin : InI w p y.ws) :
    Calls Try.prog 22 #[.agg #[.int .i64 y.k, .int .i64 y.f, .int .i64 y.t, .int .i64 y.s.g, .int .i64 y.s.o, .int .i64 y.s.b, .int .i64 y.s.h, .slice p y.ws.length c, .string y.b]] w fun x w' => ∃ v, x = .returned (.agg #[.int .i64 y.k, .int .i64 y.f, .int .i64 y.t, .int .i64 y.s.g, .int .i64 y.s.o, .int .i64 y.s.b, .int .i64 y.s.h, v, .string y.b]) ∧ OwnI w' w.heap.size v y.ws ∧ Below w.heap.size w w' := by
  have HT : Hid (∀ W : World, Calls Try.prog 55 #[.agg #[.int .i64 y.s.g, .int .i64 y.s.o, .int .i64 y.s.b, .int .i64 y.s.h]] W fun x w' => x = .returned (.agg #[.int .i64 y.s.g, .int .i64 y.s.o, .int .i64 y.s.b, .int .i64 y.s.h]) ∧ Below W.heap.size W w') := fun W => toStamp_any y.s W
  have HI : Hid (∀ W, Below w.heap.size w W → Calls Try.prog 56 #[.slice p y.ws.length c] W fun e w' => ∃ v, e = .returned v ∧ OwnI w' W.heap.size v y.ws ∧ Below W.heap.size W w') := fun W hW => toInt64S_any p c y.ws W hl (hin.below hW)
  clear hin
  go_enter Try.func22, Try.ntmps22
  go_upto_region 5 with fail
  have hX : Hid _ := blk (blk (heap_alloc_new w (.cells #[.int .i64 y.k, .int .i64 y.f, .int .i64 y.t, .int .i64 y.s.g, .int .i64 y.s.o, .int .i64 y.s.b, .int .i64 y.s.h, .slice p y.ws.length c, .string y.b] 43)) (all_alloc _ (.cells #[.int .i64 0, .int .i64 0, .int .i64 0, .int .i64 0, .int .i64 0, .int .i64 0, .int .i64 0, .slice none 0 0, .string ⟨#[]⟩] 27))) (all_alloc _ (.cells #[.int .i64 y.k, .int .i64 y.f, .int .i64 y.t, .int .i64 0, .int .i64 0, .int .i64 0, .int .i64 0, .slice none 0 0, .string ⟨#[]⟩] 27))
  have hY : Hid _ := blk (heap_alloc_new (w.alloc (.cells #[.int .i64 y.k, .int .i64 y.f, .int .i64 y.t, .int .i64 y.s.g, .int .i64 y.s.o, .int .i64 y.s.b, .int .i64 y.s.h, .slice p y.ws.length c, .string y.b] 43)) (.cells #[.int .i64 0, .int .i64 0, .int .i64 0, .int .i64 0, .int .i64 0, .int .i64 0, .int .i64 0, .slice none 0 0, .string ⟨#[]⟩] 27)) (all_alloc _ (.cells #[.int .i64 y.k, .int .i64 y.f, .int .i64 y.t, .int .i64 0, .int .i64 0, .int .i64 0, .int .i64 0, .slice none 0 0, .string ⟨#[]⟩] 27))
  have hZ : Hid _ := heap_alloc_new ((w.alloc (.cells #[.int .i64 y.k, .int .i64 y.f, .int .i64 y.t, .int .i64 y.s.g, .int .i64 y.s.o, .int .i64 y.s.b, .int .i64 y.s.h, .slice p y.ws.length c, .string y.b] 43)).alloc (.cells #[.int .i64 0, .int .i64 0, .int .i64 0, .int .i64 0, .int .i64 0, .int .i64 0, .int .i64 0, .slice none 0 0, .string ⟨#[]⟩] 27)) (.cells #[.int .i64 y.k, .int .i64 y.f, .int .i64 y.t, .int .i64 0, .int .i64 0, .int .i64 0, .int .i64 0, .slice none 0 0, .string ⟨#[]⟩] 27)
  have hA0 : Below w.heap.size w (((w.alloc (.cells #[.int .i64 y.k, .int .i64 y.f, .int .i64 y.t, .int .i64 y.s.g, .int .i64 y.s.o, .int .i64 y.s.b, .int .i64 y.s.h, .slice p y.ws.length c, .string y.b] 43)).alloc (.cells #[.int .i64 0, .int .i64 0, .int .i64 0, .int .i64 0, .int .i64 0, .int .i64 0, .int .i64 0, .slice none 0 0, .string ⟨#[]⟩] 27)).alloc (.cells #[.int .i64 y.k, .int .i64 y.f, .int .i64 y.t, .int .i64 0, .int .i64 0, .int .i64 0, .int .i64 0, .slice none 0 0, .string ⟨#[]⟩] 27)) := keepB (keepB (all_alloc w (.cells #[.int .i64 y.k, .int .i64 y.f, .int .i64 y.t, .int .i64 y.s.g, .int .i64 y.s.o, .int .i64 y.s.b, .int .i64 y.s.h, .slice p y.ws.length c, .string y.b] 43)) (Nat.le_refl _) (all_alloc _ (.cells #[.int .i64 0, .int .i64 0, .int .i64 0, .int .i64 0, .int .i64 0, .int .i64 0, .int .i64 0, .slice none 0 0, .string ⟨#[]⟩] 27))) (Nat.le_refl _) (all_alloc _ (.cells #[.int .i64 y.k, .int .i64 y.f, .int .i64 y.t, .int .i64 0, .int .i64 0, .int .i64 0, .int .i64 0, .slice none 0 0, .string ⟨#[]⟩] 27))
  have e1 : (w.alloc (.cells #[.int .i64 y.k, .int .i64 y.f, .int .i64 y.t, .int .i64 y.s.g, .int .i64 y.s.o, .int .i64 y.s.b, .int .i64 y.s.h, .slice p y.ws.length c, .string y.b] 43)).heap.size = w.heap.size + 1 := by simp
  have e2 : ((w.alloc (.cells #[.int .i64 y.k, .int .i64 y.f, .int .i64 y.t, .int .i64 y.s.g, .int .i64 y.s.o, .int .i64 y.s.b, .int .i64 y.s.h, .slice p y.ws.length c, .string y.b] 43)).alloc (.cells #[.int .i64 0, .int .i64 0, .int .i64 0, .int .i64 0, .int .i64 0, .int .i64 0, .int .i64 0, .slice none 0 0, .string ⟨#[]⟩] 27)).heap.size = w.heap.size + 1 + 1 := by simp
  rw [e1] at hY
  rw [e2] at hZ
  generalize ((w.alloc (.cells #[.int .i64 y.k, .int .i64 y.f, .int .i64 y.t, .int .i64 y.s.g, .int .i64 y.s.o, .int .i64 y.s.b, .int .i64 y.s.h, .slice p y.ws.length c, .string y.b] 43)).alloc (.cells #[.int .i64 0, .int .i64 0, .int .i64 0, .int .i64 0, .int .i64 0, .int .i64 0, .int .i64 0, .slice none 0 0, .string ⟨#[]⟩] 27)).alloc (.cells #[.int .i64 y.k, .int .i64 y.f, .int .i64 y.t, .int .i64 0, .int .i64 0, .int .i64 0, .int .i64 0, .slice none 0 0, .string ⟨#[]⟩] 27) = A at hX hY hZ hA0 ⊢
  clear e1 e2
  obtain ⟨G, hG⟩ : ∃ G, w.heap.size = G := ⟨_, rfl⟩
  rw [hG] at hX hY hZ ⊢
  have x3 := cellW hX.out 3 _ rfl A (Below.refl _ _)
  have x4 := cellW hX.out 4 _ rfl A (Below.refl _ _)
  have x5 := cellW hX.out 5 _ rfl A (Below.refl _ _)
  have x6 := cellW hX.out 6 _ rfl A (Below.refl _ _)
  go_cut [] (fun wx => Hid (wx.heap[G]? = some (.cells #[.int .i64 y.k, .int .i64 y.f, .int .i64 y.t, .int .i64 y.s.g, .int .i64 y.s.o, .int .i64 y.s.b, .int .i64 y.s.h, .slice p y.ws.length c, .string y.b] 43 (0, 0))) ∧ Hid (wx.heap[G + 1]? = some (.cells #[.int .i64 0, .int .i64 0, .int .i64 0, .int .i64 0, .int .i64 0, .int .i64 0, .int .i64 0, .slice none 0 0, .string ⟨#[]⟩] 27 (0, 0))) ∧ Hid (wx.heap[G + 1 + 1]? = some (.cells #[.int .i64 y.k, .int .i64 y.f, .int .i64 y.t, .int .i64 y.s.g, .int .i64 y.s.o, .int .i64 y.s.b, .int .i64 y.s.h, .slice none 0 0, .string ⟨#[]⟩] 27 (0, 0))) ∧ Below G w wx)
  case first =>
    go_wp2_with (go_at_call 55; refine (HT.out _).mono ?_; rintro e w1 ⟨rfl, hb1⟩; have hZ1 : Hid _ := blk hZ.out hb1; have z3 := cellW hZ1.out 3 _ rfl w1 (Below.refl _ _); have z4 := cellW hZ1.out 4 _ rfl w1 (Below.refl _ _); have z5 := cellW hZ1.out 5 _ rfl w1 (Below.refl _ _); have z6 := cellW hZ1.out 6 _ rfl w1 (Below.refl _ _); have f3 := frozenW hZ1.out 3 w1 (Below.refl _ _); have f4 := frozenW hZ1.out 4 w1 (Below.refl _ _); have f5 := frozenW hZ1.out 5 w1 (Below.refl _ _); have f6 := frozenW hZ1.out 6 w1 (Below.refl _ _))
    go_meet
    have hB := keepB hA0 (Nat.le_refl _) hb1
    rw [hG] at hB
    have k3 := Joins.block_setCell (i := 3) hZ1.out (Value.int .i64 y.s.g)
    have k4 := Joins.block_setCell (i := 4) k3 (Value.int .i64 y.s.o)
    have k5 := Joins.block_setCell (i := 5) k4 (Value.int .i64 y.s.b)
    have k6 := Joins.block_setCell (i := 6) k5 (Value.int .i64 y.s.h)
    refine ⟨?_, ?_, k6, ?_⟩
    · show _ = _
      rw [Below.heap_setCell _ _ _ _ (by simp only; omega), Below.heap_setCell _ _ _ _ (by simp only; omega), Below.heap_setCell _ _ _ _ (by simp only; omega), Below.heap_setCell _ _ _ _ (by simp only; omega)]
      exact blk hX.out hb1
    · show _ = _
      rw [Below.heap_setCell _ _ _ _ (by simp only; omega), Below.heap_setCell _ _ _ _ (by simp only; omega), Below.heap_setCell _ _ _ _ (by simp only; omega), Below.heap_setCell _ _ _ _ (by simp only; omega)]
      exact blk hY.out hb1
    · exact (((hB.setCell (by simp only; omega) _).setCell (by simp only; omega) _).setCell (by simp only; omega) _).setCell (by simp only; omega) _
  case rest =>
    clear hX hY hZ x3 x4 x5 x6 HT hA0
    obtain ⟨hX, hY, hZ, hzz⟩ := hcut
    rename World => z
    have x7 := cellW hX.out 7 _ rfl z (Below.refl _ _)
    have hlz := (Array.getElem?_eq_some_iff.1 hZ.out).1
    have hzw : Below w.heap.size w z := by rw [hG]; exact hzz
    go_wp2_with (go_at_call 56; refine (HI.out _ hzw).mono ?_; rintro e w2 ⟨v, rfl, hown, hb2⟩; obtain ⟨pv, cv, rfl⟩ := hown.shape; have hX2 : Hid _ := blk hX.out hb2; have hY2 : Hid _ := blk hY.out hb2; have hZ2 : Hid _ := blk hZ.out hb2; have x8 := cellW hX2.out 8 _ rfl w2 (Below.refl _ _); have z0 := cellW hZ2.out 0 _ rfl w2 (Below.refl _ _); have z1 := cellW hZ2.out 1 _ rfl w2 (Below.refl _ _); have z2 := cellW hZ2.out 2 _ rfl w2 (Below.refl _ _); have z3 := cellW hZ2.out 3 _ rfl w2 (Below.refl _ _); have z4 := cellW hZ2.out 4 _ rfl w2 (Below.refl _ _); have z5 := cellW hZ2.out 5 _ rfl w2 (Below.refl _ _); have z6 := cellW hZ2.out 6 _ rfl w2 (Below.refl _ _); have z7 := cellW hZ2.out 7 _ rfl w2 (Below.refl _ _); have z8 := cellW hZ2.out 8 _ rfl w2 (Below.refl _ _); have f7 := frozenW hZ2.out 7 w2 (Below.refl _ _); have f8 := frozenW hZ2.out 8 w2 (Below.refl _ _); have y0 := cellW hY2.out 0 _ rfl w2 (Below.refl _ _); have y1 := cellW hY2.out 1 _ rfl w2 (Below.refl _ _); have y2 := cellW hY2.out 2 _ rfl w2 (Below.refl _ _); have y3 := cellW hY2.out 3 _ rfl w2 (Below.refl _ _); have y4 := cellW hY2.out 4 _ rfl w2 (Below.refl _ _); have y5 := cellW hY2.out 5 _ rfl w2 (Below.refl _ _); have y6 := cellW hY2.out 6 _ rfl w2 (Below.refl _ _); have y7 := cellW hY2.out 7 _ rfl w2 (Below.refl _ _); have y8 := cellW hY2.out 8 _ rfl w2 (Below.refl _ _); have g0 := frozenW hY2.out 0 w2 (Below.refl _ _); have g1 := frozenW hY2.out 1 w2 (Below.refl _ _); have g2 := frozenW hY2.out 2 w2 (Below.refl _ _); have g3 := frozenW hY2.out 3 w2 (Below.refl _ _); have g4 := frozenW hY2.out 4 w2 (Below.refl _ _); have g5 := frozenW hY2.out 5 w2 (Below.refl _ _); have g6 := frozenW hY2.out 6 w2 (Below.refl _ _); have g7 := frozenW hY2.out 7 w2 (Below.refl _ _); have g8 := frozenW hY2.out 8 w2 (Below.refl _ _))
    have hB2 : Below w.heap.size w w2 := keepB hzw (Nat.le_refl _) hb2
    have hsz := hzw.size
    exact bodyPost_ret (v := .agg #[.int .i64 y.k, .int .i64 y.f, .int .i64 y.t, .int .i64 y.s.g, .int .i64 y.s.o, .int .i64 y.s.b, .int .i64 y.s.h, .slice pv y.ws.length cv, .string y.b]) (by simp [results, Try.results22, go_sem, y0, y1, y2, y3, y4, y5, y6, y7, y8]) rfl ⟨_, rfl, OwnI.le (OwnI.far (OwnI.far (OwnI.far (OwnI.far (OwnI.far (OwnI.far (OwnI.far (OwnI.far (OwnI.far (OwnI.far (OwnI.far hown (by simp only; omega) _) (by simp only; omega) _) (by simp only; omega) _) (by simp only; omega) _) (by simp only; omega) _) (by simp only; omega) _) (by simp only; omega) _) (by simp only; omega) _) (by simp only; omega) _) (by simp only; omega) _) (by simp only; omega) _) hsz, (Below.setCell (Below.setCell (Below.setCell (Below.setCell (Below.setCell (Below.setCell (Below.setCell (Below.setCell (Below.setCell (Below.setCell (Below.setCell hB2 (by simp only; omega) _) (by simp only; omega) _) (by simp only; omega) _) (by simp only; omega) _) (by simp only; omega) _) (by simp only; omega) _) (by simp only; omega) _) (by simp only; omega) _) (by simp only; omega) _) (by simp only; omega) _) (by simp only; omega) _)⟩
end Go.Proofs.Ythmbfkppjijelaa
