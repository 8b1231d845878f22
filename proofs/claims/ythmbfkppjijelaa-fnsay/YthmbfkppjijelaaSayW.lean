/- THE WALK of the program's SayRead: the right one whose bytes these are, or the code. -/
import Derived.Test.YthmbfkppjijelaaSayQ
import Derived.Test.YthmbfkppjijelaaSayC
namespace Go.Proofs.Ythmbfkppjijelaa
open Go.RowKit
set_option linter.unusedVariables false
set_option linter.unusedSimpArgs false

def zeroSy : Sy := ⟨0, 0, 0, ⟨0, 0, 0, 0⟩, [], ⟨#[]⟩⟩
/-- what SayRead answers -/
def sayRes (s : ByteArray) : Sy × Int := if 8000 < s.size then (zeroSy, 2) else match saidR s with
  | none => (zeroSy, 3)
  | some y => (y, 0)
theorem saidP_some {s : ByteArray} {y : Sy} (h : saidP s = some y) : ∃ n0 n1 n2 n3 n4 n5 n6 n7 q ws q2, numsR s 0 8 = some ([n0, n1, n2, n3, n4, n5, n6, n7], q) ∧ numsR s q n7.toNat = some (ws, q2) ∧ (getT s q2).2.2 = 0 ∧ y = ⟨n0, n1, n2, ⟨n3, n4, n5, n6⟩, ws, (getT s q2).1⟩ := by
  unfold saidP at h
  split at h
  · cases h
  · rename_i l q e1
    split at h
    · cases h
    · rename_i ws q2 e2
      split at h
      · rename_i e3
        obtain ⟨n0, n1, n2, n3, n4, n5, n6, n7, rfl⟩ := list8 (numsR_len e1)
        cases h
        exact ⟨n0, n1, n2, n3, n4, n5, n6, n7, q, ws, q2, e1, e2, e3, rfl⟩
      · cases h
theorem saidP_none {s : ByteArray} (h : saidP s = none) : numsR s 0 8 = none ∨ ∃ n0 n1 n2 n3 n4 n5 n6 n7 q, numsR s 0 8 = some ([n0, n1, n2, n3, n4, n5, n6, n7], q) ∧ (numsR s q n7.toNat = none ∨ ∃ ws q2, numsR s q n7.toNat = some (ws, q2) ∧ (getT s q2).2.2 ≠ 0) := by
  unfold saidP at h
  split at h
  · rename_i e1
    exact .inl e1
  · rename_i l q e1
    obtain ⟨n0, n1, n2, n3, n4, n5, n6, n7, rfl⟩ := list8 (numsR_len e1)
    refine .inr ⟨n0, n1, n2, n3, n4, n5, n6, n7, q, e1, ?_⟩
    split at h
    · rename_i e2
      exact .inl e2
    · rename_i ws q2 e2
      split at h
      · cases h
      · rename_i e3
        exact .inr ⟨ws, q2, e2, e3⟩
theorem getT_len (s : ByteArray) (a : Int) : (getT s a).1.size ≤ s.size := by
  unfold getT
  split
  · exact Nat.zero_le _
  · split
    · exact Nat.zero_le _
    · split
      · exact Nat.zero_le _
      · simp only [ByteArray.size_extract]
        omega
theorem saidP_bounds {s : ByteArray} {y : Sy} (hs : s.size ≤ 8000) (h : saidP s = some y) : y.ws.length ≤ 8000 ∧ y.b.size ≤ 8000 := by
  obtain ⟨n0, n1, n2, n3, n4, n5, n6, n7, q, ws, q2, e1, e2, e3, rfl⟩ := saidP_some h
  have h1 := numsR_at (s := s) (a := 0) (by omega) (by omega) e1
  have h2 := numsR_at (s := s) (a := q) (by omega) (by omega) e2
  have h3 := numsR_len e2
  have h4 := getT_len s q2
  exact ⟨by simp only; omega, by simp only; omega⟩
theorem readSay_ok {s : ByteArray} {y : Sy} (h : saidP s = some y) (w : World) (hs : s.size ≤ 8000) :
    Calls Try.prog 36 #[.string s] w fun e w' => ∃ v, e = .returned (.tuple #[.agg #[.int .i64 y.k, .int .i64 y.f, .int .i64 y.t, .int .i64 y.s.g, .int .i64 y.s.o, .int .i64 y.s.b, .int .i64 y.s.h, v, .string y.b], .nilIface]) ∧ OwnI w' w.heap.size v y.ws ∧ Below w.heap.size w w' := by
  obtain ⟨n0, n1, n2, n3, n4, n5, n6, n7, q, ws, q2, e1, e2, e3, rfl⟩ := saidP_some h
  exact readSay_d s w hs n0 n1 n2 n3 n4 n5 n6 n7 q q2 ws e1 e2 e3
theorem readSay_no {s : ByteArray} (h : saidP s = none) (w : World) (hs : s.size ≤ 8000) :
    Calls Try.prog 36 #[.string s] w fun e w' => ∃ c, e = .returned (.tuple #[.agg #[.int .i64 0, .int .i64 0, .int .i64 0, .int .i64 0, .int .i64 0, .int .i64 0, .int .i64 0, .slice none 0 0, .string ⟨#[]⟩], .iface 101 (.agg #[.int .i64 c])]) ∧ Below w.heap.size w w' := by
  rcases saidP_none h with e1 | ⟨n0, n1, n2, n3, n4, n5, n6, n7, q, e1, e2 | ⟨ws, q2, e2, e3⟩⟩
  · exact readSay_a s w hs e1
  · exact readSay_b s w hs n0 n1 n2 n3 n4 n5 n6 n7 q e1 e2
  · exact readSay_c s w hs n0 n1 n2 n3 n4 n5 n6 n7 q q2 ws e1 e2 e3
set_option maxRecDepth 100000 in
set_option maxHeartbeats 1600000 in
theorem sayRead_any (s : ByteArray) (w : World) (hz : s.size ≤ maxLen) :
    Calls Try.prog 10 #[.string s] w fun e w' => ∃ v, e = .returned (.agg #[.int .i64 (sayRes s).1.k, .int .i64 (sayRes s).1.f, .int .i64 (sayRes s).1.t, .int .i64 (sayRes s).1.s.g, .int .i64 (sayRes s).1.s.o, .int .i64 (sayRes s).1.s.b, .int .i64 (sayRes s).1.s.h, v, .string (sayRes s).1.b, .int .i64 (sayRes s).2]) ∧ OwnI w' w.heap.size v (sayRes s).1.ws ∧ Below w.heap.size w w' := by
  unfold maxLen at hz
  by_cases h8 : 8000 < s.size
  · have e : sayRes s = (zeroSy, 2) := by unfold sayRes; rw [if_pos h8]
    rw [e]
    unfold zeroSy
    simp only
    go_enter Try.func10, Try.ntmps10
    go_wp2
    exact bodyPost_ret (v := .agg #[.int .i64 0, .int .i64 0, .int .i64 0, .int .i64 0, .int .i64 0, .int .i64 0, .int .i64 0, .slice none 0 0, .string ⟨#[]⟩, .int .i64 2]) (by simp [results, Try.results10, go_sem]) rfl ⟨.slice none 0 0, rfl, OwnI.nil _ _, by
      repeat (first | exact Below.refl _ _ | refine Below.setCell ?_ (by simp <;> omega) _ | refine Below.alloc ?_ (by simp <;> omega) _)⟩
  have hs : s.size ≤ 8000 := by omega
  cases hP : saidP s with
  | none =>
    have e : sayRes s = (zeroSy, 3) := by unfold sayRes saidR; rw [if_neg h8, hP]
    rw [e]
    unfold zeroSy
    simp only
    have HR : Hid _ := fun W => readSay_no hP W hs
    clear hP e
    go_enter Try.func10, Try.ntmps10
    go_wp2_with (go_at_call 36; refine (HR.out _).mono ?_; rintro e w1 ⟨c, rfl, hb1⟩; have hY1 : Hid _ := blk (blk (heap_alloc_new w (.cells #[.int .i64 0, .int .i64 0, .int .i64 0, .int .i64 0, .int .i64 0, .int .i64 0, .int .i64 0, .slice none 0 0, .string ⟨#[]⟩, .int .i64 0] 32)) hb1) (all_alloc w1 (.cells #[.int .i64 0, .int .i64 0, .int .i64 0, .int .i64 0, .int .i64 0, .int .i64 0, .int .i64 0, .slice none 0 0, .string ⟨#[]⟩] 27)); have y0 := cellW hY1.out 0 _ rfl (w1.alloc (.cells #[.int .i64 0, .int .i64 0, .int .i64 0, .int .i64 0, .int .i64 0, .int .i64 0, .int .i64 0, .slice none 0 0, .string ⟨#[]⟩] 27)) (Below.refl _ _); have y1 := cellW hY1.out 1 _ rfl (w1.alloc (.cells #[.int .i64 0, .int .i64 0, .int .i64 0, .int .i64 0, .int .i64 0, .int .i64 0, .int .i64 0, .slice none 0 0, .string ⟨#[]⟩] 27)) (Below.refl _ _); have y2 := cellW hY1.out 2 _ rfl (w1.alloc (.cells #[.int .i64 0, .int .i64 0, .int .i64 0, .int .i64 0, .int .i64 0, .int .i64 0, .int .i64 0, .slice none 0 0, .string ⟨#[]⟩] 27)) (Below.refl _ _); have y3 := cellW hY1.out 3 _ rfl (w1.alloc (.cells #[.int .i64 0, .int .i64 0, .int .i64 0, .int .i64 0, .int .i64 0, .int .i64 0, .int .i64 0, .slice none 0 0, .string ⟨#[]⟩] 27)) (Below.refl _ _); have y4 := cellW hY1.out 4 _ rfl (w1.alloc (.cells #[.int .i64 0, .int .i64 0, .int .i64 0, .int .i64 0, .int .i64 0, .int .i64 0, .int .i64 0, .slice none 0 0, .string ⟨#[]⟩] 27)) (Below.refl _ _); have y5 := cellW hY1.out 5 _ rfl (w1.alloc (.cells #[.int .i64 0, .int .i64 0, .int .i64 0, .int .i64 0, .int .i64 0, .int .i64 0, .int .i64 0, .slice none 0 0, .string ⟨#[]⟩] 27)) (Below.refl _ _); have y6 := cellW hY1.out 6 _ rfl (w1.alloc (.cells #[.int .i64 0, .int .i64 0, .int .i64 0, .int .i64 0, .int .i64 0, .int .i64 0, .int .i64 0, .slice none 0 0, .string ⟨#[]⟩] 27)) (Below.refl _ _); have y7 := cellW hY1.out 7 _ rfl (w1.alloc (.cells #[.int .i64 0, .int .i64 0, .int .i64 0, .int .i64 0, .int .i64 0, .int .i64 0, .int .i64 0, .slice none 0 0, .string ⟨#[]⟩] 27)) (Below.refl _ _); have y8 := cellW hY1.out 8 _ rfl (w1.alloc (.cells #[.int .i64 0, .int .i64 0, .int .i64 0, .int .i64 0, .int .i64 0, .int .i64 0, .int .i64 0, .slice none 0 0, .string ⟨#[]⟩] 27)) (Below.refl _ _); have y9 := cellW hY1.out 9 _ rfl (w1.alloc (.cells #[.int .i64 0, .int .i64 0, .int .i64 0, .int .i64 0, .int .i64 0, .int .i64 0, .int .i64 0, .slice none 0 0, .string ⟨#[]⟩] 27)) (Below.refl _ _); have g0 := frozenW hY1.out 0 (w1.alloc (.cells #[.int .i64 0, .int .i64 0, .int .i64 0, .int .i64 0, .int .i64 0, .int .i64 0, .int .i64 0, .slice none 0 0, .string ⟨#[]⟩] 27)) (Below.refl _ _); have g1 := frozenW hY1.out 1 (w1.alloc (.cells #[.int .i64 0, .int .i64 0, .int .i64 0, .int .i64 0, .int .i64 0, .int .i64 0, .int .i64 0, .slice none 0 0, .string ⟨#[]⟩] 27)) (Below.refl _ _); have g2 := frozenW hY1.out 2 (w1.alloc (.cells #[.int .i64 0, .int .i64 0, .int .i64 0, .int .i64 0, .int .i64 0, .int .i64 0, .int .i64 0, .slice none 0 0, .string ⟨#[]⟩] 27)) (Below.refl _ _); have g3 := frozenW hY1.out 3 (w1.alloc (.cells #[.int .i64 0, .int .i64 0, .int .i64 0, .int .i64 0, .int .i64 0, .int .i64 0, .int .i64 0, .slice none 0 0, .string ⟨#[]⟩] 27)) (Below.refl _ _); have g4 := frozenW hY1.out 4 (w1.alloc (.cells #[.int .i64 0, .int .i64 0, .int .i64 0, .int .i64 0, .int .i64 0, .int .i64 0, .int .i64 0, .slice none 0 0, .string ⟨#[]⟩] 27)) (Below.refl _ _); have g5 := frozenW hY1.out 5 (w1.alloc (.cells #[.int .i64 0, .int .i64 0, .int .i64 0, .int .i64 0, .int .i64 0, .int .i64 0, .int .i64 0, .slice none 0 0, .string ⟨#[]⟩] 27)) (Below.refl _ _); have g6 := frozenW hY1.out 6 (w1.alloc (.cells #[.int .i64 0, .int .i64 0, .int .i64 0, .int .i64 0, .int .i64 0, .int .i64 0, .int .i64 0, .slice none 0 0, .string ⟨#[]⟩] 27)) (Below.refl _ _); have g7 := frozenW hY1.out 7 (w1.alloc (.cells #[.int .i64 0, .int .i64 0, .int .i64 0, .int .i64 0, .int .i64 0, .int .i64 0, .int .i64 0, .slice none 0 0, .string ⟨#[]⟩] 27)) (Below.refl _ _); have g8 := frozenW hY1.out 8 (w1.alloc (.cells #[.int .i64 0, .int .i64 0, .int .i64 0, .int .i64 0, .int .i64 0, .int .i64 0, .int .i64 0, .slice none 0 0, .string ⟨#[]⟩] 27)) (Below.refl _ _); have g9 := frozenW hY1.out 9 (w1.alloc (.cells #[.int .i64 0, .int .i64 0, .int .i64 0, .int .i64 0, .int .i64 0, .int .i64 0, .int .i64 0, .slice none 0 0, .string ⟨#[]⟩] 27)) (Below.refl _ _))
    have hBk := keepB (keepB (all_alloc w (.cells #[.int .i64 0, .int .i64 0, .int .i64 0, .int .i64 0, .int .i64 0, .int .i64 0, .int .i64 0, .slice none 0 0, .string ⟨#[]⟩, .int .i64 0] 32)) (Nat.le_refl _) hb1) (Nat.le_refl _) (all_alloc w1 (.cells #[.int .i64 0, .int .i64 0, .int .i64 0, .int .i64 0, .int .i64 0, .int .i64 0, .int .i64 0, .slice none 0 0, .string ⟨#[]⟩] 27))
    exact bodyPost_ret (v := .agg #[.int .i64 0, .int .i64 0, .int .i64 0, .int .i64 0, .int .i64 0, .int .i64 0, .int .i64 0, .slice none 0 0, .string ⟨#[]⟩, .int .i64 3]) (by simp [results, Try.results10, go_sem, y0, y1, y2, y3, y4, y5, y6, y7, y8, y9]) rfl ⟨.slice none 0 0, rfl, OwnI.nil _ _, (Below.setCell (Below.setCell (Below.setCell (Below.setCell (Below.setCell (Below.setCell (Below.setCell (Below.setCell (Below.setCell (Below.setCell hBk (by simp only; omega) _) (by simp only; omega) _) (by simp only; omega) _) (by simp only; omega) _) (by simp only; omega) _) (by simp only; omega) _) (by simp only; omega) _) (by simp only; omega) _) (by simp only; omega) _) (by simp only; omega) _)⟩
  | some y =>
    obtain ⟨hwl, hbl⟩ := saidP_bounds hs hP
    have HR : Hid _ := fun W => readSay_ok hP W hs
    have HB : Hid (∀ (W : World) (p : Option Addr) (c : Nat), RowI W (.slice p y.ws.length c) y.ws → Calls Try.prog 8 #[.agg #[.int .i64 y.k, .int .i64 y.f, .int .i64 y.t, .int .i64 y.s.g, .int .i64 y.s.o, .int .i64 y.s.b, .int .i64 y.s.h, .slice p y.ws.length c, .string y.b]] W fun e w' => e = .returned (.string (sayB y)) ∧ Below W.heap.size W w') := fun W p c h => sayBytes_any y p c W (by unfold maxLen; omega) (by omega) h
    by_cases hq : sayB y = s
    · have e : sayRes s = (y, 0) := by unfold sayRes saidR; rw [if_neg h8, hP]; simp [hq]
      rw [e]
      simp only
      rw [hq] at HB
      have es : (s.toList == s.toList) = true := by simp
      clear hP e hq
      go_enter Try.func10, Try.ntmps10
      go_wp2_with (first
        | (go_at_call 36; refine (HR.out _).mono ?_; rintro e w1 ⟨v1, rfl, ho1, hb1⟩; obtain ⟨p1, c1, rfl⟩ := ho1.shape; rw [show (w.alloc (.cells #[.int .i64 0, .int .i64 0, .int .i64 0, .int .i64 0, .int .i64 0, .int .i64 0, .int .i64 0, .slice none 0 0, .string ⟨#[]⟩, .int .i64 0] 32)).heap.size = w.heap.size + 1 by simp] at ho1; have ha1 := all_alloc w1 (.cells #[.int .i64 y.k, .int .i64 y.f, .int .i64 y.t, .int .i64 y.s.g, .int .i64 y.s.o, .int .i64 y.s.b, .int .i64 y.s.h, .slice p1 y.ws.length c1, .string y.b] 27); have hX1 : Hid _ := heap_alloc_new w1 (.cells #[.int .i64 y.k, .int .i64 y.f, .int .i64 y.t, .int .i64 y.s.g, .int .i64 y.s.o, .int .i64 y.s.b, .int .i64 y.s.h, .slice p1 y.ws.length c1, .string y.b] 27); have hY1 : Hid _ := blk (blk (heap_alloc_new w (.cells #[.int .i64 0, .int .i64 0, .int .i64 0, .int .i64 0, .int .i64 0, .int .i64 0, .int .i64 0, .slice none 0 0, .string ⟨#[]⟩, .int .i64 0] 32)) hb1) ha1; have ho2 := ho1.below ha1)
        | (go_at_call 8; refine (HB.out _ _ _ ho2.row).mono ?_; rintro e w2 ⟨rfl, hb2⟩; have hX2 : Hid _ := blk hX1.out hb2; have hY2 : Hid _ := blk hY1.out hb2; have x0 := cellW hX2.out 0 _ rfl w2 (Below.refl _ _); have x1 := cellW hX2.out 1 _ rfl w2 (Below.refl _ _); have x2 := cellW hX2.out 2 _ rfl w2 (Below.refl _ _); have x3 := cellW hX2.out 3 _ rfl w2 (Below.refl _ _); have x4 := cellW hX2.out 4 _ rfl w2 (Below.refl _ _); have x5 := cellW hX2.out 5 _ rfl w2 (Below.refl _ _); have x6 := cellW hX2.out 6 _ rfl w2 (Below.refl _ _); have x7 := cellW hX2.out 7 _ rfl w2 (Below.refl _ _); have x8 := cellW hX2.out 8 _ rfl w2 (Below.refl _ _); have y0 := cellW hY2.out 0 _ rfl w2 (Below.refl _ _); have y1 := cellW hY2.out 1 _ rfl w2 (Below.refl _ _); have y2 := cellW hY2.out 2 _ rfl w2 (Below.refl _ _); have y3 := cellW hY2.out 3 _ rfl w2 (Below.refl _ _); have y4 := cellW hY2.out 4 _ rfl w2 (Below.refl _ _); have y5 := cellW hY2.out 5 _ rfl w2 (Below.refl _ _); have y6 := cellW hY2.out 6 _ rfl w2 (Below.refl _ _); have y7 := cellW hY2.out 7 _ rfl w2 (Below.refl _ _); have y8 := cellW hY2.out 8 _ rfl w2 (Below.refl _ _); have y9 := cellW hY2.out 9 _ rfl w2 (Below.refl _ _); have g0 := frozenW hY2.out 0 w2 (Below.refl _ _); have g1 := frozenW hY2.out 1 w2 (Below.refl _ _); have g2 := frozenW hY2.out 2 w2 (Below.refl _ _); have g3 := frozenW hY2.out 3 w2 (Below.refl _ _); have g4 := frozenW hY2.out 4 w2 (Below.refl _ _); have g5 := frozenW hY2.out 5 w2 (Below.refl _ _); have g6 := frozenW hY2.out 6 w2 (Below.refl _ _); have g7 := frozenW hY2.out 7 w2 (Below.refl _ _); have g8 := frozenW hY2.out 8 w2 (Below.refl _ _); have g9 := frozenW hY2.out 9 w2 (Below.refl _ _)))
      have hBk := keepB (keepB (keepB (all_alloc w (.cells #[.int .i64 0, .int .i64 0, .int .i64 0, .int .i64 0, .int .i64 0, .int .i64 0, .int .i64 0, .slice none 0 0, .string ⟨#[]⟩, .int .i64 0] 32)) (Nat.le_refl _) hb1) (Nat.le_refl _) ha1) (Nat.le_refl _) hb2
      exact bodyPost_ret (v := .agg #[.int .i64 y.k, .int .i64 y.f, .int .i64 y.t, .int .i64 y.s.g, .int .i64 y.s.o, .int .i64 y.s.b, .int .i64 y.s.h, .slice p1 y.ws.length c1, .string y.b, .int .i64 0]) (by simp [results, Try.results10, go_sem, y0, y1, y2, y3, y4, y5, y6, y7, y8, y9]) rfl ⟨_, rfl, OwnI.le (OwnI.far (OwnI.far (OwnI.far (OwnI.far (OwnI.far (OwnI.far (OwnI.far (OwnI.far (OwnI.far (OwnI.far (ho2.below hb2) (by simp only; omega) _) (by simp only; omega) _) (by simp only; omega) _) (by simp only; omega) _) (by simp only; omega) _) (by simp only; omega) _) (by simp only; omega) _) (by simp only; omega) _) (by simp only; omega) _) (by simp only; omega) _) (by omega), (Below.setCell (Below.setCell (Below.setCell (Below.setCell (Below.setCell (Below.setCell (Below.setCell (Below.setCell (Below.setCell (Below.setCell hBk (by simp only; omega) _) (by simp only; omega) _) (by simp only; omega) _) (by simp only; omega) _) (by simp only; omega) _) (by simp only; omega) _) (by simp only; omega) _) (by simp only; omega) _) (by simp only; omega) _) (by simp only; omega) _)⟩
    · have e : sayRes s = (zeroSy, 3) := by unfold sayRes saidR; rw [if_neg h8, hP]; simp [hq]
      rw [e]
      unfold zeroSy
      simp only
      have es : ((sayB y).toList == s.toList) = false := by
        rw [Lib.toList_data, Lib.toList_data, beq_eq_false_iff_ne]
        intro h
        exact hq (bytes_ext h)
      generalize sayB y = B at HB es
      clear hP e hq
      go_enter Try.func10, Try.ntmps10
      go_wp2_with (first
        | (go_at_call 36; refine (HR.out _).mono ?_; rintro e w1 ⟨v1, rfl, ho1, hb1⟩; obtain ⟨p1, c1, rfl⟩ := ho1.shape; rw [show (w.alloc (.cells #[.int .i64 0, .int .i64 0, .int .i64 0, .int .i64 0, .int .i64 0, .int .i64 0, .int .i64 0, .slice none 0 0, .string ⟨#[]⟩, .int .i64 0] 32)).heap.size = w.heap.size + 1 by simp] at ho1; have ha1 := all_alloc w1 (.cells #[.int .i64 y.k, .int .i64 y.f, .int .i64 y.t, .int .i64 y.s.g, .int .i64 y.s.o, .int .i64 y.s.b, .int .i64 y.s.h, .slice p1 y.ws.length c1, .string y.b] 27); have hX1 : Hid _ := heap_alloc_new w1 (.cells #[.int .i64 y.k, .int .i64 y.f, .int .i64 y.t, .int .i64 y.s.g, .int .i64 y.s.o, .int .i64 y.s.b, .int .i64 y.s.h, .slice p1 y.ws.length c1, .string y.b] 27); have hY1 : Hid _ := blk (blk (heap_alloc_new w (.cells #[.int .i64 0, .int .i64 0, .int .i64 0, .int .i64 0, .int .i64 0, .int .i64 0, .int .i64 0, .slice none 0 0, .string ⟨#[]⟩, .int .i64 0] 32)) hb1) ha1; have ho2 := ho1.below ha1)
        | (go_at_call 8; refine (HB.out _ _ _ ho2.row).mono ?_; rintro e w2 ⟨rfl, hb2⟩; have hX2 : Hid _ := blk hX1.out hb2; have hY2 : Hid _ := blk hY1.out hb2; have x0 := cellW hX2.out 0 _ rfl w2 (Below.refl _ _); have x1 := cellW hX2.out 1 _ rfl w2 (Below.refl _ _); have x2 := cellW hX2.out 2 _ rfl w2 (Below.refl _ _); have x3 := cellW hX2.out 3 _ rfl w2 (Below.refl _ _); have x4 := cellW hX2.out 4 _ rfl w2 (Below.refl _ _); have x5 := cellW hX2.out 5 _ rfl w2 (Below.refl _ _); have x6 := cellW hX2.out 6 _ rfl w2 (Below.refl _ _); have x7 := cellW hX2.out 7 _ rfl w2 (Below.refl _ _); have x8 := cellW hX2.out 8 _ rfl w2 (Below.refl _ _); have y0 := cellW hY2.out 0 _ rfl w2 (Below.refl _ _); have y1 := cellW hY2.out 1 _ rfl w2 (Below.refl _ _); have y2 := cellW hY2.out 2 _ rfl w2 (Below.refl _ _); have y3 := cellW hY2.out 3 _ rfl w2 (Below.refl _ _); have y4 := cellW hY2.out 4 _ rfl w2 (Below.refl _ _); have y5 := cellW hY2.out 5 _ rfl w2 (Below.refl _ _); have y6 := cellW hY2.out 6 _ rfl w2 (Below.refl _ _); have y7 := cellW hY2.out 7 _ rfl w2 (Below.refl _ _); have y8 := cellW hY2.out 8 _ rfl w2 (Below.refl _ _); have y9 := cellW hY2.out 9 _ rfl w2 (Below.refl _ _); have g0 := frozenW hY2.out 0 w2 (Below.refl _ _); have g1 := frozenW hY2.out 1 w2 (Below.refl _ _); have g2 := frozenW hY2.out 2 w2 (Below.refl _ _); have g3 := frozenW hY2.out 3 w2 (Below.refl _ _); have g4 := frozenW hY2.out 4 w2 (Below.refl _ _); have g5 := frozenW hY2.out 5 w2 (Below.refl _ _); have g6 := frozenW hY2.out 6 w2 (Below.refl _ _); have g7 := frozenW hY2.out 7 w2 (Below.refl _ _); have g8 := frozenW hY2.out 8 w2 (Below.refl _ _); have g9 := frozenW hY2.out 9 w2 (Below.refl _ _)))
      have hBk := keepB (keepB (keepB (all_alloc w (.cells #[.int .i64 0, .int .i64 0, .int .i64 0, .int .i64 0, .int .i64 0, .int .i64 0, .int .i64 0, .slice none 0 0, .string ⟨#[]⟩, .int .i64 0] 32)) (Nat.le_refl _) hb1) (Nat.le_refl _) ha1) (Nat.le_refl _) hb2
      exact bodyPost_ret (v := .agg #[.int .i64 0, .int .i64 0, .int .i64 0, .int .i64 0, .int .i64 0, .int .i64 0, .int .i64 0, .slice none 0 0, .string ⟨#[]⟩, .int .i64 3]) (by simp [results, Try.results10, go_sem, y0, y1, y2, y3, y4, y5, y6, y7, y8, y9]) rfl ⟨.slice none 0 0, rfl, OwnI.nil _ _, (Below.setCell (Below.setCell (Below.setCell (Below.setCell (Below.setCell (Below.setCell (Below.setCell (Below.setCell (Below.setCell (Below.setCell hBk (by simp only; omega) _) (by simp only; omega) _) (by simp only; omega) _) (by simp only; omega) _) (by simp only; omega) _) (by simp only; omega) _) (by simp only; omega) _) (by simp only; omega) _) (by simp only; omega) _) (by simp only; omega) _)⟩
end Go.Proofs.Ythmbfkppjijelaa
