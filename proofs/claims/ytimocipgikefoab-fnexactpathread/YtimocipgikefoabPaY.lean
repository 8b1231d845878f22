/- A PATH READ: the program's PathRead. -/
import Derived.Test.YtimocipgikefoabPaW
namespace Go.Proofs.Ytimocipgikefoab
open Go.RowKit
set_option linter.unusedVariables false
set_option linter.unusedSimpArgs false

theorem bytes_of_list {a b : ByteArray} (h : a.toList = b.toList) : a = b := by
  rw [Lib.toList_data, Lib.toList_data] at h
  exact ByteArray.ext (Array.toList_inj.1 h)
set_option maxRecDepth 100000 in
set_option maxHeartbeats 1600000 in
theorem pathRead_any (s : ByteArray) (w : World) (hz : s.size ≤ 9223372036854775807) :
    Calls Try.prog 11 #[.string s] w fun e w' => ∃ u1 u2, e = .returned (.agg #[u1, u2, .int .i64 (readP s).a, .int .i64 (readP s).c]) ∧ OwnT w' w.heap.size u1 u2 (readP s).t ∧ Below w.heap.size w w' := by
  have hY : Hid _ := heap_alloc_new w (.cells #[.slice none 0 0, .slice none 0 0, .int .i64 0, .int .i64 0] 32)
  have hA0 : Below w.heap.size w (w.alloc (.cells #[.slice none 0 0, .slice none 0 0, .int .i64 0, .int .i64 0] 32)) := all_alloc w _
  have e3 : w.heap.size + 1 ≤ (w.alloc (.cells #[.slice none 0 0, .slice none 0 0, .int .i64 0, .int .i64 0] 32)).heap.size := by simp
  by_cases h8 : 8000 < s.size
  · have eP : readP s = ⟨zeroT, 0, 2⟩ := by unfold readP; rw [if_pos h8]
    rw [eP]
    have h8' : (8000 : Int) < s.size := by omega
    clear eP
    go_enter Try.func11, Try.ntmps11
    go_upto_region 1 with fail
    generalize w.alloc (.cells #[.slice none 0 0, .slice none 0 0, .int .i64 0, .int .i64 0] 32) = A at hY hA0 e3 ⊢
    have z0 := cellW hY.out 0 _ rfl A (Below.refl _ _); have z1 := cellW hY.out 1 _ rfl A (Below.refl _ _); have z2 := cellW hY.out 2 _ rfl A (Below.refl _ _); have z3 := cellW hY.out 3 _ rfl A (Below.refl _ _); have fz0 := frozenW hY.out 0 A (Below.refl _ _); have fz1 := frozenW hY.out 1 A (Below.refl _ _); have fz2 := frozenW hY.out 2 A (Below.refl _ _); have fz3 := frozenW hY.out 3 A (Below.refl _ _)
    go_wp2
    exact bodyPost_ret (v := .agg #[.slice none 0 0, .slice none 0 0, .int .i64 0, .int .i64 2]) (by simp [results, Try.results11, go_sem, z0, z1, z2, z3]; try rfl) rfl ⟨_, _, rfl, ⟨OwnI.nil _ _, OwnI.nil _ _, fun a b h => by cases h⟩, (by first | exact hA0 | exact hA0.setCell (by simp only; omega) _ | exact (hA0.setCell (by simp only; omega) _).setCell (by simp only; omega) _ | exact ((((hA0.setCell (by simp only; omega) _).setCell (by simp only; omega) _).setCell (by simp only; omega) _).setCell (by simp only; omega) _))⟩
  have h8' : ¬ (8000 : Int) < s.size := by omega
  have HRP : Hid (∀ W : World, Calls Try.prog 24 #[.string s] W fun e w' => ∃ v1 v2, e = .returned (.agg #[v1, v2]) ∧ OwnT w' W.heap.size v1 v2 (rdAll s) ∧ Below W.heap.size W w') := fun W => readPath_any s W (by omega)
  have HPB : Hid (∀ (W : World) (B : Nat) (v1 v2 : Value), OwnT W B v1 v2 (rdAll s) → Calls Try.prog 8 #[.agg #[v1, v2]] W fun e w' => e = .returned (.string (pathB (rdAll s))) ∧ Below W.heap.size W w') := fun W B v1 v2 h => pathBytes_any (rdAll s) B v1 v2 W (by have := (rdAll_len s).1; omega) (by have := (rdAll_len s).2; omega) h
  have HP : Hid (readP s = if pathB (rdAll s) = s then ⟨rdAll s, 0, 0⟩ else ⟨zeroT, 0, 3⟩) := by show _ = _; unfold readP; rw [if_neg h8]
  generalize readP s = PP at HP ⊢
  generalize hbe : pathB (rdAll s) = BB at HPB HP
  clear hbe
  generalize rdAll s = T at HRP HPB HP
  by_cases hb : BB = s
  · have eP : PP = ⟨T, 0, 0⟩ := by rw [HP.out, if_pos hb]
    subst eP
    subst hb
    have e0 : (BB.toList == BB.toList) = true := by simp
    clear HP
    go_enter Try.func11, Try.ntmps11
    go_upto_region 1 with fail
    generalize w.alloc (.cells #[.slice none 0 0, .slice none 0 0, .int .i64 0, .int .i64 0] 32) = A at hY hA0 e3 ⊢
    go_upto_region 4 with (go_at_call 24; refine (HRP.out _).mono ?_; rintro e w1 ⟨v1, v2, rfl, own1, hb1⟩; obtain ⟨p1, c1, rfl⟩ := own1.c.shape; obtain ⟨p2, c2, rfl⟩ := own1.r.shape)
    have hP1 : Hid _ := heap_alloc_new w1 (.cells #[.slice p1 T.cs.length c1, .slice p2 T.rs.length c2] 27)
    have hY1 : Hid _ := blk (blk hY.out hb1) (all_alloc w1 (.cells #[.slice p1 T.cs.length c1, .slice p2 T.rs.length c2] 27))
    have hO1 : Hid (OwnT _ _ _ _ _) := own1.below (all_alloc w1 (.cells #[.slice p1 T.cs.length c1, .slice p2 T.rs.length c2] 27))
    have hB1 := keepB (keepB hA0 (Nat.le_refl _) hb1) (Nat.le_refl _) (all_alloc w1 (.cells #[.slice p1 T.cs.length c1, .slice p2 T.rs.length c2] 27))
    generalize w1.alloc (.cells #[.slice p1 T.cs.length c1, .slice p2 T.rs.length c2] 27) = W1 at hP1 hY1 hO1 hB1 ⊢
    have q0 := cellW hP1.out 0 _ rfl W1 (Below.refl _ _)
    have q1 := cellW hP1.out 1 _ rfl W1 (Below.refl _ _)
    clear hb1 own1 hY hA0
    go_wp2_with (go_at_call 8; refine (HPB.out _ _ _ _ hO1.out).mono ?_; rintro e w3 ⟨rfl, hb3⟩; have hP3 : Hid _ := blk hP1.out hb3; have r0 := cellW hP3.out 0 _ rfl w3 (Below.refl _ _); have r1 := cellW hP3.out 1 _ rfl w3 (Below.refl _ _); have hY3 : Hid _ := blk hY1.out hb3; have z0 := cellW hY3.out 0 _ rfl w3 (Below.refl _ _); have z1 := cellW hY3.out 1 _ rfl w3 (Below.refl _ _); have z2 := cellW hY3.out 2 _ rfl w3 (Below.refl _ _); have z3 := cellW hY3.out 3 _ rfl w3 (Below.refl _ _); have fz0 := frozenW hY3.out 0 w3 (Below.refl _ _); have fz1 := frozenW hY3.out 1 w3 (Below.refl _ _); have fz2 := frozenW hY3.out 2 w3 (Below.refl _ _); have fz3 := frozenW hY3.out 3 w3 (Below.refl _ _))
    have hB3 := keepB hB1 (Nat.le_refl _) hb3
    have hO3 := OwnT.leT (B := w.heap.size + 1) (hO1.out.below hb3) (by omega)
    exact bodyPost_ret (v := .agg #[.slice p1 T.cs.length c1, .slice p2 T.rs.length c2, .int .i64 0, .int .i64 0]) (by simp [results, Try.results11, go_sem, z0, z1, z2, z3]; try rfl) rfl ⟨_, _, rfl, OwnT.leT (OwnT.farT (OwnT.farT (OwnT.farT (OwnT.farT hO3 (by simp only; omega) _) (by simp only; omega) _) (by simp only; omega) _) (by simp only; omega) _) (by omega), (by first | exact hB3 | exact hB3.setCell (by simp only; omega) _ | exact (hB3.setCell (by simp only; omega) _).setCell (by simp only; omega) _ | exact ((((hB3.setCell (by simp only; omega) _).setCell (by simp only; omega) _).setCell (by simp only; omega) _).setCell (by simp only; omega) _))⟩
  · have eP : PP = ⟨zeroT, 0, 3⟩ := by rw [HP.out, if_neg hb]
    subst eP
    have e0 : (BB.toList == s.toList) = false := by
      rw [Bool.eq_false_iff]
      intro h
      exact hb (bytes_of_list (by simpa using h))
    clear HP hb
    go_enter Try.func11, Try.ntmps11
    go_upto_region 1 with fail
    generalize w.alloc (.cells #[.slice none 0 0, .slice none 0 0, .int .i64 0, .int .i64 0] 32) = A at hY hA0 e3 ⊢
    go_upto_region 4 with (go_at_call 24; refine (HRP.out _).mono ?_; rintro e w1 ⟨v1, v2, rfl, own1, hb1⟩; obtain ⟨p1, c1, rfl⟩ := own1.c.shape; obtain ⟨p2, c2, rfl⟩ := own1.r.shape)
    have hP1 : Hid _ := heap_alloc_new w1 (.cells #[.slice p1 T.cs.length c1, .slice p2 T.rs.length c2] 27)
    have hY1 : Hid _ := blk (blk hY.out hb1) (all_alloc w1 (.cells #[.slice p1 T.cs.length c1, .slice p2 T.rs.length c2] 27))
    have hO1 : Hid (OwnT _ _ _ _ _) := own1.below (all_alloc w1 (.cells #[.slice p1 T.cs.length c1, .slice p2 T.rs.length c2] 27))
    have hB1 := keepB (keepB hA0 (Nat.le_refl _) hb1) (Nat.le_refl _) (all_alloc w1 (.cells #[.slice p1 T.cs.length c1, .slice p2 T.rs.length c2] 27))
    generalize w1.alloc (.cells #[.slice p1 T.cs.length c1, .slice p2 T.rs.length c2] 27) = W1 at hP1 hY1 hO1 hB1 ⊢
    have q0 := cellW hP1.out 0 _ rfl W1 (Below.refl _ _)
    have q1 := cellW hP1.out 1 _ rfl W1 (Below.refl _ _)
    clear hb1 own1 hY hA0
    go_wp2_with (go_at_call 8; refine (HPB.out _ _ _ _ hO1.out).mono ?_; rintro e w3 ⟨rfl, hb3⟩; have hY3 : Hid _ := blk hY1.out hb3; have z0 := cellW hY3.out 0 _ rfl w3 (Below.refl _ _); have z1 := cellW hY3.out 1 _ rfl w3 (Below.refl _ _); have z2 := cellW hY3.out 2 _ rfl w3 (Below.refl _ _); have z3 := cellW hY3.out 3 _ rfl w3 (Below.refl _ _); have fz0 := frozenW hY3.out 0 w3 (Below.refl _ _); have fz1 := frozenW hY3.out 1 w3 (Below.refl _ _); have fz2 := frozenW hY3.out 2 w3 (Below.refl _ _); have fz3 := frozenW hY3.out 3 w3 (Below.refl _ _))
    have hB3 := keepB hB1 (Nat.le_refl _) hb3
    exact bodyPost_ret (v := .agg #[.slice none 0 0, .slice none 0 0, .int .i64 0, .int .i64 3]) (by simp [results, Try.results11, go_sem, z0, z1, z2, z3]; try rfl) rfl ⟨_, _, rfl, ⟨OwnI.nil _ _, OwnI.nil _ _, fun a b h => by cases h⟩, (by first | exact hB3 | exact hB3.setCell (by simp only; omega) _ | exact (hB3.setCell (by simp only; omega) _).setCell (by simp only; omega) _ | exact ((((hB3.setCell (by simp only; omega) _).setCell (by simp only; omega) _).setCell (by simp only; omega) _).setCell (by simp only; omega) _))⟩
end Go.Proofs.Ytimocipgikefoab
