/- THE MODEL'S EXCEPTION. -/
import Derived.Test.YtfpibedloodjlabDoorSvC
import Derived.Test.YtfpibedloodjlabDoorTab
import Derived.Test.YtfpibedloodjlabDoorAskM
namespace Go.Proofs.YtfpibedloodjlabDoor
open Go.RowKit
set_option linter.unusedVariables false
set_option linter.unusedSimpArgs false

theorem badT_1 {t : Tb} {s : ByteArray} (hk : knownB (byteAt s 0 : Int) = false) : badT t s = 1 := by unfold badT; rw [if_pos hk]
theorem badT_3 {t : Tb} {s : ByteArray} (hk : knownB (byteAt s 0 : Int) = true) (hC : ¬ (outA s).2 = 0) : badT t s = 3 := by unfold badT; rw [if_neg (by rw [hk]; decide), if_pos hC]
theorem badT_2 {t : Tb} {s : ByteArray} (hk : knownB (byteAt s 0 : Int) = true) (hC : (outA s).2 = 0) (hT : thereB t (outA s).1 = false) : badT t s = 2 := by
  unfold thereB at hT
  rw [decide_eq_false_iff_not] at hT
  unfold badT
  rw [if_neg (by rw [hk]; decide), if_neg (by rw [hC]; decide), if_pos (by omega)]
theorem badT_0 {t : Tb} {s : ByteArray} (hk : knownB (byteAt s 0 : Int) = true) (hC : (outA s).2 = 0) (hT : thereB t (outA s).1 = true) : badT t s = 0 := by
  unfold thereB at hT
  rw [decide_eq_true_eq] at hT
  unfold badT
  rw [if_neg (by rw [hk]; decide), if_neg (by rw [hC]; decide), if_neg (by omega)]
set_option maxRecDepth 100000 in
set_option maxHeartbeats 1600000 in
theorem l05Bad_any (t : Tb) (s : ByteArray) (v1 v2 : Value) (w : World) (h0 : 0 < s.size) (h8 : s.size ≤ 8000) (hl1 : t.cs.length ≤ 100000) (hl2 : t.rs.length ≤ 100000) (h1 : ∃ p k, v1 = .slice p t.cs.length k) (h2 : ∃ p k, v2 = .slice p t.rs.length k) :
    Calls Tryd.prog 33 #[.agg #[v1, v2], .string s] w fun e w' => e = .returned (.int .i64 (badT t s)) ∧ Below w.heap.size w w' := by
  obtain ⟨p1, c1, rfl⟩ := h1
  obtain ⟨p2, c2, rfl⟩ := h2
  have hI := index_K s h0
  have HK : Hid (∀ W, Calls Tryd.prog 46 #[.int .u8 (byteAt s 0 : Int)] W fun e w' => e = .returned (.bool (knownB (byteAt s 0 : Int))) ∧ W = w') := fun W => l05Known_any _ W
  have hA0 : Below w.heap.size w (w.alloc (.cells #[.slice p1 t.cs.length c1, .slice p2 t.rs.length c2] 26)) := all_alloc _ _
  have hX : Hid _ := heap_alloc_new w (.cells #[.slice p1 t.cs.length c1, .slice p2 t.rs.length c2] 26)
  cases hk : knownB (byteAt s 0 : Int) with
  | false =>
    rw [badT_1 hk]
    rw [hk] at HK
    generalize (byteAt s 0 : Int) = K at hI HK
    clear hk
    go_enter Tryd.func33, Tryd.ntmps33
    go_wp2_with (go_at_call 46; refine (HK.out _).mono ?_; rintro e w1 ⟨rfl, rfl⟩)
    go_ret
    exact ⟨rfl, hA0⟩
  | true =>
    rw [hk] at HK
    have HA : Hid (∀ (W : World), Calls Tryd.prog 36 #[.string s] W fun e w' => ∃ v, e = .returned (.agg #[.int .i64 (outA s).1.c, .int .i64 (outA s).1.a, .int .i64 (outA s).1.m, v, .int .i64 (outA s).2]) ∧ OwnI w' W.heap.size v (outA s).1.vs ∧ Below W.heap.size W w') := fun W => specAskRead_any s W (by omega)
    by_cases hC : (outA s).2 = 0
    · have hb := outA_right hC
      have HO : Hid (∀ W, Calls Tryd.prog 47 #[.int .i64 (outA s).1.c] W fun e w' => e = .returned (.bool (coilB (outA s).1.c)) ∧ W = w') := fun W => l05OfCoils_any _ W
      have hwr : IntKind.i64.wrap ((outA s).1.a + (outA s).1.m) = (outA s).1.a + (outA s).1.m := by have := wrap64_small ((outA s).1.a + (outA s).1.m).toNat (by omega); rwa [Int.toNat_of_nonneg (by omega)] at this
      have hbad : badT t s = if thereB t (outA s).1 = true then 0 else 2 := by
        cases hT : thereB t (outA s).1 with
        | true => rw [badT_0 hk hC hT]; rfl
        | false => rw [badT_2 hk hC hT]; rfl
      rw [hbad]
      unfold thereB Tb.cells
      have qC : ((outA s).2 != 0) = false := by simpa using hC
      generalize (byteAt s 0 : Int) = K at hI HK
      generalize (outA s).2 = C at HA qC
      generalize (outA s).1 = q at HA HO hb hwr ⊢
      clear hbad hC hk
      obtain ⟨⟨ha0, ha1⟩, hm0, hm1⟩ := hb
      generalize coilB q.c = Bc at HO ⊢
      cases Bc with
      | true =>
        simp only [if_true, Bool.false_eq_true, if_false]
        generalize t.cs.length = n1 at *
        generalize t.rs.length = n2 at *
        by_cases hle : q.a + q.m ≤ (n1 : Int)
        · rw [decide_eq_true hle, if_pos rfl]
          have hgt : ¬ (n1 : Int) < q.a + q.m := by omega
          go_enter Tryd.func33, Tryd.ntmps33
          go_wp2_with (first
            | (go_at_call 46; refine (HK.out _).mono ?_; rintro e w1 ⟨rfl, rfl⟩)
            | (go_at_call 36; refine (HA.out _).mono ?_; rintro e v1 ⟨u1, rfl, own1, hb1⟩; obtain ⟨pv, cv, rfl⟩ := own1.shape; have hX1 : Hid _ := blk (blk hX.out hb1) (all_alloc v1 (.cells #[.int .i64 q.c, .int .i64 q.a, .int .i64 q.m, .slice pv q.vs.length cv, .int .i64 C] 63)); have hO1 : Hid _ := heap_alloc_new v1 (.cells #[.int .i64 q.c, .int .i64 q.a, .int .i64 q.m, .slice pv q.vs.length cv, .int .i64 C] 63); have hB1 : Below w.heap.size w (v1.alloc (.cells #[.int .i64 q.c, .int .i64 q.a, .int .i64 q.m, .slice pv q.vs.length cv, .int .i64 C] 63)) := keepB (keepB hA0 (Nat.le_refl _) hb1) (Nat.le_refl _) (all_alloc _ _); have x0 := cellW hX1.out 0 _ rfl (v1.alloc (.cells #[.int .i64 q.c, .int .i64 q.a, .int .i64 q.m, .slice pv q.vs.length cv, .int .i64 C] 63)) (Below.refl _ _); have x1 := cellW hX1.out 1 _ rfl (v1.alloc (.cells #[.int .i64 q.c, .int .i64 q.a, .int .i64 q.m, .slice pv q.vs.length cv, .int .i64 C] 63)) (Below.refl _ _); have o0 := cellW hO1.out 0 _ rfl (v1.alloc (.cells #[.int .i64 q.c, .int .i64 q.a, .int .i64 q.m, .slice pv q.vs.length cv, .int .i64 C] 63)) (Below.refl _ _); have o1 := cellW hO1.out 1 _ rfl (v1.alloc (.cells #[.int .i64 q.c, .int .i64 q.a, .int .i64 q.m, .slice pv q.vs.length cv, .int .i64 C] 63)) (Below.refl _ _); have o2 := cellW hO1.out 2 _ rfl (v1.alloc (.cells #[.int .i64 q.c, .int .i64 q.a, .int .i64 q.m, .slice pv q.vs.length cv, .int .i64 C] 63)) (Below.refl _ _); have o4 := cellW hO1.out 4 _ rfl (v1.alloc (.cells #[.int .i64 q.c, .int .i64 q.a, .int .i64 q.m, .slice pv q.vs.length cv, .int .i64 C] 63)) (Below.refl _ _))
            | (go_at_call 47; refine (HO.out _).mono ?_; rintro e w1 ⟨rfl, rfl⟩))
          go_ret
          exact ⟨rfl, hB1⟩
        · rw [decide_eq_false hle, if_neg (by decide)]
          have hgt : (n1 : Int) < q.a + q.m := by omega
          go_enter Tryd.func33, Tryd.ntmps33
          go_wp2_with (first
            | (go_at_call 46; refine (HK.out _).mono ?_; rintro e w1 ⟨rfl, rfl⟩)
            | (go_at_call 36; refine (HA.out _).mono ?_; rintro e v1 ⟨u1, rfl, own1, hb1⟩; obtain ⟨pv, cv, rfl⟩ := own1.shape; have hX1 : Hid _ := blk (blk hX.out hb1) (all_alloc v1 (.cells #[.int .i64 q.c, .int .i64 q.a, .int .i64 q.m, .slice pv q.vs.length cv, .int .i64 C] 63)); have hO1 : Hid _ := heap_alloc_new v1 (.cells #[.int .i64 q.c, .int .i64 q.a, .int .i64 q.m, .slice pv q.vs.length cv, .int .i64 C] 63); have hB1 : Below w.heap.size w (v1.alloc (.cells #[.int .i64 q.c, .int .i64 q.a, .int .i64 q.m, .slice pv q.vs.length cv, .int .i64 C] 63)) := keepB (keepB hA0 (Nat.le_refl _) hb1) (Nat.le_refl _) (all_alloc _ _); have x0 := cellW hX1.out 0 _ rfl (v1.alloc (.cells #[.int .i64 q.c, .int .i64 q.a, .int .i64 q.m, .slice pv q.vs.length cv, .int .i64 C] 63)) (Below.refl _ _); have x1 := cellW hX1.out 1 _ rfl (v1.alloc (.cells #[.int .i64 q.c, .int .i64 q.a, .int .i64 q.m, .slice pv q.vs.length cv, .int .i64 C] 63)) (Below.refl _ _); have o0 := cellW hO1.out 0 _ rfl (v1.alloc (.cells #[.int .i64 q.c, .int .i64 q.a, .int .i64 q.m, .slice pv q.vs.length cv, .int .i64 C] 63)) (Below.refl _ _); have o1 := cellW hO1.out 1 _ rfl (v1.alloc (.cells #[.int .i64 q.c, .int .i64 q.a, .int .i64 q.m, .slice pv q.vs.length cv, .int .i64 C] 63)) (Below.refl _ _); have o2 := cellW hO1.out 2 _ rfl (v1.alloc (.cells #[.int .i64 q.c, .int .i64 q.a, .int .i64 q.m, .slice pv q.vs.length cv, .int .i64 C] 63)) (Below.refl _ _); have o4 := cellW hO1.out 4 _ rfl (v1.alloc (.cells #[.int .i64 q.c, .int .i64 q.a, .int .i64 q.m, .slice pv q.vs.length cv, .int .i64 C] 63)) (Below.refl _ _))
            | (go_at_call 47; refine (HO.out _).mono ?_; rintro e w1 ⟨rfl, rfl⟩))
          go_ret
          exact ⟨rfl, hB1⟩
      | false =>
        simp only [if_true, Bool.false_eq_true, if_false]
        generalize t.cs.length = n1 at *
        generalize t.rs.length = n2 at *
        by_cases hle : q.a + q.m ≤ (n2 : Int)
        · rw [decide_eq_true hle, if_pos rfl]
          have hgt : ¬ (n2 : Int) < q.a + q.m := by omega
          go_enter Tryd.func33, Tryd.ntmps33
          go_wp2_with (first
            | (go_at_call 46; refine (HK.out _).mono ?_; rintro e w1 ⟨rfl, rfl⟩)
            | (go_at_call 36; refine (HA.out _).mono ?_; rintro e v1 ⟨u1, rfl, own1, hb1⟩; obtain ⟨pv, cv, rfl⟩ := own1.shape; have hX1 : Hid _ := blk (blk hX.out hb1) (all_alloc v1 (.cells #[.int .i64 q.c, .int .i64 q.a, .int .i64 q.m, .slice pv q.vs.length cv, .int .i64 C] 63)); have hO1 : Hid _ := heap_alloc_new v1 (.cells #[.int .i64 q.c, .int .i64 q.a, .int .i64 q.m, .slice pv q.vs.length cv, .int .i64 C] 63); have hB1 : Below w.heap.size w (v1.alloc (.cells #[.int .i64 q.c, .int .i64 q.a, .int .i64 q.m, .slice pv q.vs.length cv, .int .i64 C] 63)) := keepB (keepB hA0 (Nat.le_refl _) hb1) (Nat.le_refl _) (all_alloc _ _); have x0 := cellW hX1.out 0 _ rfl (v1.alloc (.cells #[.int .i64 q.c, .int .i64 q.a, .int .i64 q.m, .slice pv q.vs.length cv, .int .i64 C] 63)) (Below.refl _ _); have x1 := cellW hX1.out 1 _ rfl (v1.alloc (.cells #[.int .i64 q.c, .int .i64 q.a, .int .i64 q.m, .slice pv q.vs.length cv, .int .i64 C] 63)) (Below.refl _ _); have o0 := cellW hO1.out 0 _ rfl (v1.alloc (.cells #[.int .i64 q.c, .int .i64 q.a, .int .i64 q.m, .slice pv q.vs.length cv, .int .i64 C] 63)) (Below.refl _ _); have o1 := cellW hO1.out 1 _ rfl (v1.alloc (.cells #[.int .i64 q.c, .int .i64 q.a, .int .i64 q.m, .slice pv q.vs.length cv, .int .i64 C] 63)) (Below.refl _ _); have o2 := cellW hO1.out 2 _ rfl (v1.alloc (.cells #[.int .i64 q.c, .int .i64 q.a, .int .i64 q.m, .slice pv q.vs.length cv, .int .i64 C] 63)) (Below.refl _ _); have o4 := cellW hO1.out 4 _ rfl (v1.alloc (.cells #[.int .i64 q.c, .int .i64 q.a, .int .i64 q.m, .slice pv q.vs.length cv, .int .i64 C] 63)) (Below.refl _ _))
            | (go_at_call 47; refine (HO.out _).mono ?_; rintro e w1 ⟨rfl, rfl⟩))
          go_ret
          exact ⟨rfl, hB1⟩
        · rw [decide_eq_false hle, if_neg (by decide)]
          have hgt : (n2 : Int) < q.a + q.m := by omega
          go_enter Tryd.func33, Tryd.ntmps33
          go_wp2_with (first
            | (go_at_call 46; refine (HK.out _).mono ?_; rintro e w1 ⟨rfl, rfl⟩)
            | (go_at_call 36; refine (HA.out _).mono ?_; rintro e v1 ⟨u1, rfl, own1, hb1⟩; obtain ⟨pv, cv, rfl⟩ := own1.shape; have hX1 : Hid _ := blk (blk hX.out hb1) (all_alloc v1 (.cells #[.int .i64 q.c, .int .i64 q.a, .int .i64 q.m, .slice pv q.vs.length cv, .int .i64 C] 63)); have hO1 : Hid _ := heap_alloc_new v1 (.cells #[.int .i64 q.c, .int .i64 q.a, .int .i64 q.m, .slice pv q.vs.length cv, .int .i64 C] 63); have hB1 : Below w.heap.size w (v1.alloc (.cells #[.int .i64 q.c, .int .i64 q.a, .int .i64 q.m, .slice pv q.vs.length cv, .int .i64 C] 63)) := keepB (keepB hA0 (Nat.le_refl _) hb1) (Nat.le_refl _) (all_alloc _ _); have x0 := cellW hX1.out 0 _ rfl (v1.alloc (.cells #[.int .i64 q.c, .int .i64 q.a, .int .i64 q.m, .slice pv q.vs.length cv, .int .i64 C] 63)) (Below.refl _ _); have x1 := cellW hX1.out 1 _ rfl (v1.alloc (.cells #[.int .i64 q.c, .int .i64 q.a, .int .i64 q.m, .slice pv q.vs.length cv, .int .i64 C] 63)) (Below.refl _ _); have o0 := cellW hO1.out 0 _ rfl (v1.alloc (.cells #[.int .i64 q.c, .int .i64 q.a, .int .i64 q.m, .slice pv q.vs.length cv, .int .i64 C] 63)) (Below.refl _ _); have o1 := cellW hO1.out 1 _ rfl (v1.alloc (.cells #[.int .i64 q.c, .int .i64 q.a, .int .i64 q.m, .slice pv q.vs.length cv, .int .i64 C] 63)) (Below.refl _ _); have o2 := cellW hO1.out 2 _ rfl (v1.alloc (.cells #[.int .i64 q.c, .int .i64 q.a, .int .i64 q.m, .slice pv q.vs.length cv, .int .i64 C] 63)) (Below.refl _ _); have o4 := cellW hO1.out 4 _ rfl (v1.alloc (.cells #[.int .i64 q.c, .int .i64 q.a, .int .i64 q.m, .slice pv q.vs.length cv, .int .i64 C] 63)) (Below.refl _ _))
            | (go_at_call 47; refine (HO.out _).mono ?_; rintro e w1 ⟨rfl, rfl⟩))
          go_ret
          exact ⟨rfl, hB1⟩
    · rw [badT_3 hk hC]
      have qC : ((outA s).2 != 0) = true := by simpa using hC
      generalize (byteAt s 0 : Int) = K at hI HK
      generalize (outA s).2 = C at HA qC
      generalize (outA s).1 = q at HA
      clear hC hk
      go_enter Tryd.func33, Tryd.ntmps33
      go_wp2_with (first
        | (go_at_call 46; refine (HK.out _).mono ?_; rintro e w1 ⟨rfl, rfl⟩)
        | (go_at_call 36; refine (HA.out _).mono ?_; rintro e v1 ⟨u1, rfl, own1, hb1⟩; obtain ⟨pv, cv, rfl⟩ := own1.shape; have hX1 : Hid _ := blk (blk hX.out hb1) (all_alloc v1 (.cells #[.int .i64 q.c, .int .i64 q.a, .int .i64 q.m, .slice pv q.vs.length cv, .int .i64 C] 63)); have hO1 : Hid _ := heap_alloc_new v1 (.cells #[.int .i64 q.c, .int .i64 q.a, .int .i64 q.m, .slice pv q.vs.length cv, .int .i64 C] 63); have hB1 : Below w.heap.size w (v1.alloc (.cells #[.int .i64 q.c, .int .i64 q.a, .int .i64 q.m, .slice pv q.vs.length cv, .int .i64 C] 63)) := keepB (keepB hA0 (Nat.le_refl _) hb1) (Nat.le_refl _) (all_alloc _ _); have x0 := cellW hX1.out 0 _ rfl (v1.alloc (.cells #[.int .i64 q.c, .int .i64 q.a, .int .i64 q.m, .slice pv q.vs.length cv, .int .i64 C] 63)) (Below.refl _ _); have x1 := cellW hX1.out 1 _ rfl (v1.alloc (.cells #[.int .i64 q.c, .int .i64 q.a, .int .i64 q.m, .slice pv q.vs.length cv, .int .i64 C] 63)) (Below.refl _ _); have o4 := cellW hO1.out 4 _ rfl (v1.alloc (.cells #[.int .i64 q.c, .int .i64 q.a, .int .i64 q.m, .slice pv q.vs.length cv, .int .i64 C] 63)) (Below.refl _ _)))
      go_ret
      exact ⟨rfl, hB1⟩
end Go.Proofs.YtfpibedloodjlabDoor
