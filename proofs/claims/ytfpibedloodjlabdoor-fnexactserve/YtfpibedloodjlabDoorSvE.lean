/- THE QUESTION THAT BYTES ARE, if it may be answered: the program's takeAsk, ending by ending. -/
import Derived.Test.YtfpibedloodjlabDoorSvD
namespace Go.Proofs.YtfpibedloodjlabDoor
open Go.RowKit
set_option linter.unusedVariables false
set_option linter.unusedSimpArgs false

def clo (P : Nat) : Value := .func (.func 19) #[] #[.pointer (some ⟨P, 0, none⟩)]
theorem outA_right {s : ByteArray} (h : (outA s).2 = 0) : (0 ≤ (outA s).1.a ∧ (outA s).1.a ≤ 65535) ∧ 0 ≤ (outA s).1.m ∧ (outA s).1.m ≤ 65535 := by
  unfold outA at h ⊢
  by_cases h8 : 8000 < s.size
  · rw [if_pos h8] at h; cases h
  · rw [if_neg h8] at h ⊢
    by_cases h5 : s.size < 5
    · rw [if_pos h5] at h; cases h
    · rw [if_neg h5] at h ⊢
      unfold outOf at h ⊢
      by_cases hq : (readS s).right = true ∧ askB (readS s) = s
      · rw [if_pos hq]
        have hR := hq.1
        have hc := Ak.codes hR
        unfold Ak.right at hR
        rw [Bool.and_eq_true] at hR
        refine ⟨(wordB_iff _).1 hR.1, ?_⟩
        have hf := hR.2
        dsimp only
        generalize readS s = q at hf hc
        rcases hc with e | e | e | e | e | e <;> simp [Ak.fit, e] at hf <;> omega
      · rw [if_neg hq] at h; cases h
set_option maxRecDepth 100000 in
set_option maxHeartbeats 1600000 in
theorem takeAsk_1 (t : Tb) (s : ByteArray) (P : Nat) (p1 p2 : Option Addr) (c1 c2 : Nat) (f v p : Addr) (w : World) (h0 : 0 < s.size) (h8 : s.size ≤ 8000) (hl1 : t.cs.length ≤ 100000) (hl2 : t.rs.length ≤ 100000)
    (hP : w.heap[P]? = some (.cells #[.slice p1 t.cs.length c1, .slice p2 t.rs.length c2] 26 (0, 0))) (hS : Sents w f v p) (hk : knownB (byteAt s 0 : Int) = false) :
    Calls Tryd.prog 21 #[.string s, clo P] w fun e w' => e = .returned (.tuple #[.agg #[.int .i64 0, .int .i64 0, .int .i64 0, .slice none 0 0], .iface 108 (.pointer (some f))]) ∧ Below w.heap.size w w' := by
  unfold clo
  have hI := index_K s h0
  have HM : Hid (∀ W, Calls Tryd.prog 40 #[.int .i64 (byteAt s 0 : Int)] W fun e w' => e = .returned (.int .i64 (mostB (byteAt s 0 : Int))) ∧ W = w') := fun W => mostOf_any _ W
  have hmo := known_most (byteAt s 0 : Int)
  rw [hk] at hmo
  have hr := byteAt_range s 0
  have ewK : IntKind.i64.wrap (byteAt s 0 : Int) = (byteAt s 0 : Int) := wrap64_small _ (by omega)
  clear hk
  generalize mostB (byteAt s 0 : Int) = M at HM hmo
  generalize (byteAt s 0 : Int) = K at hI HM ewK
  clear hr hl1 hl2 hP
  have hZ : Hid _ := heap_alloc_new w (.cells #[.int .i64 0, .int .i64 0, .int .i64 0, .slice none 0 0] 43)
  have hA0 : Below w.heap.size w (w.alloc (.cells #[.int .i64 0, .int .i64 0, .int .i64 0, .slice none 0 0] 43)) := all_alloc _ _
  have HS : Hid (Sents w f v p) := hS
  clear hS
  go_enter Tryd.func21, Tryd.ntmps21
  go_upto_region 2 with (go_at_call 40; refine (HM.out _).mono ?_; rintro e w1 ⟨rfl, rfl⟩)
  have g := (HS.out.below hA0).gf
  have hn1 : ¬ w.heap.size = 0 := by have := HS.out.lt; omega
  have hn2 : ¬ 0 = w.heap.size := by have := HS.out.lt; omega
  generalize w.alloc (.cells #[.int .i64 0, .int .i64 0, .int .i64 0, .slice none 0 0] 43) = A at hZ hA0 g ⊢
  have z0 := cellW hZ.out 0 _ rfl A (Below.refl _ _)
  have z1 := cellW hZ.out 1 _ rfl A (Below.refl _ _)
  have z2 := cellW hZ.out 2 _ rfl A (Below.refl _ _)
  have z3 := cellW hZ.out 3 _ rfl A (Below.refl _ _)
  have fz0 := frozenW hZ.out 0 A (Below.refl _ _)
  have fz1 := frozenW hZ.out 1 A (Below.refl _ _)
  have fz2 := frozenW hZ.out 2 A (Below.refl _ _)
  have fz3 := frozenW hZ.out 3 A (Below.refl _ _)
  go_region
  all_goals
    go_wp2
    exact bodyPost_ret (v := .tuple #[.agg #[.int .i64 0, .int .i64 0, .int .i64 0, .slice none 0 0], .iface 108 (.pointer (some f))]) (by simp [results, Tryd.results21, go_sem, z0, z1, z2, z3]) rfl ⟨rfl, by first | exact ((((hA0.setCell (Nat.le_refl _) _).setCell (Nat.le_refl _) _).setCell (Nat.le_refl _) _).setCell (Nat.le_refl _) _) | exact Below.drew ((((hA0.setCell (Nat.le_refl _) _).setCell (Nat.le_refl _) _).setCell (Nat.le_refl _) _).setCell (Nat.le_refl _) _)⟩
set_option maxRecDepth 100000 in
set_option maxHeartbeats 1600000 in
theorem takeAsk_3 (t : Tb) (s : ByteArray) (P : Nat) (p1 p2 : Option Addr) (c1 c2 : Nat) (f v p : Addr) (w : World) (h0 : 0 < s.size) (h8 : s.size ≤ 8000) (hl1 : t.cs.length ≤ 100000) (hl2 : t.rs.length ≤ 100000)
    (hP : w.heap[P]? = some (.cells #[.slice p1 t.cs.length c1, .slice p2 t.rs.length c2] 26 (0, 0))) (hS : Sents w f v p) (hk : knownB (byteAt s 0 : Int) = true) (hC : ¬ (outA s).2 = 0) :
    Calls Tryd.prog 21 #[.string s, clo P] w fun e w' => e = .returned (.tuple #[.agg #[.int .i64 0, .int .i64 0, .int .i64 0, .slice none 0 0], .iface 108 (.pointer (some v))]) ∧ Below w.heap.size w w' := by
  unfold clo
  have hI := index_K s h0
  have HM : Hid (∀ W, Calls Tryd.prog 40 #[.int .i64 (byteAt s 0 : Int)] W fun e w' => e = .returned (.int .i64 (mostB (byteAt s 0 : Int))) ∧ W = w') := fun W => mostOf_any _ W
  have hmo := known_most (byteAt s 0 : Int)
  rw [hk] at hmo
  have hr := byteAt_range s 0
  have ewK : IntKind.i64.wrap (byteAt s 0 : Int) = (byteAt s 0 : Int) := wrap64_small _ (by omega)
  have HA : Hid (∀ (W : World), Calls Tryd.prog 41 #[.string s] W fun e w' => ∃ v, e = .returned (.agg #[.int .i64 (outA s).1.c, .int .i64 (outA s).1.a, .int .i64 (outA s).1.m, v, .int .i64 (outA s).2]) ∧ OwnI w' W.heap.size v (outA s).1.vs ∧ Below W.heap.size W w') := fun W => askRead_any s W (by omega)
  clear hk
  have qC : ((outA s).2 != 0) = true := by simpa using hC
  generalize (outA s).2 = C at HA qC
  clear hC
  generalize (outA s).1 = q at HA
  generalize mostB (byteAt s 0 : Int) = M at HM hmo
  generalize (byteAt s 0 : Int) = K at hI HM ewK
  clear hr hl1 hl2 hP
  have hZ : Hid _ := heap_alloc_new w (.cells #[.int .i64 0, .int .i64 0, .int .i64 0, .slice none 0 0] 43)
  have hA0 : Below w.heap.size w (w.alloc (.cells #[.int .i64 0, .int .i64 0, .int .i64 0, .slice none 0 0] 43)) := all_alloc _ _
  have HS : Hid (Sents w f v p) := hS
  clear hS
  go_enter Tryd.func21, Tryd.ntmps21
  go_upto_region 4 with (first
    | (go_at_call 40; refine (HM.out _).mono ?_; rintro e w1 ⟨rfl, rfl⟩)
    | (go_at_call 41; refine (HA.out _).mono ?_; rintro e v1 ⟨u1, rfl, own1, hb1⟩; obtain ⟨pv, cv, rfl⟩ := own1.shape))
  have hZ1 : Hid _ := blk (blk hZ.out hb1) (all_alloc v1 (.cells #[.int .i64 q.c, .int .i64 q.a, .int .i64 q.m, .slice pv q.vs.length cv, .int .i64 C] 63))
  have hO1 : Hid _ := heap_alloc_new v1 (.cells #[.int .i64 q.c, .int .i64 q.a, .int .i64 q.m, .slice pv q.vs.length cv, .int .i64 C] 63)
  have hB1 : Below w.heap.size w (v1.alloc (.cells #[.int .i64 q.c, .int .i64 q.a, .int .i64 q.m, .slice pv q.vs.length cv, .int .i64 C] 63)) := keepB (keepB hA0 (Nat.le_refl _) hb1) (Nat.le_refl _) (all_alloc _ _)
  have g := (HS.out.below hB1).gv
  have hn1 : ¬ w.heap.size = 1 := by have := HS.out.lt; omega
  have hn2 : ¬ 1 = w.heap.size := by have := HS.out.lt; omega
  generalize v1.alloc (.cells #[.int .i64 q.c, .int .i64 q.a, .int .i64 q.m, .slice pv q.vs.length cv, .int .i64 C] 63) = A at hZ1 hO1 hB1 g ⊢
  generalize v1.heap.size = G1 at hO1 ⊢
  clear hb1 hZ own1
  have o4 := cellW hO1.out 4 _ rfl A (Below.refl _ _)
  have z0 := cellW hZ1.out 0 _ rfl A (Below.refl _ _)
  have z1 := cellW hZ1.out 1 _ rfl A (Below.refl _ _)
  have z2 := cellW hZ1.out 2 _ rfl A (Below.refl _ _)
  have z3 := cellW hZ1.out 3 _ rfl A (Below.refl _ _)
  have fz0 := frozenW hZ1.out 0 A (Below.refl _ _)
  have fz1 := frozenW hZ1.out 1 A (Below.refl _ _)
  have fz2 := frozenW hZ1.out 2 A (Below.refl _ _)
  have fz3 := frozenW hZ1.out 3 A (Below.refl _ _)
  go_upto_region 5 with fail
  go_region
  all_goals
    go_wp2
    exact bodyPost_ret (v := .tuple #[.agg #[.int .i64 0, .int .i64 0, .int .i64 0, .slice none 0 0], .iface 108 (.pointer (some v))]) (by simp [results, Tryd.results21, go_sem, z0, z1, z2, z3]) rfl ⟨rfl, by first | exact ((((hB1.setCell (Nat.le_refl _) _).setCell (Nat.le_refl _) _).setCell (Nat.le_refl _) _).setCell (Nat.le_refl _) _) | exact Below.drew ((((hB1.setCell (Nat.le_refl _) _).setCell (Nat.le_refl _) _).setCell (Nat.le_refl _) _).setCell (Nat.le_refl _) _)⟩
set_option maxRecDepth 100000 in
set_option maxHeartbeats 1600000 in
theorem takeAsk_2 (t : Tb) (s : ByteArray) (P : Nat) (p1 p2 : Option Addr) (c1 c2 : Nat) (f v p : Addr) (w : World) (h0 : 0 < s.size) (h8 : s.size ≤ 8000) (hl1 : t.cs.length ≤ 100000) (hl2 : t.rs.length ≤ 100000)
    (hP : w.heap[P]? = some (.cells #[.slice p1 t.cs.length c1, .slice p2 t.rs.length c2] 26 (0, 0))) (hS : Sents w f v p) (hk : knownB (byteAt s 0 : Int) = true) (hC : (outA s).2 = 0) (hT : thereB t (outA s).1 = false) :
    Calls Tryd.prog 21 #[.string s, clo P] w fun e w' => e = .returned (.tuple #[.agg #[.int .i64 0, .int .i64 0, .int .i64 0, .slice none 0 0], .iface 108 (.pointer (some p))]) ∧ Below w.heap.size w w' := by
  unfold clo
  have hI := index_K s h0
  have HM : Hid (∀ W, Calls Tryd.prog 40 #[.int .i64 (byteAt s 0 : Int)] W fun e w' => e = .returned (.int .i64 (mostB (byteAt s 0 : Int))) ∧ W = w') := fun W => mostOf_any _ W
  have hmo := known_most (byteAt s 0 : Int)
  rw [hk] at hmo
  have hr := byteAt_range s 0
  have ewK : IntKind.i64.wrap (byteAt s 0 : Int) = (byteAt s 0 : Int) := wrap64_small _ (by omega)
  have HA : Hid (∀ (W : World), Calls Tryd.prog 41 #[.string s] W fun e w' => ∃ v, e = .returned (.agg #[.int .i64 (outA s).1.c, .int .i64 (outA s).1.a, .int .i64 (outA s).1.m, v, .int .i64 (outA s).2]) ∧ OwnI w' W.heap.size v (outA s).1.vs ∧ Below W.heap.size W w') := fun W => askRead_any s W (by omega)
  have HT : Hid (∀ (W : World) (v : Value), (∃ p n c, v = .slice p n c) → Below w.heap.size w W → Calls Tryd.prog 19 #[.agg #[.int .i64 (outA s).1.c, .int .i64 (outA s).1.a, .int .i64 (outA s).1.m, v], .pointer (some ⟨P, 0, none⟩)] W fun e w' => e = .returned (.bool false) ∧ Below W.heap.size W w') := fun W v hv hW => by
    have hb := outA_right hC
    have := isThere_any t (outA s).1 v P p1 p2 c1 c2 W hv hb.1 hb.2 hl1 hl2 (blk hP hW)
    rwa [hT] at this
  clear hk
  have qC : ((outA s).2 != 0) = false := by simpa using hC
  generalize (outA s).2 = C at HA qC
  clear hC hT
  generalize (outA s).1 = q at HA HT
  generalize mostB (byteAt s 0 : Int) = M at HM hmo
  generalize (byteAt s 0 : Int) = K at hI HM ewK
  clear hr hl1 hl2 hP
  have hZ : Hid _ := heap_alloc_new w (.cells #[.int .i64 0, .int .i64 0, .int .i64 0, .slice none 0 0] 43)
  have hA0 : Below w.heap.size w (w.alloc (.cells #[.int .i64 0, .int .i64 0, .int .i64 0, .slice none 0 0] 43)) := all_alloc _ _
  have HS : Hid (Sents w f v p) := hS
  clear hS
  go_enter Tryd.func21, Tryd.ntmps21
  go_upto_region 4 with (first
    | (go_at_call 40; refine (HM.out _).mono ?_; rintro e w1 ⟨rfl, rfl⟩)
    | (go_at_call 41; refine (HA.out _).mono ?_; rintro e v1 ⟨u1, rfl, own1, hb1⟩; obtain ⟨pv, cv, rfl⟩ := own1.shape))
  have hZ1 : Hid _ := blk (blk hZ.out hb1) (all_alloc v1 (.cells #[.int .i64 q.c, .int .i64 q.a, .int .i64 q.m, .slice pv q.vs.length cv, .int .i64 C] 63))
  have hO1 : Hid _ := heap_alloc_new v1 (.cells #[.int .i64 q.c, .int .i64 q.a, .int .i64 q.m, .slice pv q.vs.length cv, .int .i64 C] 63)
  have hB1 : Below w.heap.size w (v1.alloc (.cells #[.int .i64 q.c, .int .i64 q.a, .int .i64 q.m, .slice pv q.vs.length cv, .int .i64 C] 63)) := keepB (keepB hA0 (Nat.le_refl _) hb1) (Nat.le_refl _) (all_alloc _ _)
  have own2 : Hid (OwnI (v1.alloc (.cells #[.int .i64 q.c, .int .i64 q.a, .int .i64 q.m, .slice pv q.vs.length cv, .int .i64 C] 63)) (w.heap.size + 1) (.slice pv q.vs.length cv) q.vs) := (OwnI.leT own1 (by simp)).below (all_alloc _ _)
  generalize v1.alloc (.cells #[.int .i64 q.c, .int .i64 q.a, .int .i64 q.m, .slice pv q.vs.length cv, .int .i64 C] 63) = A at hZ1 hO1 hB1 own2 ⊢
  generalize v1.heap.size = G1 at hO1 ⊢
  clear hb1 hZ own1
  have o0 := cellW hO1.out 0 _ rfl A (Below.refl _ _)
  have o1 := cellW hO1.out 1 _ rfl A (Below.refl _ _)
  have o2 := cellW hO1.out 2 _ rfl A (Below.refl _ _)
  have o3 := cellW hO1.out 3 _ rfl A (Below.refl _ _)
  have o4 := cellW hO1.out 4 _ rfl A (Below.refl _ _)
  go_upto_region 7 with (go_at_call 19; refine (HT.out _ _ ⟨_, _, _, rfl⟩ hB1).mono ?_; rintro e v3 ⟨rfl, hb3⟩)
  have hB3 : Below w.heap.size w v3 := keepB hB1 (Nat.le_refl _) hb3
  have hZ3 : Hid _ := blk hZ1.out hb3
  have g := (HS.out.below hB3).gp
  have hn1 : ¬ w.heap.size = 2 := by have := HS.out.lt; omega
  have hn2 : ¬ 2 = w.heap.size := by have := HS.out.lt; omega
  have z0 := cellW hZ3.out 0 _ rfl v3 (Below.refl _ _)
  have z1 := cellW hZ3.out 1 _ rfl v3 (Below.refl _ _)
  have z2 := cellW hZ3.out 2 _ rfl v3 (Below.refl _ _)
  have z3 := cellW hZ3.out 3 _ rfl v3 (Below.refl _ _)
  have fz0 := frozenW hZ3.out 0 v3 (Below.refl _ _)
  have fz1 := frozenW hZ3.out 1 v3 (Below.refl _ _)
  have fz2 := frozenW hZ3.out 2 v3 (Below.refl _ _)
  have fz3 := frozenW hZ3.out 3 v3 (Below.refl _ _)
  go_region
  all_goals
    go_wp2
    exact bodyPost_ret (v := .tuple #[.agg #[.int .i64 0, .int .i64 0, .int .i64 0, .slice none 0 0], .iface 108 (.pointer (some p))]) (by simp [results, Tryd.results21, go_sem, z0, z1, z2, z3]) rfl ⟨rfl, by first | exact ((((hB3.setCell (Nat.le_refl _) _).setCell (Nat.le_refl _) _).setCell (Nat.le_refl _) _).setCell (Nat.le_refl _) _) | exact Below.drew ((((hB3.setCell (Nat.le_refl _) _).setCell (Nat.le_refl _) _).setCell (Nat.le_refl _) _).setCell (Nat.le_refl _) _)⟩
set_option maxRecDepth 100000 in
set_option maxHeartbeats 1600000 in
theorem takeAsk_0 (t : Tb) (s : ByteArray) (P : Nat) (p1 p2 : Option Addr) (c1 c2 : Nat) (f v p : Addr) (w : World) (h0 : 0 < s.size) (h8 : s.size ≤ 8000) (hl1 : t.cs.length ≤ 100000) (hl2 : t.rs.length ≤ 100000)
    (hP : w.heap[P]? = some (.cells #[.slice p1 t.cs.length c1, .slice p2 t.rs.length c2] 26 (0, 0))) (hS : Sents w f v p) (hk : knownB (byteAt s 0 : Int) = true) (hC : (outA s).2 = 0) (hT : thereB t (outA s).1 = true) :
    Calls Tryd.prog 21 #[.string s, clo P] w fun e w' => ∃ v', e = .returned (.tuple #[.agg #[.int .i64 (outA s).1.c, .int .i64 (outA s).1.a, .int .i64 (outA s).1.m, v'], .nilIface]) ∧ OwnI w' w.heap.size v' (outA s).1.vs ∧ Below w.heap.size w w' := by
  unfold clo
  have hI := index_K s h0
  have HM : Hid (∀ W, Calls Tryd.prog 40 #[.int .i64 (byteAt s 0 : Int)] W fun e w' => e = .returned (.int .i64 (mostB (byteAt s 0 : Int))) ∧ W = w') := fun W => mostOf_any _ W
  have hmo := known_most (byteAt s 0 : Int)
  rw [hk] at hmo
  have hr := byteAt_range s 0
  have ewK : IntKind.i64.wrap (byteAt s 0 : Int) = (byteAt s 0 : Int) := wrap64_small _ (by omega)
  have HA : Hid (∀ (W : World), Calls Tryd.prog 41 #[.string s] W fun e w' => ∃ v, e = .returned (.agg #[.int .i64 (outA s).1.c, .int .i64 (outA s).1.a, .int .i64 (outA s).1.m, v, .int .i64 (outA s).2]) ∧ OwnI w' W.heap.size v (outA s).1.vs ∧ Below W.heap.size W w') := fun W => askRead_any s W (by omega)
  have HT : Hid (∀ (W : World) (v : Value), (∃ p n c, v = .slice p n c) → Below w.heap.size w W → Calls Tryd.prog 19 #[.agg #[.int .i64 (outA s).1.c, .int .i64 (outA s).1.a, .int .i64 (outA s).1.m, v], .pointer (some ⟨P, 0, none⟩)] W fun e w' => e = .returned (.bool true) ∧ Below W.heap.size W w') := fun W v hv hW => by
    have hb := outA_right hC
    have := isThere_any t (outA s).1 v P p1 p2 c1 c2 W hv hb.1 hb.2 hl1 hl2 (blk hP hW)
    rwa [hT] at this
  clear hk
  have qC : ((outA s).2 != 0) = false := by simpa using hC
  generalize (outA s).2 = C at HA qC
  clear hC hT
  generalize (outA s).1 = q at HA HT ⊢
  generalize mostB (byteAt s 0 : Int) = M at HM hmo
  generalize (byteAt s 0 : Int) = K at hI HM ewK
  clear hr hl1 hl2 hP
  have hZ : Hid _ := heap_alloc_new w (.cells #[.int .i64 0, .int .i64 0, .int .i64 0, .slice none 0 0] 43)
  have hA0 : Below w.heap.size w (w.alloc (.cells #[.int .i64 0, .int .i64 0, .int .i64 0, .slice none 0 0] 43)) := all_alloc _ _
  have HS : Hid (Sents w f v p) := hS
  clear hS
  go_enter Tryd.func21, Tryd.ntmps21
  go_upto_region 4 with (first
    | (go_at_call 40; refine (HM.out _).mono ?_; rintro e w1 ⟨rfl, rfl⟩)
    | (go_at_call 41; refine (HA.out _).mono ?_; rintro e v1 ⟨u1, rfl, own1, hb1⟩; obtain ⟨pv, cv, rfl⟩ := own1.shape))
  have hZ1 : Hid _ := blk (blk hZ.out hb1) (all_alloc v1 (.cells #[.int .i64 q.c, .int .i64 q.a, .int .i64 q.m, .slice pv q.vs.length cv, .int .i64 C] 63))
  have hO1 : Hid _ := heap_alloc_new v1 (.cells #[.int .i64 q.c, .int .i64 q.a, .int .i64 q.m, .slice pv q.vs.length cv, .int .i64 C] 63)
  have hB1 : Below w.heap.size w (v1.alloc (.cells #[.int .i64 q.c, .int .i64 q.a, .int .i64 q.m, .slice pv q.vs.length cv, .int .i64 C] 63)) := keepB (keepB hA0 (Nat.le_refl _) hb1) (Nat.le_refl _) (all_alloc _ _)
  have own2 : Hid (OwnI (v1.alloc (.cells #[.int .i64 q.c, .int .i64 q.a, .int .i64 q.m, .slice pv q.vs.length cv, .int .i64 C] 63)) (w.heap.size + 1) (.slice pv q.vs.length cv) q.vs) := (OwnI.leT own1 (by simp)).below (all_alloc _ _)
  generalize v1.alloc (.cells #[.int .i64 q.c, .int .i64 q.a, .int .i64 q.m, .slice pv q.vs.length cv, .int .i64 C] 63) = A at hZ1 hO1 hB1 own2 ⊢
  generalize v1.heap.size = G1 at hO1 ⊢
  clear hb1 hZ own1
  have o0 := cellW hO1.out 0 _ rfl A (Below.refl _ _)
  have o1 := cellW hO1.out 1 _ rfl A (Below.refl _ _)
  have o2 := cellW hO1.out 2 _ rfl A (Below.refl _ _)
  have o3 := cellW hO1.out 3 _ rfl A (Below.refl _ _)
  have o4 := cellW hO1.out 4 _ rfl A (Below.refl _ _)
  go_upto_region 8 with (go_at_call 19; refine (HT.out _ _ ⟨_, _, _, rfl⟩ hB1).mono ?_; rintro e v3 ⟨rfl, hb3⟩)
  have hB3 : Below w.heap.size w v3 := keepB hB1 (Nat.le_refl _) hb3
  have hZ3 : Hid _ := blk hZ1.out hb3
  have hO3 : Hid _ := blk hO1.out hb3
  have own3 : OwnI v3 (w.heap.size + 1) (.slice pv q.vs.length cv) q.vs := own2.out.below hb3
  have OW : Hid _ := own3
  clear own3
  have z0 := cellW hZ3.out 0 _ rfl v3 (Below.refl _ _)
  have z1 := cellW hZ3.out 1 _ rfl v3 (Below.refl _ _)
  have z2 := cellW hZ3.out 2 _ rfl v3 (Below.refl _ _)
  have z3 := cellW hZ3.out 3 _ rfl v3 (Below.refl _ _)
  have fz0 := frozenW hZ3.out 0 v3 (Below.refl _ _)
  have fz1 := frozenW hZ3.out 1 v3 (Below.refl _ _)
  have fz2 := frozenW hZ3.out 2 v3 (Below.refl _ _)
  have fz3 := frozenW hZ3.out 3 v3 (Below.refl _ _)
  have k0 := cellW hO3.out 0 _ rfl v3 (Below.refl _ _)
  have k1 := cellW hO3.out 1 _ rfl v3 (Below.refl _ _)
  have k2 := cellW hO3.out 2 _ rfl v3 (Below.refl _ _)
  have k3 := cellW hO3.out 3 _ rfl v3 (Below.refl _ _)
  first | go_region | skip
  all_goals
    go_wp2
    exact bodyPost_ret (v := .tuple #[.agg #[.int .i64 q.c, .int .i64 q.a, .int .i64 q.m, .slice pv q.vs.length cv], .nilIface]) (by simp [results, Tryd.results21, go_sem, z0, z1, z2, z3]) rfl ⟨_, rfl, by
      refine OwnI.leT (base := w.heap.size + 1) ?_ (Nat.le_succ _)
      exact OwnI.farT (OwnI.farT (OwnI.farT (OwnI.farT OW.out (Nat.lt_succ_self _) _) (Nat.lt_succ_self _) _) (Nat.lt_succ_self _) _) (Nat.lt_succ_self _) _, by first | exact ((((hB3.setCell (Nat.le_refl _) _).setCell (Nat.le_refl _) _).setCell (Nat.le_refl _) _).setCell (Nat.le_refl _) _) | exact Below.drew ((((hB3.setCell (Nat.le_refl _) _).setCell (Nat.le_refl _) _).setCell (Nat.le_refl _) _).setCell (Nat.le_refl _) _)⟩
end Go.Proofs.YtfpibedloodjlabDoor
