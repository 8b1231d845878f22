/- WHETHER A PLACE IS THERE, the cells that a question names, and the question that bytes are: the program's. -/
import Derived.Test.YtfpibedloodjlabDoorSvB
import Derived.Test.YtfpibedloodjlabDoorPlainTab
import Derived.Test.YtfpibedloodjlabDoorAskM
namespace Go.Proofs.YtfpibedloodjlabDoor
open Go.RowKit
set_option linter.unusedVariables false
set_option linter.unusedSimpArgs false

theorem slice3_I (g n c : Nat) (a m : Int) (h0 : 0 ≤ a) (h1 : 1 ≤ m) (h : a + m ≤ (n : Int)) (hc : n ≤ c) (W : World) : (Instr.slice 22 (.slice (some ⟨g, 0, none⟩) n c) (some (.int .i64 a)) (some (.int .i64 (a + m))) (some (.int .i64 (a + m)))).run Tryd.prog W = .ok (.slice (some ⟨g, a.toNat, none⟩) m.toNat m.toNat) W := by
  obtain ⟨a, rfl⟩ : ∃ k : Nat, a = k := ⟨a.toNat, by omega⟩
  obtain ⟨m, rfl⟩ : ∃ k : Nat, m = k := ⟨m.toNat, by omega⟩
  obtain ⟨i0, hi, hz0, hz1, hz2⟩ := info_parts info64
  have hsz : (sizeOf 2).run Tryd.prog W = .ok 1 W := by simp [sizeOf, typeInfo, hi, hz1]
  rw [show ((a : Int) + (m : Int)) = ((a + m : Nat) : Int) by omega]
  have b1 : ∀ code, (Instr.sliceBound (.int .i64 ((a + m : Nat) : Int)) c code).run Tryd.prog W = .ok (a + m) W := fun code => by have := run_sliceBound (P := Tryd.prog) W .i64 ((a + m : Nat) : Int) c code (by omega) (by omega); rw [Int.toNat_natCast] at this; exact this
  have b2 : ∀ code, (Instr.sliceBound (.int .i64 ((a + m : Nat) : Int)) (a + m) code).run Tryd.prog W = .ok (a + m) W := fun code => by have := run_sliceBound (P := Tryd.prog) W .i64 ((a + m : Nat) : Int) (a + m) code (by omega) (by omega); rw [Int.toNat_natCast] at this; exact this
  have b3 : ∀ code, (Instr.sliceBound (.int .i64 (a : Int)) (a + m) code).run Tryd.prog W = .ok a W := fun code => by have := run_sliceBound (P := Tryd.prog) W .i64 (a : Int) (a + m) code (by omega) (by omega); rw [Int.toNat_natCast] at this; exact this
  simp only [Instr.slice, Sem.run_bind, run_underlying Tryd.underlying22, Result.andThen_ok, Instr.sliceBounds, b1, b2, b3, Sem.run_pure, hsz]
  rw [if_neg (by omega)]
  simp only [Nat.mul_one, Option.map_some, Int.toNat_natCast, Nat.add_sub_cancel_left]
  rw [show (⟨g, 0, none⟩ : Addr).add a = ⟨g, a, none⟩ by unfold Addr.add; split <;> simp_all]
theorem slice2_I (g n c : Nat) (a m : Int) (h0 : 0 ≤ a) (h1 : 1 ≤ m) (h : a + m ≤ (n : Int)) (hc : n ≤ c) (W : World) : (Instr.slice 22 (.slice (some ⟨g, 0, none⟩) n c) (some (.int .i64 a)) (some (.int .i64 (a + m))) none).run Tryd.prog W = .ok (.slice (some ⟨g, a.toNat, none⟩) m.toNat (c - a.toNat)) W := by
  obtain ⟨a, rfl⟩ : ∃ k : Nat, a = k := ⟨a.toNat, by omega⟩
  obtain ⟨m, rfl⟩ : ∃ k : Nat, m = k := ⟨m.toNat, by omega⟩
  obtain ⟨i0, hi, hz0, hz1, hz2⟩ := info_parts info64
  have hsz : (sizeOf 2).run Tryd.prog W = .ok 1 W := by simp [sizeOf, typeInfo, hi, hz1]
  rw [show ((a : Int) + (m : Int)) = ((a + m : Nat) : Int) by omega]
  have b1 : ∀ code, (Instr.sliceBound (.int .i64 ((a + m : Nat) : Int)) c code).run Tryd.prog W = .ok (a + m) W := fun code => by have := run_sliceBound (P := Tryd.prog) W .i64 ((a + m : Nat) : Int) c code (by omega) (by omega); rw [Int.toNat_natCast] at this; exact this
  have b3 : ∀ code, (Instr.sliceBound (.int .i64 (a : Int)) (a + m) code).run Tryd.prog W = .ok a W := fun code => by have := run_sliceBound (P := Tryd.prog) W .i64 (a : Int) (a + m) code (by omega) (by omega); rw [Int.toNat_natCast] at this; exact this
  simp only [Instr.slice, Sem.run_bind, run_underlying Tryd.underlying22, Result.andThen_ok, Instr.sliceBounds, b1, b3, Sem.run_pure, hsz]
  rw [if_neg (by omega)]
  simp only [Nat.mul_one, Option.map_some, Int.toNat_natCast, Nat.add_sub_cancel_left]
  rw [show (⟨g, 0, none⟩ : Addr).add a = ⟨g, a, none⟩ by unfold Addr.add; split <;> simp_all]
/-- is it there? -/
def thereB (t : Tb) (q : Ak) : Bool := decide (q.a + q.m ≤ ((t.cells q.c).length : Int))
set_option maxRecDepth 100000 in
set_option maxHeartbeats 800000 in
theorem isThere_any (t : Tb) (q : Ak) (v : Value) (P : Nat) (p1 p2 : Option Addr) (c1 c2 : Nat) (w : World) (hv : ∃ p n c, v = .slice p n c) (ha : 0 ≤ q.a ∧ q.a ≤ 65535) (hm : 0 ≤ q.m ∧ q.m ≤ 65535) (hl1 : t.cs.length ≤ 100000) (hl2 : t.rs.length ≤ 100000)
    (hP : w.heap[P]? = some (.cells #[.slice p1 t.cs.length c1, .slice p2 t.rs.length c2] 26 (0, 0))) :
    Calls Tryd.prog 19 #[.agg #[.int .i64 q.c, .int .i64 q.a, .int .i64 q.m, v], .pointer (some ⟨P, 0, none⟩)] w fun e w' => e = .returned (.bool (thereB t q)) ∧ Below w.heap.size w w' := by
  have HC : Hid (∀ W, Calls Tryd.prog 20 #[.agg #[.slice p1 t.cs.length c1, .slice p2 t.rs.length c2], .int .i64 q.c] W fun e w' => e = .returned (if coilB q.c then .slice p1 t.cs.length c1 else .slice p2 t.rs.length c2) ∧ Below W.heap.size W w') := fun W => cellsFor_any t q.c _ _ W ⟨_, _, rfl⟩ ⟨_, _, rfl⟩
  obtain ⟨p3, n3, c3, rfl⟩ := hv
  obtain ⟨pr, cr, hrow⟩ : ∃ pr cr, (if coilB q.c then Value.slice p1 t.cs.length c1 else .slice p2 t.rs.length c2) = .slice pr (t.cells q.c).length cr := by
    unfold Tb.cells
    cases coilB q.c
    · exact ⟨p2, c2, rfl⟩
    · exact ⟨p1, c1, rfl⟩
  rw [hrow] at HC
  have hlr : (t.cells q.c).length ≤ 100000 := by unfold Tb.cells; split <;> assumption
  unfold thereB
  generalize (t.cells q.c).length = nr at HC hlr ⊢
  clear hrow
  have hX : Hid _ := heap_alloc_new w (.cells #[.int .i64 q.c, .int .i64 q.a, .int .i64 q.m, .slice p3 n3 c3] 43)
  have hPA : Hid _ := blk hP (all_alloc w (.cells #[.int .i64 q.c, .int .i64 q.a, .int .i64 q.m, .slice p3 n3 c3] 43))
  have hA0 : Hid (Below w.heap.size w _) := all_alloc w (.cells #[.int .i64 q.c, .int .i64 q.a, .int .i64 q.m, .slice p3 n3 c3] 43)
  clear hP
  generalize t.cs.length = n1 at *
  generalize t.rs.length = n2 at *
  have hwr : IntKind.i64.wrap (q.a + q.m) = q.a + q.m := by have := wrap64_small (q.a + q.m).toNat (by omega); rwa [Int.toNat_of_nonneg (by omega)] at this
  have HWR : Hid _ := hwr
  go_enter Tryd.func19, Tryd.ntmps19
  go_upto_region 1 with fail
  generalize w.alloc (.cells #[.int .i64 q.c, .int .i64 q.a, .int .i64 q.m, .slice p3 n3 c3] 43) = A at hX hPA hA0 ⊢
  obtain ⟨G, hG⟩ : ∃ G, w.heap.size = G := ⟨_, rfl⟩
  rw [hG] at hX ⊢
  have x0 := cellW hX.out 0 _ rfl
  have x1 := cellW hX.out 1 _ rfl
  have x2 := cellW hX.out 2 _ rfl
  have q0 := cellW hPA.out 0 _ rfl
  have q1 := cellW hPA.out 1 _ rfl
  go_region_held3 (fun w' => Below A.heap.size A w') (first | assumption | exact Below.drew (Below.refl _ _) | exact keepB (by assumption) (Nat.le_refl _) hbq) (first
    | (go_at_call 20; refine (HC.out _).mono ?_; rintro e9 w9 ⟨rfl, hbq⟩))
  all_goals
    go_wp2
    go_ret
    exact ⟨ret_bool (by first | rfl | rw [HWR.out]), keepB hA0.out (Nat.le_refl _) (by assumption)⟩
set_option maxRecDepth 100000 in
set_option maxHeartbeats 800000 in
theorem namedCells_any (t : Tb) (q : Ak) (v v1 v2 : Value) (w : World) (hv : ∃ p n c, v = .slice p n c) (ha : 0 ≤ q.a ∧ q.a ≤ 65535) (hm : 1 ≤ q.m ∧ q.m ≤ 65535) (h1 : ∃ p k, v1 = .slice p t.cs.length k) (h2 : ∃ p k, v2 = .slice p t.rs.length k)
    (g c : Nat) (hrow : (if coilB q.c then v1 else v2) = .slice (some ⟨g, 0, none⟩) (t.cells q.c).length c) (hc : (t.cells q.c).length ≤ c) (hle : q.a + q.m ≤ ((t.cells q.c).length : Int)) :
    Calls Tryd.prog 23 #[.agg #[v1, v2], .agg #[.int .i64 q.c, .int .i64 q.a, .int .i64 q.m, v]] w fun e w' => e = .returned (.slice (some ⟨g, q.a.toNat, none⟩) q.m.toNat q.m.toNat) ∧ Below w.heap.size w w' := by
  have HC : Hid (∀ W, Calls Tryd.prog 20 #[.agg #[v1, v2], .int .i64 q.c] W fun e w' => e = .returned (.slice (some ⟨g, 0, none⟩) (t.cells q.c).length c) ∧ Below W.heap.size W w') := fun W => by have := cellsFor_any t q.c v1 v2 W h1 h2; rwa [hrow] at this
  have hS3 := slice3_I g (t.cells q.c).length c q.a q.m ha.1 hm.1 hle hc
  generalize (t.cells q.c).length = nr at HC hS3
  generalize q.a.toNat = ra at hS3 ⊢
  generalize q.m.toNat = rm at hS3 ⊢
  clear hrow hc hle
  obtain ⟨p3, n3, c3, rfl⟩ := hv
  obtain ⟨p1, c1, rfl⟩ := h1
  obtain ⟨p2, c2, rfl⟩ := h2
  generalize t.cs.length = n1 at *
  generalize t.rs.length = n2 at *
  have hX : Hid _ := heap_alloc_new (w.alloc (.cells #[.slice p1 n1 c1, .slice p2 n2 c2] 26)) (.cells #[.int .i64 q.c, .int .i64 q.a, .int .i64 q.m, .slice p3 n3 c3] 43)
  have hPA : Hid _ := blk (heap_alloc_new w (.cells #[.slice p1 n1 c1, .slice p2 n2 c2] 26)) (all_alloc _ (.cells #[.int .i64 q.c, .int .i64 q.a, .int .i64 q.m, .slice p3 n3 c3] 43))
  have hA0 : Hid (Below w.heap.size w _) := keepB (all_alloc w (.cells #[.slice p1 n1 c1, .slice p2 n2 c2] 26)) (Nat.le_refl _) (all_alloc _ (.cells #[.int .i64 q.c, .int .i64 q.a, .int .i64 q.m, .slice p3 n3 c3] 43))
  rw [show (w.alloc (.cells #[.slice p1 n1 c1, .slice p2 n2 c2] 26)).heap.size = w.heap.size + 1 by simp] at hX
  go_enter Tryd.func23, Tryd.ntmps23
  go_upto_region 2 with fail
  generalize (w.alloc (.cells #[.slice p1 n1 c1, .slice p2 n2 c2] 26)).alloc (.cells #[.int .i64 q.c, .int .i64 q.a, .int .i64 q.m, .slice p3 n3 c3] 43) = A at hX hPA hA0 ⊢
  obtain ⟨G, hG⟩ : ∃ G, w.heap.size = G := ⟨_, rfl⟩
  rw [hG] at hX hPA ⊢
  have x0 := cellW hX.out 0 _ rfl
  have x1 := cellW hX.out 1 _ rfl
  have q0 := cellW hPA.out 0 _ rfl
  have q1 := cellW hPA.out 1 _ rfl
  go_region_held3 (fun w' => Below A.heap.size A w') (first | assumption | exact Below.drew (Below.refl _ _) | exact keepB (by assumption) (Nat.le_refl _) hbq) (first
    | (go_at_call 20; refine (HC.out _).mono ?_; rintro e9 w9 ⟨rfl, hbq⟩))
  all_goals
    go_wp2
    go_ret
    exact ⟨rfl, keepB hA0.out (Nat.le_refl _) (by assumption)⟩
end Go.Proofs.YtfpibedloodjlabDoor
