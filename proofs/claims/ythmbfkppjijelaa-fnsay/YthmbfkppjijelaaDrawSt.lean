/- THE DRAW of a stamp. -/
import Derived.Test.YthmbfkppjijelaaDrawE
import Derived.Test.YthmbfkppjijelaaPlainSt
import Derived.Test.YthmbfkppjijelaaBox
import Derived.Deep.DeepCutAuto
namespace Go.Proofs.Ythmbfkppjijelaa
open Go.RowKit
set_option linter.unusedVariables false
set_option linter.unusedSimpArgs false

structure SV (b B : Nat) (a : Option Addr) (len cap : Nat) (w0 : World) (P V : Nat) (g o e h : Int) (w : World) : Prop where
  dr : Dr b B a len cap w0 w
  boxV : w.heap[V]? = some (.cells #[.int .i64 g, .int .i64 o, .int .i64 e, .int .i64 h] 24 (0, 0))
  boxP : w.heap[P]? = some (.cells #[.int .i64 0, .int .i64 0, .int .i64 0, .int .i64 0] 24 (0, 0))
  bP : b < P
  wP : w0.heap.size ≤ P
  PV : P < V
theorem SV.grb {b B : Nat} {a : Option Addr} {len cap : Nat} {w0 : World} {P V : Nat} {g o e h : Int} {w w' : World} (k : SV b B a len cap w0 P V g o e h w) (hd : Dr b B a len cap w0 w') (hg : Grb b w w') : SV b B a len cap w0 P V g o e h w' :=
  ⟨hd, (hg.block V (Array.getElem?_eq_some_iff.1 k.boxV).1 (by have := k.bP; have := k.PV; omega)).trans k.boxV, (hg.block P (Array.getElem?_eq_some_iff.1 k.boxP).1 (by have := k.bP; omega)).trans k.boxP, k.bP, k.wP, k.PV⟩
theorem SV.below {b B : Nat} {a : Option Addr} {len cap : Nat} {w0 : World} {P V : Nat} {g o e h : Int} {w w' : World} (k : SV b B a len cap w0 P V g o e h w) (hb : Below w.heap.size w w') : SV b B a len cap w0 P V g o e h w' := k.grb (k.dr.below hb) (grb_of_below hb)
theorem SV.cellV {b B : Nat} {a : Option Addr} {len cap : Nat} {w0 : World} {P V : Nat} {g o e h : Int} {w : World} (k : SV b B a len cap w0 P V g o e h w) : w.cell? ⟨V, 0, none⟩ = some (.int .i64 g) ∧ w.cell? ⟨V, 1, none⟩ = some (.int .i64 o) ∧ w.cell? ⟨V, 2, none⟩ = some (.int .i64 e) ∧ w.cell? ⟨V, 3, none⟩ = some (.int .i64 h) ∧ ∀ i, w.frozen? ⟨V, i, none⟩ = false :=
  ⟨cellW k.boxV 0 _ rfl w (Below.refl _ _), cellW k.boxV 1 _ rfl w (Below.refl _ _), cellW k.boxV 2 _ rfl w (Below.refl _ _), cellW k.boxV 3 _ rfl w (Below.refl _ _), fun i => frozenW k.boxV i w (Below.refl _ _)⟩
theorem SV.cellP {b B : Nat} {a : Option Addr} {len cap : Nat} {w0 : World} {P V : Nat} {g o e h : Int} {w : World} (k : SV b B a len cap w0 P V g o e h w) : w.cell? ⟨P, 0, none⟩ = some (.int .i64 0) ∧ w.cell? ⟨P, 1, none⟩ = some (.int .i64 0) ∧ w.cell? ⟨P, 2, none⟩ = some (.int .i64 0) ∧ w.cell? ⟨P, 3, none⟩ = some (.int .i64 0) ∧ ∀ i, w.frozen? ⟨P, i, none⟩ = false :=
  ⟨cellW k.boxP 0 _ rfl w (Below.refl _ _), cellW k.boxP 1 _ rfl w (Below.refl _ _), cellW k.boxP 2 _ rfl w (Below.refl _ _), cellW k.boxP 3 _ rfl w (Below.refl _ _), fun i => frozenW k.boxP i w (Below.refl _ _)⟩
/-- a stamp was drawn -/
def PStamp (b B : Nat) (a : Option Addr) (len cap : Nat) (w0 : World) (x : Ending) (w' : World) : Prop := ∃ s : St, x = .returned (.agg #[.int .i64 s.g, .int .i64 s.o, .int .i64 s.b, .int .i64 s.h]) ∧ Dr b B a len cap w0 w'
theorem PStamp.mk {b B : Nat} {a : Option Addr} {len cap : Nat} {w0 w' : World} {g o e h : Int} (hd : Dr b B a len cap w0 w') : PStamp b B a len cap w0 (.returned (.agg #[.int .i64 g, .int .i64 o, .int .i64 e, .int .i64 h])) w' := ⟨⟨g, o, e, h⟩, rfl, hd⟩
set_option maxRecDepth 100000 in
set_option maxHeartbeats 3200000 in
theorem l03Stamp_D {b B : Nat} {a : Option Addr} {len cap : Nat} {w0 w : World} (h : Dr b B a len cap w0 w) :
    Calls Try.prog 37 #[.pointer (some ⟨b, 0, none⟩)] w (PStamp b B a len cap w0) := by
  have HD : Hid _ := h.alloc (.cells #[.int .i64 0, .int .i64 0, .int .i64 0, .int .i64 0] 24)
  have hbl : b < w.heap.size := h.lt
  have hw0 : w0.heap.size ≤ w.heap.size := h.size
  clear h
  go_enter Try.func37, Try.ntmps37
  go_upto_region 2 with (first
    | (have _ := D3; go_at_call 34; refine (n_D D3 5 (by omega)).mono ?_; rintro e w4 ⟨r4, rfl, hr4, D4, u4⟩)
    | (have _ := D2; go_at_call 34; refine (n_D D2 3 (by omega)).mono ?_; rintro e w3 ⟨r3, rfl, hr3, D3, u3⟩)
    | (have _ := D1; go_at_call 34; refine (n_D D1 4 (by omega)).mono ?_; rintro e w2 ⟨r2, rfl, hr2, D2, u2⟩)
    | (go_at_call 34; refine (n_D HD.out 4 (by omega)).mono ?_; rintro e w1 ⟨r1, rfl, hr1, D1, u1⟩))
  have hzA : w4.heap.size = w.heap.size + 1 := by rw [u4.size, u3.size, u2.size, u1.size]; simp
  have HV : Hid (SV b B a len cap w0 w.heap.size w4.heap.size (r1 : Int) (1 + (r2 : Int)) (r3 : Int) (r4 : Int) (w4.alloc (.cells #[.int .i64 r1, .int .i64 (1 + (r2 : Int)), .int .i64 r3, .int .i64 r4] 24))) := by
    refine ⟨D4.alloc _, heap_alloc_new _ _, ?_, hbl, hw0, by omega⟩
    rw [heap_alloc_old _ _ (by omega), u4.block _ (by omega), u3.block _ (by omega), u2.block _ (by omega), u1.block _ (by omega), heap_alloc_new]
  generalize w4.alloc (.cells #[.int .i64 r1, .int .i64 (1 + (r2 : Int)), .int .i64 r3, .int .i64 r4] 24) = X at HV ⊢
  generalize w4.heap.size = V at HV ⊢
  generalize w.heap.size = P at HV ⊢
  generalize (r1 : Int) = g1 at HV ⊢
  generalize 1 + (r2 : Int) = o1 at HV ⊢
  generalize (r3 : Int) = e1 at HV ⊢
  generalize (r4 : Int) = h1 at HV ⊢
  clear HD hbl hw0 D1 D2 D3 D4 u1 u2 u3 u4 hzA hr1 hr2 hr3 hr4
  have q1 := HV.out.bP
  have q2 := HV.out.wP
  have q3 := HV.out.PV
  have q4 : ¬ P = V := by omega
  have q5 : ¬ V = P := by omega
  go_upto_region 3 with (go_at_call 38; refine (one_D HV.out.dr 12 (by omega)).mono ?_; rintro e7 w7 ⟨t7, rfl, hD7, ho7⟩; have HV7 : Hid _ := HV.out.grb hD7 ho7.grb; obtain ⟨c0, c1, c2, c3, cf⟩ := HV7.out.cellV; obtain ⟨k0, k1, k2, k3, kf⟩ := HV7.out.cellP)
  · clear c0 c1 c2 c3 cf k0 k1 k2 k3 kf
    go_upto_region 5 with (go_at_call 34; refine (n_D HV7.out.dr 4 (by omega)).mono ?_; rintro e8 w8 ⟨r8, rfl, hr8, hD8, ho8⟩; have hr9 : r8 < 4 := (by omega); have HV8 : Hid _ := HV7.out.grb hD8 ho8.grb)
    by_cases h0 : r8 = 0
    · subst h0
      obtain ⟨c0, c1, c2, c3, cf⟩ := HV8.out.cellV
      have HA : Hid (SV b B a len cap w0 P V g1 o1 e1 h1 (w8.alloc (.cells #[.int .i64 0, .int .i64 8, .int .i64 9] 2))) := HV8.out.below (all_alloc w8 _)
      have HK : Hid _ := heap_alloc_new w8 (.cells #[.int .i64 0, .int .i64 8, .int .i64 9] 2)
      have hKb : w8.heap.size ≠ b := by have := HV8.out.dr.lt; omega
      clear c0 c1 c2 c3 cf
      go_wp2_with (go_at_call 34; refine (n_D HA.out.dr 3 (by omega)).mono ?_; rintro e9 w9 ⟨r9, rfl, hr10, hD9, ho9⟩; have hr11 : r9 < 3 := (by omega); have HV9 : Hid _ := HA.out.grb hD9 ho9.grb; have HK9 := (ho9.block w8.heap.size hKb).trans HK.out; obtain ⟨xv, ck⟩ : ∃ xv : Int, w9.cell? ⟨w8.heap.size, r9, none⟩ = some (.int .i64 xv) := (by rcases (by omega : r9 = 0 ∨ r9 = 1 ∨ r9 = 2) with rfl | rfl | rfl <;> exact ⟨_, cellW HK9 _ _ rfl _ (Below.refl _ _)⟩); obtain ⟨c0, c1, c2, c3, cf⟩ := HV9.out.cellV; obtain ⟨k0, k1, k2, k3, kf⟩ := HV9.out.cellP)
      exact bodyPost_ret (v := .agg #[.int .i64 g1, .int .i64 xv, .int .i64 e1, .int .i64 h1]) (by simp [results, Try.results37, go_sem, k0, k1, k2, k3, q4, q5, c0, c1, c2, c3]) rfl (PStamp.mk (by
        repeat (refine Dr.set ?_ (by omega) (by omega) _ _)
        exact HV9.out.dr))
    have t0 : ((r8 : Int) == 0) = false := by simp; omega
    by_cases h1' : r8 = 1
    · subst h1'
      obtain ⟨c0, c1, c2, c3, cf⟩ := HV8.out.cellV
      have HA : Hid (SV b B a len cap w0 P V g1 o1 e1 h1 (w8.alloc (.cells #[.int .i64 (-1), .int .i64 1000000, .int .i64 1000001] 2))) := HV8.out.below (all_alloc w8 _)
      have HK : Hid _ := heap_alloc_new w8 (.cells #[.int .i64 (-1), .int .i64 1000000, .int .i64 1000001] 2)
      have hKb : w8.heap.size ≠ b := by have := HV8.out.dr.lt; omega
      clear c0 c1 c2 c3 cf
      go_wp2_with (go_at_call 34; refine (n_D HA.out.dr 3 (by omega)).mono ?_; rintro e9 w9 ⟨r9, rfl, hr10, hD9, ho9⟩; have hr11 : r9 < 3 := (by omega); have HV9 : Hid _ := HA.out.grb hD9 ho9.grb; have HK9 := (ho9.block w8.heap.size hKb).trans HK.out; obtain ⟨xv, ck⟩ : ∃ xv : Int, w9.cell? ⟨w8.heap.size, r9, none⟩ = some (.int .i64 xv) := (by rcases (by omega : r9 = 0 ∨ r9 = 1 ∨ r9 = 2) with rfl | rfl | rfl <;> exact ⟨_, cellW HK9 _ _ rfl _ (Below.refl _ _)⟩); obtain ⟨c0, c1, c2, c3, cf⟩ := HV9.out.cellV; obtain ⟨k0, k1, k2, k3, kf⟩ := HV9.out.cellP)
      exact bodyPost_ret (v := .agg #[.int .i64 xv, .int .i64 o1, .int .i64 e1, .int .i64 h1]) (by simp [results, Try.results37, go_sem, k0, k1, k2, k3, q4, q5, c0, c1, c2, c3]) rfl (PStamp.mk (by
        repeat (refine Dr.set ?_ (by omega) (by omega) _ _)
        exact HV9.out.dr))
    have t1 : ((r8 : Int) == 1) = false := by simp; omega
    by_cases h2 : r8 = 2
    · subst h2
      obtain ⟨c0, c1, c2, c3, cf⟩ := HV8.out.cellV
      obtain ⟨k0, k1, k2, k3, kf⟩ := HV8.out.cellP
      go_wp2
      exact bodyPost_ret (v := .agg #[.int .i64 0, .int .i64 0, .int .i64 0, .int .i64 0]) (by simp [results, Try.results37, go_sem, k0, k1, k2, k3, q4, q5, c0, c1, c2, c3]) rfl (PStamp.mk (by
        repeat (refine Dr.set ?_ (by omega) (by omega) _ _)
        exact HV8.out.dr))
    have t2 : ((r8 : Int) == 2) = false := by simp; omega
    obtain ⟨c0, c1, c2, c3, cf⟩ := HV8.out.cellV
    have HA : Hid (SV b B a len cap w0 P V g1 o1 e1 h1 (w8.alloc (.cells #[.int .i64 (-1), .int .i64 1000000, .int .i64 1000001] 2))) := HV8.out.below (all_alloc w8 _)
    have HK : Hid _ := heap_alloc_new w8 (.cells #[.int .i64 (-1), .int .i64 1000000, .int .i64 1000001] 2)
    have hKb : w8.heap.size ≠ b := by have := HV8.out.dr.lt; omega
    clear c0 c1 c2 c3 cf
    go_wp2_with (go_at_call 34; refine (n_D HA.out.dr 3 (by omega)).mono ?_; rintro e9 w9 ⟨r9, rfl, hr10, hD9, ho9⟩; have hr11 : r9 < 3 := (by omega); have HV9 : Hid _ := HA.out.grb hD9 ho9.grb; have HK9 := (ho9.block w8.heap.size hKb).trans HK.out; obtain ⟨xv, ck⟩ : ∃ xv : Int, w9.cell? ⟨w8.heap.size, r9, none⟩ = some (.int .i64 xv) := (by rcases (by omega : r9 = 0 ∨ r9 = 1 ∨ r9 = 2) with rfl | rfl | rfl <;> exact ⟨_, cellW HK9 _ _ rfl _ (Below.refl _ _)⟩); obtain ⟨c0, c1, c2, c3, cf⟩ := HV9.out.cellV; obtain ⟨k0, k1, k2, k3, kf⟩ := HV9.out.cellP)
    exact bodyPost_ret (v := .agg #[.int .i64 g1, .int .i64 o1, .int .i64 e1, .int .i64 xv]) (by simp [results, Try.results37, go_sem, k0, k1, k2, k3, q4, q5, c0, c1, c2, c3]) rfl (PStamp.mk (by
      repeat (refine Dr.set ?_ (by omega) (by omega) _ _)
      exact HV9.out.dr))
  · exact bodyPost_ret (v := .agg #[.int .i64 g1, .int .i64 o1, .int .i64 e1, .int .i64 h1]) (by simp [results, Try.results37, go_sem, k0, k1, k2, k3, q4, q5, c0, c1, c2, c3]) rfl (PStamp.mk (by
      repeat (refine Dr.set ?_ (by omega) (by omega) _ _)
      exact HV7.out.dr))

end Go.Proofs.Ythmbfkppjijelaa
