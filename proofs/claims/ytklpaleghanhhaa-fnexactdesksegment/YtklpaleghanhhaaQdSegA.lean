/- A SEGMENT AND WHAT IS ANSWERED WITH IT: marked, held, compared. Written by mksega.py. -/
import Derived.Test.YtklpaleghanhhaaQdSegB
import Derived.Test.YtklpaleghanhhaaQdOutS
namespace Go.Proofs.Ytklpaleghanhhaa
open Go.RowKit
set_option linter.unusedVariables false
set_option linter.unusedSimpArgs false

/-- how many marks a segment takes, and what it holds then -/
def Seg.cnt (s : Seg) : Int := msum s.ss + (s.us.length : Int) + 3 * (s.ns.length : Int)
def Seg.marked (s : Seg) : Seg := ⟨markStL 1 s.ss, markBL (1 + msum s.ss) s.us.length, markNL (1 + msum s.ss + (s.us.length : Int)) s.ns.length⟩
theorem Seg.cnt_pos (s : Seg) : 0 ≤ s.cnt := by
  have := (msum_le s.ss).1
  unfold Seg.cnt
  omega
set_option maxRecDepth 100000 in
set_option maxHeartbeats 3200000 in
theorem markSegment_at (s : Seg) (lo hi : Nat) (v1 v2 v3 : Value) (w : World) (ht : s.tot ≤ 1048576) (h : OwnSegB w lo hi v1 v2 v3 s) :
    Calls Try.prog 23 #[.agg #[v1, v2, v3], .int .i64 1] w fun e w' => e = .returned (.int .i64 (1 + s.cnt)) ∧ OwnSegB w' lo hi v1 v2 v3 s.marked ∧ Only w w' lo hi := by
  unfold Seg.cnt Seg.marked
  have q1 := ssum_pos s.ss
  have q3 := nsum_pos s.ns
  have hb0 : (s.ss.length : Int) + ssum s.ss ≤ 1048576 ∧ s.us.length ≤ 1048576 ∧ s.ns.length ≤ 1048576 := by unfold Seg.tot at ht; omega
  have hm := msum_le s.ss
  have hm2 : 0 ≤ msum s.ss ∧ msum s.ss ≤ 16000000 := by omega
  obtain ⟨l1, h1, l2, h2, l3, h3, ⟨a1, a2, a3⟩, ⟨t1, t2, t3⟩, o1, o2, o3, e12, e13, e23⟩ := h.all
  have hle := h.le
  have HA0 : Below w.heap.size w _ := all_alloc w (.cells #[v1, v2, v3] 47)
  have hX : Hid _ := heap_alloc_new w (.cells #[v1, v2, v3] 47)
  have K1 : Hid (∀ W, Below w.heap.size w W → Calls Try.prog 60 #[v1, .int .i64 1] W fun e w' => e = .returned (.int .i64 (1 + msum s.ss)) ∧ OwnStS w' l1 h1 v1 (markStL 1 s.ss) ∧ Only W w' l1 h1) := fun W hW => markStationS_at 1 (by omega) l1 h1 v1 s.ss W hb0.1 (o1.same (Same.below hW (by omega)) hW.size)
  have hm3 : 0 ≤ msum s.ss ∧ msum s.ss ≤ 16000000 := by omega
  generalize markStL 1 s.ss = SS at K1 ⊢
  generalize msum s.ss = S1 at K1 hm3 ⊢
  have K2 : Hid (∀ W, OwnBS W l2 h2 v2 s.us → Calls Try.prog 61 #[v2, .int .i64 (1 + S1)] W fun e w' => e = .returned (.int .i64 (1 + S1 + (s.us.length : Int))) ∧ OwnBS w' l2 h2 v2 (markBL (1 + S1) s.us.length) ∧ Only W w' l2 h2) := fun W o => markBoolS_at (1 + S1) (by omega) l2 h2 v2 s.us W hb0.2.1 o
  have K3 : Hid (∀ W, OwnNS W l3 h3 v3 s.ns → Calls Try.prog 62 #[v3, .int .i64 (1 + S1 + (s.us.length : Int))] W fun e w' => e = .returned (.int .i64 (1 + S1 + (s.us.length : Int) + 3 * (s.ns.length : Int))) ∧ OwnNS w' l3 h3 v3 (markNL (1 + S1 + (s.us.length : Int)) s.ns.length) ∧ Only W w' l3 h3) := fun W o => markNoteS_at (1 + S1 + (s.us.length : Int)) (by omega) l3 h3 v3 s.ns W hb0.2.2 o
  have P2 : Hid (OwnBS _ _ _ _ _) := o2
  have P3 : Hid (OwnNS _ _ _ _ _) := o3
  have hKE : Hid (1 + (S1 + (s.us.length : Int) + 3 * (s.ns.length : Int)) = 1 + S1 + (s.us.length : Int) + 3 * (s.ns.length : Int)) := (by omega : _ = _)
  rw [hKE.out]
  clear hKE
  obtain ⟨⟨pa, ca, rfl, _⟩, ⟨pb, cb, rfl, _⟩, ⟨pc, cc, rfl, _⟩⟩ := h.row
  clear h o1 o2 o3 q1 q3 hm hm2 ht hb0
  generalize markBL (1 + S1) s.us.length = BB at K2 ⊢
  generalize markNL (1 + S1 + (s.us.length : Int)) s.ns.length = NN at K3 ⊢
  generalize 1 + S1 + (s.us.length : Int) + 3 * (s.ns.length : Int) = KD at K3 ⊢
  generalize 1 + S1 + (s.us.length : Int) = KC at K2 K3
  generalize 1 + S1 = KB at K1 K2
  go_enter Try.func23, Try.ntmps23
  go_upto_region 1 with fail
  have zA : (w.alloc (.cells #[.slice pa s.ss.length ca, .slice pb s.us.length cb, .slice pc s.ns.length cc] 47)).heap.size = w.heap.size + 1 := by simp
  generalize w.alloc (.cells #[.slice pa s.ss.length ca, .slice pb s.us.length cb, .slice pc s.ns.length cc] 47) = A at HA0 hX zA ⊢
  have x0 := cellW hX.out 0 _ rfl A (Below.refl _ _)
  go_upto_region 2 with (go_at_call 60; refine (K1.out _ HA0).mono ?_; rintro e w1 ⟨rfl, m1, y1⟩)
  have q1 := y1.size
  have hX1 : Hid _ := (y1.block w.heap.size (by omega) (by omega)).trans hX.out
  have x1 := cellW hX1.out 1 _ rfl w1 (Below.refl _ _)
  clear x0 hX
  have o2 : OwnBS w1 l2 h2 _ s.us := (P2.out.same (Same.below HA0 (by omega)) HA0.size).same (y1.same (by omega) (by omega)) y1.size
  go_upto_region 3 with (go_at_call 61; refine (K2.out _ o2).mono ?_; rintro e w2 ⟨rfl, m2, y2⟩)
  have q2 := y2.size
  have hX2 : Hid _ := (y2.block w.heap.size (by omega) (by omega)).trans hX1.out
  have x2 := cellW hX2.out 2 _ rfl w2 (Below.refl _ _)
  clear x1 hX1 o2
  have o3 : OwnNS w2 l3 h3 _ s.ns := ((P3.out.same (Same.below HA0 (by omega)) HA0.size).same (y1.same (by omega) (by omega)) y1.size).same (y2.same (by omega) (by omega)) y2.size
  go_wp2_with (go_at_call 62; refine (K3.out _ o3).mono ?_; rintro e w3 ⟨rfl, m3, y3⟩)
  go_ret
  have q3 := y3.size
  exact ⟨rfl, ⟨by omega, l1, h1, l2, h2, l3, h3, ⟨a1, a2, a3⟩, ⟨t1, t2, t3⟩, (m1.same (y2.same (by omega) (by omega)) y2.size).same (y3.same (by omega) (by omega)) y3.size, m2.same (y3.same (by omega) (by omega)) y3.size, m3, e12, e13, e23⟩, (((Only.below HA0).trans (y1.mono a1 t1)).trans (y2.mono a2 t2)).trans (y3.mono a3 t3)⟩
set_option maxRecDepth 100000 in
set_option maxHeartbeats 3200000 in
theorem heldSegment_at (s : Seg) (lo hi : Nat) (v1 v2 v3 : Value) (w : World) (ht : s.tot ≤ 1048576) (hc : 1 + s.cnt ≤ 4900000) (h : OwnSegB w lo hi v1 v2 v3 s.marked) :
    Calls Try.prog 24 #[.agg #[v1, v2, v3], .int .i64 1] w fun e w' => e = .returned (.int .i64 (1 + s.cnt)) ∧ Below w.heap.size w w' := by
  have q1 := ssum_pos s.ss
  have q3 := nsum_pos s.ns
  have hb0 : (s.ss.length : Int) + ssum s.ss ≤ 1048576 ∧ s.us.length ≤ 1048576 ∧ s.ns.length ≤ 1048576 := by unfold Seg.tot at ht; omega
  have hm := (msum_le s.ss).1
  obtain ⟨l1, h1, l2, h2, l3, h3, _, _, o1, o2, o3, _⟩ := h.all
  unfold Seg.marked at o1 o2 o3
  simp only at o1 o2 o3
  unfold Seg.cnt at hc ⊢
  have K1 : Hid (∀ W, Below w.heap.size w W → Calls Try.prog 63 #[v1, .int .i64 1] W fun e w' => e = .returned (.int .i64 (1 + msum s.ss)) ∧ Below W.heap.size W w') := fun W hW => heldStationS_at 1 l1 h1 v1 s.ss W (by omega) hb0.1 (o1.same (Same.below hW (by have := o1.1; omega)) hW.size)
  have K2 : Hid (∀ W, Below w.heap.size w W → Calls Try.prog 64 #[v2, .int .i64 (1 + msum s.ss)] W fun e w' => e = .returned (.int .i64 (1 + msum s.ss + (s.us.length : Int))) ∧ Below W.heap.size W w') := fun W hW => heldBoolS_at (1 + msum s.ss) (by omega) l2 h2 v2 s.us.length W hb0.2.1 (o2.same (Same.below hW (by have := o2.1; omega)) hW.size)
  have K3 : Hid (∀ W, Below w.heap.size w W → Calls Try.prog 65 #[v3, .int .i64 (1 + msum s.ss + (s.us.length : Int))] W fun e w' => e = .returned (.int .i64 (1 + msum s.ss + (s.us.length : Int) + 3 * (s.ns.length : Int))) ∧ Below W.heap.size W w') := fun W hW => heldNoteS_at (1 + msum s.ss + (s.us.length : Int)) (by omega) l3 h3 v3 s.ns.length W hb0.2.2 (o3.same (Same.below hW (by have := o3.1; omega)) hW.size)
  have hKE : Hid (1 + (msum s.ss + (s.us.length : Int) + 3 * (s.ns.length : Int)) = 1 + msum s.ss + (s.us.length : Int) + 3 * (s.ns.length : Int)) := (by omega : _ = _)
  rw [hKE.out]
  have z1 : ¬ 1 + msum s.ss < 0 := by omega
  have z2 : ¬ 1 + msum s.ss + (s.us.length : Int) < 0 := by omega
  have z3 : ¬ 1 + msum s.ss + (s.us.length : Int) + 3 * (s.ns.length : Int) < 0 := by omega
  obtain ⟨⟨pa, ca, e1, _⟩, ⟨pb, cb, e2, _⟩, ⟨pc, cc, e3, _⟩⟩ := h.row
  generalize s.marked.ss.length = N1 at e1
  generalize s.marked.us.length = N2 at e2
  generalize s.marked.ns.length = N3 at e3
  clear h o1 o2 o3 q1 q3 hm ht hb0 hc hKE
  subst e1 e2 e3
  generalize 1 + msum s.ss + (s.us.length : Int) + 3 * (s.ns.length : Int) = KD at K3 z3 ⊢
  generalize 1 + msum s.ss + (s.us.length : Int) = KC at K2 K3 z2
  generalize 1 + msum s.ss = KB at K1 K2 z1
  have HA0 : Below w.heap.size w _ := all_alloc w (.cells #[.slice pa N1 ca, .slice pb N2 cb, .slice pc N3 cc] 47)
  have hX : Hid _ := heap_alloc_new w (.cells #[.slice pa N1 ca, .slice pb N2 cb, .slice pc N3 cc] 47)
  go_enter Try.func24, Try.ntmps24
  go_upto_region 1 with fail
  generalize w.alloc (.cells #[.slice pa N1 ca, .slice pb N2 cb, .slice pc N3 cc] 47) = A at HA0 hX ⊢
  have x0 := cellW hX.out 0 _ rfl A (Below.refl _ _)
  have x1 : Hid _ := cellW hX.out 1 _ rfl
  have x2 : Hid _ := cellW hX.out 2 _ rfl
  go_wp2_with (first
    | (go_at_call 63; refine (K1.out _ HA0).mono ?_; rintro e w1 ⟨rfl, b1⟩; have c1 := keepB HA0 (Nat.le_refl _) b1; have y1 := x1.out w1 b1)
    | (go_at_call 64; refine (K2.out _ c1).mono ?_; rintro e w2 ⟨rfl, b2⟩; have c2 := keepB c1 (Nat.le_refl _) b2; have y2 := x2.out w2 (keepB b1 (Nat.le_refl _) b2))
    | (go_at_call 65; refine (K3.out _ c2).mono ?_; rintro e w3 ⟨rfl, b3⟩; have c3 := keepB c2 (Nat.le_refl _) b3))
  go_ret
  exact ⟨rfl, c3⟩
end Go.Proofs.Ytklpaleghanhhaa
