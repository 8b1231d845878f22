/- THE LAW'S OWN COPY of a segment, whole. Written by mksegt.py. -/
import Derived.Test.YtggdjiijcoklgaaHSegW
import Derived.Test.YtggdjiijcoklgaaHSegE
import Derived.Test.YtggdjiijcoklgaaHLoadR
import Derived.Test.YtggdjiijcoklgaaHStnV
namespace Go.Proofs.Ytggdjiijcoklgaa
open Go.RowKit
set_option linter.unusedVariables false
set_option linter.unusedSimpArgs false

/-- a segment's own lists, each in its stretch, all of them below a top -/
structure OwnSegB (w : World) (base top : Nat) (v1 v2 v3 : Value) (s : Seg) : Prop where
  le : top ≤ w.heap.size
  all : ∃ l1 h1 l2 h2 l3 h3, (base ≤ l1 ∧ base ≤ l2 ∧ base ≤ l3) ∧ (h1 ≤ top ∧ h2 ≤ top ∧ h3 ≤ top) ∧ OwnStS w l1 h1 v1 s.ss ∧ OwnBS w l2 h2 v2 s.us ∧ OwnNS w l3 h3 v3 s.ns ∧ (h1 ≤ l2 ∨ h2 ≤ l1) ∧ (h1 ≤ l3 ∨ h3 ≤ l1) ∧ (h2 ≤ l3 ∨ h3 ≤ l2)
theorem OwnSegB.same {w w' : World} {base top : Nat} {v1 v2 v3 : Value} {s : Seg} (h : OwnSegB w base top v1 v2 v3 s) (hs : Same w w' base top) (hz : w.heap.size ≤ w'.heap.size) : OwnSegB w' base top v1 v2 v3 s := by
  obtain ⟨l1, h1, l2, h2, l3, h3, hl, hh, o1, o2, o3, d⟩ := h.all
  have := h.le
  exact ⟨by omega, l1, h1, l2, h2, l3, h3, hl, hh, o1.same (fun k a b => hs k (by omega) (by omega)) hz, o2.same (fun k a b => hs k (by omega) (by omega)) hz, o3.same (fun k a b => hs k (by omega) (by omega)) hz, d⟩
theorem OwnSegB.below {w w' : World} {base top : Nat} {v1 v2 v3 : Value} {s : Seg} (h : OwnSegB w base top v1 v2 v3 s) (hb : Below w.heap.size w w') : OwnSegB w' base top v1 v2 v3 s := h.same (Same.below hb h.le) hb.size
theorem OwnSegB.row {w : World} {base top : Nat} {v1 v2 v3 : Value} {s : Seg} (h : OwnSegB w base top v1 v2 v3 s) : RowSeg w v1 v2 v3 s := by
  obtain ⟨l1, h1, l2, h2, l3, h3, hl, hh, o1, o2, o3, d⟩ := h.all
  exact ⟨o1.row, o2.row, o3.row⟩
set_option maxRecDepth 100000 in
set_option maxHeartbeats 3200000 in
theorem toSegment_any (s : Seg) (p1 p2 p3 : Option Addr) (c1 c2 c3 : Nat) (w : World) (ht : s.tot ≤ 1048576) (i1 : InSt w p1 s.ss) (i2 : InBo w p2 s.us) (i3 : InN w p3 s.ns) :
    Calls Try.prog 18 #[.agg #[.slice p1 s.ss.length c1, .slice p2 s.us.length c2, .slice p3 s.ns.length c3]] w fun x w' => ∃ v1 v2 v3, x = .returned (.agg #[v1, v2, v3]) ∧ OwnSegB w' w.heap.size w'.heap.size v1 v2 v3 s ∧ Below w.heap.size w w' := by
  have q1 := ssum_pos s.ss
  have q3 := nsum_pos s.ns
  have hb0 : (s.ss.length : Int) + ssum s.ss ≤ 1048576 ∧ s.us.length ≤ 1048576 ∧ s.ns.length ≤ 1048576 := by unfold Seg.tot at ht; omega
  have H1 : Hid (∀ W, Below w.heap.size w W → Calls Try.prog 59 #[.slice p1 s.ss.length c1] W fun e w' => ∃ v, e = .returned v ∧ OwnStS w' W.heap.size w'.heap.size v s.ss ∧ Below W.heap.size W w') := fun W hW => toStationS_any p1 c1 s.ss W hb0.1 (i1.below hW)
  have H2 : Hid (∀ W, Below w.heap.size w W → Calls Try.prog 60 #[.slice p2 s.us.length c2] W fun e w' => ∃ v, e = .returned v ∧ OwnBS w' W.heap.size w'.heap.size v s.us ∧ Below W.heap.size W w') := fun W hW => toBoolS_any p2 c2 s.us W hb0.2.1 (i2.below hW)
  have H3 : Hid (∀ W, Below w.heap.size w W → Calls Try.prog 61 #[.slice p3 s.ns.length c3] W fun e w' => ∃ v, e = .returned v ∧ OwnNS w' W.heap.size w'.heap.size v s.ns ∧ Below W.heap.size W w') := fun W hW => toNoteS_any p3 c3 s.ns W hb0.2.2 (i3.below hW)
  clear i1 i2 i3 q1 q3 hb0 ht
  have hX0 : Hid _ := blk (blk (heap_alloc_new w (.cells #[.slice p1 s.ss.length c1, .slice p2 s.us.length c2, .slice p3 s.ns.length c3] 48)) (all_alloc _ (.cells #[.slice none 0 0, .slice none 0 0, .slice none 0 0] 54))) (all_alloc _ (.cells #[.slice none 0 0, .slice none 0 0, .slice none 0 0] 54))
  have hY0 : Hid _ := blk (heap_alloc_new (w.alloc (.cells #[.slice p1 s.ss.length c1, .slice p2 s.us.length c2, .slice p3 s.ns.length c3] 48)) (.cells #[.slice none 0 0, .slice none 0 0, .slice none 0 0] 54)) (all_alloc _ (.cells #[.slice none 0 0, .slice none 0 0, .slice none 0 0] 54))
  have hZ0 : Hid _ := heap_alloc_new ((w.alloc (.cells #[.slice p1 s.ss.length c1, .slice p2 s.us.length c2, .slice p3 s.ns.length c3] 48)).alloc (.cells #[.slice none 0 0, .slice none 0 0, .slice none 0 0] 54)) (.cells #[.slice none 0 0, .slice none 0 0, .slice none 0 0] 54)
  have hA : Below w.heap.size w (((w.alloc (.cells #[.slice p1 s.ss.length c1, .slice p2 s.us.length c2, .slice p3 s.ns.length c3] 48)).alloc (.cells #[.slice none 0 0, .slice none 0 0, .slice none 0 0] 54)).alloc (.cells #[.slice none 0 0, .slice none 0 0, .slice none 0 0] 54)) := keepB (keepB (all_alloc w _) (Nat.le_refl _) (all_alloc _ _)) (Nat.le_refl _) (all_alloc _ _)
  have e3 : (((w.alloc (.cells #[.slice p1 s.ss.length c1, .slice p2 s.us.length c2, .slice p3 s.ns.length c3] 48)).alloc (.cells #[.slice none 0 0, .slice none 0 0, .slice none 0 0] 54)).alloc (.cells #[.slice none 0 0, .slice none 0 0, .slice none 0 0] 54)).heap.size = w.heap.size + 1 + 1 + 1 := by simp
  rw [show (w.alloc (.cells #[.slice p1 s.ss.length c1, .slice p2 s.us.length c2, .slice p3 s.ns.length c3] 48)).heap.size = w.heap.size + 1 by simp] at hY0
  rw [show ((w.alloc (.cells #[.slice p1 s.ss.length c1, .slice p2 s.us.length c2, .slice p3 s.ns.length c3] 48)).alloc (.cells #[.slice none 0 0, .slice none 0 0, .slice none 0 0] 54)).heap.size = w.heap.size + 1 + 1 by simp] at hZ0
  go_enter Try.func18, Try.ntmps18
  go_upto_region 2 with fail
  have hX := hX0
  have hY := hY0
  have hZ := hZ0
  clear hX0 hY0 hZ0
  generalize ((w.alloc (.cells #[.slice p1 s.ss.length c1, .slice p2 s.us.length c2, .slice p3 s.ns.length c3] 48)).alloc (.cells #[.slice none 0 0, .slice none 0 0, .slice none 0 0] 54)).alloc (.cells #[.slice none 0 0, .slice none 0 0, .slice none 0 0] 54) = A0 at hX hY hZ hA e3 ⊢
  have g0 : w.heap.size + 1 + 1 + 1 ≤ A0.heap.size := by omega
  clear e3
  have x0 := cellW hX.out 0 _ rfl A0 (Below.refl _ _)
  go_upto_region 3 with (go_at_call 59; refine (H1.out _ hA).mono ?_; rintro e w0 ⟨v, rfl, own0, hb0⟩; obtain ⟨a0, d0, rfl, _⟩ := own0.row; have hZ' : Hid _ := blk hZ.out hb0; have z := cellW hZ'.out 0 _ rfl w0 (Below.refl _ _); have f := frozenW hZ'.out 0 w0 (Below.refl _ _))
  have s0 := hb0.size
  have hXn : Hid ((w0.setCell ⟨w.heap.size + 1 + 1, 0, none⟩ (.slice a0 s.ss.length d0)).heap[w.heap.size]? = some (.cells #[.slice p1 s.ss.length c1, .slice p2 s.us.length c2, .slice p3 s.ns.length c3] 48 (0, 0))) := blk_far (a := ⟨w.heap.size + 1 + 1, 0, none⟩) (blk hX.out hb0) (by simp only; omega) (.slice a0 s.ss.length d0)
  have hYn : Hid ((w0.setCell ⟨w.heap.size + 1 + 1, 0, none⟩ (.slice a0 s.ss.length d0)).heap[w.heap.size + 1]? = some (.cells #[.slice none 0 0, .slice none 0 0, .slice none 0 0] 54 (0, 0))) := blk_far (a := ⟨w.heap.size + 1 + 1, 0, none⟩) (blk hY.out hb0) (by simp only; omega) (.slice a0 s.ss.length d0)
  have hZn : Hid ((w0.setCell ⟨w.heap.size + 1 + 1, 0, none⟩ (.slice a0 s.ss.length d0)).heap[w.heap.size + 1 + 1]? = some (.cells #[.slice a0 s.ss.length d0, .slice none 0 0, .slice none 0 0] 54 (0, 0))) := blk_set hZ'.out 0 (.slice a0 s.ss.length d0)
  have hAn : Below w.heap.size w (w0.setCell ⟨w.heap.size + 1 + 1, 0, none⟩ (.slice a0 s.ss.length d0)) := (keepB hA (Nat.le_refl _) hb0).setCell (by simp only; omega) _
  have o0n : Hid (OwnStS (w0.setCell ⟨w.heap.size + 1 + 1, 0, none⟩ (.slice a0 s.ss.length d0)) A0.heap.size w0.heap.size _ s.ss) := own0.same (Same.far (a := ⟨w.heap.size + 1 + 1, 0, none⟩) (by simp only; omega) _) (by simp [World.setCell])
  have hq : (w0.setCell ⟨w.heap.size + 1 + 1, 0, none⟩ (.slice a0 s.ss.length d0)).heap.size = w0.heap.size := by simp [World.setCell]
  have g1 : w.heap.size + 1 + 1 + 1 ≤ (w0.setCell ⟨w.heap.size + 1 + 1, 0, none⟩ (.slice a0 s.ss.length d0)).heap.size := by omega
  clear own0 z f hZ' hX hY hZ hA 
  generalize (w0.setCell ⟨w.heap.size + 1 + 1, 0, none⟩ (.slice a0 s.ss.length d0)) = A1 at hXn hYn hZn hAn hq g1 o0n ⊢
  have hX := hXn
  have hY := hYn
  have hZ := hZn
  have hA := hAn
  clear hXn hYn hZn hAn x0
  have o0 := o0n
  clear o0n
  obtain ⟨B0, eB0⟩ : ∃ B, A0.heap.size = B := ⟨_, rfl⟩
  obtain ⟨T0, eT0⟩ : ∃ T, w0.heap.size = T := ⟨_, rfl⟩
  rw [eB0, eT0] at o0
  have hQ0 : T0 ≤ A1.heap.size := by omega
  have hP0 : B0 ≤ T0 := by omega
  have hR0 : w.heap.size + 1 + 1 + 1 ≤ B0 := by omega
  have x1 := cellW hX.out 1 _ rfl A1 (Below.refl _ _)
  go_upto_region 4 with (go_at_call 60; refine (H2.out _ hA).mono ?_; rintro e w1 ⟨v, rfl, own1, hb1⟩; obtain ⟨a1, d1, rfl, _⟩ := own1.row; have hZ' : Hid _ := blk hZ.out hb1; have z := cellW hZ'.out 1 _ rfl w1 (Below.refl _ _); have f := frozenW hZ'.out 1 w1 (Below.refl _ _))
  have s1 := hb1.size
  have hXn : Hid ((w1.setCell ⟨w.heap.size + 1 + 1, 1, none⟩ (.slice a1 s.us.length d1)).heap[w.heap.size]? = some (.cells #[.slice p1 s.ss.length c1, .slice p2 s.us.length c2, .slice p3 s.ns.length c3] 48 (0, 0))) := blk_far (a := ⟨w.heap.size + 1 + 1, 1, none⟩) (blk hX.out hb1) (by simp only; omega) (.slice a1 s.us.length d1)
  have hYn : Hid ((w1.setCell ⟨w.heap.size + 1 + 1, 1, none⟩ (.slice a1 s.us.length d1)).heap[w.heap.size + 1]? = some (.cells #[.slice none 0 0, .slice none 0 0, .slice none 0 0] 54 (0, 0))) := blk_far (a := ⟨w.heap.size + 1 + 1, 1, none⟩) (blk hY.out hb1) (by simp only; omega) (.slice a1 s.us.length d1)
  have hZn : Hid ((w1.setCell ⟨w.heap.size + 1 + 1, 1, none⟩ (.slice a1 s.us.length d1)).heap[w.heap.size + 1 + 1]? = some (.cells #[.slice a0 s.ss.length d0, .slice a1 s.us.length d1, .slice none 0 0] 54 (0, 0))) := blk_set hZ'.out 1 (.slice a1 s.us.length d1)
  have hAn : Below w.heap.size w (w1.setCell ⟨w.heap.size + 1 + 1, 1, none⟩ (.slice a1 s.us.length d1)) := (keepB hA (Nat.le_refl _) hb1).setCell (by simp only; omega) _
  have o0n : Hid (OwnStS (w1.setCell ⟨w.heap.size + 1 + 1, 1, none⟩ (.slice a1 s.us.length d1)) B0 T0 _ s.ss) := (o0.out.same (Same.below hb1 (by omega)) hb1.size).same (Same.far (a := ⟨w.heap.size + 1 + 1, 1, none⟩) (by simp only; omega) _) (by simp [World.setCell])
  have o1n : Hid (OwnBS (w1.setCell ⟨w.heap.size + 1 + 1, 1, none⟩ (.slice a1 s.us.length d1)) A1.heap.size w1.heap.size _ s.us) := own1.same (Same.far (a := ⟨w.heap.size + 1 + 1, 1, none⟩) (by simp only; omega) _) (by simp [World.setCell])
  have hq : (w1.setCell ⟨w.heap.size + 1 + 1, 1, none⟩ (.slice a1 s.us.length d1)).heap.size = w1.heap.size := by simp [World.setCell]
  have g2 : w.heap.size + 1 + 1 + 1 ≤ (w1.setCell ⟨w.heap.size + 1 + 1, 1, none⟩ (.slice a1 s.us.length d1)).heap.size := by omega
  clear own1 z f hZ' hX hY hZ hA o0
  generalize (w1.setCell ⟨w.heap.size + 1 + 1, 1, none⟩ (.slice a1 s.us.length d1)) = A2 at hXn hYn hZn hAn hq g2 o0n o1n ⊢
  have hX := hXn
  have hY := hYn
  have hZ := hZn
  have hA := hAn
  clear hXn hYn hZn hAn x1
  have o0 := o0n
  clear o0n
  have o1 := o1n
  clear o1n
  obtain ⟨B1, eB1⟩ : ∃ B, A1.heap.size = B := ⟨_, rfl⟩
  obtain ⟨T1, eT1⟩ : ∃ T, w1.heap.size = T := ⟨_, rfl⟩
  rw [eB1, eT1] at o1
  have hQ1 : T1 ≤ A2.heap.size := by omega
  have hP1 : B1 ≤ T1 := by omega
  have hR1 : w.heap.size + 1 + 1 + 1 ≤ B1 := by omega
  have hO1 : T0 ≤ B1 := by omega
  have hQ01 : T0 ≤ A2.heap.size := by omega
  have x2 := cellW hX.out 2 _ rfl A2 (Below.refl _ _)
  go_upto_region 5 with (go_at_call 61; refine (H3.out _ hA).mono ?_; rintro e w2 ⟨v, rfl, own2, hb2⟩; obtain ⟨a2, d2, rfl, _⟩ := own2.row; have hZ' : Hid _ := blk hZ.out hb2; have z := cellW hZ'.out 2 _ rfl w2 (Below.refl _ _); have f := frozenW hZ'.out 2 w2 (Below.refl _ _))
  have s2 := hb2.size
  have hXn : Hid ((w2.setCell ⟨w.heap.size + 1 + 1, 2, none⟩ (.slice a2 s.ns.length d2)).heap[w.heap.size]? = some (.cells #[.slice p1 s.ss.length c1, .slice p2 s.us.length c2, .slice p3 s.ns.length c3] 48 (0, 0))) := blk_far (a := ⟨w.heap.size + 1 + 1, 2, none⟩) (blk hX.out hb2) (by simp only; omega) (.slice a2 s.ns.length d2)
  have hYn : Hid ((w2.setCell ⟨w.heap.size + 1 + 1, 2, none⟩ (.slice a2 s.ns.length d2)).heap[w.heap.size + 1]? = some (.cells #[.slice none 0 0, .slice none 0 0, .slice none 0 0] 54 (0, 0))) := blk_far (a := ⟨w.heap.size + 1 + 1, 2, none⟩) (blk hY.out hb2) (by simp only; omega) (.slice a2 s.ns.length d2)
  have hZn : Hid ((w2.setCell ⟨w.heap.size + 1 + 1, 2, none⟩ (.slice a2 s.ns.length d2)).heap[w.heap.size + 1 + 1]? = some (.cells #[.slice a0 s.ss.length d0, .slice a1 s.us.length d1, .slice a2 s.ns.length d2] 54 (0, 0))) := blk_set hZ'.out 2 (.slice a2 s.ns.length d2)
  have hAn : Below w.heap.size w (w2.setCell ⟨w.heap.size + 1 + 1, 2, none⟩ (.slice a2 s.ns.length d2)) := (keepB hA (Nat.le_refl _) hb2).setCell (by simp only; omega) _
  have o0n : Hid (OwnStS (w2.setCell ⟨w.heap.size + 1 + 1, 2, none⟩ (.slice a2 s.ns.length d2)) B0 T0 _ s.ss) := (o0.out.same (Same.below hb2 (by omega)) hb2.size).same (Same.far (a := ⟨w.heap.size + 1 + 1, 2, none⟩) (by simp only; omega) _) (by simp [World.setCell])
  have o1n : Hid (OwnBS (w2.setCell ⟨w.heap.size + 1 + 1, 2, none⟩ (.slice a2 s.ns.length d2)) B1 T1 _ s.us) := (o1.out.same (Same.below hb2 (by omega)) hb2.size).same (Same.far (a := ⟨w.heap.size + 1 + 1, 2, none⟩) (by simp only; omega) _) (by simp [World.setCell])
  have o2n : Hid (OwnNS (w2.setCell ⟨w.heap.size + 1 + 1, 2, none⟩ (.slice a2 s.ns.length d2)) A2.heap.size w2.heap.size _ s.ns) := own2.same (Same.far (a := ⟨w.heap.size + 1 + 1, 2, none⟩) (by simp only; omega) _) (by simp [World.setCell])
  have hq : (w2.setCell ⟨w.heap.size + 1 + 1, 2, none⟩ (.slice a2 s.ns.length d2)).heap.size = w2.heap.size := by simp [World.setCell]
  have g3 : w.heap.size + 1 + 1 + 1 ≤ (w2.setCell ⟨w.heap.size + 1 + 1, 2, none⟩ (.slice a2 s.ns.length d2)).heap.size := by omega
  clear own2 z f hZ' hX hY hZ hA o0 o1
  generalize (w2.setCell ⟨w.heap.size + 1 + 1, 2, none⟩ (.slice a2 s.ns.length d2)) = A3 at hXn hYn hZn hAn hq g3 o0n o1n o2n ⊢
  have hX := hXn
  have hY := hYn
  have hZ := hZn
  have hA := hAn
  clear hXn hYn hZn hAn x2
  have o0 := o0n
  clear o0n
  have o1 := o1n
  clear o1n
  have o2 := o2n
  clear o2n
  obtain ⟨B2, eB2⟩ : ∃ B, A2.heap.size = B := ⟨_, rfl⟩
  obtain ⟨T2, eT2⟩ : ∃ T, w2.heap.size = T := ⟨_, rfl⟩
  rw [eB2, eT2] at o2
  have hQ2 : T2 ≤ A3.heap.size := by omega
  have hP2 : B2 ≤ T2 := by omega
  have hR2 : w.heap.size + 1 + 1 + 1 ≤ B2 := by omega
  have hO2 : T1 ≤ B2 := by omega
  have hQ02 : T0 ≤ A3.heap.size := by omega
  have hQ12 : T1 ≤ A3.heap.size := by omega
  go_wp2_with (first
    | (refine wpList_load_rowG (by rfl) 54 (.tmp 3) rfl (w.heap.size + 1 + 1) rfl _ _ _ _ hZ.out Try.underlying54 rfl (by kernel_rfl) ?_)
    | (refine wpList_store_row rfl 54 (.tmp 2) (.tmp 16) rfl (w.heap.size + 1) #[.slice a0 s.ss.length d0, .slice a1 s.us.length d1, .slice a2 s.ns.length d2] rfl rfl _ _ hY.out (by kernel_rfl) rfl (by simp [Value.oneCell']) ?_))
  go_wp2
  have hYf := setRow_heap _ (w.heap.size + 1) _ #[.slice a0 s.ss.length d0, .slice a1 s.us.length d1, .slice a2 s.ns.length d2] _ _ hY.out
  have hAf : Below w.heap.size w _ := Below.setRow hA (g := w.heap.size + 1) (by omega) #[.slice a0 s.ss.length d0, .slice a1 s.us.length d1, .slice a2 s.ns.length d2]
  exact bodyPost_ret (v := .agg #[.slice a0 s.ss.length d0, .slice a1 s.us.length d1, .slice a2 s.ns.length d2]) (results_cell_row Try.results18 _ _ (w.heap.size + 1) _ _ _ _ rfl hYf Try.underlying54 rfl (by kernel_rfl)) rfl ⟨_, _, _, rfl, ⟨Nat.le_refl _, B0, T0, B1, T1, B2, T2, ⟨by omega, by omega, by omega⟩, by rw [setRow_size]; exact ⟨by omega, by omega, by omega⟩, o0.out.same (Same.setRow (by omega) _) (by rw [setRow_size]; exact Nat.le_refl _), o1.out.same (Same.setRow (by omega) _) (by rw [setRow_size]; exact Nat.le_refl _), o2.out.same (Same.setRow (by omega) _) (by rw [setRow_size]; exact Nat.le_refl _), by omega, by omega, by omega⟩, hAf⟩
end Go.Proofs.Ytggdjiijcoklgaa
