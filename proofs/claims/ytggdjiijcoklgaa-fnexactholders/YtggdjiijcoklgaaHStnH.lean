/- A STATION'S OWN LISTS MARKED, and still marked. Written by mkstnh.py. -/
import Derived.Test.YtggdjiijcoklgaaHStnY
namespace Go.Proofs.Ytggdjiijcoklgaa
open Go.RowKit
set_option linter.unusedVariables false
set_option linter.unusedSimpArgs false

/-- a station's own lists, each in its stretch, all of them below a top -/
structure OwnStnB (w : World) (base top : Nat) (v1 v2 v3 v4 : Value) (s : Stn) : Prop where
  le : top ≤ w.heap.size
  all : ∃ l1 h1 l2 h2 l3 h3 l4 h4, (base ≤ l1 ∧ base ≤ l2 ∧ base ≤ l3 ∧ base ≤ l4) ∧ (h1 ≤ top ∧ h2 ≤ top ∧ h3 ≤ top ∧ h4 ≤ top) ∧
    OwnIB w l1 h1 v1 s.kn ∧ OwnIB w l2 h2 v2 s.ws ∧ OwnGB w l3 h3 v3 s.gs ∧ OwnTB w l4 h4 v4 s.os ∧
    (h1 ≤ l2 ∨ h2 ≤ l1) ∧ (h1 ≤ l3 ∨ h3 ≤ l1) ∧ (h1 ≤ l4 ∨ h4 ≤ l1) ∧ (h2 ≤ l3 ∨ h3 ≤ l2) ∧ (h2 ≤ l4 ∨ h4 ≤ l2) ∧ (h3 ≤ l4 ∨ h4 ≤ l3)
theorem OwnStn.top {w : World} {base : Nat} {v1 v2 v3 v4 : Value} {s : Stn} (h : OwnStn w base v1 v2 v3 v4 s) : OwnStnB w base w.heap.size v1 v2 v3 v4 s := ⟨Nat.le_refl _, h.all⟩
theorem OwnStnB.stn {w : World} {base top : Nat} {v1 v2 v3 v4 : Value} {s : Stn} (h : OwnStnB w base top v1 v2 v3 v4 s) : OwnStn w base v1 v2 v3 v4 s := by
  obtain ⟨l1, h1, l2, h2, l3, h3, l4, h4, hl, hh, r⟩ := h.all
  have := h.le
  exact ⟨l1, h1, l2, h2, l3, h3, l4, h4, hl, ⟨by omega, by omega, by omega, by omega⟩, r⟩
theorem OwnStnB.same {w w' : World} {base top : Nat} {v1 v2 v3 v4 : Value} {s : Stn} (h : OwnStnB w base top v1 v2 v3 v4 s) (hs : Same w w' base top) (hz : w.heap.size ≤ w'.heap.size) : OwnStnB w' base top v1 v2 v3 v4 s := by
  obtain ⟨l1, h1, l2, h2, l3, h3, l4, h4, hl, hh, o1, o2, o3, o4, d⟩ := h.all
  have := h.le
  exact ⟨by omega, l1, h1, l2, h2, l3, h3, l4, h4, hl, hh, o1.same (fun k a b => hs k (by omega) (by omega)), o2.same (fun k a b => hs k (by omega) (by omega)), o3.same (fun k a b => hs k (by omega) (by omega)), o4.same (fun k a b => hs k (by omega) (by omega)), d⟩
theorem OwnStnB.below {w w' : World} {base top : Nat} {v1 v2 v3 v4 : Value} {s : Stn} (h : OwnStnB w base top v1 v2 v3 v4 s) (hb : Below w.heap.size w w') : OwnStnB w' base top v1 v2 v3 v4 s := h.same (Same.below hb h.le) hb.size
/-- how many marks a station takes -/
def Stn.cnt (s : Stn) : Int := (s.kn.length : Int) + (s.ws.length : Int) + ((s.gs.length : Int) + (wsum s.gs : Int)) + (s.os.length : Int)
def Stn.marked (s : Stn) : Stn := { s with kn := countK 1 s.kn.length, ws := countK (1 + (s.kn.length : Int)) s.ws.length, gs := markG (1 + (s.kn.length : Int) + (s.ws.length : Int)) s.gs, os := marksK (1 + s.kn.length + s.ws.length + (s.gs.length + wsum s.gs)) s.os.length }
set_option maxRecDepth 100000 in
set_option maxHeartbeats 3200000 in
theorem markStation_any (s : Stn) (base top : Nat) (v1 v2 v3 v4 : Value) (w : World) (hl : s.cnt ≤ 1048576) (h : OwnStnB w base top v1 v2 v3 v4 s) :
    Calls Try.prog 13 #[.agg #[.int .i64 s.ad, .int .i64 s.bo, .int .i64 s.st, .int .i64 s.s.g, .int .i64 s.s.o, .int .i64 s.s.b, .int .i64 s.s.h, .int .i64 s.t.g, .int .i64 s.t.o, .int .i64 s.t.b, .int .i64 s.t.h, .int .i64 s.qu, .int .i64 s.tr, .int .i64 s.he, .int .i64 s.po, v1, v2, v3, v4], .int .i64 1] w fun e w' => e = .returned (.int .i64 (1 + s.cnt)) ∧ OwnStnB w' base top v1 v2 v3 v4 s.marked ∧ Only w w' base top := by
  obtain ⟨l1, h1, l2, h2, l3, h3, l4, h4, ⟨b1, b2, b3, b4⟩, ⟨t1, t2, t3, t4⟩, o1, o2, o3, o4, d12, d13, d14, d23, d24, d34⟩ := h.all
  have hle := h.le
  obtain ⟨p1, c1, e1⟩ := o1.1.shape
  obtain ⟨p2, c2, e2⟩ := o2.1.shape
  obtain ⟨p3, c3, e3⟩ := o3.g.shape
  obtain ⟨p4, c4, e4⟩ := o4.1.shape
  subst e1; subst e2; subst e3; subst e4
  clear h
  have hA := all_alloc w (.cells #[.int .i64 s.ad, .int .i64 s.bo, .int .i64 s.st, .int .i64 s.s.g, .int .i64 s.s.o, .int .i64 s.s.b, .int .i64 s.s.h, .int .i64 s.t.g, .int .i64 s.t.o, .int .i64 s.t.b, .int .i64 s.t.h, .int .i64 s.qu, .int .i64 s.tr, .int .i64 s.he, .int .i64 s.po, .slice p1 s.kn.length c1, .slice p2 s.ws.length c2, .slice p3 s.gs.length c3, .slice p4 s.os.length c4] 33)
  have hX : Hid _ := heap_alloc_new w (.cells #[.int .i64 s.ad, .int .i64 s.bo, .int .i64 s.st, .int .i64 s.s.g, .int .i64 s.s.o, .int .i64 s.s.b, .int .i64 s.s.h, .int .i64 s.t.g, .int .i64 s.t.o, .int .i64 s.t.b, .int .i64 s.t.h, .int .i64 s.qu, .int .i64 s.tr, .int .i64 s.he, .int .i64 s.po, .slice p1 s.kn.length c1, .slice p2 s.ws.length c2, .slice p3 s.gs.length c3, .slice p4 s.os.length c4] 33)
  have hsA : (w.alloc (.cells #[.int .i64 s.ad, .int .i64 s.bo, .int .i64 s.st, .int .i64 s.s.g, .int .i64 s.s.o, .int .i64 s.s.b, .int .i64 s.s.h, .int .i64 s.t.g, .int .i64 s.t.o, .int .i64 s.t.b, .int .i64 s.t.h, .int .i64 s.qu, .int .i64 s.tr, .int .i64 s.he, .int .i64 s.po, .slice p1 s.kn.length c1, .slice p2 s.ws.length c2, .slice p3 s.gs.length c3, .slice p4 s.os.length c4] 33)).heap.size = w.heap.size + 1 := by simp
  unfold Stn.cnt at hl ⊢
  have k1 : s.kn.length ≤ 1048576 := by omega
  have k2 : s.ws.length ≤ 1048576 := by omega
  have k3 : (s.gs.length : Int) + (wsum s.gs : Int) ≤ 1048576 := by omega
  have k4 : s.os.length ≤ 1048576 := by omega
  have G1 : ∀ W, OwnIB W l1 h1 (.slice p1 s.kn.length c1) s.kn → Calls Try.prog 26 #[.slice p1 s.kn.length c1, .int .i64 1] W fun e w' => e = .returned (.int .i64 (1 + (s.kn.length : Int))) ∧ OwnIB w' l1 h1 (.slice p1 s.kn.length c1) (countK 1 s.kn.length) ∧ Only W w' l1 h1 := fun W hW => markInts_B 1 (by omega) l1 h1 _ s.kn W (by omega) hW
  have G2 : ∀ W, OwnIB W l2 h2 (.slice p2 s.ws.length c2) s.ws → Calls Try.prog 26 #[.slice p2 s.ws.length c2, .int .i64 (1 + (s.kn.length : Int))] W fun e w' => e = .returned (.int .i64 (1 + (s.kn.length : Int) + (s.ws.length : Int))) ∧ OwnIB w' l2 h2 (.slice p2 s.ws.length c2) (countK (1 + (s.kn.length : Int)) s.ws.length) ∧ Only W w' l2 h2 := fun W hW => markInts_B (1 + (s.kn.length : Int)) (by omega) l2 h2 _ s.ws W (by omega) hW
  have G3 : ∀ W, OwnGB W l3 h3 (.slice p3 s.gs.length c3) s.gs → Calls Try.prog 50 #[.slice p3 s.gs.length c3, .int .i64 (1 + (s.kn.length : Int) + (s.ws.length : Int))] W fun e w' => e = .returned (.int .i64 (1 + (s.kn.length : Int) + (s.ws.length : Int) + ((s.gs.length : Int) + (wsum s.gs : Int)))) ∧ OwnGB w' l3 h3 (.slice p3 s.gs.length c3) (markG (1 + (s.kn.length : Int) + (s.ws.length : Int)) s.gs) ∧ Only W w' l3 h3 := fun W hW => markGlobS_any (1 + (s.kn.length : Int) + (s.ws.length : Int)) (by omega) l3 h3 _ s.gs W k3 hW
  have G4 : ∀ W, OwnTB W l4 h4 (.slice p4 s.os.length c4) s.os → Calls Try.prog 51 #[.slice p4 s.os.length c4, .int .i64 (1 + (s.kn.length : Int) + (s.ws.length : Int) + ((s.gs.length : Int) + (wsum s.gs : Int)))] W fun e w' => e = .returned (.int .i64 (1 + (s.kn.length : Int) + (s.ws.length : Int) + ((s.gs.length : Int) + (wsum s.gs : Int)) + (s.os.length : Int))) ∧ OwnTB w' l4 h4 (.slice p4 s.os.length c4) (marksK (1 + s.kn.length + s.ws.length + (s.gs.length + wsum s.gs)) s.os.length) ∧ Only W w' l4 h4 := fun W hW => by
    have := markStringS_from (1 + s.kn.length + s.ws.length + (s.gs.length + wsum s.gs)) (by omega) l4 h4 _ s.os W k4 hW
    rwa [show ((1 + s.kn.length + s.ws.length + (s.gs.length + wsum s.gs) : Nat) : Int) = 1 + (s.kn.length : Int) + (s.ws.length : Int) + ((s.gs.length : Int) + (wsum s.gs : Int)) by omega] at this
  have H1 : Hid _ := G1
  have H2 : Hid _ := G2
  have H3 : Hid _ := G3
  have H4 : Hid _ := G4
  have q1 : Hid (OwnIB (w.alloc (.cells #[.int .i64 s.ad, .int .i64 s.bo, .int .i64 s.st, .int .i64 s.s.g, .int .i64 s.s.o, .int .i64 s.s.b, .int .i64 s.s.h, .int .i64 s.t.g, .int .i64 s.t.o, .int .i64 s.t.b, .int .i64 s.t.h, .int .i64 s.qu, .int .i64 s.tr, .int .i64 s.he, .int .i64 s.po, .slice p1 s.kn.length c1, .slice p2 s.ws.length c2, .slice p3 s.gs.length c3, .slice p4 s.os.length c4] 33)) l1 h1 _ s.kn) := o1.same (Same.below hA (by omega))
  have q2 : Hid (OwnIB (w.alloc (.cells #[.int .i64 s.ad, .int .i64 s.bo, .int .i64 s.st, .int .i64 s.s.g, .int .i64 s.s.o, .int .i64 s.s.b, .int .i64 s.s.h, .int .i64 s.t.g, .int .i64 s.t.o, .int .i64 s.t.b, .int .i64 s.t.h, .int .i64 s.qu, .int .i64 s.tr, .int .i64 s.he, .int .i64 s.po, .slice p1 s.kn.length c1, .slice p2 s.ws.length c2, .slice p3 s.gs.length c3, .slice p4 s.os.length c4] 33)) l2 h2 _ s.ws) := o2.same (Same.below hA (by omega))
  have q3 : Hid (OwnGB (w.alloc (.cells #[.int .i64 s.ad, .int .i64 s.bo, .int .i64 s.st, .int .i64 s.s.g, .int .i64 s.s.o, .int .i64 s.s.b, .int .i64 s.s.h, .int .i64 s.t.g, .int .i64 s.t.o, .int .i64 s.t.b, .int .i64 s.t.h, .int .i64 s.qu, .int .i64 s.tr, .int .i64 s.he, .int .i64 s.po, .slice p1 s.kn.length c1, .slice p2 s.ws.length c2, .slice p3 s.gs.length c3, .slice p4 s.os.length c4] 33)) l3 h3 _ s.gs) := o3.same (Same.below hA (by omega))
  have q4 : Hid (OwnTB (w.alloc (.cells #[.int .i64 s.ad, .int .i64 s.bo, .int .i64 s.st, .int .i64 s.s.g, .int .i64 s.s.o, .int .i64 s.s.b, .int .i64 s.s.h, .int .i64 s.t.g, .int .i64 s.t.o, .int .i64 s.t.b, .int .i64 s.t.h, .int .i64 s.qu, .int .i64 s.tr, .int .i64 s.he, .int .i64 s.po, .slice p1 s.kn.length c1, .slice p2 s.ws.length c2, .slice p3 s.gs.length c3, .slice p4 s.os.length c4] 33)) l4 h4 _ s.os) := o4.same (Same.below hA (by omega))
  clear G1 G2 G3 G4 o1 o2 o3 o4 k1 k2 k3 k4
  have hE : Hid ((1 : Int) + ((s.kn.length : Int) + (s.ws.length : Int) + ((s.gs.length : Int) + (wsum s.gs : Int)) + (s.os.length : Int)) = 1 + (s.kn.length : Int) + (s.ws.length : Int) + ((s.gs.length : Int) + (wsum s.gs : Int)) + (s.os.length : Int)) := (by omega : _ = _)
  go_enter Try.func13, Try.ntmps13
  go_upto_region 1 with fail
  generalize w.alloc (.cells #[.int .i64 s.ad, .int .i64 s.bo, .int .i64 s.st, .int .i64 s.s.g, .int .i64 s.s.o, .int .i64 s.s.b, .int .i64 s.s.h, .int .i64 s.t.g, .int .i64 s.t.o, .int .i64 s.t.b, .int .i64 s.t.h, .int .i64 s.qu, .int .i64 s.tr, .int .i64 s.he, .int .i64 s.po, .slice p1 s.kn.length c1, .slice p2 s.ws.length c2, .slice p3 s.gs.length c3, .slice p4 s.os.length c4] 33) = A at hA hX hsA q1 q2 q3 q4 ⊢
  have x15 := cellW hX.out 15 _ rfl A (Below.refl _ _)
  have hO : Only w A base top := Only.below hA
  go_upto_region 2 with (go_at_call 26; refine (H1.out _ q1.out).mono ?_; rintro e A1 ⟨rfl, m1, y1⟩)
  have hX1 : Hid _ := (y1.block w.heap.size (by omega) (by omega)).trans hX.out
  have z1 := y1.size
  have q2' : Hid (OwnIB A1 l2 h2 _ s.ws) := q2.out.same (y1.same (by omega) (by omega))
  have q3' : Hid (OwnGB A1 l3 h3 _ s.gs) := q3.out.same (y1.same (by omega) (by omega))
  have q4' : Hid (OwnTB A1 l4 h4 _ s.os) := q4.out.same (y1.same (by omega) (by omega))
  clear q1 q2 q3 q4 x15
  have x16 := cellW hX1.out 16 _ rfl A1 (Below.refl _ _)
  go_upto_region 3 with (go_at_call 26; refine (H2.out _ q2'.out).mono ?_; rintro e A2 ⟨rfl, m2, y2⟩)
  have hX2 : Hid _ := (y2.block w.heap.size (by omega) (by omega)).trans hX1.out
  have z2 := y2.size
  have m1' : Hid (OwnIB A2 l1 h1 _ _) := m1.same (y2.same (by omega) (by omega))
  have q3s : Hid (OwnGB A2 l3 h3 _ s.gs) := q3'.out.same (y2.same (by omega) (by omega))
  have q4s : Hid (OwnTB A2 l4 h4 _ s.os) := q4'.out.same (y2.same (by omega) (by omega))
  clear q2' q3' q4' x16 m1
  have x17 := cellW hX2.out 17 _ rfl A2 (Below.refl _ _)
  go_upto_region 4 with (go_at_call 50; refine (H3.out _ q3s.out).mono ?_; rintro e A3 ⟨rfl, m3, y3⟩)
  have hX3 : Hid _ := (y3.block w.heap.size (by omega) (by omega)).trans hX2.out
  have z3 := y3.size
  have m1s : Hid (OwnIB A3 l1 h1 _ _) := m1'.out.same (y3.same (by omega) (by omega))
  have m2s : Hid (OwnIB A3 l2 h2 _ _) := m2.same (y3.same (by omega) (by omega))
  have q4t : Hid (OwnTB A3 l4 h4 _ s.os) := q4s.out.same (y3.same (by omega) (by omega))
  clear q3s q4s x17 m1' m2
  have x18 := cellW hX3.out 18 _ rfl A3 (Below.refl _ _)
  go_wp2_with (go_at_call 51; refine (H4.out _ q4t.out).mono ?_; rintro e A4 ⟨rfl, m4, y4⟩)
  have z4 := y4.size
  go_ret
  refine ⟨by rw [hE.out]; rfl, ⟨by omega, l1, h1, l2, h2, l3, h3, l4, h4, ⟨b1, b2, b3, b4⟩, ⟨t1, t2, t3, t4⟩, m1s.out.same (y4.same (by omega) (by omega)), m2s.out.same (y4.same (by omega) (by omega)), m3.same (y4.same (by omega) (by omega)), m4, d12, d13, d14, d23, d24, d34⟩, ?_⟩
  exact (((hO.trans (y1.mono (by omega) (by omega))).trans (y2.mono (by omega) (by omega))).trans (y3.mono (by omega) (by omega))).trans (y4.mono (by omega) (by omega))
set_option maxRecDepth 100000 in
set_option maxHeartbeats 3200000 in
theorem heldStation_any (s : Stn) (base : Nat) (v1 v2 v3 v4 : Value) (w : World) (hl : s.cnt ≤ 1048576) (h : OwnStn w base v1 v2 v3 v4 s.marked) :
    Calls Try.prog 53 #[.agg #[.int .i64 s.ad, .int .i64 s.bo, .int .i64 s.st, .int .i64 s.s.g, .int .i64 s.s.o, .int .i64 s.s.b, .int .i64 s.s.h, .int .i64 s.t.g, .int .i64 s.t.o, .int .i64 s.t.b, .int .i64 s.t.h, .int .i64 s.qu, .int .i64 s.tr, .int .i64 s.he, .int .i64 s.po, v1, v2, v3, v4], .int .i64 1] w fun e w' => e = .returned (.int .i64 (1 + s.cnt)) ∧ Below w.heap.size w w' := by
  obtain ⟨l1, h1, l2, h2, l3, h3, l4, h4, _, _, o1, o2, o3, o4, _⟩ := h.all
  obtain ⟨p1, c1, e1⟩ := o1.1.shape
  obtain ⟨p2, c2, e2⟩ := o2.1.shape
  obtain ⟨p3, c3, e3⟩ := o3.g.shape
  obtain ⟨p4, c4, e4⟩ := o4.1.shape
  rw [show s.marked.kn.length = s.kn.length from countK_length _ _] at e1
  rw [show s.marked.ws.length = s.ws.length from countK_length _ _] at e2
  rw [show s.marked.gs.length = s.gs.length from markG_length _ _] at e3
  rw [show s.marked.os.length = s.os.length from marksK_length _ _] at e4
  subst e1; subst e2; subst e3; subst e4
  clear h
  have hA := all_alloc w (.cells #[.int .i64 s.ad, .int .i64 s.bo, .int .i64 s.st, .int .i64 s.s.g, .int .i64 s.s.o, .int .i64 s.s.b, .int .i64 s.s.h, .int .i64 s.t.g, .int .i64 s.t.o, .int .i64 s.t.b, .int .i64 s.t.h, .int .i64 s.qu, .int .i64 s.tr, .int .i64 s.he, .int .i64 s.po, .slice p1 s.kn.length c1, .slice p2 s.ws.length c2, .slice p3 s.gs.length c3, .slice p4 s.os.length c4] 33)
  have hX : Hid _ := heap_alloc_new w (.cells #[.int .i64 s.ad, .int .i64 s.bo, .int .i64 s.st, .int .i64 s.s.g, .int .i64 s.s.o, .int .i64 s.s.b, .int .i64 s.s.h, .int .i64 s.t.g, .int .i64 s.t.o, .int .i64 s.t.b, .int .i64 s.t.h, .int .i64 s.qu, .int .i64 s.tr, .int .i64 s.he, .int .i64 s.po, .slice p1 s.kn.length c1, .slice p2 s.ws.length c2, .slice p3 s.gs.length c3, .slice p4 s.os.length c4] 33)
  unfold Stn.cnt at hl ⊢
  have k3 : (s.gs.length : Int) + (wsum s.gs : Int) ≤ 1048576 := by omega
  have H1 : Hid (∀ W, Below w.heap.size w W → Calls Try.prog 32 #[.slice p1 s.kn.length c1, .int .i64 1] W fun e w' => e = .returned (.int .i64 (1 + (s.kn.length : Int))) ∧ Below W.heap.size W w') := fun W hW => heldInt64S_from 1 (by omega) l1 _ s.kn.length W (by omega) (o1.1.below hW)
  have H2 : Hid (∀ W, Below w.heap.size w W → Calls Try.prog 32 #[.slice p2 s.ws.length c2, .int .i64 (1 + (s.kn.length : Int))] W fun e w' => e = .returned (.int .i64 (1 + (s.kn.length : Int) + (s.ws.length : Int))) ∧ Below W.heap.size W w') := fun W hW => heldInt64S_from (1 + (s.kn.length : Int)) (by omega) l2 _ s.ws.length W (by omega) (o2.1.below hW)
  have H3 : Hid (∀ W, Below w.heap.size w W → Calls Try.prog 100 #[.slice p3 s.gs.length c3, .int .i64 (1 + (s.kn.length : Int) + (s.ws.length : Int))] W fun e w' => e = .returned (.int .i64 (1 + (s.kn.length : Int) + (s.ws.length : Int) + ((s.gs.length : Int) + (wsum s.gs : Int)))) ∧ Below W.heap.size W w') := fun W hW => heldGlobS_any (1 + (s.kn.length : Int) + (s.ws.length : Int)) (by omega) l3 _ s.gs W k3 (o3.g.below hW)
  have H4 : Hid (∀ W, Below w.heap.size w W → Calls Try.prog 101 #[.slice p4 s.os.length c4, .int .i64 (1 + (s.kn.length : Int) + (s.ws.length : Int) + ((s.gs.length : Int) + (wsum s.gs : Int)))] W fun e w' => e = .returned (.int .i64 (1 + (s.kn.length : Int) + (s.ws.length : Int) + ((s.gs.length : Int) + (wsum s.gs : Int)) + (s.os.length : Int))) ∧ Below W.heap.size W w') := fun W hW => by
    have := heldStringS_from (1 + s.kn.length + s.ws.length + (s.gs.length + wsum s.gs)) (by omega) l4 _ s.os.length W (by omega) (o4.1.below hW)
    rwa [show ((1 + s.kn.length + s.ws.length + (s.gs.length + wsum s.gs) : Nat) : Int) = 1 + (s.kn.length : Int) + (s.ws.length : Int) + ((s.gs.length : Int) + (wsum s.gs : Int)) by omega] at this
  clear o1 o2 o3 o4 k3
  have hE : Hid ((1 : Int) + ((s.kn.length : Int) + (s.ws.length : Int) + ((s.gs.length : Int) + (wsum s.gs : Int)) + (s.os.length : Int)) = 1 + (s.kn.length : Int) + (s.ws.length : Int) + ((s.gs.length : Int) + (wsum s.gs : Int)) + (s.os.length : Int)) := (by omega : _ = _)
  have n1 : ¬ (1 : Int) + (s.kn.length : Int) < 0 := by omega
  have n2 : ¬ (1 : Int) + (s.kn.length : Int) + (s.ws.length : Int) < 0 := by omega
  have n3 : ¬ (1 : Int) + (s.kn.length : Int) + (s.ws.length : Int) + ((s.gs.length : Int) + (wsum s.gs : Int)) < 0 := by omega
  have n4 : ¬ (1 : Int) + (s.kn.length : Int) + (s.ws.length : Int) + ((s.gs.length : Int) + (wsum s.gs : Int)) + (s.os.length : Int) < 0 := by omega
  go_enter Try.func53, Try.ntmps53
  go_upto_region 1 with fail
  generalize w.alloc (.cells #[.int .i64 s.ad, .int .i64 s.bo, .int .i64 s.st, .int .i64 s.s.g, .int .i64 s.s.o, .int .i64 s.s.b, .int .i64 s.s.h, .int .i64 s.t.g, .int .i64 s.t.o, .int .i64 s.t.b, .int .i64 s.t.h, .int .i64 s.qu, .int .i64 s.tr, .int .i64 s.he, .int .i64 s.po, .slice p1 s.kn.length c1, .slice p2 s.ws.length c2, .slice p3 s.gs.length c3, .slice p4 s.os.length c4] 33) = A at hA hX ⊢
  have x15 := cellW hX.out 15 _ rfl A (Below.refl _ _)
  go_wp2_with (first
    | (have _ := hD1; go_at_call 32; refine (H2.out _ (keepB hA (Nat.le_refl _) s1)).mono ?_; rintro e A2 ⟨rfl, hb2⟩; have s2 := keepB s1 (Nat.le_refl _) hb2; have x17 := cellW hX.out 17 _ rfl A2 s2)
    | (go_at_call 32; refine (H1.out _ hA).mono ?_; rintro e A1 ⟨rfl, hb1⟩; have s1 : Below A.heap.size A A1 := hb1; have hD1 : Hid True := trivial; have x16 := cellW hX.out 16 _ rfl A1 s1)
    | (go_at_call 100; refine (H3.out _ (keepB hA (Nat.le_refl _) s2)).mono ?_; rintro e A3 ⟨rfl, hb3⟩; have s3 := keepB s2 (Nat.le_refl _) hb3; have x18 := cellW hX.out 18 _ rfl A3 s3)
    | (go_at_call 101; refine (H4.out _ (keepB hA (Nat.le_refl _) s3)).mono ?_; rintro e A4 ⟨rfl, hb4⟩; have s4 := keepB s3 (Nat.le_refl _) hb4))
  go_ret
  exact ⟨by rw [hE.out]; rfl, keepB hA (Nat.le_refl _) s4⟩
end Go.Proofs.Ytggdjiijcoklgaa
