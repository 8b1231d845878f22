/- A SEGMENT MARKED, its bools and notes, and the whole. -/
import Derived.Test.YtklpaleghanhhaaQdSegM
namespace Go.Proofs.Ytklpaleghanhhaa
open Go.RowKit
set_option linter.unusedVariables false
set_option linter.unusedSimpArgs false

theorem row_set {W : World} {g n : Nat} {t : TypeId} (h : ∃ cur, W.heap[g]? = some (.cells cur t (0, 0)) ∧ cur.size = n) (o : Nat) (x : Value) : ∃ cur, (W.setCell ⟨g, o, none⟩ x).heap[g]? = some (.cells cur t (0, 0)) ∧ cur.size = n := by
  obtain ⟨cur, h1, h2⟩ := h
  exact ⟨_, blk_set h1 o x, by rw [Array.size_setIfInBounds]; exact h2⟩
theorem row_cell {W : World} {g n : Nat} {t : TypeId} (h : ∃ cur, W.heap[g]? = some (.cells cur t (0, 0)) ∧ cur.size = n) {o : Nat} (ho : o < n) : ∃ v, W.cell? ⟨g, o, none⟩ = some v ∧ W.frozen? ⟨g, o, none⟩ = false := by
  obtain ⟨cur, h1, h2⟩ := h
  have := there_at (f := 0) (there_row h1 o 1 (by omega)) (by omega)
  simpa using this
theorem row_below {W W' : World} {g n : Nat} {t : TypeId} (h : ∃ cur, W.heap[g]? = some (.cells cur t (0, 0)) ∧ cur.size = n) (hb : Below W.heap.size W W') : ∃ cur, W'.heap[g]? = some (.cells cur t (0, 0)) ∧ cur.size = n := by
  obtain ⟨cur, h1, h2⟩ := h
  exact ⟨cur, (hb.block g (Array.getElem?_eq_some_iff.1 h1).1).trans h1, h2⟩
set_option maxRecDepth 100000 in
set_option maxHeartbeats 1600000 in
theorem markBoolS_big (k : Int) (hk0 : 1 ≤ k ∧ k ≤ 40000000) (lo hi : Nat) (v : Value) (us : List Bool) (w : World) (hl : us.length ≤ 1048576) (h : OwnBS w lo hi v us) :
    Calls Try.prog 61 #[v, .int .i64 k] w fun e w' => e = .returned (.int .i64 (k + (us.length : Int))) ∧ Only w w' lo hi := by
  obtain ⟨hhi, ⟨rfl, rfl⟩ | ⟨g, c, cur, rfl, hg1, hg2, hg3, hg4, hg5, _⟩⟩ := h
  · go_enter Try.func61, Try.ntmps61
    go_wp2
    go_loopw [1, 5] (fun x i wr => x = .int .i64 k ∧ i = .int .i64 0 ∧ w = wr) (fun _ _ _ => 0)
    case atStart => exact ⟨rfl, rfl, rfl⟩
    case round =>
      obtain ⟨rfl, rfl, rfl⟩ := hrel
      go_wp2
      go_ret
      exact ⟨by simp, Only.refl _ _ _⟩
  have HS : Hid (∃ cur, w.heap[g]? = some (.cells cur 4 (0, 0)) ∧ cur.size = c) := (⟨cur, hg3, by omega⟩ : ∃ _, _)
  clear hg3 hg4
  go_enter Try.func61, Try.ntmps61
  go_wp2
  go_loopw [1, 5] (fun x i wr => ∃ (j : Nat), j ≤ us.length ∧ i = .int .i64 j ∧ x = .int .i64 (k + (j : Int)) ∧ Hid (∃ cur, wr.heap[g]? = some (.cells cur 4 (0, 0)) ∧ cur.size = c) ∧ Hid (Only w wr lo hi)) (fun _ i _ => us.length - (intOf i).toNat)
  case atStart => exact ⟨0, Nat.zero_le _, rfl, by simp, HS.out, Only.refl _ _ _⟩
  case round =>
    obtain ⟨j, hj, rfl, rfl, HW, HO⟩ := hrel
    by_cases hlt : j < us.length
    · obtain ⟨x0, y0, z0⟩ := row_cell HW.out (o := j) (by omega)
      obtain ⟨M, eM⟩ : ∃ M, k + (j : Int) = M := ⟨_, rfl⟩
      have hM : 1 ≤ M ∧ M ≤ 50000000 := by omega
      have HM2 : Hid (M + 1 = k + ((j + 1 : Nat) : Int)) := (by omega : _ = _)
      rw [eM]
      clear eM
      have HA : Hid (∀ x, ∃ cur, (wr.setCell ⟨g, j, none⟩ x).heap[g]? = some (.cells cur 4 (0, 0)) ∧ cur.size = c) := fun x => row_set HW.out j x
      have HB : Hid (∀ x, Only w (wr.setCell ⟨g, j, none⟩ x) lo hi) := fun x => HO.out.trans (Only.set (a := ⟨g, j, none⟩) hg1 hg2 x)
      clear HW HO
      go_wp2
      go_roundw
      case rel => exact ⟨j + 1, by omega, by go_num, by rw [← HM2.out], HA.out _, HB.out _⟩
      case measure => simp [intOf]; omega
    · obtain rfl : j = us.length := by omega
      go_wp2
      go_ret
      exact ⟨rfl, HO.out⟩
set_option maxRecDepth 100000 in
set_option maxHeartbeats 1600000 in
theorem markNoteS_big (k : Int) (hk0 : 1 ≤ k ∧ k ≤ 60000000) (lo hi : Nat) (v : Value) (ns : List Nt) (w : World) (hl : ns.length ≤ 1048576) (h : OwnNS w lo hi v ns) :
    Calls Try.prog 62 #[v, .int .i64 k] w fun e w' => e = .returned (.int .i64 (k + 3 * (ns.length : Int))) ∧ Only w w' lo hi := by
  obtain ⟨hhi, ⟨rfl, rfl⟩ | ⟨g, c, cur, rfl, hg1, hg2, hg3, hg4, hg5, _⟩⟩ := h
  · go_enter Try.func62, Try.ntmps62
    go_wp2
    go_loopw [1, 5] (fun x i wr => x = .int .i64 k ∧ i = .int .i64 0 ∧ w = wr) (fun _ _ _ => 0)
    case atStart => exact ⟨rfl, rfl, rfl⟩
    case round =>
      obtain ⟨rfl, rfl, rfl⟩ := hrel
      go_wp2
      go_ret
      exact ⟨by simp, Only.refl _ _ _⟩
  have HS : Hid (∃ cur, w.heap[g]? = some (.cells cur 149 (0, 0)) ∧ cur.size = c * 3) := (⟨cur, hg3, by omega⟩ : ∃ _, _)
  clear hg3 hg4
  go_enter Try.func62, Try.ntmps62
  go_wp2
  go_loopw [1, 5] (fun x i wr => ∃ (j : Nat) (M : Int), j ≤ ns.length ∧ i = .int .i64 j ∧ x = .int .i64 M ∧ Hid (M = k + 3 * (j : Int)) ∧ Hid (∃ cur, wr.heap[g]? = some (.cells cur 149 (0, 0)) ∧ cur.size = c * 3) ∧ Hid (Only w wr lo hi)) (fun _ i _ => ns.length - (intOf i).toNat)
  case atStart => exact ⟨0, k, Nat.zero_le _, rfl, rfl, (by simp : _ = _), HS.out, Only.refl _ _ _⟩
  case round =>
    obtain ⟨j, M, hj, rfl, rfl, HM, HW, HO⟩ := hrel
    by_cases hlt : j < ns.length
    · have hm := mul_step (m := 3) (show j < c by omega)
      obtain ⟨x0, y0, z0⟩ := row_cell HW.out (o := j * 3) (by omega)
      have hM : 1 ≤ M ∧ M ≤ 70000000 := by have := HM.out; omega
      go_upto_region 6 with fail
      have HW1 : Hid (∃ cur, (wr.setCell ⟨g, j * 3, none⟩ (.int .i64 M)).heap[g]? = some (.cells cur 149 (0, 0)) ∧ cur.size = c * 3) := row_set HW.out _ _
      have HO1 : Hid (Only w (wr.setCell ⟨g, j * 3, none⟩ (.int .i64 M)) lo hi) := HO.out.trans (Only.set (a := ⟨g, j * 3, none⟩) hg1 hg2 _)
      clear HW HO y0 z0
      generalize wr.setCell ⟨g, j * 3, none⟩ (.int .i64 M) = W1 at HW1 HO1 ⊢
      obtain ⟨M1, e1⟩ : ∃ x, M + 1 = x := ⟨_, rfl⟩
      rw [e1]
      have hM1 : 1 ≤ M1 ∧ M1 ≤ 70000001 := by omega
      have E1 : Hid (M1 = M + 1) := e1.symm
      clear e1
      obtain ⟨x1, y1, z1⟩ := row_cell HW1.out (o := j * 3 + 1) (by omega)
      go_upto_region 8 with fail
      have HW2 : Hid (∃ cur, (W1.setCell ⟨g, j * 3 + 1, none⟩ (.int .i64 M1)).heap[g]? = some (.cells cur 149 (0, 0)) ∧ cur.size = c * 3) := row_set HW1.out _ _
      have HO2 : Hid (Only w (W1.setCell ⟨g, j * 3 + 1, none⟩ (.int .i64 M1)) lo hi) := HO1.out.trans (Only.set (a := ⟨g, j * 3 + 1, none⟩) hg1 hg2 _)
      clear HW1 HO1 y1 z1
      generalize W1.setCell ⟨g, j * 3 + 1, none⟩ (.int .i64 M1) = W2 at HW2 HO2 ⊢
      obtain ⟨M2, e2⟩ : ∃ x, M1 + 1 = x := ⟨_, rfl⟩
      rw [e2]
      have hM2 : 1 ≤ M2 ∧ M2 ≤ 70000002 := by omega
      have E2 : Hid (M2 = M + 2) := (by have := E1.out; omega : _ = _)
      clear e2
      obtain ⟨mk, emk⟩ : ∃ m : Nat, M2 = (m : Int) := ⟨M2.toNat, by omega⟩
      have HC : Hid (Calls Try.prog 84 #[.int .i64 M2] W2 fun e w' => e = .returned (.string (markB mk)) ∧ Below W2.heap.size W2 w') := by
        rw [emk]
        exact markText_big mk W2 (by omega) (by omega)
      have HR3 : Hid (∀ W, Below W2.heap.size W2 W → ∃ cur, W.heap[g]? = some (.cells cur 149 (0, 0)) ∧ cur.size = c * 3) := fun W hW => row_below HW2.out hW
      clear emk
      generalize markB mk = T at HC
      go_upto_region 9 with (go_at_call 84; refine HC.out.mono ?_; rintro e w3 ⟨rfl, hb3⟩; obtain ⟨x2, y2, z2⟩ := row_cell (HR3.out w3 hb3) (o := j * 3 + 2) (by omega))
      have HW3 : Hid (∃ cur, (w3.setCell ⟨g, j * 3 + 2, none⟩ (.string T)).heap[g]? = some (.cells cur 149 (0, 0)) ∧ cur.size = c * 3) := row_set (HR3.out w3 hb3) _ _
      have HO3 : Hid (Only w (w3.setCell ⟨g, j * 3 + 2, none⟩ (.string T)) lo hi) := (HO2.out.trans (Only.below hb3)).trans (Only.set (a := ⟨g, j * 3 + 2, none⟩) hg1 hg2 _)
      clear HW2 HO2 y2 z2 hb3
      generalize w3.setCell ⟨g, j * 3 + 2, none⟩ (.string T) = W3 at HW3 HO3 ⊢
      have E3 : Hid (M2 + 1 = k + 3 * ((j + 1 : Nat) : Int)) := (by have := E2.out; have := HM.out; push_cast; omega : _ = _)
      go_wp2
      go_roundw
      case rel => exact ⟨j + 1, M2 + 1, by omega, by go_num, by go_num, E3.out, HW3.out, HO3.out⟩
      case measure => simp [intOf]; omega
    · obtain rfl : j = ns.length := by omega
      have E2 : Hid (k + 3 * (ns.length : Int) = M) := (by have := HM.out; omega : _ = _)
      go_wp2
      go_ret
      exact ⟨by rw [E2.out]; rfl, HO.out⟩
set_option maxRecDepth 100000 in
set_option maxHeartbeats 3200000 in
theorem markSegment_big (s : Seg) (lo hi : Nat) (v1 v2 v3 : Value) (w : World) (ht : s.tot ≤ 1048576) (h : OwnSegB w lo hi v1 v2 v3 s) :
    Calls Try.prog 23 #[.agg #[v1, v2, v3], .int .i64 1] w fun e w' => (∃ K : Int, 1 ≤ K ∧ e = .returned (.int .i64 K)) ∧ Only w w' lo hi := by
  have q1 := ssum_pos s.ss
  have q3 := nsum_pos s.ns
  have hb0 : (s.ss.length : Int) + ssum s.ss ≤ 1048576 ∧ s.us.length ≤ 1048576 ∧ s.ns.length ≤ 1048576 := by unfold Seg.tot at ht; omega
  have hm := msum_le s.ss
  have hm2 : 0 ≤ msum s.ss ∧ msum s.ss ≤ 16000000 := by omega
  obtain ⟨l1, h1, l2, h2, l3, h3, ⟨a1, a2, a3⟩, ⟨t1, t2, t3⟩, o1, o2, o3, e12, e13, e23⟩ := h.all
  have hle := h.le
  have HA0 : Below w.heap.size w _ := all_alloc w (.cells #[v1, v2, v3] 47)
  have hX : Hid _ := heap_alloc_new w (.cells #[v1, v2, v3] 47)
  generalize msum s.ss = S at hm2
  have K1 : Hid (∀ W, Below w.heap.size w W → Calls Try.prog 60 #[v1, .int .i64 1] W fun e w' => e = .returned (.int .i64 (1 + msum s.ss)) ∧ Only W w' l1 h1) := fun W hW => markStationS_big 1 (by omega) l1 h1 v1 s.ss W hb0.1 (o1.same (Same.below hW (by omega)) hW.size)
  have hm3 : 0 ≤ msum s.ss ∧ msum s.ss ≤ 16000000 := by omega
  generalize msum s.ss = S1 at K1 hm3
  have K2 : Hid (∀ W, OwnBS W l2 h2 v2 s.us → Calls Try.prog 61 #[v2, .int .i64 (1 + S1)] W fun e w' => e = .returned (.int .i64 (1 + S1 + (s.us.length : Int))) ∧ Only W w' l2 h2) := fun W o => markBoolS_big (1 + S1) (by omega) l2 h2 v2 s.us W hb0.2.1 o
  have K3 : Hid (∀ W, OwnNS W l3 h3 v3 s.ns → Calls Try.prog 62 #[v3, .int .i64 (1 + S1 + (s.us.length : Int))] W fun e w' => e = .returned (.int .i64 (1 + S1 + (s.us.length : Int) + 3 * (s.ns.length : Int))) ∧ Only W w' l3 h3) := fun W o => markNoteS_big (1 + S1 + (s.us.length : Int)) (by omega) l3 h3 v3 s.ns W hb0.2.2 o
  have P2 : Hid (OwnBS _ _ _ _ _) := o2
  have P3 : Hid (OwnNS _ _ _ _ _) := o3
  have hK : Hid (1 ≤ 1 + S1 + (s.us.length : Int) + 3 * (s.ns.length : Int)) := (by omega : _ ≤ _)
  obtain ⟨⟨pa, ca, rfl, _⟩, ⟨pb, cb, rfl, _⟩, ⟨pc, cc, rfl, _⟩⟩ := h.row
  clear h o1 o2 o3 q1 q3 hm hm2 ht hb0
  generalize 1 + S1 + (s.us.length : Int) + 3 * (s.ns.length : Int) = KD at K3 hK
  generalize 1 + S1 + (s.us.length : Int) = KC at K2 K3
  generalize 1 + S1 = KB at K1 K2
  go_enter Try.func23, Try.ntmps23
  go_upto_region 1 with fail
  have zA : (w.alloc (.cells #[.slice pa s.ss.length ca, .slice pb s.us.length cb, .slice pc s.ns.length cc] 47)).heap.size = w.heap.size + 1 := by simp
  generalize w.alloc (.cells #[.slice pa s.ss.length ca, .slice pb s.us.length cb, .slice pc s.ns.length cc] 47) = A at HA0 hX zA ⊢
  have x0 := cellW hX.out 0 _ rfl A (Below.refl _ _)
  go_upto_region 2 with (go_at_call 60; refine (K1.out _ HA0).mono ?_; rintro e w1 ⟨rfl, y1⟩)
  have q1 := y1.size
  have hX1 : Hid _ := (y1.block w.heap.size (by omega) (by omega)).trans hX.out
  have x1 := cellW hX1.out 1 _ rfl w1 (Below.refl _ _)
  clear x0 hX
  have o2 : OwnBS w1 l2 h2 _ s.us := (P2.out.same (Same.below HA0 (by omega)) HA0.size).same (y1.same (by omega) (by omega)) y1.size
  go_upto_region 3 with (go_at_call 61; refine (K2.out _ o2).mono ?_; rintro e w2 ⟨rfl, y2⟩)
  have q2 := y2.size
  have hX2 : Hid _ := (y2.block w.heap.size (by omega) (by omega)).trans hX1.out
  have x2 := cellW hX2.out 2 _ rfl w2 (Below.refl _ _)
  clear x1 hX1 o2
  have o3 : OwnNS w2 l3 h3 _ s.ns := ((P3.out.same (Same.below HA0 (by omega)) HA0.size).same (y1.same (by omega) (by omega)) y1.size).same (y2.same (by omega) (by omega)) y2.size
  go_wp2_with (go_at_call 62; refine (K3.out _ o3).mono ?_; rintro e w3 ⟨rfl, y3⟩)
  go_ret
  exact ⟨⟨_, hK.out, rfl⟩, (((Only.below HA0).trans (y1.mono a1 t1)).trans (y2.mono a2 t2)).trans (y3.mono a3 t3)⟩
end Go.Proofs.Ytklpaleghanhhaa
