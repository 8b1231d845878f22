/- A SEGMENT MARKED, its bools and notes, and the whole. -/
import Derived.Test.YtggdjiijcoklgaaHSegM
import Derived.Test.YtggdjiijcoklgaaHPlainTb
import Derived.Test.YtggdjiijcoklgaaHStnV
import Derived.WalkKit
import Derived.OpenShut
import Derived.ShutString
import Derived.ChangeOld
import Derived.Lib.SmallJoins
import Derived.SliceStrings
import Derived.Deep.SlicePairs
import Derived.Deep.Strs
namespace Go.Proofs.Ytggdjiijcoklgaa
open Go.RowKit
set_option linter.unusedVariables false
set_option linter.unusedSimpArgs false

theorem row_set {W : World} {g n : Nat} {t : TypeId} (h : ∃ cur, W.heap[g]? = some (.cells cur t (0, 0)) ∧ cur.size = n) (o : Nat) (x : Value) : ∃ cur, (W.setCell ⟨g, o, none⟩ x).heap[g]? = some (.cells cur t (0, 0)) ∧ cur.size = n := by
  obtain ⟨cur, h1, h2⟩ := h
  exact ⟨_, blk_set h1 o x, by rw [Array.size_setIfInBounds]; exact h2⟩
theorem row_cell {W : World} {g n : Nat} {t : TypeId} (h : ∃ cur, W.heap[g]? = some (.cells cur t (0, 0)) ∧ cur.size = n) {o : Nat} (ho : o < n) : ∃ v, W.cell? ⟨g, o, none⟩ = some v ∧ W.frozen? ⟨g, o, none⟩ = false := by
  obtain ⟨cur, h1, h2⟩ := h
  have := there_at (f := 0) (there_row h1 o 1 (by omega)) (by omega)
  simpa using this
theorem row_below {W W' : World} {g n : Nat} {t : TypeId} (h : ∃ cur, W.heap[g]? = some (.cells cur t (0, 0)) ∧ cur.size = n) (hb : Below W.heap.size W W') : ∃ cur, W'.heap[g]? = some (.cells cur t (0, 0)) ∧ cur.size = n := by
  obtain ⟨cur, h1, h2⟩ := h
  exact ⟨cur, (hb.block g (Array.getElem?_eq_some_iff.1 h1).1).trans h1, h2⟩
set_option maxRecDepth 100000 in
set_option maxHeartbeats 1600000 in
theorem markBoolS_big (k : Int) (hk0 : 1 ≤ k ∧ k ≤ 40000000) (lo hi : Nat) (v : Value) (us : List Bool) (w : World) (hl : us.length ≤ 1048576) (h : OwnBS w lo hi v us) :
    Calls Try.prog 75 #[v, .int .i64 k] w fun e w' => e = .returned (.int .i64 (k + (us.length : Int))) ∧ Only w w' lo hi := by
  obtain ⟨hhi, ⟨rfl, rfl⟩ | ⟨g, c, cur, rfl, hg1, hg2, hg3, hg4, hg5, _⟩⟩ := h
  · go_enter Try.func75, Try.ntmps75
    go_wp2
    go_loopw [1, 5] (fun x i wr => x = .int .i64 k ∧ i = .int .i64 0 ∧ w = wr) (fun _ _ _ => 0)
    case atStart => exact ⟨rfl, rfl, rfl⟩
    case round =>
      obtain ⟨rfl, rfl, rfl⟩ := hrel
      go_wp2
      go_ret
      exact ⟨by simp, Only.refl _ _ _⟩
  have HS : Hid (∃ cur, w.heap[g]? = some (.cells cur 4 (0, 0)) ∧ cur.size = c) := (⟨cur, hg3, by omega⟩ : ∃ _, _)
  clear hg3 hg4
  go_enter Try.func75, Try.ntmps75
  go_wp2
  go_loopw [1, 5] (fun x i wr => ∃ (j : Nat), j ≤ us.length ∧ i = .int .i64 j ∧ x = .int .i64 (k + (j : Int)) ∧ Hid (∃ cur, wr.heap[g]? = some (.cells cur 4 (0, 0)) ∧ cur.size = c) ∧ Hid (Only w wr lo hi)) (fun _ i _ => us.length - (intOf i).toNat)
  case atStart => exact ⟨0, Nat.zero_le _, rfl, by simp, HS.out, Only.refl _ _ _⟩
  case round =>
    obtain ⟨j, hj, rfl, rfl, HW, HO⟩ := hrel
    by_cases hlt : j < us.length
    · obtain ⟨x0, y0, z0⟩ := row_cell HW.out (o := j) (by omega)
      obtain ⟨M, eM⟩ : ∃ M, k + (j : Int) = M := ⟨_, rfl⟩
      have hM : 1 ≤ M ∧ M ≤ 50000000 := by omega
      have HM2 : Hid (M + 1 = k + ((j + 1 : Nat) : Int)) := (by omega : _ = _)
      rw [eM]
      clear eM
      have HA : Hid (∀ x, ∃ cur, (wr.setCell ⟨g, j, none⟩ x).heap[g]? = some (.cells cur 4 (0, 0)) ∧ cur.size = c) := fun x => row_set HW.out j x
      have HB : Hid (∀ x, Only w (wr.setCell ⟨g, j, none⟩ x) lo hi) := fun x => HO.out.trans (Only.set (a := ⟨g, j, none⟩) hg1 hg2 x)
      clear HW HO
      go_wp2
      go_roundw
      case rel => exact ⟨j + 1, by omega, by go_num, by rw [← HM2.out], HA.out _, HB.out _⟩
      case measure => simp [intOf]; omega
    · obtain rfl : j = us.length := by omega
      go_wp2
      go_ret
      exact ⟨rfl, HO.out⟩
set_option maxRecDepth 100000 in
set_option maxHeartbeats 1600000 in
theorem markNoteS_big (k : Int) (hk0 : 1 ≤ k ∧ k ≤ 60000000) (lo hi : Nat) (v : Value) (ns : List Nt) (w : World) (hl : ns.length ≤ 1048576) (h : OwnNS w lo hi v ns) :
    Calls Try.prog 76 #[v, .int .i64 k] w fun e w' => e = .returned (.int .i64 (k + 3 * (ns.length : Int))) ∧ Only w w' lo hi := by
  obtain ⟨hhi, ⟨rfl, rfl⟩ | ⟨g, c, cur, rfl, hg1, hg2, hg3, hg4, hg5, _⟩⟩ := h
  · go_enter Try.func76, Try.ntmps76
    go_wp2
    go_loopw [1, 5] (fun x i wr => x = .int .i64 k ∧ i = .int .i64 0 ∧ w = wr) (fun _ _ _ => 0)
    case atStart => exact ⟨rfl, rfl, rfl⟩
    case round =>
      obtain ⟨rfl, rfl, rfl⟩ := hrel
      go_wp2
      go_ret
      exact ⟨by simp, Only.refl _ _ _⟩
  have HS : Hid (∃ cur, w.heap[g]? = some (.cells cur 130 (0, 0)) ∧ cur.size = c * 3) := (⟨cur, hg3, by omega⟩ : ∃ _, _)
  clear hg3 hg4
  go_enter Try.func76, Try.ntmps76
  go_wp2
  go_loopw [1, 5] (fun x i wr => ∃ (j : Nat) (M : Int), j ≤ ns.length ∧ i = .int .i64 j ∧ x = .int .i64 M ∧ Hid (M = k + 3 * (j : Int)) ∧ Hid (∃ cur, wr.heap[g]? = some (.cells cur 130 (0, 0)) ∧ cur.size = c * 3) ∧ Hid (Only w wr lo hi)) (fun _ i _ => ns.length - (intOf i).toNat)
  case atStart => exact ⟨0, k, Nat.zero_le _, rfl, rfl, (by simp : _ = _), HS.out, Only.refl _ _ _⟩
  case round =>
    obtain ⟨j, M, hj, rfl, rfl, HM, HW, HO⟩ := hrel
    by_cases hlt : j < ns.length
    · have hm := mul_step (m := 3) (show j < c by omega)
      obtain ⟨x0, y0, z0⟩ := row_cell HW.out (o := j * 3) (by omega)
      have hM : 1 ≤ M ∧ M ≤ 70000000 := by have := HM.out; omega
      go_upto_region 6 with fail
      have HW1 : Hid (∃ cur, (wr.setCell ⟨g, j * 3, none⟩ (.int .i64 M)).heap[g]? = some (.cells cur 130 (0, 0)) ∧ cur.size = c * 3) := row_set HW.out _ _
      have HO1 : Hid (Only w (wr.setCell ⟨g, j * 3, none⟩ (.int .i64 M)) lo hi) := HO.out.trans (Only.set (a := ⟨g, j * 3, none⟩) hg1 hg2 _)
      clear HW HO y0 z0
      generalize wr.setCell ⟨g, j * 3, none⟩ (.int .i64 M) = W1 at HW1 HO1 ⊢
      obtain ⟨M1, e1⟩ : ∃ x, M + 1 = x := ⟨_, rfl⟩
      rw [e1]
      have hM1 : 1 ≤ M1 ∧ M1 ≤ 70000001 := by omega
      have E1 : Hid (M1 = M + 1) := e1.symm
      clear e1
      obtain ⟨x1, y1, z1⟩ := row_cell HW1.out (o := j * 3 + 1) (by omega)
      go_upto_region 8 with fail
      have HW2 : Hid (∃ cur, (W1.setCell ⟨g, j * 3 + 1, none⟩ (.int .i64 M1)).heap[g]? = some (.cells cur 130 (0, 0)) ∧ cur.size = c * 3) := row_set HW1.out _ _
      have HO2 : Hid (Only w (W1.setCell ⟨g, j * 3 + 1, none⟩ (.int .i64 M1)) lo hi) := HO1.out.trans (Only.set (a := ⟨g, j * 3 + 1, none⟩) hg1 hg2 _)
      clear HW1 HO1 y1 z1
      generalize W1.setCell ⟨g, j * 3 + 1, none⟩ (.int .i64 M1) = W2 at HW2 HO2 ⊢
      obtain ⟨M2, e2⟩ : ∃ x, M1 + 1 = x := ⟨_, rfl⟩
      rw [e2]
      have hM2 : 1 ≤ M2 ∧ M2 ≤ 70000002 := by omega
      have E2 : Hid (M2 = M + 2) := (by have := E1.out; omega : _ = _)
      clear e2
      obtain ⟨mk, emk⟩ : ∃ m : Nat, M2 = (m : Int) := ⟨M2.toNat, by omega⟩
      have HC : Hid (Calls Try.prog 99 #[.int .i64 M2] W2 fun e w' => e = .returned (.string (markB mk)) ∧ Below W2.heap.size W2 w') := by
        rw [emk]
        exact markText_big mk W2 (by omega) (by omega)
      have HR3 : Hid (∀ W, Below W2.heap.size W2 W → ∃ cur, W.heap[g]? = some (.cells cur 130 (0, 0)) ∧ cur.size = c * 3) := fun W hW => row_below HW2.out hW
      clear emk
      generalize markB mk = T at HC
      go_upto_region 9 with (go_at_call 99; refine HC.out.mono ?_; rintro e w3 ⟨rfl, hb3⟩; obtain ⟨x2, y2, z2⟩ := row_cell (HR3.out w3 hb3) (o := j * 3 + 2) (by omega))
      have HW3 : Hid (∃ cur, (w3.setCell ⟨g, j * 3 + 2, none⟩ (.string T)).heap[g]? = some (.cells cur 130 (0, 0)) ∧ cur.size = c * 3) := row_set (HR3.out w3 hb3) _ _
      have HO3 : Hid (Only w (w3.setCell ⟨g, j * 3 + 2, none⟩ (.string T)) lo hi) := (HO2.out.trans (Only.below hb3)).trans (Only.set (a := ⟨g, j * 3 + 2, none⟩) hg1 hg2 _)
      clear HW2 HO2 y2 z2 hb3
      generalize w3.setCell ⟨g, j * 3 + 2, none⟩ (.string T) = W3 at HW3 HO3 ⊢
      have E3 : Hid (M2 + 1 = k + 3 * ((j + 1 : Nat) : Int)) := (by have := E2.out; have := HM.out; push_cast; omega : _ = _)
      go_wp2
      go_roundw
      case rel => exact ⟨j + 1, M2 + 1, by omega, by go_num, by go_num, E3.out, HW3.out, HO3.out⟩
      case measure => simp [intOf]; omega
    · obtain rfl : j = ns.length := by omega
      have E2 : Hid (k + 3 * (ns.length : Int) = M) := (by have := HM.out; omega : _ = _)
      go_wp2
      go_ret
      exact ⟨by rw [E2.out]; rfl, HO.out⟩
set_option maxRecDepth 100000 in
set_option maxHeartbeats 3200000 in
theorem markSegment_big (s : Seg) (lo hi : Nat) (v1 v2 v3 : Value) (w : World) (ht : s.tot ≤ 1048576) (h : OwnSegB w lo hi v1 v2 v3 s) :
    Calls Try.prog 31 #[.agg #[v1, v2, v3], .int .i64 1] w fun e w' => (∃ K : Int, 1 ≤ K ∧ e = .returned (.int .i64 K)) ∧ Only w w' lo hi := by
  have q1 := ssum_pos s.ss
  have q3 := nsum_pos s.ns
  have hb0 : (s.ss.length : Int) + ssum s.ss ≤ 1048576 ∧ s.us.length ≤ 1048576 ∧ s.ns.length ≤ 1048576 := by unfold Seg.tot at ht; omega
  have hm := msum_le s.ss
  have hm2 : 0 ≤ msum s.ss ∧ msum s.ss ≤ 16000000 := by omega
  obtain ⟨l1, h1, l2, h2, l3, h3, ⟨a1, a2, a3⟩, ⟨t1, t2, t3⟩, o1, o2, o3, e12, e13, e23⟩ := h.all
  have hle := h.le
  have HA0 : Below w.heap.size w _ := all_alloc w (.cells #[v1, v2, v3] 54)
  have hX : Hid _ := heap_alloc_new w (.cells #[v1, v2, v3] 54)
  generalize msum s.ss = S at hm2
  have K1 : Hid (∀ W, Below w.heap.size w W → Calls Try.prog 74 #[v1, .int .i64 1] W fun e w' => e = .returned (.int .i64 (1 + msum s.ss)) ∧ Only W w' l1 h1) := fun W hW => markStationS_big 1 (by omega) l1 h1 v1 s.ss W hb0.1 (o1.same (Same.below hW (by omega)) hW.size)
  have hm3 : 0 ≤ msum s.ss ∧ msum s.ss ≤ 16000000 := by omega
  generalize msum s.ss = S1 at K1 hm3
  have K2 : Hid (∀ W, OwnBS W l2 h2 v2 s.us → Calls Try.prog 75 #[v2, .int .i64 (1 + S1)] W fun e w' => e = .returned (.int .i64 (1 + S1 + (s.us.length : Int))) ∧ Only W w' l2 h2) := fun W o => markBoolS_big (1 + S1) (by omega) l2 h2 v2 s.us W hb0.2.1 o
  have K3 : Hid (∀ W, OwnNS W l3 h3 v3 s.ns → Calls Try.prog 76 #[v3, .int .i64 (1 + S1 + (s.us.length : Int))] W fun e w' => e = .returned (.int .i64 (1 + S1 + (s.us.length : Int) + 3 * (s.ns.length : Int))) ∧ Only W w' l3 h3) := fun W o => markNoteS_big (1 + S1 + (s.us.length : Int)) (by omega) l3 h3 v3 s.ns W hb0.2.2 o
  have P2 : Hid (OwnBS _ _ _ _ _) := o2
  have P3 : Hid (OwnNS _ _ _ _ _) := o3
  have hK : Hid (1 ≤ 1 + S1 + (s.us.length : Int) + 3 * (s.ns.length : Int)) := (by omega : _ ≤ _)
  obtain ⟨⟨pa, ca, rfl, _⟩, ⟨pb, cb, rfl, _⟩, ⟨pc, cc, rfl, _⟩⟩ := h.row
  clear h o1 o2 o3 q1 q3 hm hm2 ht hb0
  generalize 1 + S1 + (s.us.length : Int) + 3 * (s.ns.length : Int) = KD at K3 hK
  generalize 1 + S1 + (s.us.length : Int) = KC at K2 K3
  generalize 1 + S1 = KB at K1 K2
  go_enter Try.func31, Try.ntmps31
  go_upto_region 1 with fail
  have zA : (w.alloc (.cells #[.slice pa s.ss.length ca, .slice pb s.us.length cb, .slice pc s.ns.length cc] 54)).heap.size = w.heap.size + 1 := by simp
  generalize w.alloc (.cells #[.slice pa s.ss.length ca, .slice pb s.us.length cb, .slice pc s.ns.length cc] 54) = A at HA0 hX zA ⊢
  have x0 := cellW hX.out 0 _ rfl A (Below.refl _ _)
  go_upto_region 2 with (go_at_call 74; refine (K1.out _ HA0).mono ?_; rintro e w1 ⟨rfl, y1⟩)
  have q1 := y1.size
  have hX1 : Hid _ := (y1.block w.heap.size (by omega) (by omega)).trans hX.out
  have x1 := cellW hX1.out 1 _ rfl w1 (Below.refl _ _)
  clear x0 hX
  have o2 : OwnBS w1 l2 h2 _ s.us := (P2.out.same (Same.below HA0 (by omega)) HA0.size).same (y1.same (by omega) (by omega)) y1.size
  go_upto_region 3 with (go_at_call 75; refine (K2.out _ o2).mono ?_; rintro e w2 ⟨rfl, y2⟩)
  have q2 := y2.size
  have hX2 : Hid _ := (y2.block w.heap.size (by omega) (by omega)).trans hX1.out
  have x2 := cellW hX2.out 2 _ rfl w2 (Below.refl _ _)
  clear x1 hX1 o2
  have o3 : OwnNS w2 l3 h3 _ s.ns := ((P3.out.same (Same.below HA0 (by omega)) HA0.size).same (y1.same (by omega) (by omega)) y1.size).same (y2.same (by omega) (by omega)) y2.size
  go_wp2_with (go_at_call 76; refine (K3.out _ o3).mono ?_; rintro e w3 ⟨rfl, y3⟩)
  go_ret
  exact ⟨⟨_, hK.out, rfl⟩, (((Only.below HA0).trans (y1.mono a1 t1)).trans (y2.mono a2 t2)).trans (y3.mono a3 t3)⟩
end Go.Proofs.Ytggdjiijcoklgaa
/- A STATION THAT CAME IN: opened. Written by mkstno.py. -/
namespace Go.Proofs.Ytggdjiijcoklgaa
open Go.RowKit Go.ChangeShapes Go.WideShapes Go.ChangeAt
set_option linter.unusedVariables false
set_option linter.unusedSimpArgs false

theorem array19 {α : Type} {cs : Array α} (h : cs.size = 19) : ∃ c0 c1 c2 c3 c4 c5 c6 c7 c8 c9 c10 c11 c12 c13 c14 c15 c16 c17 c18, cs = #[c0, c1, c2, c3, c4, c5, c6, c7, c8, c9, c10, c11, c12, c13, c14, c15, c16, c17, c18] := by
  obtain ⟨l⟩ := cs
  match l, h with
  | [c0, c1, c2, c3, c4, c5, c6, c7, c8, c9, c10, c11, c12, c13, c14, c15, c16, c17, c18], _ => exact ⟨c0, c1, c2, c3, c4, c5, c6, c7, c8, c9, c10, c11, c12, c13, c14, c15, c16, c17, c18, rfl⟩
theorem list13 {α : Type} {l : List α} (h : l.length = 13) : ∃ y0 y1 y2 y3 y4 y5 y6 y7 y8 y9 y10 y11 y12, l = [y0, y1, y2, y3, y4, y5, y6, y7, y8, y9, y10, y11, y12] := by
  match l, h with
  | [y0, y1, y2, y3, y4, y5, y6, y7, y8, y9, y10, y11, y12], _ => exact ⟨y0, y1, y2, y3, y4, y5, y6, y7, y8, y9, y10, y11, y12, rfl⟩
theorem list4s {α : Type} {l : List α} (h : l.length = 4) : ∃ c0 c1 c2 c3, l = [c0, c1, c2, c3] := by
  match l, h with
  | [c0, c1, c2, c3], _ => exact ⟨c0, c1, c2, c3, rfl⟩
theorem cellsTs : Try.prog.cellsOf 9 = 1 := by kernel_rfl
theorem cellsLs : Try.prog.cellsOf 26 = 1 := by kernel_rfl
theorem cellsGs : Try.prog.cellsOf 25 = 1 := by kernel_rfl
theorem cellsG1 : Try.prog.cellsOf 112 = 2 := by kernel_rfl
theorem cellsSts : Try.prog.cellsOf 23 = 4 := by kernel_rfl
theorem cellsStn : Try.prog.cellsOf 28 = 19 := by kernel_rfl
set_option maxRecDepth 100000 in
theorem open_stamp4 {H : Type} {enc : TypeId × Value → H} {W : World} {base : Nat} {held : Bool} {c0 c1 c2 c3 : Value} {y : _} {n : Nat} (h : DataW.trod enc Try.prog W base (fun _ => true) held n 23 [c0, c1, c2, c3] = some y) :
    ∃ s : St, c0 = .int .i64 s.g ∧ c1 = .int .i64 s.o ∧ c2 = .int .i64 s.b ∧ c3 = .int .i64 s.h := by
  obtain ⟨zs, m, _, _, _, hlen3, hfl3⟩ := DataW.trod_struct Try.underlying23 h
  obtain ⟨u0, u1, u2, u3, rfl⟩ := list4s hlen3
  have g0 : DataW.trod enc Try.prog W base (fun _ => true) held m 2 [c0] = some u0 := by have := hfl3 0 _ rfl; simpa [Value.cells, cellsIt] using this
  have g1 : DataW.trod enc Try.prog W base (fun _ => true) held m 2 [c1] = some u1 := by have := hfl3 1 _ rfl; simpa [Value.cells, cellsIt] using this
  have g2 : DataW.trod enc Try.prog W base (fun _ => true) held m 2 [c2] = some u2 := by have := hfl3 2 _ rfl; simpa [Value.cells, cellsIt] using this
  have g3 : DataW.trod enc Try.prog W base (fun _ => true) held m 2 [c3] = some u3 := by have := hfl3 3 _ rfl; simpa [Value.cells, cellsIt] using this
  obtain ⟨sg, r0, _, _⟩ := DataW.trod_int Try.underlying2 g0
  obtain ⟨so, r1, _, _⟩ := DataW.trod_int Try.underlying2 g1
  obtain ⟨sb, r2, _, _⟩ := DataW.trod_int Try.underlying2 g2
  obtain ⟨sh, r3, _, _⟩ := DataW.trod_int Try.underlying2 g3
  cases r0; cases r1; cases r2; cases r3
  exact ⟨⟨sg, so, sb, sh⟩, rfl, rfl, rfl, rfl⟩
theorem spot0 {w : World} {a : Addr} {v : Value} (h : w.cell? (a.add 0) = some v) : ∃ g o, a = ⟨g, o, none⟩ ∧ g < w.heap.size := by
  obtain ⟨g, o, sp⟩ := a
  have hsp : sp = none := by simpa [Addr.add] using World.cell?_spot h
  subst hsp
  refine ⟨g, o, rfl, ?_⟩
  rcases Nat.lt_or_ge g w.heap.size with h1 | h1
  · exact h1
  · simp [World.cell?, Addr.add, Array.getElem?_eq_none h1] at h
theorem addN (g o k : Nat) : (⟨g, o, none⟩ : Addr).add k = ⟨g, o + k, none⟩ := by unfold Addr.add; split <;> simp_all
set_option maxRecDepth 100000 in
theorem open_texts {H : Type} {enc : TypeId × Value → H} {W : World} {base : Nat} {held : Bool} {c : Value} {y : _} {n : Nat} (h : DataW.trod enc Try.prog W base (fun _ => true) held n 26 [c] = some y) :
    ∃ (ss : List ByteArray) (p : Option Addr) (k : Nat), c = .slice p ss.length k ∧ InS W p ss := by
  rcases open_strings Try.underlying26 Try.underlying9 cellsTs h with ⟨hcs, _⟩ | ⟨a, len, cap, ss, hcs, _, hl, hm, hz, _, hcell, hwz⟩
  · simp at hcs
    exact ⟨[], none, 0, hcs, by simp, by simp, fun k hk => by simp at hk⟩
  · simp at hcs hz
    have hlen : (ss.take len).length = len := by rw [List.length_take]; omega
    unfold maxLen at hm
    refine ⟨ss.take len, some a, cap, by rw [hlen]; exact hcs, by rw [hlen]; omega, fun s hs => hwz s (List.mem_of_mem_take hs), fun k hk => ?_⟩
    rw [hlen] at hk
    have hk2 : k < ss.length := by omega
    have q := hcell k hk2
    obtain ⟨g, o, rfl, hg⟩ := spot0 (hcell 0 (by omega))
    rw [addN] at q
    refine ⟨g, o, rfl, hg, ?_⟩
    rw [List.getElem_take, q]
    simp [List.getD, List.getElem?_eq_getElem hk2]
set_option maxRecDepth 100000 in
theorem open_globs {H : Type} {enc : TypeId × Value → H} {W : World} {base : Nat} {held : Bool} {c : Value} {y : _} {n : Nat} (h : DataW.trod enc Try.prog W base (fun _ => true) held n 25 [c] = some y) :
    ∃ (gs : List (Int × List Int)) (p : Option Addr) (k : Nat), c = .slice p gs.length k ∧ InG W p gs := by
  rcases Go.Deep.open_slice_pairs Try.underlying25 Try.underlying112 cellsG1 rfl rfl cellsIt cellsRt h with ⟨hcs, _⟩ | ⟨a, len, cap, m, n, V0, V1, D0, D1, P0, P1, hcs, _, hl, hm, hmm, _, hx⟩
  · simp at hcs
    exact ⟨[], none, 0, hcs, by simp, fun k hk => by simp at hk⟩
  · simp at hcs hmm
    unfold maxLen at hm
    have each : ∀ i, i < len → ∃ (g : Int × List Int) (u : Option Addr) (k : Nat), V0 i = .int .i64 g.1 ∧ V1 i = .slice u g.2.length k ∧ InI W u g.2 := fun i hi => by
      obtain ⟨_, _, h1, h2⟩ := hx i (by omega)
      obtain ⟨z, e0, _, _⟩ := DataW.trod_int Try.underlying2 h1
      obtain ⟨zs, p, k, e1, hin⟩ := open_row h2
      simp at e0
      exact ⟨(z, zs), p, k, e0, e1, hin⟩
    have ex : ∃ G : Nat → Int × List Int, ∀ i, i < len → ∃ (u : Option Addr) (k : Nat), V0 i = .int .i64 (G i).1 ∧ V1 i = .slice u (G i).2.length k ∧ InI W u (G i).2 := by
      refine ⟨fun i => if h : i < len then (each i h).choose else (0, []), fun i hi => ?_⟩
      simp only [hi, dif_pos]
      exact (each i hi).choose_spec
    obtain ⟨G, hG⟩ := ex
    have hlen : ((List.range len).map G).length = len := by simp
    refine ⟨(List.range len).map G, some a, cap, by rw [hlen]; exact hcs, by rw [hlen]; omega, fun k hk => ?_⟩
    rw [hlen] at hk
    obtain ⟨g, o, rfl, hg⟩ := spot0 (v := V0 0) (by have := (hx 0 (by omega)).1; simpa using this)
    obtain ⟨q1, q2, _, _⟩ := hx k (by omega)
    obtain ⟨u, ck, e1, e2, hin⟩ := hG k hk
    rw [addN] at q1 q2
    have eG : ((List.range len).map G)[k]'(by rw [hlen]; exact hk) = G k := by simp
    refine ⟨g, o, u, ck, rfl, hg, ?_, ?_, ?_⟩
    · rw [q1, e1, eG]
    · rw [show o + k * 2 + 1 = o + (k * 2 + 1) by omega, q2, e2, eG]
    · rw [eG]; exact hin
set_option maxRecDepth 100000 in
set_option maxHeartbeats 1600000 in
theorem open_station {H : Type} {enc : TypeId × Value → H} {W : World} {base b0 : Nat} {held : Bool} {r : Reach} {v : Value} {d : DataW H} {pl : List MemPlace}
    (hv : Value.okWide Try.prog W r b0 28 v) (h : DataW.Trod enc Try.prog W base (fun _ => true) held 28 v d pl) :
    ∃ (s : Stn) (p1 p2 p3 p4 : Option Addr) (k1 k2 k3 k4 : Nat), v = .agg #[.int .i64 s.ad, .int .i64 s.bo, .int .i64 s.st, .int .i64 s.s.g, .int .i64 s.s.o, .int .i64 s.s.b, .int .i64 s.s.h, .int .i64 s.t.g, .int .i64 s.t.o, .int .i64 s.t.b, .int .i64 s.t.h, .int .i64 s.qu, .int .i64 s.tr, .int .i64 s.he, .int .i64 s.po, .slice p1 s.kn.length k1, .slice p2 s.ws.length k2, .slice p3 s.gs.length k3, .slice p4 s.os.length k4] ∧ InI W p1 s.kn ∧ InI W p2 s.ws ∧ InG W p3 s.gs ∧ InS W p4 s.os := by
  obtain ⟨cs, rfl, hsz⟩ := okWide_struct Try.underlying28 hv
  obtain ⟨c0, c1, c2, c3, c4, c5, c6, c7, c8, c9, c10, c11, c12, c13, c14, c15, c16, c17, c18, rfl⟩ := array19 (hsz.trans cellsStn)
  obtain ⟨fuel, hf⟩ := h
  obtain ⟨xs, n, _, _, hl, hlen, hfl⟩ := DataW.trod_struct Try.underlying28 hf
  obtain ⟨y0, y1, y2, y3, y4, y5, y6, y7, y8, y9, y10, y11, y12, rfl⟩ := list13 hlen
  have h0 : DataW.trod enc Try.prog W base (fun _ => true) held n 2 [c0] = some y0 := by have := hfl 0 _ rfl; simpa [Value.cells, cellsIt] using this
  have h1 : DataW.trod enc Try.prog W base (fun _ => true) held n 2 [c1] = some y1 := by have := hfl 1 _ rfl; simpa [Value.cells, cellsIt] using this
  have h2 : DataW.trod enc Try.prog W base (fun _ => true) held n 2 [c2] = some y2 := by have := hfl 2 _ rfl; simpa [Value.cells, cellsIt] using this
  have h3 : DataW.trod enc Try.prog W base (fun _ => true) held n 23 [c3, c4, c5, c6] = some y3 := by have := hfl 3 _ rfl; simpa [Value.cells, cellsSts] using this
  have h4 : DataW.trod enc Try.prog W base (fun _ => true) held n 23 [c7, c8, c9, c10] = some y4 := by have := hfl 4 _ rfl; simpa [Value.cells, cellsSts] using this
  have h5 : DataW.trod enc Try.prog W base (fun _ => true) held n 2 [c11] = some y5 := by have := hfl 5 _ rfl; simpa [Value.cells, cellsIt] using this
  have h6 : DataW.trod enc Try.prog W base (fun _ => true) held n 2 [c12] = some y6 := by have := hfl 6 _ rfl; simpa [Value.cells, cellsIt] using this
  have h7 : DataW.trod enc Try.prog W base (fun _ => true) held n 2 [c13] = some y7 := by have := hfl 7 _ rfl; simpa [Value.cells, cellsIt] using this
  have h8 : DataW.trod enc Try.prog W base (fun _ => true) held n 2 [c14] = some y8 := by have := hfl 8 _ rfl; simpa [Value.cells, cellsIt] using this
  have h9 : DataW.trod enc Try.prog W base (fun _ => true) held n 24 [c15] = some y9 := by have := hfl 9 _ rfl; simpa [Value.cells, cellsRt] using this
  have h10 : DataW.trod enc Try.prog W base (fun _ => true) held n 24 [c16] = some y10 := by have := hfl 10 _ rfl; simpa [Value.cells, cellsRt] using this
  have h11 : DataW.trod enc Try.prog W base (fun _ => true) held n 25 [c17] = some y11 := by have := hfl 11 _ rfl; simpa [Value.cells, cellsGs] using this
  have h12 : DataW.trod enc Try.prog W base (fun _ => true) held n 26 [c18] = some y12 := by have := hfl 12 _ rfl; simpa [Value.cells, cellsLs] using this
  obtain ⟨a0, q0, _, _⟩ := DataW.trod_int Try.underlying2 h0
  obtain ⟨a1, q1, _, _⟩ := DataW.trod_int Try.underlying2 h1
  obtain ⟨a2, q2, _, _⟩ := DataW.trod_int Try.underlying2 h2
  obtain ⟨a5, q5, _, _⟩ := DataW.trod_int Try.underlying2 h5
  obtain ⟨a6, q6, _, _⟩ := DataW.trod_int Try.underlying2 h6
  obtain ⟨a7, q7, _, _⟩ := DataW.trod_int Try.underlying2 h7
  obtain ⟨a8, q8, _, _⟩ := DataW.trod_int Try.underlying2 h8
  obtain ⟨s3, rfl, rfl, rfl, rfl⟩ := open_stamp4 h3
  obtain ⟨s4, rfl, rfl, rfl, rfl⟩ := open_stamp4 h4
  cases q0; cases q1; cases q2; cases q5; cases q6; cases q7; cases q8
  obtain ⟨kn, p1, k1, rfl, i1⟩ := open_row h9
  obtain ⟨ws, p2, k2, rfl, i2⟩ := open_row h10
  obtain ⟨gs, p3, k3, rfl, i3⟩ := open_globs h11
  obtain ⟨os, p4, k4, rfl, i4⟩ := open_texts h12
  exact ⟨⟨a0, a1, a2, s3, s4, a5, a6, a7, a8, kn, ws, gs, os⟩, p1, p2, p3, p4, k1, k2, k3, k4, rfl, i1, i2, i3, i4⟩
end Go.Proofs.Ytggdjiijcoklgaa
