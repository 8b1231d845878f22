/- BOOLS AND NOTES MARKED, what they hold then, and still held. -/
import Derived.Test.YtklpaleghanhhaaQdSegR
import Derived.Test.YtklpaleghanhhaaQdTail
import Derived.Deep.RegionHeld3
namespace Go.Proofs.Ytklpaleghanhhaa
open Go.RowKit
set_option linter.unusedVariables false
set_option linter.unusedSimpArgs false

def mb (M : Int) : Bool := M.tmod 3 == 0
def markBL (k : Int) (n : Nat) : List Bool := (List.range n).map fun (i : Nat) => mb (k + (i : Int))
theorem markBL_len (k : Int) (n : Nat) : (markBL k n).length = n := by simp [markBL]
theorem markBL_at (k : Int) (n i : Nat) (h : i < (markBL k n).length) : (markBL k n)[i] = mb (k + (i : Int)) := by simp [markBL]
def ntAt (k : Int) : Nt := ⟨k, k + 1, markB (k + 2).toNat⟩
def markNL (k : Int) (n : Nat) : List Nt := (List.range n).map fun (i : Nat) => ntAt (k + 3 * (i : Int))
theorem markNL_len (k : Int) (n : Nat) : (markNL k n).length = n := by simp [markNL]
theorem markNL_at (k : Int) (n i : Nat) (h : i < (markNL k n).length) : (markNL k n)[i] = ntAt (k + 3 * (i : Int)) := by simp [markNL]
theorem tmod3 {M : Int} (h : 0 ≤ M) : 0 ≤ M.tmod 3 ∧ M.tmod 3 < 3 := by rw [Int.tmod_eq_emod_of_nonneg h]; omega
theorem set_out {w : World} {b o a : Nat} {x v : Value} (h : w.cell? ⟨b, a, none⟩ = some v) (ho : a ≠ o) : (w.setCell ⟨b, o, none⟩ x).cell? ⟨b, a, none⟩ = some v :=
  (World.cell?_setCell_other _ _ _ _ (by intro e; injection e with e1 e2 e3; omega)).trans h
set_option maxRecDepth 100000 in
set_option maxHeartbeats 1600000 in
theorem markBoolS_at (k : Int) (hk0 : 1 ≤ k ∧ k ≤ 40000000) (lo hi : Nat) (v : Value) (us : List Bool) (w : World) (hl : us.length ≤ 1048576) (h : OwnBS w lo hi v us) :
    Calls Try.prog 61 #[v, .int .i64 k] w fun e w' => e = .returned (.int .i64 (k + (us.length : Int))) ∧ OwnBS w' lo hi v (markBL k us.length) ∧ Only w w' lo hi := by
  obtain ⟨hhi, ⟨rfl, rfl⟩ | ⟨g, c, cur, rfl, hg1, hg2, hg3, hg4, hg5, _⟩⟩ := h
  · go_enter Try.func61, Try.ntmps61
    go_wp2
    go_loopw [1, 5] (fun x i wr => x = .int .i64 k ∧ i = .int .i64 0 ∧ w = wr) (fun _ _ _ => 0)
    case atStart => exact ⟨rfl, rfl, rfl⟩
    case round =>
      obtain ⟨rfl, rfl, rfl⟩ := hrel
      go_wp2
      go_ret
      exact ⟨by simp, ⟨hhi, .inl ⟨rfl, rfl⟩⟩, Only.refl _ _ _⟩
  have HS : Hid (∃ cur, w.heap[g]? = some (.cells cur 4 (0, 0)) ∧ cur.size = c) := (⟨cur, hg3, by omega⟩ : ∃ _, _)
  clear hg3 hg4
  go_enter Try.func61, Try.ntmps61
  go_wp2
  go_loopw [1, 5] (fun x i wr => ∃ (j : Nat), j ≤ us.length ∧ i = .int .i64 j ∧ x = .int .i64 (k + (j : Int)) ∧ Hid (∃ cur, wr.heap[g]? = some (.cells cur 4 (0, 0)) ∧ cur.size = c) ∧ Hid (∀ i, i < j → wr.cell? ⟨g, i, none⟩ = some (.bool (mb (k + (i : Int))))) ∧ Hid (Only w wr lo hi)) (fun _ i _ => us.length - (intOf i).toNat)
  case atStart => exact ⟨0, Nat.zero_le _, rfl, by simp, HS.out, (fun i hi => absurd hi (by omega)), Only.refl _ _ _⟩
  case round =>
    obtain ⟨j, hj, rfl, rfl, HW, HV, HO⟩ := hrel
    by_cases hlt : j < us.length
    · obtain ⟨x0, y0, z0⟩ := row_cell HW.out (o := j) (by omega)
      obtain ⟨M, eM⟩ : ∃ M, k + (j : Int) = M := ⟨_, rfl⟩
      have hM : 1 ≤ M ∧ M ≤ 50000000 := by omega
      have HM2 : Hid (M + 1 = k + ((j + 1 : Nat) : Int)) := (by omega : _ = _)
      have hT := tmod3 (M := M) (by omega)
      have HMB : Hid (mb (k + (j : Int)) = (M.tmod 3 == 0)) := (by rw [eM]; rfl : _ = _)
      rw [eM]
      clear eM
      obtain ⟨R, eR⟩ : ∃ R, M.tmod 3 = R := ⟨_, rfl⟩
      rw [eR] at hT HMB
      have HA : Hid (∀ x, ∃ cur, (wr.setCell ⟨g, j, none⟩ x).heap[g]? = some (.cells cur 4 (0, 0)) ∧ cur.size = c) := fun x => row_set HW.out j x
      have HB : Hid (∀ x, Only w (wr.setCell ⟨g, j, none⟩ x) lo hi) := fun x => HO.out.trans (Only.set (a := ⟨g, j, none⟩) hg1 hg2 x)
      have HC : Hid (∀ i, i < j + 1 → (wr.setCell ⟨g, j, none⟩ (.bool (R == 0))).cell? ⟨g, i, none⟩ = some (.bool (mb (k + (i : Int))))) := fun i hi => by
        by_cases hij : i = j
        · subst hij
          rw [World.cell?_setCell_same _ _ _ y0, HMB.out]
        · exact set_out (HV.out i (by omega)) hij
      clear HW HO HV
      go_wp2
      go_roundw
      case rel => exact ⟨j + 1, by omega, by go_num, by rw [← HM2.out], HA.out _, HC.out, HB.out _⟩
      case measure => simp [intOf]; omega
    · obtain rfl : j = us.length := by omega
      go_wp2
      go_ret
      refine ⟨rfl, ?_, HO.out⟩
      obtain ⟨cur, h1, h2⟩ := HW.out
      have hz := HO.out.size
      refine ⟨by omega, .inr ⟨g, c, cur, by rw [markBL_len], hg1, hg2, h1, by omega, by rw [markBL_len]; exact hg5, fun i hi => ?_⟩⟩
      rw [markBL_at, Nat.mul_one]
      intro o v hv
      match o, hv with
      | 0, hv => cases hv; exact HV.out i (by rw [markBL_len] at hi; exact hi)
      | o + 1, hv => simp at hv
set_option maxRecDepth 100000 in
set_option maxHeartbeats 1600000 in
theorem heldBoolS_at (k : Int) (hk0 : 1 ≤ k ∧ k ≤ 40000000) (lo hi : Nat) (v : Value) (n : Nat) (w : World) (hl : n ≤ 1048576) (h : OwnBS w lo hi v (markBL k n)) :
    Calls Try.prog 64 #[v, .int .i64 k] w fun e w' => e = .returned (.int .i64 (k + (n : Int))) ∧ Below w.heap.size w w' := by
  have HR : Hid (RowBo w v (markBL k n)) := h.row
  obtain ⟨p, c, rfl, _⟩ := h.row
  rw [markBL_len]
  clear h
  go_enter Try.func64, Try.ntmps64
  go_wp2
  go_loopw [1, 5] (fun x i wr => ∃ (j : Nat), j ≤ n ∧ i = .int .i64 j ∧ x = .int .i64 (k + (j : Int)) ∧ w = wr) (fun _ i _ => n - (intOf i).toNat)
  case atStart => exact ⟨0, Nat.zero_le _, rfl, by simp, rfl⟩
  case round =>
    obtain ⟨j, hj, rfl, rfl, rfl⟩ := hrel
    by_cases hlt : j < n
    · obtain ⟨p', c', e', hrow⟩ := HR.out
      cases e'
      obtain ⟨g, rfl, hgl, q⟩ := hrow j (by rw [markBL_len]; exact hlt)
      rw [markBL_at] at q
      obtain ⟨M, eM⟩ : ∃ M, k + (j : Int) = M := ⟨_, rfl⟩
      have hM : 1 ≤ M ∧ M ≤ 50000000 := by omega
      have HM2 : Hid (M + 1 = k + ((j + 1 : Nat) : Int)) := (by omega : _ = _)
      have hT := tmod3 (M := M) (by omega)
      rw [eM] at q
      rw [eM]
      clear eM hrow
      obtain ⟨R, eR⟩ : ∃ R, M.tmod 3 = R := ⟨_, rfl⟩
      have hbb : mb M = (R == 0) := by unfold mb; rw [eR]
      rw [eR] at hT
      rw [hbb] at q
      clear hbb
      by_cases h0 : R = 0
      · have h0' : (R == 0) = true := by simpa using h0
        rw [h0'] at q
        go_wp2
        go_roundw
        case rel => exact ⟨j + 1, by omega, by go_num, by rw [← HM2.out], by first | rfl | trivial⟩
        case measure => simp [intOf]; omega
      · have h0' : (R == 0) = false := by simpa using h0
        rw [h0'] at q
        go_wp2
        go_roundw
        case rel => exact ⟨j + 1, by omega, by go_num, by rw [← HM2.out], by first | rfl | trivial⟩
        case measure => simp [intOf]; omega
    · obtain rfl : j = n := by omega
      go_wp2
      go_ret
      exact ⟨rfl, Below.refl _ _⟩
set_option maxRecDepth 100000 in
set_option maxHeartbeats 1600000 in
theorem markNoteS_at (k : Int) (hk0 : 1 ≤ k ∧ k ≤ 60000000) (lo hi : Nat) (v : Value) (ns : List Nt) (w : World) (hl : ns.length ≤ 1048576) (h : OwnNS w lo hi v ns) :
    Calls Try.prog 62 #[v, .int .i64 k] w fun e w' => e = .returned (.int .i64 (k + 3 * (ns.length : Int))) ∧ OwnNS w' lo hi v (markNL k ns.length) ∧ Only w w' lo hi := by
  obtain ⟨hhi, ⟨rfl, rfl⟩ | ⟨g, c, cur, rfl, hg1, hg2, hg3, hg4, hg5, _⟩⟩ := h
  · go_enter Try.func62, Try.ntmps62
    go_wp2
    go_loopw [1, 5] (fun x i wr => x = .int .i64 k ∧ i = .int .i64 0 ∧ w = wr) (fun _ _ _ => 0)
    case atStart => exact ⟨rfl, rfl, rfl⟩
    case round =>
      obtain ⟨rfl, rfl, rfl⟩ := hrel
      go_wp2
      go_ret
      exact ⟨by simp, ⟨hhi, .inl ⟨rfl, rfl⟩⟩, Only.refl _ _ _⟩
  have HS : Hid (∃ cur, w.heap[g]? = some (.cells cur 149 (0, 0)) ∧ cur.size = c * 3) := (⟨cur, hg3, by omega⟩ : ∃ _, _)
  clear hg3 hg4
  go_enter Try.func62, Try.ntmps62
  go_wp2
  go_loopw [1, 5] (fun x i wr => ∃ (j : Nat) (M : Int), j ≤ ns.length ∧ i = .int .i64 j ∧ x = .int .i64 M ∧ Hid (M = k + 3 * (j : Int)) ∧ Hid (∃ cur, wr.heap[g]? = some (.cells cur 149 (0, 0)) ∧ cur.size = c * 3) ∧ Hid (∀ i, i < j → wr.cell? ⟨g, i * 3, none⟩ = some (.int .i64 (k + 3 * (i : Int))) ∧ wr.cell? ⟨g, i * 3 + 1, none⟩ = some (.int .i64 (k + 3 * (i : Int) + 1)) ∧ wr.cell? ⟨g, i * 3 + 2, none⟩ = some (.string (markB (k + 3 * (i : Int) + 2).toNat))) ∧ Hid (Only w wr lo hi)) (fun _ i _ => ns.length - (intOf i).toNat)
  case atStart => exact ⟨0, k, Nat.zero_le _, rfl, rfl, (by simp : _ = _), HS.out, (fun i hi => absurd hi (by omega)), Only.refl _ _ _⟩
  case round =>
    obtain ⟨j, M, hj, rfl, rfl, HM, HW, HV, HO⟩ := hrel
    by_cases hlt : j < ns.length
    · have hm := mul_step (m := 3) (show j < c by omega)
      obtain ⟨x0, y0, z0⟩ := row_cell HW.out (o := j * 3) (by omega)
      have hM : 1 ≤ M ∧ M ≤ 70000000 := by have := HM.out; omega
      go_upto_region 6 with fail
      have HW1 : Hid (∃ cur, (wr.setCell ⟨g, j * 3, none⟩ (.int .i64 M)).heap[g]? = some (.cells cur 149 (0, 0)) ∧ cur.size = c * 3) := row_set HW.out _ _
      have HO1 : Hid (Only w (wr.setCell ⟨g, j * 3, none⟩ (.int .i64 M)) lo hi) := HO.out.trans (Only.set (a := ⟨g, j * 3, none⟩) hg1 hg2 _)
      have HV1 : Hid (∀ i, i < j → (wr.setCell ⟨g, j * 3, none⟩ (.int .i64 M)).cell? ⟨g, i * 3, none⟩ = some (.int .i64 (k + 3 * (i : Int))) ∧ (wr.setCell ⟨g, j * 3, none⟩ (.int .i64 M)).cell? ⟨g, i * 3 + 1, none⟩ = some (.int .i64 (k + 3 * (i : Int) + 1)) ∧ (wr.setCell ⟨g, j * 3, none⟩ (.int .i64 M)).cell? ⟨g, i * 3 + 2, none⟩ = some (.string (markB (k + 3 * (i : Int) + 2).toNat))) := fun i hi => by
        obtain ⟨p1, p2, p3⟩ := HV.out i hi
        exact ⟨set_out p1 (by omega), set_out p2 (by omega), set_out p3 (by omega)⟩
      have p0 : Hid ((wr.setCell ⟨g, j * 3, none⟩ (.int .i64 M)).cell? ⟨g, j * 3, none⟩ = some (.int .i64 M)) := World.cell?_setCell_same _ _ _ y0
      clear HW HO HV y0 z0
      generalize wr.setCell ⟨g, j * 3, none⟩ (.int .i64 M) = W1 at HW1 HO1 HV1 p0 ⊢
      obtain ⟨M1, e1⟩ : ∃ x, M + 1 = x := ⟨_, rfl⟩
      rw [e1]
      have hM1 : 1 ≤ M1 ∧ M1 ≤ 70000001 := by omega
      have E1 : Hid (M1 = M + 1) := e1.symm
      clear e1
      obtain ⟨x1, y1, z1⟩ := row_cell HW1.out (o := j * 3 + 1) (by omega)
      go_upto_region 8 with fail
      have HW2 : Hid (∃ cur, (W1.setCell ⟨g, j * 3 + 1, none⟩ (.int .i64 M1)).heap[g]? = some (.cells cur 149 (0, 0)) ∧ cur.size = c * 3) := row_set HW1.out _ _
      have HO2 : Hid (Only w (W1.setCell ⟨g, j * 3 + 1, none⟩ (.int .i64 M1)) lo hi) := HO1.out.trans (Only.set (a := ⟨g, j * 3 + 1, none⟩) hg1 hg2 _)
      have HV2 : Hid (∀ i, i < j → (W1.setCell ⟨g, j * 3 + 1, none⟩ (.int .i64 M1)).cell? ⟨g, i * 3, none⟩ = some (.int .i64 (k + 3 * (i : Int))) ∧ (W1.setCell ⟨g, j * 3 + 1, none⟩ (.int .i64 M1)).cell? ⟨g, i * 3 + 1, none⟩ = some (.int .i64 (k + 3 * (i : Int) + 1)) ∧ (W1.setCell ⟨g, j * 3 + 1, none⟩ (.int .i64 M1)).cell? ⟨g, i * 3 + 2, none⟩ = some (.string (markB (k + 3 * (i : Int) + 2).toNat))) := fun i hi => by
        obtain ⟨p1, p2, p3⟩ := HV1.out i hi
        exact ⟨set_out p1 (by omega), set_out p2 (by omega), set_out p3 (by omega)⟩
      have p1 : Hid ((W1.setCell ⟨g, j * 3 + 1, none⟩ (.int .i64 M1)).cell? ⟨g, j * 3 + 1, none⟩ = some (.int .i64 M1)) := World.cell?_setCell_same _ _ _ y1
      have p0' : Hid ((W1.setCell ⟨g, j * 3 + 1, none⟩ (.int .i64 M1)).cell? ⟨g, j * 3, none⟩ = some (.int .i64 M)) := set_out p0.out (by omega)
      clear HW1 HO1 HV1 p0 y1 z1
      generalize W1.setCell ⟨g, j * 3 + 1, none⟩ (.int .i64 M1) = W2 at HW2 HO2 HV2 p1 p0' ⊢
      obtain ⟨M2, e2⟩ : ∃ x, M1 + 1 = x := ⟨_, rfl⟩
      rw [e2]
      have hM2 : 1 ≤ M2 ∧ M2 ≤ 70000002 := by omega
      have E2 : Hid (M2 = M + 2) := (by have := E1.out; omega : _ = _)
      clear e2
      obtain ⟨mk, emk⟩ : ∃ m : Nat, M2 = (m : Int) := ⟨M2.toNat, by omega⟩
      have HC : Hid (Calls Try.prog 84 #[.int .i64 M2] W2 fun e w' => e = .returned (.string (markB mk)) ∧ Below W2.heap.size W2 w') := by
        rw [emk]
        exact markText_big mk W2 (by omega) (by omega)
      have HR3 : Hid (∀ W, Below W2.heap.size W2 W → ∃ cur, W.heap[g]? = some (.cells cur 149 (0, 0)) ∧ cur.size = c * 3) := fun W hW => row_below HW2.out hW
      have hgW2 : g < W2.heap.size := World.block_lt_of_cell? W2 _ p1.out
      have HTT : Hid (markB mk = markB (k + 3 * (j : Int) + 2).toNat) := (by have h1 := E2.out; have h2 := HM.out; rw [show (k + 3 * (j : Int) + 2).toNat = mk by omega] : _ = _)
      clear emk
      generalize markB mk = T at HC HTT
      go_upto_region 9 with (go_at_call 84; refine HC.out.mono ?_; rintro e w3 ⟨rfl, hb3⟩; obtain ⟨x2, y2, z2⟩ := row_cell (HR3.out w3 hb3) (o := j * 3 + 2) (by omega))
      have HW3 : Hid (∃ cur, (w3.setCell ⟨g, j * 3 + 2, none⟩ (.string T)).heap[g]? = some (.cells cur 149 (0, 0)) ∧ cur.size = c * 3) := row_set (HR3.out w3 hb3) _ _
      have HO3 : Hid (Only w (w3.setCell ⟨g, j * 3 + 2, none⟩ (.string T)) lo hi) := (HO2.out.trans (Only.below hb3)).trans (Only.set (a := ⟨g, j * 3 + 2, none⟩) hg1 hg2 _)
      have bk : ∀ o, w3.cell? ⟨g, o, none⟩ = W2.cell? ⟨g, o, none⟩ := fun o => hb3.cell (p := ⟨g, o, none⟩) hgW2
      have HV3 : Hid (∀ i, i < j + 1 → (w3.setCell ⟨g, j * 3 + 2, none⟩ (.string T)).cell? ⟨g, i * 3, none⟩ = some (.int .i64 (k + 3 * (i : Int))) ∧ (w3.setCell ⟨g, j * 3 + 2, none⟩ (.string T)).cell? ⟨g, i * 3 + 1, none⟩ = some (.int .i64 (k + 3 * (i : Int) + 1)) ∧ (w3.setCell ⟨g, j * 3 + 2, none⟩ (.string T)).cell? ⟨g, i * 3 + 2, none⟩ = some (.string (markB (k + 3 * (i : Int) + 2).toNat))) := fun i hi => by
        by_cases hij : i = j
        · subst hij
          rw [← HM.out]
          refine ⟨set_out ((bk _).trans p0'.out) (by omega), set_out ((bk _).trans (by rw [← E1.out]; exact p1.out)) (by omega), ?_⟩
          rw [World.cell?_setCell_same _ _ _ y2, HM.out, HTT.out]
        · obtain ⟨a1, a2, a3⟩ := HV2.out i (by omega)
          exact ⟨set_out ((bk _).trans a1) (by omega), set_out ((bk _).trans a2) (by omega), set_out ((bk _).trans a3) (by omega)⟩
      clear HW2 HO2 HV2 p1 p0' y2 z2 hb3 bk
      generalize w3.setCell ⟨g, j * 3 + 2, none⟩ (.string T) = W3 at HW3 HO3 HV3 ⊢
      have E3 : Hid (M2 + 1 = k + 3 * ((j + 1 : Nat) : Int)) := (by have := E2.out; have := HM.out; push_cast; omega : _ = _)
      go_wp2
      go_roundw
      case rel => exact ⟨j + 1, M2 + 1, by omega, by go_num, by go_num, E3.out, HW3.out, HV3.out, HO3.out⟩
      case measure => simp [intOf]; omega
    · obtain rfl : j = ns.length := by omega
      have E2 : Hid (k + 3 * (ns.length : Int) = M) := (by have := HM.out; omega : _ = _)
      go_wp2
      go_ret
      refine ⟨by rw [E2.out]; rfl, ?_, HO.out⟩
      obtain ⟨cur, h1, h2⟩ := HW.out
      have hz := HO.out.size
      refine ⟨by omega, .inr ⟨g, c, cur, by rw [markNL_len], hg1, hg2, h1, h2, by rw [markNL_len]; exact hg5, fun i hi => ?_⟩⟩
      rw [markNL_at]
      obtain ⟨a1, a2, a3⟩ := HV.out i (by rw [markNL_len] at hi; exact hi)
      intro o v hv
      match o, hv with
      | 0, hv => cases hv; exact a1
      | 1, hv => cases hv; exact a2
      | 2, hv => cases hv; exact a3
      | o + 3, hv => simp [ntC] at hv
set_option maxRecDepth 100000 in
set_option maxHeartbeats 1600000 in
theorem heldNoteS_at (k : Int) (hk0 : 1 ≤ k ∧ k ≤ 60000000) (lo hi : Nat) (v : Value) (n : Nat) (w : World) (hl : n ≤ 1048576) (h : OwnNS w lo hi v (markNL k n)) :
    Calls Try.prog 65 #[v, .int .i64 k] w fun e w' => e = .returned (.int .i64 (k + 3 * (n : Int))) ∧ Below w.heap.size w w' := by
  have HR : Hid (∀ W, Below w.heap.size w W → RowN W v (markNL k n)) := fun W hW => h.row.below hW
  obtain ⟨p, c, rfl, _⟩ := h.row
  rw [markNL_len]
  clear h
  go_enter Try.func65, Try.ntmps65
  go_wp2
  go_loopw [1, 5] (fun x i wr => ∃ (j : Nat) (M : Int), j ≤ n ∧ i = .int .i64 j ∧ x = .int .i64 M ∧ Hid (M = k + 3 * (j : Int)) ∧ Below w.heap.size w wr) (fun _ i _ => n - (intOf i).toNat)
  case atStart => exact ⟨0, k, Nat.zero_le _, rfl, rfl, (by simp : _ = _), Below.refl _ _⟩
  case round =>
    obtain ⟨j, M, hj, rfl, rfl, HM, hbel⟩ := hrel
    by_cases hlt : j < n
    · obtain ⟨p', c', e', hrow⟩ := HR.out wr hbel
      cases e'
      obtain ⟨g, rfl, hgl, q1, q2, q3⟩ := hrow j (by rw [markNL_len]; exact hlt)
      rw [markNL_at, ← HM.out] at q1 q2 q3
      have hM : 1 ≤ M ∧ M ≤ 70000000 := by have := HM.out; omega
      simp only [ntAt] at q1 q2 q3
      have q3w : ∀ W, Below wr.heap.size wr W → W.cell? ⟨g, j * 3 + 2, none⟩ = some (.string (markB (M + 2).toNat)) := fun W hW => (hW.cell (p := ⟨g, j * 3 + 2, none⟩) hgl).trans q3
      clear hrow q3
      obtain ⟨mk, emk⟩ : ∃ m : Nat, M + 2 = (m : Int) := ⟨(M + 2).toNat, by omega⟩
      obtain ⟨M1, e1⟩ : ∃ x, M + 1 = x := ⟨_, rfl⟩
      rw [e1] at q2
      rw [show (M + 2).toNat = mk by omega] at q3w
      have HC : Hid (∀ W : World, Calls Try.prog 84 #[.int .i64 (M1 + 1)] W fun e w' => e = .returned (.string (markB mk)) ∧ Below W.heap.size W w') := fun W => by
        rw [show M1 + 1 = (mk : Int) by omega]
        exact markText_big mk W (by omega) (by omega)
      have hM1 : 1 ≤ M1 ∧ M1 ≤ 70000001 := by omega
      have E3 : Hid (M1 + 1 + 1 = k + 3 * ((j + 1 : Nat) : Int)) := (by have := HM.out; push_cast; omega : _ = _)
      have QW : Hid _ := q3w
      clear q3w emk
      generalize markB mk = T at HC QW
      go_upto_region 7 with fail
      try rw [e1]
      clear q1 e1
      obtain ⟨M2, e2⟩ : ∃ x, M1 + 1 = x := ⟨_, rfl⟩
      rw [e2] at HC E3
      have hM2 : 1 ≤ M2 ∧ M2 ≤ 70000002 := by omega
      go_upto_region 10 with fail
      try rw [e2]
      clear q2 e2
      obtain ⟨M3, e3⟩ : ∃ x, M2 + 1 = x := ⟨_, rfl⟩
      rw [e3] at E3
      have hR : Below wr.heap.size wr wr.drew := Below.drew (Below.refl _ _)
      refine wp_region_held_drew (S := (fun w' => Below wr.heap.size wr w')) (by kernel_rfl) ?_ (fun hHeld => ?_)
      · (try dsimp only); exact hR
      refine yieldH (i := 0) (v := ?_) rfl (by kernel_rfl) (by kernel_rfl) (by kernel_rfl) (fun _ _ _ h => h) (by rfl) ?_ (by assumption) ?_; rotate_left
      · intro w hSw; (try dsimp only at hSw); go_simp; (try with_reducible rfl)
      try simp only [Act.put, List.setIfInBounds_toArray, List.set_cons_zero, List.set_cons_succ, List.getElem_toArray, List.getElem_cons_succ, List.getElem_cons_zero]
      refine yieldH (i := 1) (v := ?_) rfl (by kernel_rfl) (by kernel_rfl) (by kernel_rfl) (fun _ _ _ h => h) (by rfl) ?_ (by assumption) ?_; rotate_left
      · intro w hSw; (try dsimp only at hSw); go_simp; (try with_reducible rfl)
      try simp only [Act.put, List.setIfInBounds_toArray, List.set_cons_zero, List.set_cons_succ, List.getElem_toArray, List.getElem_cons_succ, List.getElem_cons_zero]
      refine yieldH (i := 2) (v := ?_) rfl (by kernel_rfl) (by kernel_rfl) (by kernel_rfl) (fun _ _ _ h => h) (by rfl) ?_ (by assumption) ?_; rotate_left
      · intro w hSw; (try dsimp only at hSw); go_simp; (try with_reducible rfl)
      try simp only [Act.put, List.setIfInBounds_toArray, List.set_cons_zero, List.set_cons_succ, List.getElem_toArray, List.getElem_cons_succ, List.getElem_cons_zero]
      refine yieldH (i := 3) (v := ?_) rfl (by kernel_rfl) (by kernel_rfl) (by kernel_rfl) (fun _ _ _ h => h) (by rfl) ?_ (by assumption) ?_; rotate_left
      · intro w hSw; (try dsimp only at hSw); go_simp; (try with_reducible rfl)
      try simp only [Act.put, List.setIfInBounds_toArray, List.set_cons_zero, List.set_cons_succ, List.getElem_toArray, List.getElem_cons_succ, List.getElem_cons_zero]
      refine yieldH (i := 4) (v := .string T) rfl (by kernel_rfl) (by kernel_rfl) (by kernel_rfl) (fun _ _ _ h => h) (by rfl) ?_ (by assumption) ?_
      · intro w hSw; have y := QW.out w hSw; go_simp
      try simp only [Act.put, List.setIfInBounds_toArray, List.set_cons_zero, List.set_cons_succ, List.getElem_toArray, List.getElem_cons_succ, List.getElem_cons_zero]
      refine yieldH (i := 5) (v := ?_) rfl (by kernel_rfl) (by kernel_rfl) (by kernel_rfl) (fun _ _ _ h => h) (by rfl) ?_ (by assumption) ?_; rotate_left
      · intro w hSw; (try dsimp only at hSw); go_simp; (try with_reducible rfl)
      try simp only [Act.put, List.setIfInBounds_toArray, List.set_cons_zero, List.set_cons_succ, List.getElem_toArray, List.getElem_cons_succ, List.getElem_cons_zero]
      refine wpAnyH_ready (rs := [6]) (by kernel_rfl) (by simp) ?_
      refine AllReadyH.cons rfl (fun K hK => ?_) AllReadyH.nil
      go_simp
      go_at_call 84; refine (HC.out _).mono ?_; rintro e2' w2 ⟨rfl, hb2⟩; have s2 : Below wr.heap.size wr w2 := keepB hR (Nat.le_refl _) hb2
      dsimp only
      refine hK.out _ _ ?_ (fun hHeld => ?_)
      · (try dsimp only); exact s2
      clear hK K
      try simp only [Act.put, List.setIfInBounds_toArray, List.set_cons_zero, List.set_cons_succ, List.getElem_toArray, List.getElem_cons_succ, List.getElem_cons_zero]
      refine yieldH (i := 7) (v := ?_) rfl (by kernel_rfl) (by kernel_rfl) (by kernel_rfl) (fun _ _ _ h => h) (by rfl) ?_ (by assumption) ?_; rotate_left
      · intro w hSw; (try dsimp only at hSw); go_simp; (try with_reducible rfl)
      try simp only [Act.put, List.setIfInBounds_toArray, List.set_cons_zero, List.set_cons_succ, List.getElem_toArray, List.getElem_cons_succ, List.getElem_cons_zero]
      refine wpAnyH_done (by kernel_rfl) ?_ _
      go_wp2
      go_roundw
      case rel => exact ⟨j + 1, M3, by omega, by go_num, by first | exact congrArg _ e3 | go_num, E3.out, keepB hbel (Nat.le_refl _) s2⟩
      case measure => simp [intOf]; omega
    · obtain rfl : j = n := by omega
      have E2 : Hid (k + 3 * (j : Int) = M) := (by have := HM.out; omega : _ = _)
      go_wp2
      go_ret
      exact ⟨by rw [E2.out]; rfl, hbel⟩
end Go.Proofs.Ytklpaleghanhhaa
