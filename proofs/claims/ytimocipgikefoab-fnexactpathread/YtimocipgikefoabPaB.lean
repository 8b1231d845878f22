/- THE HALVES of a path's bytes: the program's and the model's. -/
import Derived.Test.YtimocipgikefoabPathQ
import Derived.Test.YtimocipgikefoabPaN
namespace Go.Proofs.Ytimocipgikefoab
open Go.RowKit
set_option linter.unusedVariables false
set_option linter.unusedSimpArgs false

/-- cells of zeros, bytes -/
def zu (n : Nat) : Array Value := madeCells (Value.int .u8 0).cells (n * 1)
theorem make_U (n : Nat) (hn : n ≤ 1000) (W : World) : (Instr.makeSlice 41 (.int .i64 n) (.int .i64 n)).run Try.prog W = .ok (.slice (some ⟨W.heap.size, 0, none⟩) n n) (W.alloc (.cells (zu n) 5)) := by
  obtain ⟨i0, hi, hz0, hz1, hz2⟩ := info_parts info8
  have hr := run_make (P := Try.prog) W 41 5 i0 (.int .u8 0) Try.underlying41 hi hz0 .i64 .i64 n n (by omega) (Int.le_refl _) (by rw [hz2]; omega) (by omega)
  rw [hz1] at hr
  simp only [Int.toNat_natCast] at hr
  exact hr
theorem own_madeU (W : World) (n : Nat) (hn : n ≤ 1000) (base : Nat) (hb : base ≤ W.heap.size) : OwnU (W.alloc (.cells (zu n) 5)) base (.slice (some ⟨W.heap.size, 0, none⟩) n n) (List.replicate n 0) := by
  unfold OwnU
  rw [List.length_replicate]
  have := World.ownsRow_lit (e := 5) (size := 1) W (zu n) n hb (by unfold maxLen; omega) (size_madeCells _ _)
  rw [show (zu n).toList = (List.replicate n (0 : Int)).map (Value.int .u8) from zeros_list8 n] at this
  exact this
theorem wrapu {z : Int} (h : 1 ≤ z ∧ z ≤ 8) : IntKind.u8.wrap z = z := by
  have : z = 1 ∨ z = 2 ∨ z = 3 ∨ z = 4 ∨ z = 5 ∨ z = 6 ∨ z = 7 ∨ z = 8 := by omega
  rcases this with rfl | rfl | rfl | rfl | rfl | rfl | rfl | rfl <;> decide
set_option maxRecDepth 100000 in
set_option maxHeartbeats 800000 in
theorem halfBytes_any (v : Value) (zs : List Int) (w : World) (hl : zs.length ≤ 5) (ha : zs.all addrB = true) (hr : RowI w v zs) :
    Calls Try.prog 21 #[v] w fun e w' => ∃ v', e = .returned v' ∧ OwnU w' w.heap.size v' ((halfL zs).map fun b => (b.toNat : Int)) ∧ Below w.heap.size w w' := by
  have HR : Hid (∀ W, Below w.heap.size w W → RowI W v zs) := fun W hW => hr.below hW
  obtain ⟨p, c, rfl, _⟩ := hr
  rw [halfL_num zs ha]
  have M : ∀ W : World, (Instr.makeSlice 41 (.int .i64 5) (.int .i64 5)).run Try.prog W = .ok (.slice (some ⟨W.heap.size, 0, none⟩) 5 5) (W.alloc (.cells (zu 5) 5)) := fun W => make_U 5 (by omega) W
  have HM : Hid (OwnU (w.alloc (.cells (zu 5) 5)) w.heap.size (.slice (some ⟨w.heap.size, 0, none⟩) 5 5) (halfN zs 0)) := by
    show OwnU _ _ _ _
    have := own_madeU w 5 (by omega) w.heap.size (Nat.le_refl _)
    exact this
  have hB0 := all_alloc w (.cells (zu 5) 5)
  have HA : Hid (∀ z ∈ zs, 1 ≤ z ∧ z ≤ 8) := fun z hz => addr_at ha hz
  clear ha
  go_enter Try.func21, Try.ntmps21
  go_wp2
  generalize w.alloc (.cells (zu 5) 5) = A at HM hB0 ⊢
  clear M
  go_loopw [9] (fun i wr => ∃ j : Nat, j ≤ zs.length ∧ i = .int .i64 j ∧ Hid (OwnU wr w.heap.size (.slice (some ⟨w.heap.size, 0, none⟩) 5 5) (halfN zs j)) ∧ Below w.heap.size w wr) (fun i _ => zs.length - (intOf i).toNat)
  case atStart => exact ⟨0, Nat.zero_le _, rfl, HM.out, hB0⟩
  case round =>
    obtain ⟨j, hj, rfl, HW, hbel⟩ := hrel
    by_cases hlt : j < zs.length
    · obtain ⟨p', c', e', hrow⟩ := HR.out wr hbel
      cases e'
      obtain ⟨g, rfl, l1, q1⟩ := hrow j hlt
      clear hrow
      have hz := HA.out zs[j] (List.getElem_mem hlt)
      obtain ⟨g2, e2, _, hgl, hq, hf⟩ := HW.out.cell j (by rw [halfN_len zs j hj hl]; omega)
      cases e2
      have HST : Hid _ := halfN_step zs j hlt hl
      have h1 := HW.out.set j (by rw [halfN_len zs j hj hl]; omega) zs[j]
      have hw1 := wrapu hz
      have hw2 : zs[j] % 256 = zs[j] := by omega
      have hj5 : (j : Int) < 5 := by omega
      generalize (halfN zs j)[j]'(by rw [halfN_len zs j hj hl]; omega) = old at hq
      generalize zs[j] = z at q1 hw1 hw2 h1 HST
      clear hz
      go_wp2
      go_roundw
      case rel => exact ⟨j + 1, by omega, by go_num, (show OwnU _ _ _ _ by rw [← HST.out]; exact h1), hbel.setCell (Nat.le_refl _) _⟩
      case measure => simp [intOf]; omega
    · obtain rfl : j = zs.length := by omega
      go_wp2
      go_ret
      exact ⟨_, rfl, HW.out, hbel⟩
set_option maxRecDepth 100000 in
set_option maxHeartbeats 800000 in
theorem l08Five_any (v : Value) (zs : List Int) (w : World) (hl : zs.length ≤ 5) (ha : zs.all addrB = true) (hr : RowI w v zs) :
    Calls Try.prog 17 #[v] w fun e w' => e = .returned (.string ⟨(halfL zs).toArray⟩) ∧ Below w.heap.size w w' := by
  have HR : Hid (∀ W, Below w.heap.size w W → RowI W v zs) := fun W hW => hr.below hW
  obtain ⟨p, c, rfl, _⟩ := hr
  have M : ∀ W : World, (Instr.makeSlice 41 (.int .i64 5) (.int .i64 5)).run Try.prog W = .ok (.slice (some ⟨W.heap.size, 0, none⟩) 5 5) (W.alloc (.cells (zu 5) 5)) := fun W => make_U 5 (by omega) W
  have HM : Hid (OwnU (w.alloc (.cells (zu 5) 5)) w.heap.size (.slice (some ⟨w.heap.size, 0, none⟩) 5 5) (halfN zs 0)) := by
    show OwnU _ _ _ _
    have := own_madeU w 5 (by omega) w.heap.size (Nat.le_refl _)
    exact this
  have hB0 := all_alloc w (.cells (zu 5) 5)
  have HA : Hid (∀ z ∈ zs, 1 ≤ z ∧ z ≤ 8) := fun z hz => addr_at ha hz
  have HN : Hid _ := halfL_num zs ha
  clear ha
  go_enter Try.func17, Try.ntmps17
  go_wp2
  generalize w.alloc (.cells (zu 5) 5) = A at HM hB0 ⊢
  clear M
  go_loopw [4] (fun i wr => ∃ j : Nat, j ≤ zs.length ∧ i = .int .i64 j ∧ Hid (OwnU wr w.heap.size (.slice (some ⟨w.heap.size, 0, none⟩) 5 5) (halfN zs j)) ∧ Below w.heap.size w wr) (fun i _ => zs.length - (intOf i).toNat)
  case atStart => exact ⟨0, Nat.zero_le _, rfl, HM.out, hB0⟩
  case round =>
    obtain ⟨j, hj, rfl, HW, hbel⟩ := hrel
    by_cases hlt : j < zs.length
    · obtain ⟨p', c', e', hrow⟩ := HR.out wr hbel
      cases e'
      obtain ⟨g, rfl, l1, q1⟩ := hrow j hlt
      clear hrow
      have hz := HA.out zs[j] (List.getElem_mem hlt)
      obtain ⟨g2, e2, _, hgl, hq, hf⟩ := HW.out.cell j (by rw [halfN_len zs j hj hl]; omega)
      cases e2
      have HST : Hid _ := halfN_step zs j hlt hl
      have h1 := HW.out.set j (by rw [halfN_len zs j hj hl]; omega) zs[j]
      have hw1 := wrapu hz
      have hw2 : zs[j] % 256 = zs[j] := by omega
      have hj5 : (j : Int) < 5 := by omega
      generalize (halfN zs j)[j]'(by rw [halfN_len zs j hj hl]; omega) = old at hq
      generalize zs[j] = z at q1 hw1 hw2 h1 HST
      clear hz
      go_wp2
      go_roundw
      case rel => exact ⟨j + 1, by omega, by go_num, (show OwnU _ _ _ _ by rw [← HST.out]; exact h1), hbel.setCell (Nat.le_refl _) _⟩
      case measure => simp [intOf]; omega
    · obtain rfl : j = zs.length := by omega
      have hW := HW.out
      rw [← HN.out] at hW
      have hcv := OwnU.text hW
      clear hW
      go_wp2
      go_ret
      exact ⟨rfl, hbel⟩
end Go.Proofs.Ytimocipgikefoab
