/- THE WALKS of the frame of a body, the program's and the model's. -/
import Derived.Test.YtineecongiplgaaQpFrame
import Derived.Test.YtineecongiplgaaQpPlainSt
import Derived.Test.YtineecongiplgaaQpPathP
import Derived.Test.YtineecongiplgaaQpPaN
import Derived.WalkKit
import Derived.WalkSpells
import Derived.Outline
import Derived.Below
import Derived.Maps.AppendAt
import Derived.Deep.QuietTactic
import Derived.BigQuiet
import Derived.Deep.DeepCutAuto
namespace Go.Proofs.Ytineecongiplgaa
open Go.RowKit
set_option linter.unusedVariables false

theorem first_own (w : World) : (w.alloc (.cells #[.int .u8 126] 5)).ownsRow w.heap.size 5 1 (.slice (some ⟨w.heap.size, 0, none⟩) 1 1) [(126 : UInt8)].length (cellsC [126]) :=
  ⟨rfl, .inr ⟨w.heap.size, 1, #[.int .u8 126], rfl, Nat.le_refl _, heap_alloc_new w _, Nat.le_refl _, by unfold maxLen; omega, rfl, rfl⟩⟩
theorem flag_cells : cellsB (bytesOf [126]) = [.int .u8 126] := rfl
theorem flag_conv (w : World) : (convert 22 9 (.slice (some ⟨w.heap.size, 0, none⟩) 1 1)).run Try.prog (w.alloc (.cells #[.int .u8 126] 5)) = .ok (.string (bytesOf [126])) (w.alloc (.cells #[.int .u8 126] 5)) := by
  have h := Lib.run_convert_whole (P := Try.prog) (w.alloc (.cells [.int .u8 126].toArray 5)) 22 5 9 Try.underlying22 Try.underlying5 Try.underlying9 w.heap.size 0 (bytesOf [126]) (bytes_of_cells (bytesOf [126]) (heap_alloc_new w _) (by rw [flag_cells, bytesOf_size]; rfl)) 1
  rw [bytesOf_size] at h
  exact h
set_option maxRecDepth 100000 in
theorem join_frame (s : ByteArray) (h0 : ¬ s.size < 1) (h1 : ¬ 60 < s.size) : Hid (∀ W : World, Calls Try.prog 81 #[.slice (some ⟨W.heap.size, 0, none⟩) 4 4] (W.alloc (.cells #[.string (bytesOf [126]), .string (bytesOf (escL s.data.toList)), .string (bytesOf (escL (checkB s).data.toList)), .string (bytesOf [126])] 9)) fun e w' => e = .returned (.string (frameB s)) ∧ Below W.heap.size W w') := by
  intro W
  have hl1 := (escL_length s.data.toList).2
  have hl2 := (escL_length (checkB s).data.toList).2
  rw [list_length] at hl1
  rw [list_length, checkB_size] at hl2
  refine (join_row W.heap.size (0, 0) [bytesOf [126], bytesOf (escL s.data.toList), bytesOf (escL (checkB s).data.toList), bytesOf [126]] _ (heap_alloc_new W _) (by simp) ?_).mono ?_
  · intro x hx
    simp only [List.mem_cons, List.not_mem_nil, or_false] at hx
    rcases hx with rfl | rfl | rfl | rfl
    · rw [bytesOf_size]; simp
    · rw [bytesOf_size]; omega
    · rw [bytesOf_size]; omega
    · rw [bytesOf_size]; simp
  rintro e w' ⟨rfl, hb⟩
  refine ⟨?_, ((Below.refl W.heap.size W).alloc (Nat.le_refl _) _).trans (hb.mono (by simp))⟩
  rw [frameB_in s (by omega) (by omega), ← frame_parts, checkB_eq, bytesOf_list]
  simp [joinT]
end Go.Proofs.Ytineecongiplgaa
/- THE WALKS of the model's draws of bodies and of what may be heard. -/
namespace Go.Proofs.Ytineecongiplgaa
open Go.RowKit
set_option linter.unusedVariables false
set_option linter.unusedSimpArgs false

theorem Dr.drewN {b B : Nat} {a : Option Addr} {len cap : Nat} {w0 w : World} (h : Dr b B a len cap w0 w) (n : Nat) : Dr b B a len cap w0 (w.drewN n) := h.below ⟨rfl, rfl, rfl, Nat.le_refl _, fun _ _ => rfl⟩
theorem slice_toD (t : ByteArray) (r : Nat) (h : r ≤ t.size) : ∃ P : ByteArray, P.size = r ∧ ∀ W : World, (Instr.slice 9 (.string t) none (some (.int .i64 r)) none).run Try.prog W = .ok (.string P) W := by
  refine ⟨t.extract 0 r, by rw [ByteArray.size_extract]; omega, fun W => ?_⟩
  rw [run_slice_string_to_if W 9 t .i64 r Try.underlying9, if_pos (by omega)]
  rfl
theorem slice_fromD (t : ByteArray) (r : Nat) (h : r ≤ t.size) : ∃ P : ByteArray, P.size = t.size - r ∧ ∀ W : World, (Instr.slice 9 (.string t) (some (.int .i64 r)) none none).run Try.prog W = .ok (.string P) W := by
  refine ⟨t.extract r t.size, by rw [ByteArray.size_extract]; omega, fun W => ?_⟩
  rw [run_slice_string_from_if W 9 t .i64 r Try.underlying9, if_pos (by omega)]
  rfl
theorem slice_from1D (t : ByteArray) (r : Nat) (h : r < t.size) : ∃ P : ByteArray, P.size = t.size - (r + 1) ∧ ∀ W : World, (Instr.slice 9 (.string t) (some (.int .i64 ((r : Int) + 1))) none none).run Try.prog W = .ok (.string P) W := slice_fromD t (r + 1) h
theorem byte_convD (w : World) (c : UInt8) : (convert 22 9 (.slice (some ⟨w.heap.size, 0, none⟩) 1 1)).run Try.prog (w.alloc (.cells #[.int .u8 (c.toNat : Int)] 5)) = .ok (.string (bytesOf [c])) (w.alloc (.cells #[.int .u8 (c.toNat : Int)] 5)) := by
  have hc : cellsB (bytesOf [c]) = [.int .u8 (c.toNat : Int)] := rfl
  have h := Lib.run_convert_whole (P := Try.prog) (w.alloc (.cells [.int .u8 (c.toNat : Int)].toArray 5)) 22 5 9 Try.underlying22 Try.underlying5 Try.underlying9 w.heap.size 0 (bytesOf [c]) (bytes_of_cells (bytesOf [c]) (heap_alloc_new w _) (by rw [hc, bytesOf_size]; rfl)) 1
  rw [bytesOf_size] at h
  exact h
set_option maxRecDepth 100000 in
set_option maxHeartbeats 1600000 in
theorem spoil_D {b B : Nat} {a : Option Addr} {len cap : Nat} {w0 w : World} (h : Dr b B a len cap w0 w) (t : ByteArray) (ht : t.size ≤ 1000) :
    Calls Try.prog 48 #[.pointer (some ⟨b, 0, none⟩), .string t] w fun e w' => ∃ s : ByteArray, e = .returned (.string s) ∧ s.size ≤ t.size + 1 ∧ Dr b B a len cap w0 w' := by
  have HD : Hid _ := h
  have hcv := byte_convD
  have hbz : ∀ c : UInt8, (bytesOf [c]).size = 1 := fun c => bytesOf_size _
  clear h
  go_enter Try.func48, Try.ntmps48
  go_upto_region 2 with (go_at_call 45; refine (n_D HD.out ((t.size : Int) + 1) (by omega)).mono ?_; rintro e w1 ⟨r1, rfl, hr1, hD1, _⟩)
  have hr2 : r1 ≤ t.size := by omega
  have HD1 : Hid _ := hD1
  clear hr1 hD1
  obtain ⟨P1, z1, s1⟩ := slice_toD t r1 hr2
  obtain ⟨P2, z2, s2⟩ := slice_fromD t r1 hr2
  by_cases hq : r1 = t.size
  · have q : ((r1 : Int) == (t.size : Int)) = true := by simp; omega
    clear hq
    go_wp2_with (go_at_call 45; refine (n_D HD1.out 17 (by omega)).mono ?_; rintro e w2 ⟨r2, rfl, hr2', hD2, _⟩; have hr3 : r2 < 17 := (by omega))
    go_quiet (fail)
    go_wp2
    go_ret
    exact ⟨_, rfl, by simp only [ByteArray.size_append, hbz]; omega, (hD2.alloc _).drewN _⟩
  · have q : ((r1 : Int) == (t.size : Int)) = false := by simp; omega
    obtain ⟨P3, z3, s3⟩ := slice_from1D t r1 (by omega)
    go_wp2_with (first | (go_at_call 45; refine (n_D HD1.out 17 (by omega)).mono ?_; rintro e w2 ⟨r2, rfl, hr2', hD2, _⟩; have hr3 : r2 < 17 := (by omega)) | (go_at_call 44; first | (refine (one_D hD3 2 (by omega)).mono ?_; rintro e w4 ⟨o4, rfl, hD4, _⟩) | (refine (one_D (hD2.alloc _) 3 (by omega)).mono ?_; rintro e w3 ⟨o3, rfl, hD3, _⟩)))
    all_goals
      go_quiet (fail)
      go_wp2
      go_ret
      first | exact ⟨_, rfl, by simp only [ByteArray.size_append, hbz]; omega, hD4.drewN _⟩ | exact ⟨_, rfl, by simp only [ByteArray.size_append, hbz]; omega, hD3.drewN _⟩
theorem Only.cellO {b : Nat} {w w' : World} (h : Only b w w') {g : Nat} (hg : g ≠ b) (o : Nat) : w'.cell? ⟨g, o, none⟩ = w.cell? ⟨g, o, none⟩ := World.cell?_of_block (a := ⟨g, o, none⟩) (h.block g hg)
end Go.Proofs.Ytineecongiplgaa
/- THE BYTES OF A PATH over lists. -/
namespace Go.Proofs.Ytineecongiplgaa
open Go.RowKit
set_option linter.unusedVariables false
set_option linter.unusedSimpArgs false

def halfL (l : List Int) : List UInt8 := l.map (fun z => UInt8.ofNat z.toNat) ++ List.replicate (5 - l.length) 0
def halfN (l : List Int) (j : Nat) : List Int := l.take j ++ List.replicate (5 - j) 0
def pathL (t : Tb) : List UInt8 := halfL t.cs ++ halfL t.rs
def pathB (t : Tb) : ByteArray := if t.path then ⟨(pathL t).toArray⟩ else ByteArray.empty
theorem addr_at {l : List Int} (h : l.all addrB = true) {z : Int} (hz : z ∈ l) : 1 ≤ z ∧ z ≤ 8 := by
  rw [List.all_eq_true] at h
  have := h z hz
  unfold addrB at this
  simpa using this
theorem halfN_len (l : List Int) (j : Nat) (h : j ≤ l.length) (h5 : l.length ≤ 5) : (halfN l j).length = 5 := by
  unfold halfN
  rw [List.length_append, List.length_take, List.length_replicate]
  omega
theorem halfN_step (l : List Int) (j : Nat) (h : j < l.length) (h5 : l.length ≤ 5) : (halfN l j).set j l[j] = halfN l (j + 1) := by
  unfold halfN
  rw [List.set_append]
  rw [if_neg (by rw [List.length_take]; omega)]
  rw [List.length_take, Nat.min_eq_left (by omega), Nat.sub_self, List.take_succ_eq_append_getElem h, List.append_assoc]
  congr 1
  rw [show 5 - j = (5 - (j + 1)) + 1 by omega, List.replicate_succ]
  rfl
theorem halfL_num (l : List Int) (h : l.all addrB = true) : (halfL l).map (fun b => (b.toNat : Int)) = halfN l l.length := by
  unfold halfL halfN
  rw [List.map_append, List.map_replicate, List.take_length, List.map_map]
  congr 1
  have : ∀ z ∈ l, ((fun (b : UInt8) => (b.toNat : Int)) ∘ fun z : Int => UInt8.ofNat z.toNat) z = z := fun z hz => by
    obtain ⟨h1, h2⟩ := addr_at h hz
    simp only [Function.comp]
    rw [UInt8.toNat_ofNat_of_lt' (by simp [UInt8.size]; omega)]
    omega
  calc l.map _ = l.map id := List.map_congr_left this
    _ = l := List.map_id l
theorem halfL_len (l : List Int) (h5 : l.length ≤ 5) : (halfL l).length = 5 := by
  unfold halfL
  rw [List.length_append, List.length_map, List.length_replicate]
  omega
theorem pathL_len (t : Tb) (h1 : t.cs.length ≤ 5) (h2 : t.rs.length ≤ 5) : (pathL t).length = 10 := by
  unfold pathL
  rw [List.length_append, halfL_len _ h1, halfL_len _ h2]
theorem bytes_two (a b : List UInt8) : (⟨a.toArray⟩ : ByteArray) ++ ⟨b.toArray⟩ = ⟨(a ++ b).toArray⟩ := by
  apply ByteArray.ext
  simp
end Go.Proofs.Ytineecongiplgaa
/- THE HALVES of a path's bytes: the program's and the model's. -/
namespace Go.Proofs.Ytineecongiplgaa
open Go.RowKit
set_option linter.unusedVariables false
set_option linter.unusedSimpArgs false

/-- cells of zeros, bytes -/
def zu (n : Nat) : Array Value := madeCells (Value.int .u8 0).cells (n * 1)
theorem make_U (n : Nat) (hn : n ≤ 1000) (W : World) : (Instr.makeSlice 22 (.int .i64 n) (.int .i64 n)).run Try.prog W = .ok (.slice (some ⟨W.heap.size, 0, none⟩) n n) (W.alloc (.cells (zu n) 5)) := by
  obtain ⟨i0, hi, hz0, hz1, hz2⟩ := info_parts info8
  have hr := run_make (P := Try.prog) W 22 5 i0 (.int .u8 0) Try.underlying22 hi hz0 .i64 .i64 n n (by omega) (Int.le_refl _) (by rw [hz2]; omega) (by omega)
  rw [hz1] at hr
  simp only [Int.toNat_natCast] at hr
  exact hr
theorem own_madeU (W : World) (n : Nat) (hn : n ≤ 1000) (base : Nat) (hb : base ≤ W.heap.size) : OwnU (W.alloc (.cells (zu n) 5)) base (.slice (some ⟨W.heap.size, 0, none⟩) n n) (List.replicate n 0) := by
  unfold OwnU
  rw [List.length_replicate]
  have := World.ownsRow_lit (e := 5) (size := 1) W (zu n) n hb (by unfold maxLen; omega) (size_madeCells _ _)
  rw [show (zu n).toList = (List.replicate n (0 : Int)).map (Value.int .u8) from zeros_list8 n] at this
  exact this
theorem wrapu {z : Int} (h : 1 ≤ z ∧ z ≤ 8) : IntKind.u8.wrap z = z := by
  have : z = 1 ∨ z = 2 ∨ z = 3 ∨ z = 4 ∨ z = 5 ∨ z = 6 ∨ z = 7 ∨ z = 8 := by omega
  rcases this with rfl | rfl | rfl | rfl | rfl | rfl | rfl | rfl <;> decide
set_option maxRecDepth 100000 in
set_option maxHeartbeats 800000 in
theorem halfBytes_any (v : Value) (zs : List Int) (w : World) (hl : zs.length ≤ 5) (ha : zs.all addrB = true) (hr : RowI w v zs) :
    Calls Try.prog 47 #[v] w fun e w' => ∃ v', e = .returned v' ∧ OwnU w' w.heap.size v' ((halfL zs).map fun b => (b.toNat : Int)) ∧ Below w.heap.size w w' := by
  have HR : Hid (∀ W, Below w.heap.size w W → RowI W v zs) := fun W hW => hr.below hW
  obtain ⟨p, c, rfl, _⟩ := hr
  rw [halfL_num zs ha]
  have M : ∀ W : World, (Instr.makeSlice 22 (.int .i64 5) (.int .i64 5)).run Try.prog W = .ok (.slice (some ⟨W.heap.size, 0, none⟩) 5 5) (W.alloc (.cells (zu 5) 5)) := fun W => make_U 5 (by omega) W
  have HM : Hid (OwnU (w.alloc (.cells (zu 5) 5)) w.heap.size (.slice (some ⟨w.heap.size, 0, none⟩) 5 5) (halfN zs 0)) := by
    show OwnU _ _ _ _
    have := own_madeU w 5 (by omega) w.heap.size (Nat.le_refl _)
    exact this
  have hB0 := all_alloc w (.cells (zu 5) 5)
  have HA : Hid (∀ z ∈ zs, 1 ≤ z ∧ z ≤ 8) := fun z hz => addr_at ha hz
  clear ha
  go_enter Try.func47, Try.ntmps47
  go_wp2
  generalize w.alloc (.cells (zu 5) 5) = A at HM hB0 ⊢
  clear M
  go_loopw [9] (fun i wr => ∃ j : Nat, j ≤ zs.length ∧ i = .int .i64 j ∧ Hid (OwnU wr w.heap.size (.slice (some ⟨w.heap.size, 0, none⟩) 5 5) (halfN zs j)) ∧ Below w.heap.size w wr) (fun i _ => zs.length - (intOf i).toNat)
  case atStart => exact ⟨0, Nat.zero_le _, rfl, HM.out, hB0⟩
  case round =>
    obtain ⟨j, hj, rfl, HW, hbel⟩ := hrel
    by_cases hlt : j < zs.length
    · obtain ⟨p', c', e', hrow⟩ := HR.out wr hbel
      cases e'
      obtain ⟨g, rfl, l1, q1⟩ := hrow j hlt
      clear hrow
      have hz := HA.out zs[j] (List.getElem_mem hlt)
      obtain ⟨g2, e2, _, hgl, hq, hf⟩ := HW.out.cell j (by rw [halfN_len zs j hj hl]; omega)
      cases e2
      have HST : Hid _ := halfN_step zs j hlt hl
      have h1 := HW.out.set j (by rw [halfN_len zs j hj hl]; omega) zs[j]
      have hw1 := wrapu hz
      have hw2 : zs[j] % 256 = zs[j] := by omega
      have hj5 : (j : Int) < 5 := by omega
      generalize (halfN zs j)[j]'(by rw [halfN_len zs j hj hl]; omega) = old at hq
      generalize zs[j] = z at q1 hw1 hw2 h1 HST
      clear hz
      go_wp2
      go_roundw
      case rel => exact ⟨j + 1, by omega, by go_num, (show OwnU _ _ _ _ by rw [← HST.out]; exact h1), hbel.setCell (Nat.le_refl _) _⟩
      case measure => simp [intOf]; omega
    · obtain rfl : j = zs.length := by omega
      go_wp2
      go_ret
      exact ⟨_, rfl, HW.out, hbel⟩
set_option maxRecDepth 100000 in
set_option maxHeartbeats 800000 in
theorem l08Five_any (v : Value) (zs : List Int) (w : World) (hl : zs.length ≤ 5) (ha : zs.all addrB = true) (hr : RowI w v zs) :
    Calls Try.prog 54 #[v] w fun e w' => e = .returned (.string ⟨(halfL zs).toArray⟩) ∧ Below w.heap.size w w' := by
  have HR : Hid (∀ W, Below w.heap.size w W → RowI W v zs) := fun W hW => hr.below hW
  obtain ⟨p, c, rfl, _⟩ := hr
  have M : ∀ W : World, (Instr.makeSlice 22 (.int .i64 5) (.int .i64 5)).run Try.prog W = .ok (.slice (some ⟨W.heap.size, 0, none⟩) 5 5) (W.alloc (.cells (zu 5) 5)) := fun W => make_U 5 (by omega) W
  have HM : Hid (OwnU (w.alloc (.cells (zu 5) 5)) w.heap.size (.slice (some ⟨w.heap.size, 0, none⟩) 5 5) (halfN zs 0)) := by
    show OwnU _ _ _ _
    have := own_madeU w 5 (by omega) w.heap.size (Nat.le_refl _)
    exact this
  have hB0 := all_alloc w (.cells (zu 5) 5)
  have HA : Hid (∀ z ∈ zs, 1 ≤ z ∧ z ≤ 8) := fun z hz => addr_at ha hz
  have HN : Hid _ := halfL_num zs ha
  clear ha
  go_enter Try.func54, Try.ntmps54
  go_wp2
  generalize w.alloc (.cells (zu 5) 5) = A at HM hB0 ⊢
  clear M
  go_loopw [4] (fun i wr => ∃ j : Nat, j ≤ zs.length ∧ i = .int .i64 j ∧ Hid (OwnU wr w.heap.size (.slice (some ⟨w.heap.size, 0, none⟩) 5 5) (halfN zs j)) ∧ Below w.heap.size w wr) (fun i _ => zs.length - (intOf i).toNat)
  case atStart => exact ⟨0, Nat.zero_le _, rfl, HM.out, hB0⟩
  case round =>
    obtain ⟨j, hj, rfl, HW, hbel⟩ := hrel
    by_cases hlt : j < zs.length
    · obtain ⟨p', c', e', hrow⟩ := HR.out wr hbel
      cases e'
      obtain ⟨g, rfl, l1, q1⟩ := hrow j hlt
      clear hrow
      have hz := HA.out zs[j] (List.getElem_mem hlt)
      obtain ⟨g2, e2, _, hgl, hq, hf⟩ := HW.out.cell j (by rw [halfN_len zs j hj hl]; omega)
      cases e2
      have HST : Hid _ := halfN_step zs j hlt hl
      have h1 := HW.out.set j (by rw [halfN_len zs j hj hl]; omega) zs[j]
      have hw1 := wrapu hz
      have hw2 : zs[j] % 256 = zs[j] := by omega
      have hj5 : (j : Int) < 5 := by omega
      generalize (halfN zs j)[j]'(by rw [halfN_len zs j hj hl]; omega) = old at hq
      generalize zs[j] = z at q1 hw1 hw2 h1 HST
      clear hz
      go_wp2
      go_roundw
      case rel => exact ⟨j + 1, by omega, by go_num, (show OwnU _ _ _ _ by rw [← HST.out]; exact h1), hbel.setCell (Nat.le_refl _) _⟩
      case measure => simp [intOf]; omega
    · obtain rfl : j = zs.length := by omega
      have hW := HW.out
      rw [← HN.out] at hW
      have hcv := OwnU.text hW
      clear hW
      go_wp2
      go_ret
      exact ⟨rfl, hbel⟩
end Go.Proofs.Ytineecongiplgaa
