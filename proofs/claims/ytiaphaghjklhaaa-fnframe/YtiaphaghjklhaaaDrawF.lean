/- THE WALKS of the model's draws of bodies and of what may be heard. -/
import Derived.Test.YtiaphaghjklhaaaDrawD
import Derived.Test.YtiaphaghjklhaaaFrame2
import Derived.WalkKit
import Derived.WalkSpells
import Derived.Outline
import Derived.Below
import Derived.Deep.QuietTactic
import Derived.BigQuiet
import Derived.Deep.DeepCutAuto
namespace Go.Proofs.Ytiaphaghjklhaaa
open Go.RowKit
set_option linter.unusedVariables false
set_option linter.unusedSimpArgs false

theorem Dr.drewN {b B : Nat} {a : Option Addr} {len cap : Nat} {w0 w : World} (h : Dr b B a len cap w0 w) (n : Nat) : Dr b B a len cap w0 (w.drewN n) := h.below ⟨rfl, rfl, rfl, Nat.le_refl _, fun _ _ => rfl⟩
theorem slice_toD (t : ByteArray) (r : Nat) (h : r ≤ t.size) : ∃ P : ByteArray, P.size = r ∧ ∀ W : World, (Instr.slice 9 (.string t) none (some (.int .i64 r)) none).run Try.prog W = .ok (.string P) W := by
  refine ⟨t.extract 0 r, by rw [ByteArray.size_extract]; omega, fun W => ?_⟩
  rw [run_slice_string_to_if W 9 t .i64 r Try.underlying9, if_pos (by omega)]
  rfl
theorem slice_fromD (t : ByteArray) (r : Nat) (h : r ≤ t.size) : ∃ P : ByteArray, P.size = t.size - r ∧ ∀ W : World, (Instr.slice 9 (.string t) (some (.int .i64 r)) none none).run Try.prog W = .ok (.string P) W := by
  refine ⟨t.extract r t.size, by rw [ByteArray.size_extract]; omega, fun W => ?_⟩
  rw [run_slice_string_from_if W 9 t .i64 r Try.underlying9, if_pos (by omega)]
  rfl
theorem slice_from1D (t : ByteArray) (r : Nat) (h : r < t.size) : ∃ P : ByteArray, P.size = t.size - (r + 1) ∧ ∀ W : World, (Instr.slice 9 (.string t) (some (.int .i64 ((r : Int) + 1))) none none).run Try.prog W = .ok (.string P) W := slice_fromD t (r + 1) h
theorem byte_convD (w : World) (c : UInt8) : (convert 22 9 (.slice (some ⟨w.heap.size, 0, none⟩) 1 1)).run Try.prog (w.alloc (.cells #[.int .u8 (c.toNat : Int)] 5)) = .ok (.string (bytesOf [c])) (w.alloc (.cells #[.int .u8 (c.toNat : Int)] 5)) := by
  have hc : cellsB (bytesOf [c]) = [.int .u8 (c.toNat : Int)] := rfl
  have h := Lib.run_convert_whole (P := Try.prog) (w.alloc (.cells [.int .u8 (c.toNat : Int)].toArray 5)) 22 5 9 Try.underlying22 Try.underlying5 Try.underlying9 w.heap.size 0 (bytesOf [c]) (bytes_of_cells (bytesOf [c]) (heap_alloc_new w _) (by rw [hc, bytesOf_size]; rfl)) 1
  rw [bytesOf_size] at h
  exact h
set_option maxRecDepth 100000 in
set_option maxHeartbeats 1600000 in
theorem spoil_D {b B : Nat} {a : Option Addr} {len cap : Nat} {w0 w : World} (h : Dr b B a len cap w0 w) (t : ByteArray) (ht : t.size ≤ 1000) :
    Calls Try.prog 60 #[.pointer (some ⟨b, 0, none⟩), .string t] w fun e w' => ∃ s : ByteArray, e = .returned (.string s) ∧ s.size ≤ t.size + 1 ∧ Dr b B a len cap w0 w' := by
  have HD : Hid _ := h
  have hcv := byte_convD
  have hbz : ∀ c : UInt8, (bytesOf [c]).size = 1 := fun c => bytesOf_size _
  clear h
  go_enter Try.func60, Try.ntmps60
  go_upto_region 2 with (go_at_call 47; refine (n_D HD.out ((t.size : Int) + 1) (by omega)).mono ?_; rintro e w1 ⟨r1, rfl, hr1, hD1, _⟩)
  have hr2 : r1 ≤ t.size := by omega
  have HD1 : Hid _ := hD1
  clear hr1 hD1
  obtain ⟨P1, z1, s1⟩ := slice_toD t r1 hr2
  obtain ⟨P2, z2, s2⟩ := slice_fromD t r1 hr2
  by_cases hq : r1 = t.size
  · have q : ((r1 : Int) == (t.size : Int)) = true := by simp; omega
    clear hq
    go_wp2_with (go_at_call 47; refine (n_D HD1.out 17 (by omega)).mono ?_; rintro e w2 ⟨r2, rfl, hr2', hD2, _⟩; have hr3 : r2 < 17 := (by omega))
    go_quiet (fail)
    go_wp2
    go_ret
    exact ⟨_, rfl, by simp only [ByteArray.size_append, hbz]; omega, (hD2.alloc _).drewN _⟩
  · have q : ((r1 : Int) == (t.size : Int)) = false := by simp; omega
    obtain ⟨P3, z3, s3⟩ := slice_from1D t r1 (by omega)
    go_wp2_with (first | (go_at_call 47; refine (n_D HD1.out 17 (by omega)).mono ?_; rintro e w2 ⟨r2, rfl, hr2', hD2, _⟩; have hr3 : r2 < 17 := (by omega)) | (go_at_call 46; first | (refine (one_D hD3 2 (by omega)).mono ?_; rintro e w4 ⟨o4, rfl, hD4, _⟩) | (refine (one_D (hD2.alloc _) 3 (by omega)).mono ?_; rintro e w3 ⟨o3, rfl, hD3, _⟩)))
    all_goals
      go_quiet (fail)
      go_wp2
      go_ret
      first | exact ⟨_, rfl, by simp only [ByteArray.size_append, hbz]; omega, hD4.drewN _⟩ | exact ⟨_, rfl, by simp only [ByteArray.size_append, hbz]; omega, hD3.drewN _⟩
theorem Only.cellO {b : Nat} {w w' : World} (h : Only b w w') {g : Nat} (hg : g ≠ b) (o : Nat) : w'.cell? ⟨g, o, none⟩ = w.cell? ⟨g, o, none⟩ := World.cell?_of_block (a := ⟨g, o, none⟩) (h.block g hg)
set_option maxRecDepth 100000 in
set_option maxHeartbeats 1600000 in
theorem pick_D {b B : Nat} {a : Option Addr} {len cap : Nat} {w0 w : World} (h : Dr b B a len cap w0 w) (g : Nat) (fz : Nat × Nat) (ss : List ByteArray) (hg : w.heap[g]? = some (.cells (ss.map Value.string).toArray 9 fz)) (hgb : g ≠ b) (h1 : 1 ≤ ss.length) (h2 : ss.length ≤ 100) (hz : ∀ s ∈ ss, s.size ≤ 10) :
    Calls Try.prog 61 #[.pointer (some ⟨b, 0, none⟩), .slice (some ⟨g, 0, none⟩) ss.length ss.length] w fun e w' => ∃ s : ByteArray, e = .returned (.string s) ∧ s.size ≤ 10 ∧ Dr b B a len cap w0 w' := by
  have HD : Hid _ := h
  have HZ : Hid _ := hz
  have HC : Hid (∀ w' r, Only b w w' → (hr : r < ss.length) → w'.cell? ⟨g, r, none⟩ = some (.string ss[r])) := fun w' r ho hr => (ho.cellO hgb r).trans (row_str hg r hr)
  clear h hz hg
  go_enter Try.func61, Try.ntmps61
  go_wp2_with (go_at_call 47; refine (n_D HD.out (ss.length : Int) (by omega)).mono ?_; rintro e w1 ⟨r1, rfl, hr1, hD1, ho1⟩; have hr2 : r1 < ss.length := (by omega); have hc := HC.out w1 r1 ho1 hr2)
  go_ret
  exact ⟨_, rfl, HZ.out _ (List.getElem_mem _), hD1⟩
end Go.Proofs.Ytiaphaghjklhaaa
