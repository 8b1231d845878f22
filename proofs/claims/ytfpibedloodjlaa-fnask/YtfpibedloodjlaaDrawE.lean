/- THE DRAWS' STATE goes on: a text that is spoilt, rows of noughts, stores into blocks of the draw's own. -/
import Derived.Test.YtfpibedloodjlaaDrawD
import Derived.WalkKit
import Derived.WalkSpells
import Derived.Outline
import Derived.Below
import Derived.Deep.QuietTactic
import Derived.BigQuiet
import Derived.Deep.DeepCutAuto
namespace Go.Proofs.Ytfpibedloodjlaa
open Go.RowKit
set_option linter.unusedVariables false
set_option linter.unusedSimpArgs false

theorem Dr.drewN {b B : Nat} {a : Option Addr} {len cap : Nat} {w0 w : World} (h : Dr b B a len cap w0 w) (n : Nat) : Dr b B a len cap w0 (w.drewN n) := h.below ⟨rfl, rfl, rfl, Nat.le_refl _, fun _ _ => rfl⟩
theorem slice_toD (t : ByteArray) (r : Nat) (h : r ≤ t.size) : ∃ P : ByteArray, P.size = r ∧ ∀ W : World, (Instr.slice 9 (.string t) none (some (.int .i64 r)) none).run Try.prog W = .ok (.string P) W := by
  refine ⟨t.extract 0 r, by rw [ByteArray.size_extract]; omega, fun W => ?_⟩
  rw [run_slice_string_to_if W 9 t .i64 r Try.underlying9, if_pos (by omega)]
  rfl
theorem slice_fromD (t : ByteArray) (r : Nat) (h : r ≤ t.size) : ∃ P : ByteArray, P.size = t.size - r ∧ ∀ W : World, (Instr.slice 9 (.string t) (some (.int .i64 r)) none none).run Try.prog W = .ok (.string P) W := by
  refine ⟨t.extract r t.size, by rw [ByteArray.size_extract]; omega, fun W => ?_⟩
  rw [run_slice_string_from_if W 9 t .i64 r Try.underlying9, if_pos (by omega)]
  rfl
theorem slice_from1D (t : ByteArray) (r : Nat) (h : r < t.size) : ∃ P : ByteArray, P.size = t.size - (r + 1) ∧ ∀ W : World, (Instr.slice 9 (.string t) (some (.int .i64 ((r : Int) + 1))) none none).run Try.prog W = .ok (.string P) W := slice_fromD t (r + 1) h
/-- a text of one byte -/
def oneBD (c : UInt8) : ByteArray := ⟨#[c]⟩
theorem oneBD_size (c : UInt8) : (oneBD c).size = 1 := rfl
theorem byte_convD (w : World) (c : UInt8) : (convert 22 9 (.slice (some ⟨w.heap.size, 0, none⟩) 1 1)).run Try.prog (w.alloc (.cells #[.int .u8 (c.toNat : Int)] 5)) = .ok (.string (oneBD c)) (w.alloc (.cells #[.int .u8 (c.toNat : Int)] 5)) := by
  have hc : cellsB (oneBD c) = [.int .u8 (c.toNat : Int)] := rfl
  have h := Lib.run_convert_whole (P := Try.prog) (w.alloc (.cells [.int .u8 (c.toNat : Int)].toArray 5)) 22 5 9 Try.underlying22 Try.underlying5 Try.underlying9 w.heap.size 0 (oneBD c) (bytes_of_cells (oneBD c) (heap_alloc_new w _) (by rw [hc, oneBD_size]; rfl)) 1
  rw [oneBD_size] at h
  exact h
set_option maxRecDepth 100000 in
set_option maxHeartbeats 1600000 in
theorem spoil_D {b B : Nat} {a : Option Addr} {len cap : Nat} {w0 w : World} (h : Dr b B a len cap w0 w) (t : ByteArray) (ht : t.size ≤ 1000) :
    Calls Try.prog 40 #[.pointer (some ⟨b, 0, none⟩), .string t] w fun e w' => ∃ s : ByteArray, e = .returned (.string s) ∧ s.size ≤ t.size + 1 ∧ Dr b B a len cap w0 w' := by
  have HD : Hid _ := h
  have hcv := byte_convD
  have hbz : ∀ c : UInt8, (oneBD c).size = 1 := fun c => oneBD_size _
  clear h
  go_enter Try.func40, Try.ntmps40
  go_upto_region 2 with (go_at_call 39; refine (n_D HD.out ((t.size : Int) + 1) (by omega)).mono ?_; rintro e w1 ⟨r1, rfl, hr1, hD1, _⟩)
  have hr2 : r1 ≤ t.size := by omega
  have HD1 : Hid _ := hD1
  clear hr1 hD1
  obtain ⟨P1, z1, s1⟩ := slice_toD t r1 hr2
  obtain ⟨P2, z2, s2⟩ := slice_fromD t r1 hr2
  by_cases hq : r1 = t.size
  · have q : ((r1 : Int) == (t.size : Int)) = true := by simp; omega
    clear hq
    go_wp2_with (go_at_call 39; refine (n_D HD1.out 17 (by omega)).mono ?_; rintro e w2 ⟨r2, rfl, hr2', hD2, _⟩; have hr3 : r2 < 17 := (by omega))
    go_quiet (fail)
    go_wp2
    go_ret
    exact ⟨_, rfl, by simp only [ByteArray.size_append, hbz]; omega, (hD2.alloc _).drewN _⟩
  · have q : ((r1 : Int) == (t.size : Int)) = false := by simp; omega
    obtain ⟨P3, z3, s3⟩ := slice_from1D t r1 (by omega)
    go_wp2_with (first | (go_at_call 39; refine (n_D HD1.out 17 (by omega)).mono ?_; rintro e w2 ⟨r2, rfl, hr2', hD2, _⟩; have hr3 : r2 < 17 := (by omega)) | (go_at_call 42; first | (refine (one_D hD3 2 (by omega)).mono ?_; rintro e w4 ⟨o4, rfl, hD4, _⟩) | (refine (one_D (hD2.alloc _) 3 (by omega)).mono ?_; rintro e w3 ⟨o3, rfl, hD3, _⟩)))
    all_goals
      go_quiet (fail)
      go_wp2
      go_ret
      first | exact ⟨_, rfl, by simp only [ByteArray.size_append, hbz]; omega, hD4.drewN _⟩ | exact ⟨_, rfl, by simp only [ByteArray.size_append, hbz]; omega, hD3.drewN _⟩
theorem Only.cellO {b : Nat} {w w' : World} (h : Only b w w') {g : Nat} (hg : g ≠ b) (o : Nat) : w'.cell? ⟨g, o, none⟩ = w.cell? ⟨g, o, none⟩ := World.cell?_of_block (a := ⟨g, o, none⟩) (h.block g hg)
theorem zeros_own {w : World} {base : Nat} {e : TypeId} {v : Value} {n : Nat} (h : w.ownsRow base e 1 v n (madeCells (Value.int .u8 0).cells (n * 1)).toList) : w.ownsRow base e 1 v (List.replicate n (0 : UInt8)).length (cellsD (List.replicate n (0 : UInt8))) := by
  have e1 : cellsD (List.replicate n (0 : UInt8)) = (madeCells (Value.int .u8 0).cells (n * 1)).toList := by
    rw [Nat.mul_one, show (Value.int .u8 0).cells = #[Value.int .u8 0] from rfl, toList_madeCells_one]
    simp [cellsD]
  rw [List.length_replicate, e1]
  exact h
theorem zeros_conv {w : World} {base : Nat} {v : Value} {n : Nat} (h : w.ownsRow base 5 1 v n (madeCells (Value.int .u8 0).cells (n * 1)).toList) : ∃ Z : ByteArray, Z.size = n ∧ (convert 22 9 v).run Try.prog w = .ok (.string Z) w :=
  ⟨_, by simp [ByteArray.size], own_convD (P := Try.prog) 22 5 9 Try.underlying22 Try.underlying5 Try.underlying9 (zeros_own h)⟩
theorem below_none {w w' : World} (h : w.grownBy w' none) : Below w.heap.size w w' := ⟨h.os, h.tape, h.output, h.size, fun k hk => h.block k hk (by simp)⟩
theorem bytes_D' {b B : Nat} {a : Option Addr} {len cap : Nat} {w0 w : World} (h : Dr b B a len cap w0 w) (n : Nat) (m : Int) (hm : m = (n : Int)) (hn : n ≤ 1000000) :
    Calls Try.prog 45 #[.pointer (some ⟨b, 0, none⟩), .int .i64 m] w fun e w' => ∃ s : ByteArray, e = .returned (.string s) ∧ s.size = n ∧ Dr b B a len cap w0 w' ∧ Grb b w w' := by
  subst hm
  exact (bytes_any b B a len cap n w hn h.src h.rb h.le h.lt).mono fun e w' ⟨s, h1, h3, h4, h5⟩ => ⟨s, h1, h3, h.grown h4 h5, h5⟩
theorem Rb_blw {B : Nat} {x y : World} {a : Option Addr} {len : Nat} (h : Rb B x a len) (k : Below B x y) : Rb B y a len := by
  refine ⟨h.1, h.2.imp id ?_⟩
  rintro ⟨g, o, e, hg, hc⟩
  refine ⟨g, o, e, hg, fun i hi => ?_⟩
  obtain ⟨v, h1, h2⟩ := hc i hi
  exact ⟨v, (k.cell (p := ⟨g, o + i, none⟩) hg).trans h1, h2⟩
theorem Dr.set {b B : Nat} {a : Option Addr} {len cap : Nat} {w0 w : World} (h : Dr b B a len cap w0 w) {g : Nat} (hb : b < g) (hw : w0.heap.size ≤ g) (o : Nat) (v : Value) : Dr b B a len cap w0 (w.setCell ⟨g, o, none⟩ v) :=
  ⟨h.src.of_block (Below.heap_setCell _ _ _ _ (by show b ≠ g; omega)), Rb_blw h.rb ((Below.refl B w).setCell (by have := h.le; show B ≤ g; omega) _),
    ⟨h.grb.os, h.grb.tape, h.grb.output, by simpa [World.setCell] using h.grb.size, fun k hk hkb => (Below.heap_setCell _ _ _ _ (by show k ≠ g; omega)).trans (h.grb.block k hk hkb)⟩, by simpa [World.setCell] using h.lt, h.le⟩
theorem Dr.base {b B : Nat} {a : Option Addr} {len cap : Nat} {w0 w : World} (h : Dr b B a len cap w0 w) : Dr b B a len cap w w := ⟨h.src, h.rb, Grb.refl _ _, h.lt, h.le⟩
theorem Dr.join {b B : Nat} {a : Option Addr} {len cap : Nat} {w0 w w' : World} (h : Dr b B a len cap w0 w) (k : Dr b B a len cap w w') : Dr b B a len cap w0 w' := ⟨k.src, k.rb, h.grb.trans k.grb, k.lt, k.le⟩
end Go.Proofs.Ytfpibedloodjlaa
