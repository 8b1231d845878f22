/- THE WALKS of PutText and Seal, the program's and the model's: both answer the same texts. -/
import Derived.Test.YtineecongiplgaaProg
import Derived.Test.YtineecongiplgaaCrc
import Derived.Test.YtineecongiplgaaNum
import Derived.Test.YtineecongiplgaaJoin2
import Derived.WalkKit
import Derived.WalkSpells
import Derived.Outline
namespace Go.Proofs.Ytineecongiplgaa
open Go.RowKit

def fourN (c k : Nat) : UInt8 := UInt8.ofNat (c / 2 ^ (8 * k) % 256)
def fourB (c : Nat) : ByteArray := ⟨#[fourN c 0, fourN c 1, fourN c 2, fourN c 3]⟩
theorem fourB_size (c : Nat) : (fourB c).size = 4 := rfl
theorem fourN_toNat (c k : Nat) : (fourN c k).toNat = c / 2 ^ (8 * k) % 256 := by
  unfold fourN; rw [UInt8.toNat_ofNat']; omega

theorem fourB_cells (c : Nat) (hc : c < 4294967296) : cellsB (fourB c) = [.int .u8 ((c : Int) % 256), .int .u8 ((c : Int) / 256 % 256), .int .u8 ((c : Int) / 65536 % 256), .int .u8 ((c : Int) / 16777216)] := by
  simp only [cellsB, fourB, List.map_cons, List.map_nil, fourN_toNat]
  refine congr (congrArg _ (val_int (by omega))) (congr (congrArg _ (val_int (by omega))) (congr (congrArg _ (val_int (by omega))) (congr (congrArg _ (val_int (by omega))) rfl)))
theorem fourB_at (c k : Nat) (hk : k < 4) : (cellsB (fourB c))[k]? = some (.int .u8 ((fourN c k).toNat : Int)) := by
  match k, hk with
  | 0, _ => rfl
  | 1, _ => rfl
  | 2, _ => rfl
  | 3, _ => rfl

theorem four_step {c k : Nat} {cs : List Value} (hk : k < 4) (hl : k < cs.length) (h : cs.take k = (cellsB (fourB c)).take k) : (cs.set k (.int .u8 ((c : Int) / 2 ^ (8 * k) % 256))).take (k + 1) = (cellsB (fourB c)).take (k + 1) := by
  have e : Value.int .u8 ((c : Int) / 2 ^ (8 * k) % 256) = .int .u8 ((fourN c k).toNat : Int) := val_int (by rw [fourN_toNat, Int.natCast_emod, Int.natCast_ediv, Int.natCast_pow]; rfl)
  rw [take_set _ hl, h, e, List.take_add_one, fourB_at c k hk]
  rfl
set_option maxRecDepth 100000 in
theorem four_any (c : Nat) (w : World) (hc : c < 4294967296) :
    Calls Try.prog 105 #[.int .i64 c] w fun e w' => e = .returned (.string (fourB c)) ∧ Below w.heap.size w w' := by
  have hcv := Lib.run_convert_whole (P := Try.prog) (w.alloc (.cells (cellsB (fourB c)).toArray 5)) 22 5 9 Try.underlying22 Try.underlying5 Try.underlying9 w.heap.size 0 (fourB c) (bytes_of_cells (fourB c) (heap_alloc_new w _) (by rw [fourB_size]; rfl)) 4
  rw [fourB_size, fourB_cells c hc] at hcv
  go_enter Try.func105, Try.ntmps105
  go_wp2
  go_ret
  exact ⟨rfl, (Below.refl _ _).alloc (Nat.le_refl _) _⟩
theorem slice4 (w : World) (g : Nat) : (Instr.sliceAt 141 (.pointer (some ⟨g, 0, none⟩)) none none none).run Try.prog w = .ok (.slice (some ⟨g, 0, none⟩) 4 4) w := by
  have e1 : Try.prog.arrayLen 141 = 4 := by kernel_rfl
  have e2 : Try.prog.elem 141 = 5 := by kernel_rfl
  have e0 : Try.prog.underlying 141 = some (.array 4 5) := by kernel_rfl
  have h := run_sliceAt_array_all (P := Try.prog) w 141 ⟨g, 0, none⟩ (by rw [e1, e2]; exact e0)
  rw [h, e1, e2]
  have e3 : (Go.sizeOf 5).run Try.prog w = .ok 1 w := by kernel_rfl
  rw [e3]
  simp [Result.andThen, slicedAt, Addr.add]

set_option maxRecDepth 100000 in
set_option maxHeartbeats 800000 in
theorem crcText_any (c : Nat) (w : World) (_hc : c < 4294967296) :
    Calls Try.prog 100 #[.int .i64 c] w fun e w' => e = .returned (.string (fourB c)) ∧ Below w.heap.size w w' := by
  go_enter Try.func100, Try.ntmps100
  go_wp2
  go_loopw [5] (fun i wr => ∃ (k : Nat) (cs : List Value), i = .int .i64 k ∧ k ≤ 4 ∧ Hid (wr.heap[w.heap.size]? = some (.cells cs.toArray 141 (0, 0))) ∧ cs.length = 4 ∧ Hid (cs.take k = (cellsB (fourB c)).take k) ∧ Below w.heap.size w wr)
    (fun i _ => 4 - (intOf i).toNat)
  case atStart => exact ⟨0, List.replicate 4 (.int .u8 0), rfl, by omega, heap_alloc_new w _, rfl, rfl, (Below.refl _ _).alloc (Nat.le_refl _) _⟩
  case round =>
    obtain ⟨k, cs, rfl, hk, HG, hcs, HT, hbel⟩ := hrel
    by_cases hlt : k < 4
    · obtain ⟨hcl, hf⟩ := cell_at HG.out (show k < cs.length by omega)
      go_wp2
      go_roundw
      case rel => exact ⟨k + 1, cs.set k (.int .u8 ((c : Int) / 2 ^ (8 * k) % 256)), by go_num, by omega, set_at _ _ HG.out, by simpa using hcs, four_step hlt (by omega) HT.out, hbel.setCell (Nat.le_refl _) _⟩
      case measure => simp [intOf]; omega
    · have e4 : k = 4 := by omega
      subst e4
      have hsl := fun wx => slice4 wx w.heap.size
      have hcv := Lib.run_convert_whole (P := Try.prog) wr 22 5 9 Try.underlying22 Try.underlying5 Try.underlying9 w.heap.size 0 (fourB c) (bytes_of_cells (fourB c) HG.out (by rw [fourB_size, HT.out]; rfl)) 4
      rw [fourB_size] at hcv
      go_wp2
      go_ret
      exact ⟨rfl, hbel⟩

def putT (s : ByteArray) : ByteArray := if 8000 < s.size then ByteArray.empty else putB s.size ++ s
def sealB (s : ByteArray) : ByteArray := if 7996 < s.size then ByteArray.empty else s ++ fourB (crcM 0 s).toNat
theorem crcM_lt (s : ByteArray) : (crcM 0 s).toNat < 4294967296 := by
  unfold crcM
  split
  · decide
  · have := xor_lt32 (crcL_lt s.data.toList (show (0 : Int).toNat ^^^ 4294967295 < 4294967296 by decide)) (show 4294967295 < 4294967296 by decide)
    omega
theorem crcM_nat (s : ByteArray) : crcM 0 s = ((crcM 0 s).toNat : Int) := by
  unfold crcM
  split
  · rfl
  · omega
theorem putB_le (n : Int) (h : (Lit.int .i64 n).wf = true) : (putB n).size ≤ 10 := by rw [putB_size]; exact putU_len10 (foldN_lt h)
theorem wf_size {s : ByteArray} (h : s.size ≤ 9223372036854775807) : (Lit.int .i64 (s.size : Int)).wf = true := by
  simp [Lit.wf, IntKind.min, IntKind.max, IntKind.signed, IntKind.bits]; omega

set_option maxRecDepth 100000 in
theorem putText_any (s : ByteArray) (w : World) (hs : s.size ≤ maxLen) :
    Calls Try.prog 83 #[.string s] w fun e w' => e = .returned (.string (putT s)) ∧ Below w.heap.size w w' := by
  unfold maxLen at hs
  unfold putT
  by_cases h1 : 8000 < s.size
  · rw [if_pos h1]
    go_enter Try.func83, Try.ntmps83
    go_wp2
    go_ret
    exact ⟨rfl, Below.refl _ _⟩
  · rw [if_neg h1]
    have hwf := wf_size hs
    have hpl := putB_le _ hwf
    go_enter Try.func83, Try.ntmps83
    go_wp2_with (first | (go_at_call 82; refine (putNum_any _ _ hwf).mono ?_; rintro e w1 ⟨rfl, hb1⟩) | (go_at_call 81; refine (join_two _ s _ (by omega) (by omega)).mono ?_; rintro e w2 ⟨rfl, hb2⟩))
    go_ret
    exact ⟨rfl, hb1.trans (hb2.mono hb1.size)⟩
set_option maxRecDepth 100000 in
theorem specPutText_any (s : ByteArray) (w : World) (hs : s.size ≤ maxLen) :
    Calls Try.prog 99 #[.string s] w fun e w' => e = .returned (.string (putT s)) ∧ Below w.heap.size w w' := by
  unfold maxLen at hs
  unfold putT
  by_cases h1 : 8000 < s.size
  · rw [if_pos h1]
    go_enter Try.func99, Try.ntmps99
    go_wp2
    go_ret
    exact ⟨rfl, Below.refl _ _⟩
  · rw [if_neg h1]
    have hwf := wf_size hs
    have hpl := putB_le _ hwf
    go_enter Try.func99, Try.ntmps99
    go_wp2_with (go_at_call 98; refine (specPutNum_any _ _ hwf).mono ?_; rintro e w1 ⟨rfl, hb1⟩)
    go_ret
    exact ⟨rfl, hb1⟩
set_option maxRecDepth 100000 in
theorem seal_any (s : ByteArray) (w : World) (hs : s.size ≤ maxLen) :
    Calls Try.prog 80 #[.string s] w fun e w' => e = .returned (.string (sealB s)) ∧ Below w.heap.size w w' := by
  have hs' := hs
  unfold maxLen at hs
  unfold sealB
  by_cases h1 : 7996 < s.size
  · rw [if_pos h1]
    go_enter Try.func80, Try.ntmps80
    go_wp2
    go_ret
    exact ⟨rfl, Below.refl _ _⟩
  · rw [if_neg h1]
    have hc := crcM_lt s
    have hz := fourB_size (crcM 0 s).toNat
    have hcr : Hid (∀ w : World, Calls Try.prog 101 #[.string s] w fun e w' => e = .returned (.int .i64 ((crcM 0 s).toNat : Int)) ∧ w = w') := by
      intro w; rw [← crcM_nat]; exact (crc_any s w hs').mono fun e w' h => ⟨h.1, h.2.symm⟩
    generalize (crcM 0 s).toNat = C at hc hz hcr
    go_enter Try.func80, Try.ntmps80
    go_wp2_with (first | (go_at_call 101; refine (hcr.out _).mono ?_; rintro e w0 ⟨rfl, rfl⟩) | (go_at_call 100; refine (crcText_any C _ hc).mono ?_; rintro e w1 ⟨rfl, hb1⟩) | (go_at_call 81; refine (join_two s (fourB C) _ (by omega) (by rw [fourB_size]; omega)).mono ?_; rintro e w2 ⟨rfl, hb2⟩))
    go_ret
    exact ⟨rfl, hb1.trans (hb2.mono hb1.size)⟩
set_option maxRecDepth 100000 in
theorem specSeal_any (s : ByteArray) (w : World) (hs : s.size ≤ maxLen) :
    Calls Try.prog 97 #[.string s] w fun e w' => e = .returned (.string (sealB s)) ∧ Below w.heap.size w w' := by
  have hs' := hs
  unfold maxLen at hs
  unfold sealB
  by_cases h1 : 7996 < s.size
  · rw [if_pos h1]
    go_enter Try.func97, Try.ntmps97
    go_wp2
    go_ret
    exact ⟨rfl, Below.refl _ _⟩
  · rw [if_neg h1]
    have hc := crcM_lt s
    have hz := fourB_size (crcM 0 s).toNat
    have hcr : Hid (∀ w : World, Calls Try.prog 106 #[.int .i64 0, .string s] w fun e w' => e = .returned (.int .i64 ((crcM 0 s).toNat : Int)) ∧ w = w') := by
      intro w; rw [← crcM_nat]; unfold crcM; rw [if_neg (by omega)]; exact (l01Crc_any 0 s w (by omega) hs').mono fun e w' h => ⟨h.1, h.2.symm⟩
    generalize (crcM 0 s).toNat = C at hc hz hcr
    go_enter Try.func97, Try.ntmps97
    go_wp2_with (first | (go_at_call 106; refine (hcr.out _).mono ?_; rintro e w0 ⟨rfl, rfl⟩) | (go_at_call 105; refine (four_any C _ hc).mono ?_; rintro e w1 ⟨rfl, hb1⟩))
    go_ret
    exact ⟨rfl, hb1⟩
end Go.Proofs.Ytineecongiplgaa
