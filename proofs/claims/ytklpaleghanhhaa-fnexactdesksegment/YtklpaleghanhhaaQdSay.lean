/- THE WALKS of PutText and Seal, the program's and the model's: both answer the same texts. -/
import Derived.Test.YtklpaleghanhhaaProg
import Derived.Test.YtklpaleghanhhaaQdCrc
import Derived.Test.YtklpaleghanhhaaQdKeep
import Derived.Test.YtklpaleghanhhaaQdMarksQ
import Derived.Test.YtklpaleghanhhaaQdPlainSay
import Derived.Test.YtklpaleghanhhaaQdStL
import Derived.Test.YtklpaleghanhhaaQdBox
import Derived.WalkKit
import Derived.WalkSpells
import Derived.Outline
import Derived.Below
namespace Go.Proofs.Ytklpaleghanhhaa
open Go.RowKit

def fourN (c k : Nat) : UInt8 := UInt8.ofNat (c / 2 ^ (8 * k) % 256)
def fourB (c : Nat) : ByteArray := ⟨#[fourN c 0, fourN c 1, fourN c 2, fourN c 3]⟩
theorem fourB_size (c : Nat) : (fourB c).size = 4 := rfl
theorem fourN_toNat (c k : Nat) : (fourN c k).toNat = c / 2 ^ (8 * k) % 256 := by
  unfold fourN; rw [UInt8.toNat_ofNat']; omega

theorem fourB_cells (c : Nat) (hc : c < 4294967296) : cellsB (fourB c) = [.int .u8 ((c : Int) % 256), .int .u8 ((c : Int) / 256 % 256), .int .u8 ((c : Int) / 65536 % 256), .int .u8 ((c : Int) / 16777216)] := by
  simp only [cellsB, fourB, List.map_cons, List.map_nil, fourN_toNat]
  refine congr (congrArg _ (val_int (by omega))) (congr (congrArg _ (val_int (by omega))) (congr (congrArg _ (val_int (by omega))) (congr (congrArg _ (val_int (by omega))) rfl)))
theorem fourB_at (c k : Nat) (hk : k < 4) : (cellsB (fourB c))[k]? = some (.int .u8 ((fourN c k).toNat : Int)) := by
  match k, hk with
  | 0, _ => rfl
  | 1, _ => rfl
  | 2, _ => rfl
  | 3, _ => rfl

theorem four_step {c k : Nat} {cs : List Value} (hk : k < 4) (hl : k < cs.length) (h : cs.take k = (cellsB (fourB c)).take k) : (cs.set k (.int .u8 ((c : Int) / 2 ^ (8 * k) % 256))).take (k + 1) = (cellsB (fourB c)).take (k + 1) := by
  have e : Value.int .u8 ((c : Int) / 2 ^ (8 * k) % 256) = .int .u8 ((fourN c k).toNat : Int) := val_int (by rw [fourN_toNat, Int.natCast_emod, Int.natCast_ediv, Int.natCast_pow]; rfl)
  rw [take_set _ hl, h, e, List.take_add_one, fourB_at c k hk]
  rfl
set_option maxRecDepth 100000 in
theorem four_any (c : Nat) (w : World) (hc : c < 4294967296) :
    Calls Try.prog 107 #[.int .i64 c] w fun e w' => e = .returned (.string (fourB c)) ∧ Below w.heap.size w w' := by
  have hcv := Lib.run_convert_whole (P := Try.prog) (w.alloc (.cells (cellsB (fourB c)).toArray 5)) 155 5 9 Try.underlying155 Try.underlying5 Try.underlying9 w.heap.size 0 (fourB c) (bytes_of_cells (fourB c) (heap_alloc_new w _) (by rw [fourB_size]; rfl)) 4
  rw [fourB_size, fourB_cells c hc] at hcv
  go_enter Try.func107, Try.ntmps107
  go_wp2
  go_ret
  exact ⟨rfl, (Below.refl _ _).alloc (Nat.le_refl _) _⟩
theorem slice4 (w : World) (g : Nat) : (Instr.sliceAt 184 (.pointer (some ⟨g, 0, none⟩)) none none none).run Try.prog w = .ok (.slice (some ⟨g, 0, none⟩) 4 4) w := by
  have e1 : Try.prog.arrayLen 184 = 4 := by kernel_rfl
  have e2 : Try.prog.elem 184 = 5 := by kernel_rfl
  have e0 : Try.prog.underlying 184 = some (.array 4 5) := by kernel_rfl
  have h := run_sliceAt_array_all (P := Try.prog) w 184 ⟨g, 0, none⟩ (by rw [e1, e2]; exact e0)
  rw [h, e1, e2]
  have e3 : (Go.sizeOf 5).run Try.prog w = .ok 1 w := by kernel_rfl
  rw [e3]
  simp [Result.andThen, slicedAt, Addr.add]

set_option maxRecDepth 100000 in
set_option maxHeartbeats 800000 in
theorem crcText_any (c : Nat) (w : World) (_hc : c < 4294967296) :
    Calls Try.prog 128 #[.int .i64 c] w fun e w' => e = .returned (.string (fourB c)) ∧ Below w.heap.size w w' := by
  go_enter Try.func128, Try.ntmps128
  go_wp2
  go_loopw [5] (fun i wr => ∃ (k : Nat) (cs : List Value), i = .int .i64 k ∧ k ≤ 4 ∧ Hid (wr.heap[w.heap.size]? = some (.cells cs.toArray 184 (0, 0))) ∧ cs.length = 4 ∧ Hid (cs.take k = (cellsB (fourB c)).take k) ∧ Below w.heap.size w wr)
    (fun i _ => 4 - (intOf i).toNat)
  case atStart => exact ⟨0, List.replicate 4 (.int .u8 0), rfl, by omega, heap_alloc_new w _, rfl, rfl, (Below.refl _ _).alloc (Nat.le_refl _) _⟩
  case round =>
    obtain ⟨k, cs, rfl, hk, HG, hcs, HT, hbel⟩ := hrel
    by_cases hlt : k < 4
    · obtain ⟨hcl, hf⟩ := cell_at HG.out (show k < cs.length by omega)
      go_wp2
      go_roundw
      case rel => exact ⟨k + 1, cs.set k (.int .u8 ((c : Int) / 2 ^ (8 * k) % 256)), by go_num, by omega, set_at _ _ HG.out, by simpa using hcs, four_step hlt (by omega) HT.out, hbel.setCell (Nat.le_refl _) _⟩
      case measure => simp [intOf]; omega
    · have e4 : k = 4 := by omega
      subst e4
      have hsl := fun wx => slice4 wx w.heap.size
      have hcv := Lib.run_convert_whole (P := Try.prog) wr 155 5 9 Try.underlying155 Try.underlying5 Try.underlying9 w.heap.size 0 (fourB c) (bytes_of_cells (fourB c) HG.out (by rw [fourB_size, HT.out]; rfl)) 4
      rw [fourB_size] at hcv
      go_wp2
      go_ret
      exact ⟨rfl, hbel⟩

def putT (s : ByteArray) : ByteArray := if 8000 < s.size then ByteArray.empty else putB s.size ++ s
def sealB (s : ByteArray) : ByteArray := if 7996 < s.size then ByteArray.empty else s ++ fourB (crcM 0 s).toNat
theorem crcM_lt (s : ByteArray) : (crcM 0 s).toNat < 4294967296 := by
  unfold crcM
  split
  · decide
  · have := xor_lt32 (crcL_lt s.data.toList (show (0 : Int).toNat ^^^ 4294967295 < 4294967296 by decide)) (show 4294967295 < 4294967296 by decide)
    omega
theorem crcM_nat (s : ByteArray) : crcM 0 s = ((crcM 0 s).toNat : Int) := by
  unfold crcM
  split
  · rfl
  · omega
theorem putB_le (n : Int) (h : (Lit.int .i64 n).wf = true) : (putB n).size ≤ 10 := by rw [putB_size]; exact putU_len10 (foldN_lt h)
theorem wf_size {s : ByteArray} (h : s.size ≤ 9223372036854775807) : (Lit.int .i64 (s.size : Int)).wf = true := by
  simp [Lit.wf, IntKind.min, IntKind.max, IntKind.signed, IntKind.bits]; omega

set_option maxRecDepth 100000 in
theorem putText_any (s : ByteArray) (w : World) (hs : s.size ≤ maxLen) :
    Calls Try.prog 113 #[.string s] w fun e w' => e = .returned (.string (putT s)) ∧ Below w.heap.size w w' := by
  unfold maxLen at hs
  unfold putT
  by_cases h1 : 8000 < s.size
  · rw [if_pos h1]
    go_enter Try.func113, Try.ntmps113
    go_wp2
    go_ret
    exact ⟨rfl, Below.refl _ _⟩
  · rw [if_neg h1]
    have hwf := wf_size hs
    have hpl := putB_le _ hwf
    go_enter Try.func113, Try.ntmps113
    go_wp2_with (first | (go_at_call 112; refine (putNum_any _ _ hwf).mono ?_; rintro e w1 ⟨rfl, hb1⟩) | (go_at_call 111; refine (join_two _ s _ (by omega) (by omega)).mono ?_; rintro e w2 ⟨rfl, hb2⟩))
    go_ret
    exact ⟨rfl, hb1.trans (hb2.mono hb1.size)⟩
set_option maxRecDepth 100000 in
theorem specPutText_any (s : ByteArray) (w : World) (hs : s.size ≤ maxLen) :
    Calls Try.prog 73 #[.string s] w fun e w' => e = .returned (.string (putT s)) ∧ Below w.heap.size w w' := by
  unfold maxLen at hs
  unfold putT
  by_cases h1 : 8000 < s.size
  · rw [if_pos h1]
    go_enter Try.func73, Try.ntmps73
    go_wp2
    go_ret
    exact ⟨rfl, Below.refl _ _⟩
  · rw [if_neg h1]
    have hwf := wf_size hs
    have hpl := putB_le _ hwf
    go_enter Try.func73, Try.ntmps73
    go_wp2_with (go_at_call 72; refine (specPutNum_any _ _ hwf).mono ?_; rintro e w1 ⟨rfl, hb1⟩)
    go_ret
    exact ⟨rfl, hb1⟩
set_option maxRecDepth 100000 in
theorem seal_any (s : ByteArray) (w : World) (hs : s.size ≤ maxLen) :
    Calls Try.prog 110 #[.string s] w fun e w' => e = .returned (.string (sealB s)) ∧ Below w.heap.size w w' := by
  have hs' := hs
  unfold maxLen at hs
  unfold sealB
  by_cases h1 : 7996 < s.size
  · rw [if_pos h1]
    go_enter Try.func110, Try.ntmps110
    go_wp2
    go_ret
    exact ⟨rfl, Below.refl _ _⟩
  · rw [if_neg h1]
    have hc := crcM_lt s
    have hz := fourB_size (crcM 0 s).toNat
    have hcr : Hid (∀ w : World, Calls Try.prog 129 #[.string s] w fun e w' => e = .returned (.int .i64 ((crcM 0 s).toNat : Int)) ∧ w = w') := by
      intro w; rw [← crcM_nat]; exact (crc_any s w hs').mono fun e w' h => ⟨h.1, h.2.symm⟩
    generalize (crcM 0 s).toNat = C at hc hz hcr
    go_enter Try.func110, Try.ntmps110
    go_wp2_with (first | (go_at_call 129; refine (hcr.out _).mono ?_; rintro e w0 ⟨rfl, rfl⟩) | (go_at_call 128; refine (crcText_any C _ hc).mono ?_; rintro e w1 ⟨rfl, hb1⟩) | (go_at_call 111; refine (join_two s (fourB C) _ (by omega) (by rw [fourB_size]; omega)).mono ?_; rintro e w2 ⟨rfl, hb2⟩))
    go_ret
    exact ⟨rfl, hb1.trans (hb2.mono hb1.size)⟩
set_option maxRecDepth 100000 in
theorem specSeal_any (s : ByteArray) (w : World) (hs : s.size ≤ maxLen) :
    Calls Try.prog 71 #[.string s] w fun e w' => e = .returned (.string (sealB s)) ∧ Below w.heap.size w w' := by
  have hs' := hs
  unfold maxLen at hs
  unfold sealB
  by_cases h1 : 7996 < s.size
  · rw [if_pos h1]
    go_enter Try.func71, Try.ntmps71
    go_wp2
    go_ret
    exact ⟨rfl, Below.refl _ _⟩
  · rw [if_neg h1]
    have hc := crcM_lt s
    have hz := fourB_size (crcM 0 s).toNat
    have hcr : Hid (∀ w : World, Calls Try.prog 108 #[.int .i64 0, .string s] w fun e w' => e = .returned (.int .i64 ((crcM 0 s).toNat : Int)) ∧ w = w') := by
      intro w; rw [← crcM_nat]; unfold crcM; rw [if_neg (by omega)]; exact (l01Crc_any 0 s w (by omega) hs').mono fun e w' h => ⟨h.1, h.2.symm⟩
    generalize (crcM 0 s).toNat = C at hc hz hcr
    go_enter Try.func71, Try.ntmps71
    go_wp2_with (first | (go_at_call 108; refine (hcr.out _).mono ?_; rintro e w0 ⟨rfl, rfl⟩) | (go_at_call 107; refine (four_any C _ hc).mono ?_; rintro e w1 ⟨rfl, hb1⟩))
    go_ret
    exact ⟨rfl, hb1⟩
end Go.Proofs.Ytklpaleghanhhaa
/- THE WALKS of what a wire is, and whether it is right: the program's, the model's and the law's own. -/
namespace Go.Proofs.Ytklpaleghanhhaa
open Go.RowKit
set_option linter.unusedVariables false
set_option linter.unusedSimpArgs false

def rightB (i e d : Bool) (b : ByteArray) : Bool := if !i || d then decide (b.size = 0) && (i || !e && !d) else decide (b.size ≤ 62)
theorem empty_iff (b : ByteArray) : (b.toList == ([] : List UInt8)) = decide (b.size = 0) := by
  rw [Lib.toList_data, Bool.eq_iff_iff]
  have : b.data.toList.length = b.size := by rw [Array.length_toList]; rfl
  simp only [beq_iff_eq, decide_eq_true_eq]
  constructor
  · intro h; rw [h] at this; exact this.symm
  · intro h; exact List.eq_nil_of_length_eq_zero (by omega)
end Go.Proofs.Ytklpaleghanhhaa
/- THE WALKS of what is said: right, and its bytes: the program's and the model's. -/
namespace Go.Proofs.Ytklpaleghanhhaa
open Go.RowKit
set_option linter.unusedVariables false
set_option linter.unusedSimpArgs false

theorem all_word_no {zs : List Int} {k : Nat} (h : k < zs.length) (hk : wordB zs[k] = false) : zs.all wordB = false := by
  rw [Bool.eq_false_iff]
  intro h1
  rw [List.all_eq_true] at h1
  have := h1 _ (List.getElem_mem h)
  rw [hk] at this
  cases this
theorem all_word_take {zs : List Int} {k : Nat} (h : k < zs.length) (h1 : (zs.take k).all wordB = true) (hk : wordB zs[k] = true) : (zs.take (k + 1)).all wordB = true := by
  rw [List.take_succ_eq_append_getElem h, List.all_append, h1]
  simp [hk]
theorem joinT_data (ss : List ByteArray) : (joinT ss).data.toList = ss.flatMap (·.data.toList) := by
  have key : ∀ (l : List ByteArray) (a : ByteArray), (l.foldl (· ++ ·) a).data.toList = a.data.toList ++ l.flatMap (·.data.toList) := by
    intro l
    induction l with
    | nil => intro a; simp
    | cons b l ih => intro a; rw [List.foldl_cons, ih]; simp [ByteArray.data_append]
  have := key ss ByteArray.empty
  simpa [joinT] using this
theorem bytes_ext {a b : ByteArray} (h : a.data.toList = b.data.toList) : a = b := ByteArray.ext (Array.ext' h)
theorem joinT_nums (zs : List Int) : joinT (zs.map putB) = numsB zs := by
  apply bytes_ext
  rw [joinT_data]
  simp [numsB, numsL, List.flatMap_map, putB_list]
theorem infoS : (Try.prog.info? 9).map (fun i => (i.zero, i.size, i.bytes)) = some (some (.string ByteArray.empty), 1, 16) := by kernel_rfl
def cellsN (zs : List Int) (k : Nat) : List Value := (zs.take k).map (fun n => Value.string (putB n)) ++ List.replicate (zs.length - k) (.string ByteArray.empty)
theorem cellsN_length (zs : List Int) (k : Nat) (h : k ≤ zs.length) : (cellsN zs k).length = zs.length := by
  simp [cellsN]; omega
theorem cellsN_zero (zs : List Int) : cellsN zs 0 = List.replicate zs.length (.string ByteArray.empty) := by simp [cellsN]
theorem cellsN_step (zs : List Int) (k : Nat) (h : k < zs.length) : (cellsN zs k).set k (.string (putB zs[k])) = cellsN zs (k + 1) := by
  unfold cellsN
  rw [List.take_succ_eq_append_getElem h, List.map_append, List.set_append_right _ _ (by simp; omega)]
  rw [show zs.length - k = (zs.length - (k + 1)) + 1 by omega, List.replicate_succ]
  simp [Nat.min_eq_left (Nat.le_of_lt h)]
theorem cellsN_all (zs : List Int) : cellsN zs zs.length = (zs.map putB).map Value.string := by simp [cellsN]
end Go.Proofs.Ytklpaleghanhhaa
