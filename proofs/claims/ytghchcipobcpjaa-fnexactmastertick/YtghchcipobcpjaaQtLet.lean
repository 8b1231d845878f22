/- THE WALKS of PutText and Seal, the program's and the model's: both answer the same texts. -/
import Derived.Test.YtghchcipobcpjaaProg
import Derived.Test.YtghchcipobcpjaaQtNum
import Derived.Test.YtghchcipobcpjaaQtJoin2
import Derived.Test.YtghchcipobcpjaaQtInts
import Derived.Test.YtghchcipobcpjaaQtPlainGet
import Derived.WalkKit
import Derived.WalkSpells
import Derived.Outline
import Derived.Below
namespace Go.Proofs.Ytghchcipobcpjaa
open Go.RowKit

def fourN (c k : Nat) : UInt8 := UInt8.ofNat (c / 2 ^ (8 * k) % 256)
def fourB (c : Nat) : ByteArray := ⟨#[fourN c 0, fourN c 1, fourN c 2, fourN c 3]⟩
theorem fourB_size (c : Nat) : (fourB c).size = 4 := rfl
theorem fourN_toNat (c k : Nat) : (fourN c k).toNat = c / 2 ^ (8 * k) % 256 := by
  unfold fourN; rw [UInt8.toNat_ofNat']; omega

theorem fourB_cells (c : Nat) (hc : c < 4294967296) : cellsB (fourB c) = [.int .u8 ((c : Int) % 256), .int .u8 ((c : Int) / 256 % 256), .int .u8 ((c : Int) / 65536 % 256), .int .u8 ((c : Int) / 16777216)] := by
  simp only [cellsB, fourB, List.map_cons, List.map_nil, fourN_toNat]
  refine congr (congrArg _ (val_int (by omega))) (congr (congrArg _ (val_int (by omega))) (congr (congrArg _ (val_int (by omega))) (congr (congrArg _ (val_int (by omega))) rfl)))
theorem fourB_at (c k : Nat) (hk : k < 4) : (cellsB (fourB c))[k]? = some (.int .u8 ((fourN c k).toNat : Int)) := by
  match k, hk with
  | 0, _ => rfl
  | 1, _ => rfl
  | 2, _ => rfl
  | 3, _ => rfl

theorem four_step {c k : Nat} {cs : List Value} (hk : k < 4) (hl : k < cs.length) (h : cs.take k = (cellsB (fourB c)).take k) : (cs.set k (.int .u8 ((c : Int) / 2 ^ (8 * k) % 256))).take (k + 1) = (cellsB (fourB c)).take (k + 1) := by
  have e : Value.int .u8 ((c : Int) / 2 ^ (8 * k) % 256) = .int .u8 ((fourN c k).toNat : Int) := val_int (by rw [fourN_toNat, Int.natCast_emod, Int.natCast_ediv, Int.natCast_pow]; rfl)
  rw [take_set _ hl, h, e, List.take_add_one, fourB_at c k hk]
  rfl
set_option maxRecDepth 100000 in
theorem four_any (c : Nat) (w : World) (hc : c < 4294967296) :
    Calls Try.prog 64 #[.int .i64 c] w fun e w' => e = .returned (.string (fourB c)) ∧ Below w.heap.size w w' := by
  have hcv := Lib.run_convert_whole (P := Try.prog) (w.alloc (.cells (cellsB (fourB c)).toArray 5)) 96 5 9 Try.underlying96 Try.underlying5 Try.underlying9 w.heap.size 0 (fourB c) (bytes_of_cells (fourB c) (heap_alloc_new w _) (by rw [fourB_size]; rfl)) 4
  rw [fourB_size, fourB_cells c hc] at hcv
  go_enter Try.func64, Try.ntmps64
  go_wp2
  go_ret
  exact ⟨rfl, (Below.refl _ _).alloc (Nat.le_refl _) _⟩
theorem slice4 (w : World) (g : Nat) : (Instr.sliceAt 109 (.pointer (some ⟨g, 0, none⟩)) none none none).run Try.prog w = .ok (.slice (some ⟨g, 0, none⟩) 4 4) w := by
  have e1 : Try.prog.arrayLen 109 = 4 := by kernel_rfl
  have e2 : Try.prog.elem 109 = 5 := by kernel_rfl
  have e0 : Try.prog.underlying 109 = some (.array 4 5) := by kernel_rfl
  have h := run_sliceAt_array_all (P := Try.prog) w 109 ⟨g, 0, none⟩ (by rw [e1, e2]; exact e0)
  rw [h, e1, e2]
  have e3 : (Go.sizeOf 5).run Try.prog w = .ok 1 w := by kernel_rfl
  rw [e3]
  simp [Result.andThen, slicedAt, Addr.add]

set_option maxRecDepth 100000 in
set_option maxHeartbeats 800000 in
theorem crcText_any (c : Nat) (w : World) (_hc : c < 4294967296) :
    Calls Try.prog 76 #[.int .i64 c] w fun e w' => e = .returned (.string (fourB c)) ∧ Below w.heap.size w w' := by
  go_enter Try.func76, Try.ntmps76
  go_wp2
  go_loopw [5] (fun i wr => ∃ (k : Nat) (cs : List Value), i = .int .i64 k ∧ k ≤ 4 ∧ Hid (wr.heap[w.heap.size]? = some (.cells cs.toArray 109 (0, 0))) ∧ cs.length = 4 ∧ Hid (cs.take k = (cellsB (fourB c)).take k) ∧ Below w.heap.size w wr)
    (fun i _ => 4 - (intOf i).toNat)
  case atStart => exact ⟨0, List.replicate 4 (.int .u8 0), rfl, by omega, heap_alloc_new w _, rfl, rfl, (Below.refl _ _).alloc (Nat.le_refl _) _⟩
  case round =>
    obtain ⟨k, cs, rfl, hk, HG, hcs, HT, hbel⟩ := hrel
    by_cases hlt : k < 4
    · obtain ⟨hcl, hf⟩ := cell_at HG.out (show k < cs.length by omega)
      go_wp2
      go_roundw
      case rel => exact ⟨k + 1, cs.set k (.int .u8 ((c : Int) / 2 ^ (8 * k) % 256)), by go_num, by omega, set_at _ _ HG.out, by simpa using hcs, four_step hlt (by omega) HT.out, hbel.setCell (Nat.le_refl _) _⟩
      case measure => simp [intOf]; omega
    · have e4 : k = 4 := by omega
      subst e4
      have hsl := fun wx => slice4 wx w.heap.size
      have hcv := Lib.run_convert_whole (P := Try.prog) wr 96 5 9 Try.underlying96 Try.underlying5 Try.underlying9 w.heap.size 0 (fourB c) (bytes_of_cells (fourB c) HG.out (by rw [fourB_size, HT.out]; rfl)) 4
      rw [fourB_size] at hcv
      go_wp2
      go_ret
      exact ⟨rfl, hbel⟩

def putT (s : ByteArray) : ByteArray := if 8000 < s.size then ByteArray.empty else putB s.size ++ s
def sealB (s : ByteArray) : ByteArray := if 7996 < s.size then ByteArray.empty else s ++ fourB (crcM 0 s).toNat
theorem crcM_lt (s : ByteArray) : (crcM 0 s).toNat < 4294967296 := by
  unfold crcM
  split
  · decide
  · have := xor_lt32 (crcL_lt s.data.toList (show (0 : Int).toNat ^^^ 4294967295 < 4294967296 by decide)) (show 4294967295 < 4294967296 by decide)
    omega
theorem crcM_nat (s : ByteArray) : crcM 0 s = ((crcM 0 s).toNat : Int) := by
  unfold crcM
  split
  · rfl
  · omega
theorem putB_le (n : Int) (h : (Lit.int .i64 n).wf = true) : (putB n).size ≤ 10 := by rw [putB_size]; exact putU_len10 (foldN_lt h)
theorem wf_size {s : ByteArray} (h : s.size ≤ 9223372036854775807) : (Lit.int .i64 (s.size : Int)).wf = true := by
  simp [Lit.wf, IntKind.min, IntKind.max, IntKind.signed, IntKind.bits]; omega

set_option maxRecDepth 100000 in
theorem putText_any (s : ByteArray) (w : World) (hs : s.size ≤ maxLen) :
    Calls Try.prog 71 #[.string s] w fun e w' => e = .returned (.string (putT s)) ∧ Below w.heap.size w w' := by
  unfold maxLen at hs
  unfold putT
  by_cases h1 : 8000 < s.size
  · rw [if_pos h1]
    go_enter Try.func71, Try.ntmps71
    go_wp2
    go_ret
    exact ⟨rfl, Below.refl _ _⟩
  · rw [if_neg h1]
    have hwf := wf_size hs
    have hpl := putB_le _ hwf
    go_enter Try.func71, Try.ntmps71
    go_wp2_with (first | (go_at_call 70; refine (putNum_any _ _ hwf).mono ?_; rintro e w1 ⟨rfl, hb1⟩) | (go_at_call 69; refine (join_two _ s _ (by omega) (by omega)).mono ?_; rintro e w2 ⟨rfl, hb2⟩))
    go_ret
    exact ⟨rfl, hb1.trans (hb2.mono hb1.size)⟩
set_option maxRecDepth 100000 in
theorem specPutText_any (s : ByteArray) (w : World) (hs : s.size ≤ maxLen) :
    Calls Try.prog 49 #[.string s] w fun e w' => e = .returned (.string (putT s)) ∧ Below w.heap.size w w' := by
  unfold maxLen at hs
  unfold putT
  by_cases h1 : 8000 < s.size
  · rw [if_pos h1]
    go_enter Try.func49, Try.ntmps49
    go_wp2
    go_ret
    exact ⟨rfl, Below.refl _ _⟩
  · rw [if_neg h1]
    have hwf := wf_size hs
    have hpl := putB_le _ hwf
    go_enter Try.func49, Try.ntmps49
    go_wp2_with (go_at_call 48; refine (specPutNum_any _ _ hwf).mono ?_; rintro e w1 ⟨rfl, hb1⟩)
    go_ret
    exact ⟨rfl, hb1⟩
set_option maxRecDepth 100000 in
theorem seal_any (s : ByteArray) (w : World) (hs : s.size ≤ maxLen) :
    Calls Try.prog 68 #[.string s] w fun e w' => e = .returned (.string (sealB s)) ∧ Below w.heap.size w w' := by
  have hs' := hs
  unfold maxLen at hs
  unfold sealB
  by_cases h1 : 7996 < s.size
  · rw [if_pos h1]
    go_enter Try.func68, Try.ntmps68
    go_wp2
    go_ret
    exact ⟨rfl, Below.refl _ _⟩
  · rw [if_neg h1]
    have hc := crcM_lt s
    have hz := fourB_size (crcM 0 s).toNat
    have hcr : Hid (∀ w : World, Calls Try.prog 77 #[.string s] w fun e w' => e = .returned (.int .i64 ((crcM 0 s).toNat : Int)) ∧ w = w') := by
      intro w; rw [← crcM_nat]; exact (crc_any s w hs').mono fun e w' h => ⟨h.1, h.2.symm⟩
    generalize (crcM 0 s).toNat = C at hc hz hcr
    go_enter Try.func68, Try.ntmps68
    go_wp2_with (first | (go_at_call 77; refine (hcr.out _).mono ?_; rintro e w0 ⟨rfl, rfl⟩) | (go_at_call 76; refine (crcText_any C _ hc).mono ?_; rintro e w1 ⟨rfl, hb1⟩) | (go_at_call 69; refine (join_two s (fourB C) _ (by omega) (by rw [fourB_size]; omega)).mono ?_; rintro e w2 ⟨rfl, hb2⟩))
    go_ret
    exact ⟨rfl, hb1.trans (hb2.mono hb1.size)⟩
set_option maxRecDepth 100000 in
theorem specSeal_any (s : ByteArray) (w : World) (hs : s.size ≤ maxLen) :
    Calls Try.prog 47 #[.string s] w fun e w' => e = .returned (.string (sealB s)) ∧ Below w.heap.size w w' := by
  have hs' := hs
  unfold maxLen at hs
  unfold sealB
  by_cases h1 : 7996 < s.size
  · rw [if_pos h1]
    go_enter Try.func47, Try.ntmps47
    go_wp2
    go_ret
    exact ⟨rfl, Below.refl _ _⟩
  · rw [if_neg h1]
    have hc := crcM_lt s
    have hz := fourB_size (crcM 0 s).toNat
    have hcr : Hid (∀ w : World, Calls Try.prog 65 #[.int .i64 0, .string s] w fun e w' => e = .returned (.int .i64 ((crcM 0 s).toNat : Int)) ∧ w = w') := by
      intro w; rw [← crcM_nat]; unfold crcM; rw [if_neg (by omega)]; exact (l01Crc_any 0 s w (by omega) hs').mono fun e w' h => ⟨h.1, h.2.symm⟩
    generalize (crcM 0 s).toNat = C at hc hz hcr
    go_enter Try.func47, Try.ntmps47
    go_wp2_with (first | (go_at_call 65; refine (hcr.out _).mono ?_; rintro e w0 ⟨rfl, rfl⟩) | (go_at_call 64; refine (four_any C _ hc).mono ?_; rintro e w1 ⟨rfl, hb1⟩))
    go_ret
    exact ⟨rfl, hb1⟩
end Go.Proofs.Ytghchcipobcpjaa
/- THE WALKS of stamps: right, and below: the program's and the model's. -/
namespace Go.Proofs.Ytghchcipobcpjaa
open Go.RowKit
set_option linter.unusedVariables false
set_option linter.unusedSimpArgs false

theorem l02Is_any (n lo hi : Int) (w : World) : Calls Try.prog 45 #[.int .i64 n, .int .i64 lo, .int .i64 hi] w fun e w' => e = .returned (.bool (decide (lo ≤ n) && decide (n ≤ hi))) ∧ w = w' := by
  by_cases h1 : lo ≤ n <;> by_cases h2 : n ≤ hi
  all_goals
    go_enter Try.func45, Try.ntmps45
    go_wp2
    go_ret
    exact ⟨ret_bool (by simp [h1, h2]), rfl⟩
end Go.Proofs.Ytghchcipobcpjaa
/- LETTERS, the program's and the model's: LetterOf answers the seal of the number and the text, or nothing; nothing that was there turns. -/
namespace Go.Proofs.Ytghchcipobcpjaa
open Go.RowKit
set_option linter.unusedVariables false
set_option linter.unusedSimpArgs false

/-- what a letter may have in it -/
def bodyB (s : ByteArray) : Bool := decide (1 ≤ s.size) && decide (s.size ≤ 40)
def idB (n : Int) : Bool := decide (1 ≤ n) && decide (n ≤ 1000000)
/-- the letter, of what may be -/
def letF (n : Int) (s : ByteArray) : ByteArray := sealB (putB n ++ putT s)
/-- the letter, or nothing -/
def letB (n : Int) (s : ByteArray) : ByteArray := if idB n = true ∧ bodyB s = true then letF n s else ByteArray.empty
theorem bodyB_iff (s : ByteArray) : bodyB s = true ↔ 1 ≤ s.size ∧ s.size ≤ 40 := by unfold bodyB; simp
theorem idB_iff (n : Int) : idB n = true ↔ 1 ≤ n ∧ n ≤ 1000000 := by unfold idB; simp
theorem id_wf {n : Int} (h : idB n = true) : (Lit.int .i64 n).wf = true := by
  have := (idB_iff n).1 h
  simp [Lit.wf, IntKind.min, IntKind.max, IntKind.signed, IntKind.bits]; omega
theorem putT_le {s : ByteArray} (h : s.size ≤ 40) : (putT s).size ≤ 50 := by
  unfold putT
  rw [if_neg (by omega), ByteArray.size_append]
  have := putB_le _ (wf_size (s := s) (by omega))
  omega
theorem lett_le {n : Int} {s : ByteArray} (hn : (Lit.int .i64 n).wf = true) (h : s.size ≤ 40) : (putB n ++ putT s).size ≤ 60 := by
  rw [ByteArray.size_append]
  have := putB_le _ hn
  have := putT_le h
  omega

set_option maxRecDepth 100000 in
theorem letterFits_any (s : ByteArray) (w : World) (hs : s.size ≤ maxLen) :
    Calls Try.prog 26 #[.string s] w fun e w' => e = .returned (.bool (bodyB s)) ∧ w = w' := by
  unfold maxLen at hs
  unfold bodyB
  by_cases h1 : 1 ≤ s.size
  · by_cases h2 : s.size ≤ 40
    · have e : (decide (1 ≤ s.size) && decide (s.size ≤ 40)) = true := by simp [h1, h2]
      rw [e]
      go_enter Try.func26, Try.ntmps26
      go_wp2
      go_ret
      exact ⟨by simp [h1]; omega, rfl⟩
    · have e : (decide (1 ≤ s.size) && decide (s.size ≤ 40)) = false := by simp [h2]
      rw [e]
      go_enter Try.func26, Try.ntmps26
      go_wp2
      go_ret
      exact ⟨by simp <;> omega, rfl⟩
  · have e : (decide (1 ≤ s.size) && decide (s.size ≤ 40)) = false := by simp [h1]
    rw [e]
    go_enter Try.func26, Try.ntmps26
    go_wp2
    go_ret
    exact ⟨by simp <;> omega, rfl⟩
set_option maxRecDepth 100000 in
theorem l09Body_any (s : ByteArray) (w : World) (hs : s.size ≤ maxLen) :
    Calls Try.prog 20 #[.string s] w fun e w' => e = .returned (.bool (bodyB s)) ∧ w = w' := by
  unfold maxLen at hs
  unfold bodyB
  by_cases h1 : 1 ≤ s.size
  · by_cases h2 : s.size ≤ 40
    · have e : (decide (1 ≤ s.size) && decide (s.size ≤ 40)) = true := by simp [h1, h2]
      rw [e]
      go_enter Try.func20, Try.ntmps20
      go_wp2
      go_ret
      exact ⟨by simp [h1]; omega, rfl⟩
    · have e : (decide (1 ≤ s.size) && decide (s.size ≤ 40)) = false := by simp [h2]
      rw [e]
      go_enter Try.func20, Try.ntmps20
      go_wp2
      go_ret
      exact ⟨by simp <;> omega, rfl⟩
  · have e : (decide (1 ≤ s.size) && decide (s.size ≤ 40)) = false := by simp [h1]
    rw [e]
    go_enter Try.func20, Try.ntmps20
    go_wp2
    go_ret
    exact ⟨by simp <;> omega, rfl⟩
set_option maxRecDepth 100000 in
theorem l09Id_any (n : Int) (w : World) :
    Calls Try.prog 43 #[.int .i64 n] w fun e w' => e = .returned (.bool (idB n)) ∧ w = w' := by
  unfold idB
  have H : Hid (∀ W, Calls Try.prog 45 #[.int .i64 n, .int .i64 1, .int .i64 1000000] W fun e w' => e = .returned (.bool (decide (1 ≤ n) && decide (n ≤ 1000000))) ∧ W = w') := fun W => l02Is_any n 1 1000000 W
  generalize (decide (1 ≤ n) && decide (n ≤ 1000000)) = R at H ⊢
  go_enter Try.func43, Try.ntmps43
  go_wp2_with (go_at_call 45; refine (H.out _).mono ?_; rintro e w1 ⟨rfl, rfl⟩)
  go_ret
  exact ⟨rfl, rfl⟩

set_option maxRecDepth 100000 in
set_option maxHeartbeats 800000 in
theorem letterOf_any (n : Int) (s : ByteArray) (w : World) (hs : s.size ≤ maxLen) :
    Calls Try.prog 57 #[.int .i64 n, .string s] w fun e w' => e = .returned (.string (letB n s)) ∧ Below w.heap.size w w' := by
  have HF : Hid (∀ W, Calls Try.prog 26 #[.string s] W fun e w' => e = .returned (.bool (bodyB s)) ∧ W = w') := fun W => letterFits_any s W hs
  have hb := bodyB_iff s
  have hm := hs
  unfold maxLen at hm
  unfold letB
  by_cases h1 : idB n = true
  case neg =>
    rw [if_neg (fun h => h1 h.1)]
    rw [idB_iff] at h1
    by_cases h2 : n < 1
    · go_enter Try.func57, Try.ntmps57
      go_wp2
      go_ret
      exact ⟨rfl, Below.refl _ _⟩
    · have h3 : 1000000 < n := by omega
      go_enter Try.func57, Try.ntmps57
      go_wp2
      go_ret
      exact ⟨rfl, Below.refl _ _⟩
  have hwf := id_wf h1
  have hn := (idB_iff n).1 h1
  have g1 : ¬ n < 1 := by omega
  have g2 : ¬ 1000000 < n := by omega
  cases hB : bodyB s
  · rw [if_neg (fun h => by cases h.2)]
    rw [hB] at HF
    go_enter Try.func57, Try.ntmps57
    go_wp2_with (go_at_call 26; refine (HF.out _).mono ?_; rintro e w1 ⟨rfl, rfl⟩)
    go_ret
    exact ⟨rfl, Below.refl _ _⟩
  · rw [if_pos ⟨h1, rfl⟩]
    rw [hB] at HF
    have hb2 := hb.1 hB
    have HP : Hid (∀ W, Calls Try.prog 70 #[.int .i64 n] W fun e w' => e = .returned (.string (putB n)) ∧ Below W.heap.size W w') := fun W => putNum_any n W hwf
    have HT : Hid (∀ W, Calls Try.prog 71 #[.string s] W fun e w' => e = .returned (.string (putT s)) ∧ Below W.heap.size W w') := fun W => putText_any s W hs
    have hz1 := putB_le _ hwf
    have hz2 := putT_le hb2.2
    have hz3 := lett_le hwf hb2.2
    have HS : Hid (∀ W, Calls Try.prog 68 #[.string (putB n ++ putT s)] W fun e w' => e = .returned (.string (letF n s)) ∧ Below W.heap.size W w') := fun W => seal_any _ W (by unfold maxLen; omega)
    generalize letF n s = L at HS ⊢
    generalize putB n = P1 at HP HS hz1
    generalize putT s = P2 at HT HS hz2
    clear hz3 hb hb2 hwf h1
    go_enter Try.func57, Try.ntmps57
    go_wp2_with (first
      | (go_at_call 26; refine (HF.out _).mono ?_; rintro e w1 ⟨rfl, rfl⟩)
      | (go_at_call 70; refine (HP.out _).mono ?_; rintro e w2 ⟨rfl, hb2⟩)
      | (go_at_call 71; refine (HT.out _).mono ?_; rintro e w3 ⟨rfl, hb3⟩)
      | (go_at_call 69; refine (join_two P1 P2 _ (by omega) (by omega)).mono ?_; rintro e w4 ⟨rfl, hb4⟩)
      | (go_at_call 68; refine (HS.out _).mono ?_; rintro e w5 ⟨rfl, hb5⟩))
    go_ret
    exact ⟨rfl, ((hb2.trans (hb3.mono hb2.size)).trans (hb4.mono (Nat.le_trans hb2.size hb3.size))).trans (hb5.mono (Nat.le_trans (Nat.le_trans hb2.size hb3.size) hb4.size))⟩

set_option maxRecDepth 100000 in
theorem l09Letter_any (n : Int) (s : ByteArray) (w : World) (hs : s.size ≤ 40) (hwf : (Lit.int .i64 n).wf = true) :
    Calls Try.prog 22 #[.int .i64 n, .string s] w fun e w' => e = .returned (.string (letF n s)) ∧ Below w.heap.size w w' := by
  have HP : Hid (∀ W, Calls Try.prog 48 #[.int .i64 n] W fun e w' => e = .returned (.string (putB n)) ∧ Below W.heap.size W w') := fun W => specPutNum_any n W hwf
  have HT : Hid (∀ W, Calls Try.prog 49 #[.string s] W fun e w' => e = .returned (.string (putT s)) ∧ Below W.heap.size W w') := fun W => specPutText_any s W (by unfold maxLen; omega)
  have hz1 := putB_le _ hwf
  have hz2 := putT_le hs
  have hz3 := lett_le hwf hs
  have HS : Hid (∀ W, Calls Try.prog 47 #[.string (putB n ++ putT s)] W fun e w' => e = .returned (.string (letF n s)) ∧ Below W.heap.size W w') := fun W => specSeal_any _ W (by unfold maxLen; omega)
  generalize letF n s = L at HS ⊢
  generalize putB n = P1 at HP HS hz1
  generalize putT s = P2 at HT HS hz2
  clear hz3
  go_enter Try.func22, Try.ntmps22
  go_wp2_with (first
    | (go_at_call 48; refine (HP.out _).mono ?_; rintro e w2 ⟨rfl, hb2⟩)
    | (go_at_call 49; refine (HT.out _).mono ?_; rintro e w3 ⟨rfl, hb3⟩)
    | (go_at_call 47; refine (HS.out _).mono ?_; rintro e w5 ⟨rfl, hb5⟩))
  go_ret
  exact ⟨rfl, (hb2.trans (hb3.mono hb2.size)).trans (hb5.mono (Nat.le_trans hb2.size hb3.size))⟩

end Go.Proofs.Ytghchcipobcpjaa
