/- THE WALKS of the CRC's functions: what each answers at every argument. -/
import Derived.Test.YtghchcipobcpjaaProg
import Derived.Test.YtghchcipobcpjaaQtInts
import Derived.WalkKit
import Derived.WalkSpells
import Derived.Outline
import Derived.Below
import Derived.Laws.BitsAllLaws
import Derived.OpenShut
namespace Go.Proofs.Ytghchcipobcpjaa
open Go.RowKit

set_option maxHeartbeats 400000 in
theorem crcByte_any (r b : Nat) (w : World) (hr : r < 4294967296) (hb : b < 256) :
    Calls Try.prog 81 #[.int .u32 r, .int .u8 b] w fun e w' => e = .returned (.int .u32 (crcB r b : Nat)) ∧ w' = w := by
  go_enter Try.func81, Try.ntmps81
  go_wp2
  go_loop [0, 5] (fun x i => ∃ k : Nat, k ≤ 8 ∧ i = .int .i64 k ∧ x = .int .u32 (bitSteps b k r : Nat)) (fun _ i => 8 - (intOf i).toNat)
  case atStart => exact ⟨0, Nat.zero_le _, rfl, rfl⟩
  case round =>
    obtain ⟨k, hk, rfl, rfl⟩ := hrel
    have hx := bitSteps_lt b k hr
    by_cases hlt : k < 8
    · go_wp2
      · have ht : ((bits BinOp.xor IntKind.u32 (↑(bitSteps b k r)) (↑b / 2 ^ k % 4294967296)).tmod 2 == 1) = true := by assumption
        go_round
        case rel => exact ⟨k + 1, by omega, by go_num, congrArg _ (bit_yes hx hb ht)⟩
        case measure => simp [intOf]; omega
      · have ht : ((bits BinOp.xor IntKind.u32 (↑(bitSteps b k r)) (↑b / 2 ^ k % 4294967296)).tmod 2 == 1) = false := by assumption
        go_round
        case rel => exact ⟨k + 1, by omega, by go_num, congrArg _ (bit_no hx hb ht)⟩
        case measure => simp [intOf]; omega
    · have e8 : k = 8 := by omega
      subst e8
      go_wp2
      go_ret
      exact ⟨ret_int (by rw [bitSteps_crcB b r hb]), rfl⟩

set_option maxHeartbeats 800000 in
theorem l01Crc_any (c : Nat) (s : ByteArray) (w : World) (hc : c < 4294967296) (hs : s.size ≤ maxLen) :
    Calls Try.prog 65 #[.int .i64 c, .string s] w fun e w' => e = .returned (.int .i64 (crcL (c ^^^ 4294967295) s.data.toList ^^^ 4294967295 : Nat)) ∧ w' = w := by
  unfold maxLen at hs
  have hc' : c ^^^ 4294967295 < 4294967296 := xor_lt32 hc (by decide)
  go_enter Try.func65, Try.ntmps65
  go_wp2
  go_loop [5, 6] (fun x i => ∃ k : Nat, k ≤ s.size ∧ i = .int .i64 k ∧ x = .int .u32 (crcL (c ^^^ 4294967295) (s.data.toList.take k) : Nat)) (fun _ i => s.size - (intOf i).toNat)
  case atStart => exact ⟨0, Nat.zero_le _, rfl, congrArg _ (xor_ones c hc)⟩
  case round =>
    obtain ⟨k, hk, rfl, rfl⟩ := hrel
    have hR := crcL_lt (s.data.toList.take k) hc'
    by_cases hlt : k < s.size
    · have HS : Hid (crcL (c ^^^ 4294967295) (s.data.toList.take (k + 1)) = crcSteps 8 (crcL (c ^^^ 4294967295) (s.data.toList.take k) ^^^ s[k].toNat)) := by rw [take_snoc s k hlt, crcL_snoc]; rfl
      have hb := u8_lt s[k]
      generalize crcL (c ^^^ 4294967295) (s.data.toList.take k) = R at hR HS
      have hY := xor_lt32 hR (show s[k].toNat < 4294967296 by omega)
      go_wp2
      go_loop [5, 7] (fun x i => ∃ j : Nat, j ≤ 8 ∧ i = .int .i64 j ∧ x = .int .u32 (crcSteps j (R ^^^ s[k].toNat) : Nat)) (fun _ i => 8 - (intOf i).toNat)
      case atStart => exact ⟨0, Nat.zero_le _, rfl, by rw [start_plain _ _ hR hb]⟩
      case round =>
        obtain ⟨j, hj, rfl, rfl⟩ := hrel
        have hX := crcSteps_lt j hY
        have SY := @step_yes (crcSteps j (R ^^^ s[k].toNat)) hX
        have SN := @step_no (crcSteps j (R ^^^ s[k].toNat)) hX
        have HN : Hid (crcSteps (j + 1) (R ^^^ s[k].toNat) = crcStep (crcSteps j (R ^^^ s[k].toNat))) := rfl
        obtain ⟨X, HX⟩ : ∃ X, Hid (crcSteps j (R ^^^ s[k].toNat) = X) := ⟨_, show _ = _ from rfl⟩
        rw [HX.out] at hX SY SN HN ⊢
        by_cases hlt8 : j < 8
        · go_wp2
          · have ht : (bits BinOp.and IntKind.u32 (↑X) 1 == 1) = true := by assumption
            go_round
            case rel => exact ⟨j + 1, by omega, by go_num, by rw [HN.out]⟩
            case measure => simp [intOf]; omega
          · have ht : (bits BinOp.and IntKind.u32 (↑X) 1 == 1) = false := by assumption
            go_round
            case rel => exact ⟨j + 1, by omega, by go_num, by rw [HN.out]⟩
            case measure => simp [intOf]; omega
        · go_wp2
          go_round
          case rel => exact ⟨k + 1, by omega, by go_num, by rw [HS.out, ← HX.out, show j = 8 by omega]⟩
          case measure => simp [intOf]; omega
    · go_wp2
      go_ret
      exact ⟨ret_int (by rw [List.take_of_length_le (by simp; omega)]; rw [xor_ones _ (crcL_lt _ hc')]; have := xor_lt32 (crcL_lt s.data.toList hc') (show 4294967295 < 4294967296 by decide); unfold wrap64; omega), rfl⟩

/-- of all arguments -/
def crcM (c : Int) (s : ByteArray) : Int := if 8000 < s.size ∨ c < 0 ∨ 4294967295 < c then 0 else (crcL (c.toNat ^^^ 4294967295) s.data.toList ^^^ 4294967295 : Nat)

set_option maxHeartbeats 800000 in
theorem crcMore_in (c : Nat) (s : ByteArray) (w : World) (hc : c < 4294967296) (hs : s.size ≤ 8000) :
    Calls Try.prog 80 #[.int .i64 c, .string s] w fun e w' => e = .returned (.int .i64 (crcL (c ^^^ 4294967295) s.data.toList ^^^ 4294967295 : Nat)) ∧ w' = w := by
  have hc' : c ^^^ 4294967295 < 4294967296 := xor_lt32 hc (by decide)
  go_enter Try.func80, Try.ntmps80
  go_wp2
  go_loop [5, 6] (fun x i => ∃ k : Nat, k ≤ s.size ∧ i = .int .i64 k ∧ x = .int .u32 (crcL (c ^^^ 4294967295) (s.data.toList.take k) : Nat)) (fun _ i => s.size - (intOf i).toNat)
  case atStart => exact ⟨0, Nat.zero_le _, rfl, by rw [ones_xor c hc]; rfl⟩
  case round =>
    obtain ⟨k, hk, rfl, rfl⟩ := hrel
    have hR := crcL_lt (s.data.toList.take k) hc'
    by_cases hlt : k < s.size
    · have HS : Hid (crcL (c ^^^ 4294967295) (s.data.toList.take (k + 1)) = crcB (crcL (c ^^^ 4294967295) (s.data.toList.take k)) s[k].toNat) := by rw [take_snoc s k hlt, crcL_snoc]; rfl
      have hb := u8_lt s[k]
      generalize crcL (c ^^^ 4294967295) (s.data.toList.take k) = R at hR HS
      go_wp2_with (go_at_call 81; refine (crcByte_any R s[k].toNat _ hR hb).mono ?_; rintro e w' ⟨rfl, rfl⟩)
      go_round
      case rel => exact ⟨k + 1, by omega, by go_num, by rw [HS.out]⟩
      case measure => simp [intOf]; omega
    · go_wp2
      go_ret
      exact ⟨ret_int (by rw [List.take_of_length_le (by simp; omega)]; rw [ones_xor _ (crcL_lt _ hc')]; have := xor_lt32 (crcL_lt s.data.toList hc') (show 4294967295 < 4294967296 by decide); unfold wrap64; omega), rfl⟩

theorem crcMore_any (c : Int) (s : ByteArray) (w : World) (hs : s.size ≤ maxLen) :
    Calls Try.prog 80 #[.int .i64 c, .string s] w fun e w' => e = .returned (.int .i64 (crcM c s)) ∧ w' = w := by
  unfold maxLen at hs
  by_cases h1 : 8000 < s.size
  · unfold crcM; rw [if_pos (by omega)]
    go_enter Try.func80, Try.ntmps80
    go_wp2
    go_ret
    exact ⟨rfl, rfl⟩
  by_cases h2 : c < 0
  · unfold crcM; rw [if_pos (by omega)]
    go_enter Try.func80, Try.ntmps80
    go_wp2
    go_ret
    exact ⟨rfl, rfl⟩
  by_cases h3 : 4294967295 < c
  · unfold crcM; rw [if_pos (by omega)]
    go_enter Try.func80, Try.ntmps80
    go_wp2
    go_ret
    exact ⟨rfl, rfl⟩
  · unfold crcM; rw [if_neg (by omega)]
    obtain ⟨C, rfl⟩ := Int.eq_ofNat_of_zero_le (show 0 ≤ c by omega)
    exact crcMore_in C s w (by omega) (by omega)

theorem crc_any (s : ByteArray) (w : World) (hs : s.size ≤ maxLen) :
    Calls Try.prog 77 #[.string s] w fun e w' => e = .returned (.int .i64 (crcM 0 s)) ∧ w' = w := by
  go_enter Try.func77, Try.ntmps77
  go_wp2_with (go_at_call 80; refine (crcMore_any 0 s _ hs).mono ?_; rintro e w' ⟨rfl, rfl⟩)
  go_ret
  exact ⟨rfl, rfl⟩

end Go.Proofs.Ytghchcipobcpjaa
/- PLAIN: a number's bytes, seven bits a byte; nothing of the program. -/
namespace Go.Proofs.Ytghchcipobcpjaa
open Go.RowKit

def foldN (n : Int) : Nat := if 0 ≤ n then (2 * n).toNat else (-2 * n - 1).toNat
def putU (u : Nat) : List UInt8 := if u < 128 then [UInt8.ofNat u] else UInt8.ofNat (u % 128 + 128) :: putU (u / 128)
termination_by u
decreasing_by omega
theorem putU_lo {u : Nat} (h : u < 128) : putU u = [UInt8.ofNat u] := by rw [putU, if_pos h]
theorem putU_hi {u : Nat} (h : 128 ≤ u) : putU u = UInt8.ofNat (u % 128 + 128) :: putU (u / 128) := by rw [putU, if_neg (by omega)]
theorem putU_len (k : Nat) : ∀ u, u < 128 ^ (k + 1) → (putU u).length ≤ k + 1 := by
  induction k with
  | zero => intro u h; rw [putU_lo (by simpa using h)]; simp
  | succ k ih =>
    intro u h
    by_cases h1 : u < 128
    · rw [putU_lo h1]; simp
    · rw [putU_hi (by omega)]
      have : u / 128 < 128 ^ (k + 1) := by rw [Nat.div_lt_iff_lt_mul (by decide)]; rw [Nat.pow_succ] at h; exact h
      have := ih _ this
      simp; omega
theorem putU_len10 {u : Nat} (h : u < 18446744073709551616) : (putU u).length ≤ 10 := putU_len 9 u (by omega)
theorem putU_pos (u : Nat) : 0 < (putU u).length := by
  by_cases h : u < 128
  · rw [putU_lo h]; simp
  · rw [putU_hi (by omega)]; simp
def putB (n : Int) : ByteArray := ⟨(putU (foldN n)).toArray⟩
theorem putB_size (n : Int) : (putB n).size = (putU (foldN n)).length := by simp [putB, ByteArray.size]
theorem foldN_pos {n : Int} (h : 0 ≤ n) : (foldN n : Int) = 2 * n := by unfold foldN; rw [if_pos h]; omega
theorem foldN_neg {n : Int} (h : n < 0) : (foldN n : Int) = 2 * -(n + 1) + 1 := by unfold foldN; rw [if_neg (by omega)]; omega
theorem foldN_lt {n : Int} (h : (Lit.int .i64 n).wf = true) : foldN n < 18446744073709551616 := by
  have := bounds_i64 h
  unfold foldN; split <;> omega
/-- the cells of some bytes -/
def cellsL (l : List UInt8) : List Value := l.map fun b => Value.int .u8 (b.toNat : Int)
theorem cellsL_length (l : List UInt8) : (cellsL l).length = l.length := by simp [cellsL]
theorem cellsL_append (l m : List UInt8) : cellsL (l ++ m) = cellsL l ++ cellsL m := by simp [cellsL]
theorem cellsB_putB (n : Int) : cellsB (putB n) = cellsL (putU (foldN n)) := by simp [cellsB, cellsL, putB]
theorem hi_byte (u : Nat) : (UInt8.ofNat (u % 128 + 128)).toNat = u % 128 + 128 := by
  rw [UInt8.toNat_ofNat']; omega
theorem lo_byte {u : Nat} (h : u < 128) : (UInt8.ofNat u).toNat = u := by
  rw [UInt8.toNat_ofNat']; omega
theorem step_hi {u : Nat} (pre : List UInt8) : cellsL pre ++ [Value.int .u8 ((u : Int) % 128 + 128)] = cellsL (pre ++ [UInt8.ofNat (u % 128 + 128)]) := by
  rw [cellsL_append]
  congr 1
  simp only [cellsL, List.map_cons, List.map_nil, hi_byte]
  congr 2
theorem step_lo {u : Nat} (h : u < 128) (pre : List UInt8) : cellsL pre ++ [Value.int .u8 (u : Int)] = cellsL (pre ++ [UInt8.ofNat u]) := by
  rw [cellsL_append]
  congr 1
  simp only [cellsL, List.map_cons, List.map_nil, lo_byte h]
theorem next_hi {u : Nat} {pre all : List UInt8} (h : 128 ≤ u) (hp : pre ++ putU u = all) : (pre ++ [UInt8.ofNat (u % 128 + 128)]) ++ putU (u / 128) = all := by
  rw [← hp, putU_hi h]; simp
theorem own_hi {w : World} {base : Nat} {e : TypeId} {v : Value} {u : Nat} {pre : List UInt8} (h : w.ownsRow base e 1 v (pre.length + 1) (cellsL pre ++ [Value.int .u8 ((u : Int) % 128 + 128)])) :
    w.ownsRow base e 1 v (pre ++ [UInt8.ofNat (u % 128 + 128)]).length (cellsL (pre ++ [UInt8.ofNat (u % 128 + 128)])) := by
  rw [← step_hi, List.length_append]; exact h
theorem own_last {w : World} {base : Nat} {e : TypeId} {v : Value} {u : Nat} {pre : List UInt8} {n : Int} (h1 : u < 128) (hp : pre ++ putU u = putU (foldN n))
    (h : w.ownsRow base e 1 v (pre.length + 1) (cellsL pre ++ [Value.int .u8 (u : Int)])) : w.ownsRow base e 1 v (putB n).size (cellsB (putB n)) := by
  rw [cellsB_putB, putB_size, ← hp, putU_lo h1, ← step_lo h1, List.length_append]; exact h
theorem own_conv {P : Program} {w : World} {base : Nat} {v : Value} {s : ByteArray} (src e dst : TypeId) (hs : P.underlying src = some (.slice e)) (he : P.underlying e = some (.int .u8)) (hd : P.underlying dst = some .string)
    (h : w.ownsRow base e 1 v s.size (cellsB s)) (hpos : 0 < s.size) :
    ∃ g cap, v = .slice (some ⟨g, 0, none⟩) s.size cap ∧ (convert src dst (.slice (some ⟨g, 0, none⟩) s.size cap)).run P w = .ok (.string s) w := by
  obtain ⟨_, ⟨rfl, h0⟩ | ⟨g, cap, cur, rfl, _, hg, _, _, _, ht⟩⟩ := h
  · omega
  · exact ⟨g, cap, rfl, Lib.run_convert_whole w src e dst hs he hd g 0 s (bytes_of_cells (cs := cur.toList) s (by simpa using hg) (by simpa using ht)) cap⟩
theorem last_size {u : Nat} {pre : List UInt8} {n : Int} (h1 : u < 128) (hp : pre ++ putU u = putU (foldN n)) : (putB n).size = pre.length + 1 := by
  rw [putB_size, ← hp, putU_lo h1, List.length_append]; rfl
theorem last_cells {u : Nat} {pre : List UInt8} {n : Int} (h1 : u < 128) (hp : pre ++ putU u = putU (foldN n)) : cellsB (putB n) = cellsL pre ++ [Value.int .u8 (u : Int)] := by
  rw [cellsB_putB, ← hp, putU_lo h1, ← step_lo h1]
theorem putB_pos (n : Int) : 0 < (putB n).size := by rw [putB_size]; exact putU_pos _
end Go.Proofs.Ytghchcipobcpjaa
/- THE WALKS of PutNum, the program's and the model's: both answer the number's bytes. -/
namespace Go.Proofs.Ytghchcipobcpjaa
open Go.RowKit

theorem foldSign_any (n : Int) (w : World) (hn : (Lit.int .i64 n).wf = true) :
    Calls Try.prog 78 #[.int .i64 n] w fun e w' => e = .returned (.int .u64 (foldN n : Nat)) ∧ w = w' := by
  have hb := bounds_i64 hn
  by_cases h : 0 ≤ n
  · go_enter Try.func78, Try.ntmps78
    go_wp2
    go_ret
    exact ⟨ret_int (by rw [foldN_pos h]), rfl⟩
  · go_enter Try.func78, Try.ntmps78
    go_wp2
    go_ret
    exact ⟨ret_int (by rw [foldN_neg (by omega)]), rfl⟩
theorem l01Fold_any (n : Int) (w : World) (hn : (Lit.int .i64 n).wf = true) :
    Calls Try.prog 66 #[.int .i64 n] w fun e w' => e = .returned (.int .u64 (foldN n : Nat)) ∧ w = w' := by
  have hb := bounds_i64 hn
  by_cases h : 0 ≤ n
  · go_enter Try.func66, Try.ntmps66
    go_wp2
    go_ret
    exact ⟨ret_int (by rw [foldN_pos h]), rfl⟩
  · go_enter Try.func66, Try.ntmps66
    go_wp2
    go_ret
    exact ⟨ret_int (by rw [foldN_neg (by omega)]), rfl⟩

theorem info5n : (Try.prog.info? 5).map (fun i => (i.zero, i.size, i.bytes)) = some (some (.int .u8 0), 1, 1) := by kernel_rfl

set_option maxRecDepth 100000 in
set_option maxHeartbeats 800000 in
theorem specPutNum_any (n : Int) (w : World) (hn : (Lit.int .i64 n).wf = true) :
    Calls Try.prog 48 #[.int .i64 n] w fun e w' => e = .returned (.string (putB n)) ∧ Below w.heap.size w w' := by
  obtain ⟨i0, hi, hz0, hz1, hz2⟩ := info_parts info5n
  have hlt := foldN_lt hn
  have hlen := putU_len10 hlt
  go_enter Try.func48, Try.ntmps48
  go_wp2_with (go_at_call 66; refine (l01Fold_any n _ hn).mono ?_; rintro e w' ⟨rfl, rfl⟩)
  go_loopw [3, 4] (fun x v wr => ∃ (u : Nat) (pre : List UInt8), x = .int .u64 u ∧ u < 18446744073709551616 ∧ Hid (pre ++ putU u = putU (foldN n)) ∧ wr.ownsRow w.heap.size 5 1 v pre.length (cellsL pre) ∧ Below w.heap.size w wr)
    (fun x _ _ => (intOf x).toNat)
  case atStart => exact ⟨foldN n, [], rfl, hlt, rfl, World.ownsRow_made _ #[] 0 (Nat.le_refl _) (by decide) rfl, (Below.refl _ _).alloc (Nat.le_refl _) _⟩
  case round =>
    obtain ⟨u, pre, rfl, hu, HP, hown, hbel⟩ := hrel
    have hsz := hbel.size
    have hpl : pre.length ≤ 10 := by have := congrArg List.length HP.out; simp at this; omega
    clear hlen hlt
    by_cases hge : 128 ≤ u
    · go_wp2_with (at_builtin; refine wpList_append_own _ rfl (.tmp 10) (.tmp 15) 96 rfl w.heap.size 5 i0 (.int .u8 0) 1 1 Try.underlying96 hi hz0 hz1 hz2 rfl (by decide) _ _ _ rfl (hown.alloc _) ⟨wr.heap.size, 0, none⟩ 1 1 [_] rfl rfl (cell_one_new _ _ _) (by intro x hx; simp at hx; subst hx; rfl) (by unfold maxLen; omega) (by omega) (by simp; omega) ?_; intro v' w2 hown' hgrow _)
      go_roundw
      case rel => exact ⟨u / 128, pre ++ [UInt8.ofNat (u % 128 + 128)], by go_num, by omega, next_hi hge HP.out, own_hi hown', (hbel.alloc hsz _).grown hgrow (by simp; omega) (fun k e => (hown.lt k e).1)⟩
      case measure => simp [intOf]; omega
    · have hlo : u < 128 := by omega
      clear hge
      go_wp2_with (at_builtin; refine wpList_append_own _ rfl (.tmp 19) (.tmp 22) 96 rfl w.heap.size 5 i0 (.int .u8 0) 1 1 Try.underlying96 hi hz0 hz1 hz2 rfl (by decide) _ _ _ rfl (hown.alloc _) ⟨wr.heap.size, 0, none⟩ 1 1 [_] rfl rfl (cell_one_new _ _ _) (by intro x hx; simp at hx; subst hx; rfl) (by unfold maxLen; omega) (by omega) (by simp; omega) ?_; intro v' w2 hown' hgrow _; have hb2 := (hbel.alloc hsz (.cells #[.int .u8 (u : Int)] 5)).grown hgrow (by simp; omega) (fun k e => (hown.lt k e).1); obtain ⟨g, cap, hv, hcv⟩ := own_conv (P := Try.prog) 96 5 9 Try.underlying96 Try.underlying5 Try.underlying9 (own_last hlo HP.out hown') (putB_pos n); clear hown' hgrow; rw [hv])
      go_ret
      exact ⟨rfl, hb2⟩

theorem len10 : Try.prog.underlying 107 = some (.array 10 5) := by kernel_rfl
theorem slice10 (w : World) (g k : Nat) (hk : k + 1 ≤ 10) : (Instr.sliceAt 107 (.pointer (some ⟨g, 0, none⟩)) none (some (.int .i64 ((k : Int) + 1))) none).run Try.prog w = .ok (.slice (some ⟨g, 0, none⟩) (k + 1) 10) w := by
  have e1 : Try.prog.arrayLen 107 = 10 := by kernel_rfl
  have e2 : Try.prog.elem 107 = 5 := by kernel_rfl
  have h := run_sliceAt_array_h (P := Try.prog) w 107 ⟨g, 0, none⟩ (by rw [e1, e2]; exact len10) .i64 ((k : Int) + 1) (by omega) (by rw [e1]; omega)
  rw [h, e1, e2]
  have e3 : (Go.sizeOf 5).run Try.prog w = .ok 1 w := by kernel_rfl
  rw [e3]
  have e4 : ((k : Int) + 1).toNat = k + 1 := by omega
  simp [Result.andThen, slicedAt, e4, Addr.add]
set_option maxRecDepth 100000 in
set_option maxHeartbeats 800000 in
theorem putNum_any (n : Int) (w : World) (hn : (Lit.int .i64 n).wf = true) :
    Calls Try.prog 70 #[.int .i64 n] w fun e w' => e = .returned (.string (putB n)) ∧ Below w.heap.size w w' := by
  have hlt := foldN_lt hn
  have hlen := putU_len10 hlt
  go_enter Try.func70, Try.ntmps70
  go_wp2_with (go_at_call 78; refine (foldSign_any n _ hn).mono ?_; rintro e w' ⟨rfl, rfl⟩)
  go_loopw [4, 5] (fun i x wr => ∃ (u : Nat) (pre : List UInt8) (cs : List Value), i = .int .i64 pre.length ∧ x = .int .u64 u ∧ u < 18446744073709551616 ∧ Hid (pre ++ putU u = putU (foldN n)) ∧ Hid (wr.heap[w.heap.size]? = some (.cells cs.toArray 107 (0, 0))) ∧ cs.length = 10 ∧ Hid (cs.take pre.length = cellsL pre) ∧ Below w.heap.size w wr)
    (fun _ x _ => (intOf x).toNat)
  case atStart => exact ⟨foldN n, [], List.replicate 10 (.int .u8 0), rfl, rfl, hlt, rfl, heap_alloc_new w _, rfl, rfl, (Below.refl _ _).alloc (Nat.le_refl _) _⟩
  case round =>
    obtain ⟨u, pre, cs, rfl, rfl, hu, HP, HG, hcs, HT, hbel⟩ := hrel
    have hp := putU_pos u
    have hpl : pre.length < 10 := by have := congrArg List.length HP.out; simp at this; omega
    obtain ⟨hc, hf⟩ := cell_at HG.out (show pre.length < cs.length by omega)
    clear hlen hlt hp
    by_cases hge : 128 ≤ u
    · go_wp2
      go_roundw
      case rel => exact ⟨u / 128, pre ++ [UInt8.ofNat (u % 128 + 128)], cs.set pre.length (.int .u8 ((u : Int) % 128 + 128)), by simp, by go_num, by omega, next_hi hge HP.out, set_at _ _ HG.out, by simpa using hcs, by rw [List.length_append]; exact (take_set _ (by omega)).trans (by rw [HT.out, step_hi]), hbel.setCell (Nat.le_refl _) _⟩
      case measure => simp [intOf]; omega
    · have hlo : u < 128 := by omega
      clear hge
      have hsl := fun wx => slice10 wx w.heap.size pre.length (by omega)
      have hcv := Lib.run_convert_whole (P := Try.prog) (wr.setCell ⟨w.heap.size, pre.length, none⟩ (.int .u8 (u : Int))) 96 5 9 Try.underlying96 Try.underlying5 Try.underlying9 w.heap.size 0 (putB n) (bytes_of_cells (putB n) (set_at _ _ HG.out) (by rw [last_size hlo HP.out, take_set _ (by omega), HT.out, last_cells hlo HP.out])) 10
      rw [last_size hlo HP.out] at hcv
      go_wp2
      go_ret
      exact ⟨rfl, hbel.setCell (Nat.le_refl _) _⟩
end Go.Proofs.Ytghchcipobcpjaa
