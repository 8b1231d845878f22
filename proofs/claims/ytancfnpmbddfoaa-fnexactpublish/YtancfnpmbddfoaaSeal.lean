/- THE WALKS of PutText and Seal, the program's and the model's: both answer the same texts. -/
import Derived.Test.YtancfnpmbddfoaaProg
import Derived.Test.YtancfnpmbddfoaaCrc
import Derived.Test.YtancfnpmbddfoaaNum
import Derived.Test.YtancfnpmbddfoaaJoin2
import Derived.WalkKit
import Derived.WalkSpells
import Derived.Outline
namespace Go.Proofs.Ytancfnpmbddfoaa
open Go.RowKit

def fourN (c k : Nat) : UInt8 := UInt8.ofNat (c / 2 ^ (8 * k) % 256)
def fourB (c : Nat) : ByteArray := ⟨#[fourN c 0, fourN c 1, fourN c 2, fourN c 3]⟩
theorem fourB_size (c : Nat) : (fourB c).size = 4 := rfl
theorem fourN_toNat (c k : Nat) : (fourN c k).toNat = c / 2 ^ (8 * k) % 256 := by
  unfold fourN; rw [UInt8.toNat_ofNat']; omega

theorem fourB_cells (c : Nat) (hc : c < 4294967296) : cellsB (fourB c) = [.int .u8 ((c : Int) % 256), .int .u8 ((c : Int) / 256 % 256), .int .u8 ((c : Int) / 65536 % 256), .int .u8 ((c : Int) / 16777216)] := by
  simp only [cellsB, fourB, List.map_cons, List.map_nil, fourN_toNat]
  refine congr (congrArg _ (val_int (by omega))) (congr (congrArg _ (val_int (by omega))) (congr (congrArg _ (val_int (by omega))) (congr (congrArg _ (val_int (by omega))) rfl)))
theorem fourB_at (c k : Nat) (hk : k < 4) : (cellsB (fourB c))[k]? = some (.int .u8 ((fourN c k).toNat : Int)) := by
  match k, hk with
  | 0, _ => rfl
  | 1, _ => rfl
  | 2, _ => rfl
  | 3, _ => rfl

theorem four_step {c k : Nat} {cs : List Value} (hk : k < 4) (hl : k < cs.length) (h : cs.take k = (cellsB (fourB c)).take k) : (cs.set k (.int .u8 ((c : Int) / 2 ^ (8 * k) % 256))).take (k + 1) = (cellsB (fourB c)).take (k + 1) := by
  have e : Value.int .u8 ((c : Int) / 2 ^ (8 * k) % 256) = .int .u8 ((fourN c k).toNat : Int) := val_int (by rw [fourN_toNat, Int.natCast_emod, Int.natCast_ediv, Int.natCast_pow]; rfl)
  rw [take_set _ hl, h, e, List.take_add_one, fourB_at c k hk]
  rfl
def putT (s : ByteArray) : ByteArray := if 8000 < s.size then ByteArray.empty else putB s.size ++ s
def sealB (s : ByteArray) : ByteArray := if 7996 < s.size then ByteArray.empty else s ++ fourB (crcM 0 s).toNat
theorem crcM_lt (s : ByteArray) : (crcM 0 s).toNat < 4294967296 := by
  unfold crcM
  split
  · decide
  · have := xor_lt32 (crcL_lt s.data.toList (show (0 : Int).toNat ^^^ 4294967295 < 4294967296 by decide)) (show 4294967295 < 4294967296 by decide)
    omega
theorem crcM_nat (s : ByteArray) : crcM 0 s = ((crcM 0 s).toNat : Int) := by
  unfold crcM
  split
  · rfl
  · omega
theorem putB_le (n : Int) (h : (Lit.int .i64 n).wf = true) : (putB n).size ≤ 10 := by rw [putB_size]; exact putU_len10 (foldN_lt h)
theorem wf_size {s : ByteArray} (h : s.size ≤ 9223372036854775807) : (Lit.int .i64 (s.size : Int)).wf = true := by
  simp [Lit.wf, IntKind.min, IntKind.max, IntKind.signed, IntKind.bits]; omega

end Go.Proofs.Ytancfnpmbddfoaa
