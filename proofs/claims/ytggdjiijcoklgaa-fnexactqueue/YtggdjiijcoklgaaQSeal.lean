/- WHETHER EACH NUMBER IS FROM 0 TO A TOP: the program's allUpTo. -/
import Derived.Test.YtggdjiijcoklgaaQBox
import Derived.Test.YtggdjiijcoklgaaProg
import Derived.Test.YtggdjiijcoklgaaQPlainNums
import Derived.Test.YtggdjiijcoklgaaQKeep
import Derived.Test.YtggdjiijcoklgaaQCopyH
import Derived.WalkKit
import Derived.WalkSpells
import Derived.Outline
import Derived.Below
import Derived.Laws.BitsAllLaws
namespace Go.Proofs.Ytggdjiijcoklgaa
open Go.RowKit
set_option linter.unusedVariables false
set_option linter.unusedSimpArgs false

def upToS (top n : Int) : Bool := decide (0 ≤ n) && decide (n ≤ top)
theorem all_noS {p : Int → Bool} {zs : List Int} {k : Nat} (h : k < zs.length) (hk : p zs[k] = false) : zs.all p = false := by
  rw [Bool.eq_false_iff]
  intro h1
  rw [List.all_eq_true] at h1
  have := h1 _ (List.getElem_mem h)
  rw [hk] at this
  cases this
theorem all_takeS {p : Int → Bool} {zs : List Int} {k : Nat} (h : k < zs.length) (h1 : (zs.take k).all p = true) (hk : p zs[k] = true) : (zs.take (k + 1)).all p = true := by
  rw [List.take_succ_eq_append_getElem h, List.all_append, h1]
  simp [hk]
set_option maxRecDepth 100000 in
set_option maxHeartbeats 800000 in
theorem allUpToS_any (v : Value) (zs : List Int) (top : Int) (w : World) (hl : zs.length ≤ 10000000) (hr : RowI w v zs) :
    Calls Try.prog 112 #[v, .int .i64 top] w fun e w' => e = .returned (.bool (zs.all (upToS top))) ∧ w = w' := by
  obtain ⟨p, c, rfl, hr⟩ := hr
  have HR : Hid _ := hr
  clear hr
  obtain ⟨B, hB⟩ : ∃ B, Hid (zs.all (upToS top) = B) := ⟨_, show _ = _ from rfl⟩
  rw [hB.out]
  go_enter Try.func112, Try.ntmps112
  go_wp2
  go_loop [9] (fun i => ∃ k : Nat, k ≤ zs.length ∧ i = .int .i64 k ∧ Hid ((zs.take k).all (upToS top) = true)) (fun i => zs.length - (intOf i).toNat)
  case atStart => exact ⟨0, Nat.zero_le _, rfl, rfl⟩
  case round =>
    obtain ⟨k, hk, rfl, HA⟩ := hrel
    by_cases hlt : k < zs.length
    · obtain ⟨g, rfl, l1, q1⟩ := HR.out k hlt
      have HN : Hid _ := @all_noS (upToS top) zs k hlt
      have HY : Hid _ := @all_takeS (upToS top) zs k hlt HA.out
      generalize zs[k] = z at q1 HN HY
      by_cases h0 : z < 0
      · go_wp2
        go_ret
        exact ⟨ret_bool (by rw [← hB.out, HN.out (by unfold upToS; rw [decide_eq_false (by omega)]; rfl)]), rfl⟩
      · by_cases h1 : top < z
        · go_wp2
          go_ret
          exact ⟨ret_bool (by rw [← hB.out, HN.out (by unfold upToS; rw [decide_eq_false (show ¬ z ≤ top by omega), Bool.and_false])]), rfl⟩
        · go_wp2
          go_round
          case rel => exact ⟨k + 1, by omega, by go_num, HY.out (by unfold upToS; rw [decide_eq_true (show 0 ≤ z by omega), decide_eq_true (show z ≤ top by omega)]; rfl)⟩
          case measure => simp [intOf]; omega
    · have e1 : zs.take k = zs := List.take_of_length_le (by omega)
      go_wp2
      go_ret
      exact ⟨ret_bool (by rw [← hB.out, ← HA.out, e1]), rfl⟩
end Go.Proofs.Ytggdjiijcoklgaa
/- THE WALKS of PutNum, the program's and the model's: both answer the number's bytes. -/
namespace Go.Proofs.Ytggdjiijcoklgaa
open Go.RowKit

theorem info5n : (Try.prog.info? 5).map (fun i => (i.zero, i.size, i.bytes)) = some (some (.int .u8 0), 1, 1) := by kernel_rfl

end Go.Proofs.Ytggdjiijcoklgaa
/- THE WALKS of the CRC's functions: what each answers at every argument. -/
namespace Go.Proofs.Ytggdjiijcoklgaa
open Go.RowKit

/-- of all arguments -/
def crcM (c : Int) (s : ByteArray) : Int := if 8000 < s.size ∨ c < 0 ∨ 4294967295 < c then 0 else (crcL (c.toNat ^^^ 4294967295) s.data.toList ^^^ 4294967295 : Nat)

end Go.Proofs.Ytggdjiijcoklgaa
/- THE WALKS of PutText and Seal, the program's and the model's: both answer the same texts. -/
namespace Go.Proofs.Ytggdjiijcoklgaa
open Go.RowKit

def fourN (c k : Nat) : UInt8 := UInt8.ofNat (c / 2 ^ (8 * k) % 256)
def fourB (c : Nat) : ByteArray := ⟨#[fourN c 0, fourN c 1, fourN c 2, fourN c 3]⟩
theorem fourB_size (c : Nat) : (fourB c).size = 4 := rfl
theorem fourN_toNat (c k : Nat) : (fourN c k).toNat = c / 2 ^ (8 * k) % 256 := by
  unfold fourN; rw [UInt8.toNat_ofNat']; omega

theorem fourB_cells (c : Nat) (hc : c < 4294967296) : cellsB (fourB c) = [.int .u8 ((c : Int) % 256), .int .u8 ((c : Int) / 256 % 256), .int .u8 ((c : Int) / 65536 % 256), .int .u8 ((c : Int) / 16777216)] := by
  simp only [cellsB, fourB, List.map_cons, List.map_nil, fourN_toNat]
  refine congr (congrArg _ (val_int (by omega))) (congr (congrArg _ (val_int (by omega))) (congr (congrArg _ (val_int (by omega))) (congr (congrArg _ (val_int (by omega))) rfl)))
theorem fourB_at (c k : Nat) (hk : k < 4) : (cellsB (fourB c))[k]? = some (.int .u8 ((fourN c k).toNat : Int)) := by
  match k, hk with
  | 0, _ => rfl
  | 1, _ => rfl
  | 2, _ => rfl
  | 3, _ => rfl

theorem four_step {c k : Nat} {cs : List Value} (hk : k < 4) (hl : k < cs.length) (h : cs.take k = (cellsB (fourB c)).take k) : (cs.set k (.int .u8 ((c : Int) / 2 ^ (8 * k) % 256))).take (k + 1) = (cellsB (fourB c)).take (k + 1) := by
  have e : Value.int .u8 ((c : Int) / 2 ^ (8 * k) % 256) = .int .u8 ((fourN c k).toNat : Int) := val_int (by rw [fourN_toNat, Int.natCast_emod, Int.natCast_ediv, Int.natCast_pow]; rfl)
  rw [take_set _ hl, h, e, List.take_add_one, fourB_at c k hk]
  rfl
def putT (s : ByteArray) : ByteArray := if 8000 < s.size then ByteArray.empty else putB s.size ++ s
def sealB (s : ByteArray) : ByteArray := if 7996 < s.size then ByteArray.empty else s ++ fourB (crcM 0 s).toNat
theorem crcM_lt (s : ByteArray) : (crcM 0 s).toNat < 4294967296 := by
  unfold crcM
  split
  · decide
  · have := xor_lt32 (crcL_lt s.data.toList (show (0 : Int).toNat ^^^ 4294967295 < 4294967296 by decide)) (show 4294967295 < 4294967296 by decide)
    omega
theorem crcM_nat (s : ByteArray) : crcM 0 s = ((crcM 0 s).toNat : Int) := by
  unfold crcM
  split
  · rfl
  · omega
theorem putB_le (n : Int) (h : (Lit.int .i64 n).wf = true) : (putB n).size ≤ 10 := by rw [putB_size]; exact putU_len10 (foldN_lt h)
theorem wf_size {s : ByteArray} (h : s.size ≤ 9223372036854775807) : (Lit.int .i64 (s.size : Int)).wf = true := by
  simp [Lit.wf, IntKind.min, IntKind.max, IntKind.signed, IntKind.bits]; omega

end Go.Proofs.Ytggdjiijcoklgaa
