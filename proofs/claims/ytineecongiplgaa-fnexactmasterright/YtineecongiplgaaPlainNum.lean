/- PLAIN: a number's bytes, seven bits a byte; nothing of the program. -/
import Derived.Test.YtineecongiplgaaPlain
import Derived.Test.YtineecongiplgaaLaws
import Derived.OpenShut
namespace Go.Proofs.Ytineecongiplgaa
open Go.RowKit

def foldN (n : Int) : Nat := if 0 ≤ n then (2 * n).toNat else (-2 * n - 1).toNat
def putU (u : Nat) : List UInt8 := if u < 128 then [UInt8.ofNat u] else UInt8.ofNat (u % 128 + 128) :: putU (u / 128)
termination_by u
decreasing_by omega
theorem putU_lo {u : Nat} (h : u < 128) : putU u = [UInt8.ofNat u] := by rw [putU, if_pos h]
theorem putU_hi {u : Nat} (h : 128 ≤ u) : putU u = UInt8.ofNat (u % 128 + 128) :: putU (u / 128) := by rw [putU, if_neg (by omega)]
theorem putU_len (k : Nat) : ∀ u, u < 128 ^ (k + 1) → (putU u).length ≤ k + 1 := by
  induction k with
  | zero => intro u h; rw [putU_lo (by simpa using h)]; simp
  | succ k ih =>
    intro u h
    by_cases h1 : u < 128
    · rw [putU_lo h1]; simp
    · rw [putU_hi (by omega)]
      have : u / 128 < 128 ^ (k + 1) := by rw [Nat.div_lt_iff_lt_mul (by decide)]; rw [Nat.pow_succ] at h; exact h
      have := ih _ this
      simp; omega
theorem putU_len10 {u : Nat} (h : u < 18446744073709551616) : (putU u).length ≤ 10 := putU_len 9 u (by omega)
theorem putU_pos (u : Nat) : 0 < (putU u).length := by
  by_cases h : u < 128
  · rw [putU_lo h]; simp
  · rw [putU_hi (by omega)]; simp
def putB (n : Int) : ByteArray := ⟨(putU (foldN n)).toArray⟩
theorem putB_size (n : Int) : (putB n).size = (putU (foldN n)).length := by simp [putB, ByteArray.size]
theorem foldN_pos {n : Int} (h : 0 ≤ n) : (foldN n : Int) = 2 * n := by unfold foldN; rw [if_pos h]; omega
theorem foldN_neg {n : Int} (h : n < 0) : (foldN n : Int) = 2 * -(n + 1) + 1 := by unfold foldN; rw [if_neg (by omega)]; omega
theorem foldN_lt {n : Int} (h : (Lit.int .i64 n).wf = true) : foldN n < 18446744073709551616 := by
  have := bounds_i64 h
  unfold foldN; split <;> omega
/-- the cells of some bytes -/
def cellsL (l : List UInt8) : List Value := l.map fun b => Value.int .u8 (b.toNat : Int)
theorem cellsL_length (l : List UInt8) : (cellsL l).length = l.length := by simp [cellsL]
theorem cellsL_append (l m : List UInt8) : cellsL (l ++ m) = cellsL l ++ cellsL m := by simp [cellsL]
theorem cellsB_putB (n : Int) : cellsB (putB n) = cellsL (putU (foldN n)) := by simp [cellsB, cellsL, putB]
theorem hi_byte (u : Nat) : (UInt8.ofNat (u % 128 + 128)).toNat = u % 128 + 128 := by
  rw [UInt8.toNat_ofNat']; omega
theorem lo_byte {u : Nat} (h : u < 128) : (UInt8.ofNat u).toNat = u := by
  rw [UInt8.toNat_ofNat']; omega
theorem step_hi {u : Nat} (pre : List UInt8) : cellsL pre ++ [Value.int .u8 ((u : Int) % 128 + 128)] = cellsL (pre ++ [UInt8.ofNat (u % 128 + 128)]) := by
  rw [cellsL_append]
  congr 1
  simp only [cellsL, List.map_cons, List.map_nil, hi_byte]
  congr 2
theorem step_lo {u : Nat} (h : u < 128) (pre : List UInt8) : cellsL pre ++ [Value.int .u8 (u : Int)] = cellsL (pre ++ [UInt8.ofNat u]) := by
  rw [cellsL_append]
  congr 1
  simp only [cellsL, List.map_cons, List.map_nil, lo_byte h]
theorem next_hi {u : Nat} {pre all : List UInt8} (h : 128 ≤ u) (hp : pre ++ putU u = all) : (pre ++ [UInt8.ofNat (u % 128 + 128)]) ++ putU (u / 128) = all := by
  rw [← hp, putU_hi h]; simp
theorem own_hi {w : World} {base : Nat} {e : TypeId} {v : Value} {u : Nat} {pre : List UInt8} (h : w.ownsRow base e 1 v (pre.length + 1) (cellsL pre ++ [Value.int .u8 ((u : Int) % 128 + 128)])) :
    w.ownsRow base e 1 v (pre ++ [UInt8.ofNat (u % 128 + 128)]).length (cellsL (pre ++ [UInt8.ofNat (u % 128 + 128)])) := by
  rw [← step_hi, List.length_append]; exact h
theorem own_last {w : World} {base : Nat} {e : TypeId} {v : Value} {u : Nat} {pre : List UInt8} {n : Int} (h1 : u < 128) (hp : pre ++ putU u = putU (foldN n))
    (h : w.ownsRow base e 1 v (pre.length + 1) (cellsL pre ++ [Value.int .u8 (u : Int)])) : w.ownsRow base e 1 v (putB n).size (cellsB (putB n)) := by
  rw [cellsB_putB, putB_size, ← hp, putU_lo h1, ← step_lo h1, List.length_append]; exact h
theorem own_conv {P : Program} {w : World} {base : Nat} {v : Value} {s : ByteArray} (src e dst : TypeId) (hs : P.underlying src = some (.slice e)) (he : P.underlying e = some (.int .u8)) (hd : P.underlying dst = some .string)
    (h : w.ownsRow base e 1 v s.size (cellsB s)) (hpos : 0 < s.size) :
    ∃ g cap, v = .slice (some ⟨g, 0, none⟩) s.size cap ∧ (convert src dst (.slice (some ⟨g, 0, none⟩) s.size cap)).run P w = .ok (.string s) w := by
  obtain ⟨_, ⟨rfl, h0⟩ | ⟨g, cap, cur, rfl, _, hg, _, _, _, ht⟩⟩ := h
  · omega
  · exact ⟨g, cap, rfl, Lib.run_convert_whole w src e dst hs he hd g 0 s (bytes_of_cells (cs := cur.toList) s (by simpa using hg) (by simpa using ht)) cap⟩
theorem last_size {u : Nat} {pre : List UInt8} {n : Int} (h1 : u < 128) (hp : pre ++ putU u = putU (foldN n)) : (putB n).size = pre.length + 1 := by
  rw [putB_size, ← hp, putU_lo h1, List.length_append]; rfl
theorem last_cells {u : Nat} {pre : List UInt8} {n : Int} (h1 : u < 128) (hp : pre ++ putU u = putU (foldN n)) : cellsB (putB n) = cellsL pre ++ [Value.int .u8 (u : Int)] := by
  rw [cellsB_putB, ← hp, putU_lo h1, ← step_lo h1]
theorem putB_pos (n : Int) : 0 < (putB n).size := by rw [putB_size]; exact putU_pos _
end Go.Proofs.Ytineecongiplgaa
