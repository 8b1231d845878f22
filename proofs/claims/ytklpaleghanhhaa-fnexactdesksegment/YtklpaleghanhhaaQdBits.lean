/- THE WALKS of bits as bytes: the program's and the model's. -/
import Derived.Test.YtklpaleghanhhaaQdOwnU
import Derived.Test.YtklpaleghanhhaaQdPlainTb
import Derived.Laws.BitsAllLaws
import Derived.BigRegion
namespace Go.Proofs.Ytklpaleghanhhaa
open Go.RowKit
set_option linter.unusedVariables false
set_option linter.unusedSimpArgs false

def upTo (top n : Int) : Bool := decide (0 ≤ n) && decide (n ≤ top)
theorem all_no {p : Int → Bool} {zs : List Int} {k : Nat} (h : k < zs.length) (hk : p zs[k] = false) : zs.all p = false := by
  rw [Bool.eq_false_iff]
  intro h1
  rw [List.all_eq_true] at h1
  have := h1 _ (List.getElem_mem h)
  rw [hk] at this
  cases this
theorem all_take {p : Int → Bool} {zs : List Int} {k : Nat} (h : k < zs.length) (h1 : (zs.take k).all p = true) (hk : p zs[k] = true) : (zs.take (k + 1)).all p = true := by
  rw [List.take_succ_eq_append_getElem h, List.all_append, h1]
  simp [hk]
theorem or_table : ∀ r : Fin 8, ∀ o : Fin 128, o.val < 2 ^ r.val → bits BinOp.or IntKind.u8 (o.val : Int) (1 * 2 ^ r.val % 256) = ((o.val + 1 * 2 ^ r.val : Nat) : Int) ∧ bits BinOp.or IntKind.u8 (o.val : Int) (0 * 2 ^ r.val % 256) = ((o.val + 0 * 2 ^ r.val : Nat) : Int) := by decide +kernel
theorem or_in {old r : Nat} {z : Int} (hr : r < 8) (ho : old < 2 ^ r) (hz : z = 0 ∨ z = 1) : bits BinOp.or IntKind.u8 (old : Int) (z * 2 ^ r % 256) = ((old + (if z = 1 then 1 else 0) * 2 ^ r : Nat) : Int) := by
  have h128 : old < 128 := by
    have : 2 ^ r ≤ 2 ^ 7 := Nat.pow_le_pow_right (by decide) (by omega)
    omega
  have := or_table ⟨r, hr⟩ ⟨old, h128⟩ ho
  rcases hz with rfl | rfl
  · exact this.2
  · exact this.1
def bitsB (zs : List Int) : ByteArray := if zs.all bitB && decide (zs.length ≤ 64) then packB zs else ByteArray.empty
theorem size_set (w : World) (a : Addr) (v : Value) : (w.setCell a v).heap.size = w.heap.size := by simp [World.setCell]
theorem or_in1 {old r : Nat} (hr : r < 8) (ho : old < 2 ^ r) : bits BinOp.or IntKind.u8 (old : Int) (2 ^ r) = ((old + 1 * 2 ^ r : Nat) : Int) := by
  have := or_in (z := 1) hr ho (.inr rfl)
  rw [if_pos rfl] at this
  rw [← this]
  have h2 : (2 : Int) ^ r < 256 := by
    have : 2 ^ r ≤ 2 ^ 7 := Nat.pow_le_pow_right (by decide) (show r ≤ 7 by omega)
    have h3 : ((2 ^ r : Nat) : Int) ≤ ((2 ^ 7 : Nat) : Int) := by omega
    simp at h3
    omega
  have h0 : (0 : Int) < 2 ^ r := Int.pow_pos (by decide)
  rw [Int.one_mul, Int.emod_eq_of_lt (by omega) h2]
theorem pow_cell {k : IntKind} (r : Nat) (hr : r < 8) : (#[Value.int k 1, .int k 2, .int k 4, .int k 8, .int k 16, .int k 32, .int k 64, .int k 128] : Array Value)[r]? = some (.int k ((2 ^ r : Nat) : Int)) := by
  match r, hr with
  | 0, _ => rfl
  | 1, _ => rfl
  | 2, _ => rfl
  | 3, _ => rfl
  | 4, _ => rfl
  | 5, _ => rfl
  | 6, _ => rfl
  | 7, _ => rfl
end Go.Proofs.Ytklpaleghanhhaa
