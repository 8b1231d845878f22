/- WHETHER EACH NUMBER IS FROM 0 TO A TOP: the program's allUpTo. -/
import Derived.Test.YtimocipgikefoaaQnBox
import Derived.Test.YtimocipgikefoaaProg
import Derived.Test.YtimocipgikefoaaQnPlainNums
import Derived.Test.YtimocipgikefoaaQnKeep
import Derived.WalkKit
import Derived.WalkSpells
import Derived.Outline
import Derived.Below
import Derived.Laws.BitsAllLaws
namespace Go.Proofs.Ytimocipgikefoaa
open Go.RowKit
set_option linter.unusedVariables false
set_option linter.unusedSimpArgs false

def upToS (top n : Int) : Bool := decide (0 ≤ n) && decide (n ≤ top)
theorem all_noS {p : Int → Bool} {zs : List Int} {k : Nat} (h : k < zs.length) (hk : p zs[k] = false) : zs.all p = false := by
  rw [Bool.eq_false_iff]
  intro h1
  rw [List.all_eq_true] at h1
  have := h1 _ (List.getElem_mem h)
  rw [hk] at this
  cases this
theorem all_takeS {p : Int → Bool} {zs : List Int} {k : Nat} (h : k < zs.length) (h1 : (zs.take k).all p = true) (hk : p zs[k] = true) : (zs.take (k + 1)).all p = true := by
  rw [List.take_succ_eq_append_getElem h, List.all_append, h1]
  simp [hk]
end Go.Proofs.Ytimocipgikefoaa
/- THE WALKS of PutNum, the program's and the model's: both answer the number's bytes. -/
namespace Go.Proofs.Ytimocipgikefoaa
open Go.RowKit

theorem info5n : (Try.prog.info? 5).map (fun i => (i.zero, i.size, i.bytes)) = some (some (.int .u8 0), 1, 1) := by kernel_rfl

end Go.Proofs.Ytimocipgikefoaa
/- THE WALKS of the program's texts put together: joinTexts answers the texts of a row, one behind the other, and copyText the same text; nothing that was there turns. -/
namespace Go.Proofs.Ytimocipgikefoaa
open Go.RowKit
set_option linter.unusedVariables false

theorem info5 : (Try.prog.info? 5).map (fun i => (i.zero, i.size, i.bytes)) = some (some (.int .u8 0), 1, 1) := by kernel_rfl
theorem size5 : (Try.prog.info? 5).map (·.size) = some 1 := by kernel_rfl

/-- texts one behind the other -/
def joinT (ss : List ByteArray) : ByteArray := ss.foldl (· ++ ·) ByteArray.empty
theorem joinT_snoc (ss : List ByteArray) (s : ByteArray) : joinT (ss ++ [s]) = joinT ss ++ s := by simp [joinT, List.foldl_append]
theorem joinT_size_snoc (ss : List ByteArray) (s : ByteArray) : (joinT (ss ++ [s])).size = (joinT ss).size + s.size := by rw [joinT_snoc, ByteArray.size_append]
theorem take_more (ss : List ByteArray) (k : Nat) (h : k < ss.length) : ss.take (k + 1) = ss.take k ++ [ss[k]] := by
  rw [List.take_succ_eq_append_getElem h]
theorem joinT_le (ss : List ByteArray) (hz : ∀ s ∈ ss, s.size ≤ 1000000) : ∀ k, k ≤ ss.length → (joinT (ss.take k)).size ≤ 1000000 * k := by
  intro k
  induction k with
  | zero => intro _; simp [joinT]
  | succ k ih =>
    intro hk
    rw [take_more ss k hk, joinT_size_snoc]
    have := ih (by omega)
    have := hz ss[k] (List.getElem_mem _)
    omega
theorem joinT_mono (ss : List ByteArray) (k : Nat) (h : k ≤ ss.length) : (joinT (ss.take k)).size ≤ (joinT ss).size := by
  have key : ∀ (m : List ByteArray) (l : List ByteArray), (joinT l).size ≤ (joinT (l ++ m)).size := by
    intro m
    induction m with
    | nil => intro l; simp
    | cons c m ih =>
      intro l
      have h1 := ih (l ++ [c])
      rw [joinT_size_snoc, List.append_assoc] at h1
      exact Nat.le_trans (Nat.le_add_right _ _) h1
  have := key (ss.drop k) (ss.take k)
  rwa [List.take_append_drop] at this
theorem splice_more (cur : List Value) (a b : ByteArray) (off : Nat) (ho : a.size = off) (h : cur.take off = cellsB a) (hl : off + b.size ≤ cur.length) : (splice cur off (cellsB b)).take (off + b.size) = cellsB (a ++ b) := by
  rw [cellsB_append]
  simp only [splice]
  rw [h]
  have e : (cellsB a ++ cellsB b).length = off + b.size := by rw [List.length_append, cellsB_length, cellsB_length, ho]
  rw [← e, ← List.append_assoc]
  exact List.take_left
theorem row_str {w : World} {g : Nat} {ss : List ByteArray} {t : TypeId} {fz : Nat × Nat} (hg : w.heap[g]? = some (.cells (ss.map Value.string).toArray t fz)) (k : Nat) (hk : k < ss.length) : w.cell? ⟨g, k, none⟩ = some (.string ss[k]) := by
  simp [World.cell?, hg, hk]

theorem copy_cells (cur : List Value) (a : ByteArray) (h : cur.length = a.size) : (splice cur 0 (cellsB a)).take a.size = cellsB a := by
  have ha := cellsB_length a
  simp only [splice, List.take_zero, List.nil_append, Nat.zero_add]
  rw [ha, List.drop_of_length_le (by omega), List.append_nil]
  exact List.take_of_length_le (by omega)
end Go.Proofs.Ytimocipgikefoaa
/- THE WALKS of the CRC's functions: what each answers at every argument. -/
namespace Go.Proofs.Ytimocipgikefoaa
open Go.RowKit

/-- of all arguments -/
def crcM (c : Int) (s : ByteArray) : Int := if 8000 < s.size ∨ c < 0 ∨ 4294967295 < c then 0 else (crcL (c.toNat ^^^ 4294967295) s.data.toList ^^^ 4294967295 : Nat)

end Go.Proofs.Ytimocipgikefoaa
