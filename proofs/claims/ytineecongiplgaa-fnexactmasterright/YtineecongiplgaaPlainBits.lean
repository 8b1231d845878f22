/- BITS AS BYTES over lists: packed eight to a byte, and taken back. -/
import Derived.Test.YtineecongiplgaaPlainSt
import Derived.Test.YtineecongiplgaaPlainGet
namespace Go.Proofs.Ytineecongiplgaa
open Go.RowKit
set_option linter.unusedVariables false
set_option linter.unusedSimpArgs false

def bitB (n : Int) : Bool := decide (0 ≤ n) && decide (n ≤ 1)
theorem bitB_iff (n : Int) : bitB n = true ↔ n = 0 ∨ n = 1 := by
  unfold bitB
  rw [Bool.and_eq_true, decide_eq_true_eq, decide_eq_true_eq]
  omega
/-- the k-th of a list, as a bit -/
def nthB (zs : List Int) (k : Nat) : Nat := if zs.getD k 0 = 1 then 1 else 0
theorem nthB_le (zs : List Int) (k : Nat) : nthB zs k ≤ 1 := by unfold nthB; split <;> omega
def byteOf (zs : List Int) (j : Nat) : Nat :=
  nthB zs (8 * j) + 2 * nthB zs (8 * j + 1) + 4 * nthB zs (8 * j + 2) + 8 * nthB zs (8 * j + 3) + 16 * nthB zs (8 * j + 4) + 32 * nthB zs (8 * j + 5) + 64 * nthB zs (8 * j + 6) + 128 * nthB zs (8 * j + 7)
theorem byteOf_lt (zs : List Int) (j : Nat) : byteOf zs j < 256 := by
  unfold byteOf
  have h0 := nthB_le zs (8 * j); have h1 := nthB_le zs (8 * j + 1); have h2 := nthB_le zs (8 * j + 2); have h3 := nthB_le zs (8 * j + 3)
  have h4 := nthB_le zs (8 * j + 4); have h5 := nthB_le zs (8 * j + 5); have h6 := nthB_le zs (8 * j + 6); have h7 := nthB_le zs (8 * j + 7)
  omega
def packL (zs : List Int) : List UInt8 := (List.range ((zs.length + 7) / 8)).map fun j => UInt8.ofNat (byteOf zs j)
def packB (zs : List Int) : ByteArray := ⟨(packL zs).toArray⟩
theorem packL_length (zs : List Int) : (packL zs).length = (zs.length + 7) / 8 := by simp [packL]
/-- the row in the making: the first n bits are in -/
def packAt (zs : List Int) (n : Nat) : List Int := (List.range ((zs.length + 7) / 8)).map fun j => (byteOf (zs.take n) j : Int)
theorem packAt_length (zs : List Int) (n : Nat) : (packAt zs n).length = (zs.length + 7) / 8 := by simp [packAt]
theorem packAt_get (zs : List Int) (n j : Nat) (h : j < (packAt zs n).length) : (packAt zs n)[j] = (byteOf (zs.take n) j : Int) := by simp [packAt]
theorem nthB_nil (k : Nat) : nthB [] k = 0 := by simp [nthB]
theorem packAt_zero (zs : List Int) : packAt zs 0 = List.replicate ((zs.length + 7) / 8) 0 := by
  apply List.ext_getElem
  · simp [packAt]
  · intro j h1 h2
    rw [packAt_get, List.take_zero, List.getElem_replicate]
    simp [byteOf, nthB_nil]
theorem nthB_take_old (zs : List Int) (n k : Nat) (h : k ≠ n) : nthB (zs.take (n + 1)) k = nthB (zs.take n) k := by
  unfold nthB
  rw [List.getD_eq_getElem?_getD, List.getD_eq_getElem?_getD]
  rcases Nat.lt_or_gt_of_ne h with h | h
  · rw [List.getElem?_take_of_lt (by omega), List.getElem?_take_of_lt (by omega)]
  · rw [List.getElem?_eq_none (by rw [List.length_take]; omega), List.getElem?_eq_none (by rw [List.length_take]; omega)]
theorem nthB_take_new (zs : List Int) (n k : Nat) (h : n ≤ k) : nthB (zs.take n) k = 0 := by
  unfold nthB
  rw [List.getD_eq_getElem?_getD, List.getElem?_eq_none (by rw [List.length_take]; omega)]
  rfl
theorem nthB_take_at (zs : List Int) (n : Nat) (h : n < zs.length) : nthB (zs.take (n + 1)) n = if zs[n] = 1 then 1 else 0 := by
  unfold nthB
  rw [List.getD_eq_getElem?_getD, List.getElem?_take_of_lt (by omega), List.getElem?_eq_getElem h]
  rfl
theorem byteOf_other (zs : List Int) (n j : Nat) (h : j ≠ n / 8) : byteOf (zs.take (n + 1)) j = byteOf (zs.take n) j := by
  unfold byteOf
  rw [nthB_take_old zs n _ (by omega), nthB_take_old zs n _ (by omega), nthB_take_old zs n _ (by omega), nthB_take_old zs n _ (by omega), nthB_take_old zs n _ (by omega), nthB_take_old zs n _ (by omega), nthB_take_old zs n _ (by omega), nthB_take_old zs n _ (by omega)]
/-- the bit that comes in -/
theorem byteOf_next (zs : List Int) (n : Nat) (h : n < zs.length) : byteOf (zs.take (n + 1)) (n / 8) = byteOf (zs.take n) (n / 8) + (if zs[n] = 1 then 1 else 0) * 2 ^ (n % 8) ∧ byteOf (zs.take n) (n / 8) < 2 ^ (n % 8) := by
  have key := nthB_take_at zs n h
  generalize (if zs[n] = 1 then 1 else 0) = b at key
  have hn : n = 8 * (n / 8) + n % 8 := by omega
  generalize hj : n / 8 = j at hn ⊢
  generalize hr : n % 8 = r at hn ⊢
  have hr8 : r < 8 := by omega
  have bd : ∀ k, nthB (zs.take n) k ≤ 1 := nthB_le _
  have z : ∀ k, n ≤ k → nthB (zs.take n) k = 0 := nthB_take_new zs n
  have o : ∀ k, k ≠ n → nthB (zs.take (n + 1)) k = nthB (zs.take n) k := nthB_take_old zs n
  have hB : ∀ i, i < 8 → nthB (zs.take (n + 1)) (8 * j + i) = nthB (zs.take n) (8 * j + i) + if i = r then b else 0 := by
    intro i hi
    by_cases e : i = r
    · rw [if_pos e, e, ← hn, key, z n (Nat.le_refl _), Nat.zero_add]
    · rw [if_neg e, o _ (by omega), Nat.add_zero]
  have hZ : ∀ i, r ≤ i → nthB (zs.take n) (8 * j + i) = 0 := fun i hi => z _ (by omega)
  have b1 := hB 1 (by omega); have b2 := hB 2 (by omega); have b3 := hB 3 (by omega)
  have b4 := hB 4 (by omega); have b5 := hB 5 (by omega); have b6 := hB 6 (by omega); have b7 := hB 7 (by omega)
  have c1 := hZ 1; have c2 := hZ 2; have c3 := hZ 3; have c4 := hZ 4; have c5 := hZ 5; have c6 := hZ 6; have c7 := hZ 7
  have d1 := bd (8 * j + 1); have d2 := bd (8 * j + 2); have d3 := bd (8 * j + 3); have d4 := bd (8 * j + 4); have d5 := bd (8 * j + 5); have d6 := bd (8 * j + 6); have d7 := bd (8 * j + 7)
  unfold byteOf
  have b0 : nthB (zs.take (n + 1)) (8 * j) = nthB (zs.take n) (8 * j) + if 0 = r then b else 0 := hB 0 (by omega)
  have c0 : r ≤ 0 → nthB (zs.take n) (8 * j) = 0 := hZ 0
  have d0 : nthB (zs.take n) (8 * j) ≤ 1 := bd _
  generalize nthB (zs.take n) (8 * j) = x0 at *
  generalize nthB (zs.take n) (8 * j + 1) = x1 at *
  generalize nthB (zs.take n) (8 * j + 2) = x2 at *
  generalize nthB (zs.take n) (8 * j + 3) = x3 at *
  generalize nthB (zs.take n) (8 * j + 4) = x4 at *
  generalize nthB (zs.take n) (8 * j + 5) = x5 at *
  generalize nthB (zs.take n) (8 * j + 6) = x6 at *
  generalize nthB (zs.take n) (8 * j + 7) = x7 at *
  rw [b0, b1, b2, b3, b4, b5, b6, b7]
  clear b0 b1 b2 b3 b4 b5 b6 b7 hB hZ z o bd key
  match r, hr8 with
  | 0, _ => simp at *; omega
  | 1, _ => simp at *; omega
  | 2, _ => simp at *; omega
  | 3, _ => simp at *; omega
  | 4, _ => simp at *; omega
  | 5, _ => simp at *; omega
  | 6, _ => simp at *; omega
  | 7, _ => simp at *; omega
theorem packAt_step (zs : List Int) (n : Nat) (h : n < zs.length) (x : Int) (hx : x = (byteOf (zs.take (n + 1)) (n / 8) : Int)) : (packAt zs n).set (n / 8) x = packAt zs (n + 1) := by
  subst hx
  apply List.ext_getElem
  · simp [packAt]
  · intro j h1 h2
    rw [packAt_get, List.getElem_set]
    split
    · next e => rw [e]
    · next e => rw [packAt_get, byteOf_other zs n j (fun h => e h.symm)]
theorem packAt_same (zs : List Int) (n : Nat) (h : n < zs.length) (hb : ¬ zs[n] = 1) : packAt zs (n + 1) = packAt zs n := by
  apply List.ext_getElem
  · simp [packAt]
  · intro j h1 h2
    rw [packAt_get, packAt_get]
    by_cases e : j = n / 8
    · rw [e, (byteOf_next zs n h).1, if_neg hb, Nat.zero_mul, Nat.add_zero]
    · rw [byteOf_other zs n j e]
theorem packAt_all (zs : List Int) : packAt zs zs.length = (packL zs).map fun b => (b.toNat : Int) := by
  unfold packAt packL
  rw [List.take_length, List.map_map]
  apply List.map_congr_left
  intro j hj
  have := byteOf_lt zs j
  simp
  omega
/-- bits of bytes -/
def unpackL (s : ByteArray) (m : Nat) : List Int := (List.range m).map fun i => ((byteAt s (i / 8) / 2 ^ (i % 8) % 2 : Nat) : Int)
theorem unpackL_length (s : ByteArray) (m : Nat) : (unpackL s m).length = m := by simp [unpackL]
theorem unpackL_get (s : ByteArray) (m i : Nat) (h : i < (unpackL s m).length) : (unpackL s m)[i] = ((byteAt s (i / 8) / 2 ^ (i % 8) % 2 : Nat) : Int) := by simp [unpackL]
theorem byteOf_bit (zs : List Int) (j r : Nat) (hr : r < 8) : byteOf zs j / 2 ^ r % 2 = nthB zs (8 * j + r) := by
  have d0 := nthB_le zs (8 * j); have d1 := nthB_le zs (8 * j + 1); have d2 := nthB_le zs (8 * j + 2); have d3 := nthB_le zs (8 * j + 3)
  have d4 := nthB_le zs (8 * j + 4); have d5 := nthB_le zs (8 * j + 5); have d6 := nthB_le zs (8 * j + 6); have d7 := nthB_le zs (8 * j + 7)
  unfold byteOf
  match r, hr with
  | 0, _ => simp; omega
  | 1, _ => simp; omega
  | 2, _ => simp; omega
  | 3, _ => simp; omega
  | 4, _ => simp; omega
  | 5, _ => simp; omega
  | 6, _ => simp; omega
  | 7, _ => simp; omega
theorem byteAt_pack (zs : List Int) (j : Nat) (h : j < (zs.length + 7) / 8) : byteAt (packB zs) j = byteOf zs j := by
  have := byteOf_lt zs j
  unfold byteAt packB
  rw [List.getD_eq_getElem?_getD]
  simp [packL, h]
  omega
theorem unpack_pack (zs : List Int) (h : zs.all bitB = true) : unpackL (packB zs) zs.length = zs := by
  apply List.ext_getElem
  · rw [unpackL_length]
  · intro i h1 h2
    rw [unpackL_get, byteAt_pack zs _ (by omega), byteOf_bit zs _ _ (by omega), show 8 * (i / 8) + i % 8 = i by omega]
    have hb := (bitB_iff _).1 (List.all_eq_true.1 h _ (List.getElem_mem h2))
    unfold nthB
    rw [List.getD_eq_getElem?_getD, List.getElem?_eq_getElem h2]
    rcases hb with e | e <;> simp [e]
end Go.Proofs.Ytineecongiplgaa
