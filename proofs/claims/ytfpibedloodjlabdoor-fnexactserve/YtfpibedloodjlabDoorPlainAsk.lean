/- BITS AS BYTES over lists: packed eight to a byte, and taken back. -/
import Derived.Test.YtfpibedloodjlabDoorPlainGet
import Derived.Test.YtfpibedloodjlabDoorInts
import Derived.WalkKit
import Derived.Below
import Derived.WalkSpells
import Derived.Outline
import Derived.OpenShut
import Derived.ShutString
import Derived.ChangeOld
import Derived.Lib.SmallJoins
import Derived.Deep.RegionHeld3
import Derived.Deep.DeepCutAuto
namespace Go.Proofs.YtfpibedloodjlabDoor
open Go.RowKit
set_option linter.unusedVariables false
set_option linter.unusedSimpArgs false

def bitB (n : Int) : Bool := decide (0 ≤ n) && decide (n ≤ 1)
theorem bitB_iff (n : Int) : bitB n = true ↔ n = 0 ∨ n = 1 := by
  unfold bitB
  rw [Bool.and_eq_true, decide_eq_true_eq, decide_eq_true_eq]
  omega
/-- the k-th of a list, as a bit -/
def nthB (zs : List Int) (k : Nat) : Nat := if zs.getD k 0 = 1 then 1 else 0
theorem nthB_le (zs : List Int) (k : Nat) : nthB zs k ≤ 1 := by unfold nthB; split <;> omega
def byteOf (zs : List Int) (j : Nat) : Nat :=
  nthB zs (8 * j) + 2 * nthB zs (8 * j + 1) + 4 * nthB zs (8 * j + 2) + 8 * nthB zs (8 * j + 3) + 16 * nthB zs (8 * j + 4) + 32 * nthB zs (8 * j + 5) + 64 * nthB zs (8 * j + 6) + 128 * nthB zs (8 * j + 7)
theorem byteOf_lt (zs : List Int) (j : Nat) : byteOf zs j < 256 := by
  unfold byteOf
  have h0 := nthB_le zs (8 * j); have h1 := nthB_le zs (8 * j + 1); have h2 := nthB_le zs (8 * j + 2); have h3 := nthB_le zs (8 * j + 3)
  have h4 := nthB_le zs (8 * j + 4); have h5 := nthB_le zs (8 * j + 5); have h6 := nthB_le zs (8 * j + 6); have h7 := nthB_le zs (8 * j + 7)
  omega
def packL (zs : List Int) : List UInt8 := (List.range ((zs.length + 7) / 8)).map fun j => UInt8.ofNat (byteOf zs j)
def packB (zs : List Int) : ByteArray := ⟨(packL zs).toArray⟩
theorem packL_length (zs : List Int) : (packL zs).length = (zs.length + 7) / 8 := by simp [packL]
/-- the row in the making: the first n bits are in -/
def packAt (zs : List Int) (n : Nat) : List Int := (List.range ((zs.length + 7) / 8)).map fun j => (byteOf (zs.take n) j : Int)
theorem packAt_length (zs : List Int) (n : Nat) : (packAt zs n).length = (zs.length + 7) / 8 := by simp [packAt]
theorem packAt_get (zs : List Int) (n j : Nat) (h : j < (packAt zs n).length) : (packAt zs n)[j] = (byteOf (zs.take n) j : Int) := by simp [packAt]
theorem nthB_nil (k : Nat) : nthB [] k = 0 := by simp [nthB]
theorem packAt_zero (zs : List Int) : packAt zs 0 = List.replicate ((zs.length + 7) / 8) 0 := by
  apply List.ext_getElem
  · simp [packAt]
  · intro j h1 h2
    rw [packAt_get, List.take_zero, List.getElem_replicate]
    simp [byteOf, nthB_nil]
theorem nthB_take_old (zs : List Int) (n k : Nat) (h : k ≠ n) : nthB (zs.take (n + 1)) k = nthB (zs.take n) k := by
  unfold nthB
  rw [List.getD_eq_getElem?_getD, List.getD_eq_getElem?_getD]
  rcases Nat.lt_or_gt_of_ne h with h | h
  · rw [List.getElem?_take_of_lt (by omega), List.getElem?_take_of_lt (by omega)]
  · rw [List.getElem?_eq_none (by rw [List.length_take]; omega), List.getElem?_eq_none (by rw [List.length_take]; omega)]
theorem nthB_take_new (zs : List Int) (n k : Nat) (h : n ≤ k) : nthB (zs.take n) k = 0 := by
  unfold nthB
  rw [List.getD_eq_getElem?_getD, List.getElem?_eq_none (by rw [List.length_take]; omega)]
  rfl
theorem nthB_take_at (zs : List Int) (n : Nat) (h : n < zs.length) : nthB (zs.take (n + 1)) n = if zs[n] = 1 then 1 else 0 := by
  unfold nthB
  rw [List.getD_eq_getElem?_getD, List.getElem?_take_of_lt (by omega), List.getElem?_eq_getElem h]
  rfl
theorem byteOf_other (zs : List Int) (n j : Nat) (h : j ≠ n / 8) : byteOf (zs.take (n + 1)) j = byteOf (zs.take n) j := by
  unfold byteOf
  rw [nthB_take_old zs n _ (by omega), nthB_take_old zs n _ (by omega), nthB_take_old zs n _ (by omega), nthB_take_old zs n _ (by omega), nthB_take_old zs n _ (by omega), nthB_take_old zs n _ (by omega), nthB_take_old zs n _ (by omega), nthB_take_old zs n _ (by omega)]
/-- the bit that comes in -/
theorem byteOf_next (zs : List Int) (n : Nat) (h : n < zs.length) : byteOf (zs.take (n + 1)) (n / 8) = byteOf (zs.take n) (n / 8) + (if zs[n] = 1 then 1 else 0) * 2 ^ (n % 8) ∧ byteOf (zs.take n) (n / 8) < 2 ^ (n % 8) := by
  have key := nthB_take_at zs n h
  generalize (if zs[n] = 1 then 1 else 0) = b at key
  have hn : n = 8 * (n / 8) + n % 8 := by omega
  generalize hj : n / 8 = j at hn ⊢
  generalize hr : n % 8 = r at hn ⊢
  have hr8 : r < 8 := by omega
  have bd : ∀ k, nthB (zs.take n) k ≤ 1 := nthB_le _
  have z : ∀ k, n ≤ k → nthB (zs.take n) k = 0 := nthB_take_new zs n
  have o : ∀ k, k ≠ n → nthB (zs.take (n + 1)) k = nthB (zs.take n) k := nthB_take_old zs n
  have hB : ∀ i, i < 8 → nthB (zs.take (n + 1)) (8 * j + i) = nthB (zs.take n) (8 * j + i) + if i = r then b else 0 := by
    intro i hi
    by_cases e : i = r
    · rw [if_pos e, e, ← hn, key, z n (Nat.le_refl _), Nat.zero_add]
    · rw [if_neg e, o _ (by omega), Nat.add_zero]
  have hZ : ∀ i, r ≤ i → nthB (zs.take n) (8 * j + i) = 0 := fun i hi => z _ (by omega)
  have b1 := hB 1 (by omega); have b2 := hB 2 (by omega); have b3 := hB 3 (by omega)
  have b4 := hB 4 (by omega); have b5 := hB 5 (by omega); have b6 := hB 6 (by omega); have b7 := hB 7 (by omega)
  have c1 := hZ 1; have c2 := hZ 2; have c3 := hZ 3; have c4 := hZ 4; have c5 := hZ 5; have c6 := hZ 6; have c7 := hZ 7
  have d1 := bd (8 * j + 1); have d2 := bd (8 * j + 2); have d3 := bd (8 * j + 3); have d4 := bd (8 * j + 4); have d5 := bd (8 * j + 5); have d6 := bd (8 * j + 6); have d7 := bd (8 * j + 7)
  unfold byteOf
  have b0 : nthB (zs.take (n + 1)) (8 * j) = nthB (zs.take n) (8 * j) + if 0 = r then b else 0 := hB 0 (by omega)
  have c0 : r ≤ 0 → nthB (zs.take n) (8 * j) = 0 := hZ 0
  have d0 : nthB (zs.take n) (8 * j) ≤ 1 := bd _
  generalize nthB (zs.take n) (8 * j) = x0 at *
  generalize nthB (zs.take n) (8 * j + 1) = x1 at *
  generalize nthB (zs.take n) (8 * j + 2) = x2 at *
  generalize nthB (zs.take n) (8 * j + 3) = x3 at *
  generalize nthB (zs.take n) (8 * j + 4) = x4 at *
  generalize nthB (zs.take n) (8 * j + 5) = x5 at *
  generalize nthB (zs.take n) (8 * j + 6) = x6 at *
  generalize nthB (zs.take n) (8 * j + 7) = x7 at *
  rw [b0, b1, b2, b3, b4, b5, b6, b7]
  clear b0 b1 b2 b3 b4 b5 b6 b7 hB hZ z o bd key
  match r, hr8 with
  | 0, _ => simp at *; omega
  | 1, _ => simp at *; omega
  | 2, _ => simp at *; omega
  | 3, _ => simp at *; omega
  | 4, _ => simp at *; omega
  | 5, _ => simp at *; omega
  | 6, _ => simp at *; omega
  | 7, _ => simp at *; omega
theorem packAt_step (zs : List Int) (n : Nat) (h : n < zs.length) (x : Int) (hx : x = (byteOf (zs.take (n + 1)) (n / 8) : Int)) : (packAt zs n).set (n / 8) x = packAt zs (n + 1) := by
  subst hx
  apply List.ext_getElem
  · simp [packAt]
  · intro j h1 h2
    rw [packAt_get, List.getElem_set]
    split
    · next e => rw [e]
    · next e => rw [packAt_get, byteOf_other zs n j (fun h => e h.symm)]
theorem packAt_same (zs : List Int) (n : Nat) (h : n < zs.length) (hb : ¬ zs[n] = 1) : packAt zs (n + 1) = packAt zs n := by
  apply List.ext_getElem
  · simp [packAt]
  · intro j h1 h2
    rw [packAt_get, packAt_get]
    by_cases e : j = n / 8
    · rw [e, (byteOf_next zs n h).1, if_neg hb, Nat.zero_mul, Nat.add_zero]
    · rw [byteOf_other zs n j e]
theorem packAt_all (zs : List Int) : packAt zs zs.length = (packL zs).map fun b => (b.toNat : Int) := by
  unfold packAt packL
  rw [List.take_length, List.map_map]
  apply List.map_congr_left
  intro j hj
  have := byteOf_lt zs j
  simp
  omega
/-- bits of bytes -/
def unpackL (s : ByteArray) (m : Nat) : List Int := (List.range m).map fun i => ((byteAt s (i / 8) / 2 ^ (i % 8) % 2 : Nat) : Int)
theorem unpackL_length (s : ByteArray) (m : Nat) : (unpackL s m).length = m := by simp [unpackL]
theorem unpackL_get (s : ByteArray) (m i : Nat) (h : i < (unpackL s m).length) : (unpackL s m)[i] = ((byteAt s (i / 8) / 2 ^ (i % 8) % 2 : Nat) : Int) := by simp [unpackL]
theorem byteOf_bit (zs : List Int) (j r : Nat) (hr : r < 8) : byteOf zs j / 2 ^ r % 2 = nthB zs (8 * j + r) := by
  have d0 := nthB_le zs (8 * j); have d1 := nthB_le zs (8 * j + 1); have d2 := nthB_le zs (8 * j + 2); have d3 := nthB_le zs (8 * j + 3)
  have d4 := nthB_le zs (8 * j + 4); have d5 := nthB_le zs (8 * j + 5); have d6 := nthB_le zs (8 * j + 6); have d7 := nthB_le zs (8 * j + 7)
  unfold byteOf
  match r, hr with
  | 0, _ => simp; omega
  | 1, _ => simp; omega
  | 2, _ => simp; omega
  | 3, _ => simp; omega
  | 4, _ => simp; omega
  | 5, _ => simp; omega
  | 6, _ => simp; omega
  | 7, _ => simp; omega
theorem byteAt_pack (zs : List Int) (j : Nat) (h : j < (zs.length + 7) / 8) : byteAt (packB zs) j = byteOf zs j := by
  have := byteOf_lt zs j
  unfold byteAt packB
  rw [List.getD_eq_getElem?_getD]
  simp [packL, h]
  omega
theorem unpack_pack (zs : List Int) (h : zs.all bitB = true) : unpackL (packB zs) zs.length = zs := by
  apply List.ext_getElem
  · rw [unpackL_length]
  · intro i h1 h2
    rw [unpackL_get, byteAt_pack zs _ (by omega), byteOf_bit zs _ _ (by omega), show 8 * (i / 8) + i % 8 = i by omega]
    have hb := (bitB_iff _).1 (List.all_eq_true.1 h _ (List.getElem_mem h2))
    unfold nthB
    rw [List.getD_eq_getElem?_getD, List.getElem?_eq_getElem h2]
    rcases hb with e | e <;> simp [e]
end Go.Proofs.YtfpibedloodjlabDoor
/- CHAPTER 6 over lists: tables. -/
namespace Go.Proofs.YtfpibedloodjlabDoor
open Go.RowKit
set_option linter.unusedVariables false
set_option linter.unusedSimpArgs false

/-- a table -/
structure Tb where
  cs : List Int
  rs : List Int
def Tb.right (t : Tb) : Bool := (decide (t.cs.length ≤ 24) && t.cs.all bitB) && (decide (t.rs.length ≤ 12) && t.rs.all wordB)
theorem Tb.right_iff (t : Tb) : t.right = true ↔ (t.cs.length ≤ 24 ∧ t.cs.all bitB = true) ∧ t.rs.length ≤ 12 ∧ t.rs.all wordB = true := by
  unfold Tb.right
  rw [Bool.and_eq_true, Bool.and_eq_true, Bool.and_eq_true, decide_eq_true_eq, decide_eq_true_eq]
def zeroT : Tb := ⟨[], []⟩
def newT (c r : Int) : Tb := if (0 ≤ c ∧ c ≤ 24) ∧ 0 ≤ r ∧ r ≤ 12 then ⟨List.replicate c.toNat 0, List.replicate r.toNat 0⟩ else zeroT
theorem newT_len (c r : Int) : (newT c r).cs.length ≤ 24 ∧ (newT c r).rs.length ≤ 12 := by
  unfold newT
  by_cases h : (0 ≤ c ∧ c ≤ 24) ∧ 0 ≤ r ∧ r ≤ 12
  · rw [if_pos h]; simp; omega
  · rw [if_neg h]; simp [zeroT]
def goodB (s : ByteArray) : Bool := (decide (1 ≤ s.size) && decide (s.size ≤ 8000)) && decide (byteAt s 0 < 128)
end Go.Proofs.YtfpibedloodjlabDoor
/- BLOCKS that stay: small laws. -/
namespace Go.Proofs.YtfpibedloodjlabDoor
open Go.RowKit
theorem all_alloc (w : World) (o : Obj) : Below w.heap.size w (w.alloc o) := (Below.refl _ _).alloc (Nat.le_refl _) _
theorem blk {Y Z : World} {G : Nat} {o : Obj} (h : Y.heap[G]? = some o) (hb : Below Y.heap.size Y Z) : Z.heap[G]? = some o := (hb.block G (Array.getElem?_eq_some_iff.1 h).1).trans h
/-- the cells of a block, in whatever world that kept it -/
theorem cellW {A : World} {g : Nat} {cs : Array Value} {t : TypeId} (h : A.heap[g]? = some (.cells cs t (0, 0))) (o : Nat) (v : Value) (hv : cs[o]? = some v) : ∀ W, Below A.heap.size A W → W.cell? ⟨g, o, none⟩ = some v := fun W hW => by
  have := blk h hW
  simp only [World.cell?, this]
  simpa using hv
theorem frozenW {A : World} {g : Nat} {cs : Array Value} {t : TypeId} (h : A.heap[g]? = some (.cells cs t (0, 0))) (o : Nat) : ∀ W, Below A.heap.size A W → W.frozen? ⟨g, o, none⟩ = false := fun W hW => by
  have := blk h hW
  simp [World.frozen?, this]
end Go.Proofs.YtfpibedloodjlabDoor
/- A TABLE THAT CAME IN: opened; copied, counted and held against another by the law itself; marked, still marked. -/
namespace Go.Proofs.YtfpibedloodjlabDoor
open Go.RowKit Go.ChangeShapes Go.WideShapes Go.ChangeAt
set_option linter.unusedVariables false
set_option linter.unusedSimpArgs false

theorem array2t {α : Type} {cs : Array α} (h : cs.size = 2) : ∃ c0 c1, cs = #[c0, c1] := by
  obtain ⟨l⟩ := cs
  match l, h with
  | [c0, c1], _ => exact ⟨c0, c1, rfl⟩
theorem list2t {α : Type} {l : List α} (h : l.length = 2) : ∃ c0 c1, l = [c0, c1] := by
  match l, h with
  | [c0, c1], _ => exact ⟨c0, c1, rfl⟩
theorem cellsIt : Tryd.prog.cellsOf 2 = 1 := by kernel_rfl
theorem cellsRt : Tryd.prog.cellsOf 22 = 1 := by kernel_rfl
theorem cellsTb : Tryd.prog.cellsOf 24 = 2 := by kernel_rfl
set_option maxRecDepth 100000 in
theorem open_row {H : Type} {enc : TypeId × Value → H} {W : World} {base : Nat} {held : Bool} {c : Value} {y : _} {n : Nat} (h : DataW.trod enc Tryd.prog W base (fun _ => true) held n 22 [c] = some y) :
    ∃ (zs : List Int) (p : Option Addr) (k : Nat), c = .slice p zs.length k ∧ InI W p zs := by
  obtain ⟨a, len, cap, ys, e7, hrow⟩ : ∃ a len cap zs, c = .slice a len cap ∧ IsRowN .i64 W a len cap zs := by
    rcases open_ints Tryd.underlying22 Tryd.underlying2 cellsIt h with ⟨hcs, _⟩ | ⟨x, l, c, zs, hcs, _, hl, hm, hz, _, hcell, hwz⟩
    · simp at hcs
      exact ⟨none, 0, 0, [], hcs, .inl ⟨rfl, rfl, rfl, rfl⟩⟩
    · simp at hcs
      exact ⟨some x, l, c, zs, hcs, .inr ⟨_, rfl, hl, hm, by simpa using hz, hcell, hwz⟩⟩
  subst e7
  obtain ⟨ws, rfl, hini, _⟩ := hrow.ini
  exact ⟨ws, a, cap, rfl, hini⟩
set_option maxRecDepth 100000 in
theorem open_table {H : Type} {enc : TypeId × Value → H} {W : World} {base b0 : Nat} {held : Bool} {r : Reach} {v : Value} {d : DataW H} {pl : List MemPlace}
    (hv : Value.okWide Tryd.prog W r b0 24 v) (h : DataW.Trod enc Tryd.prog W base (fun _ => true) held 24 v d pl) :
    ∃ (t : Tb) (p1 p2 : Option Addr) (c1 c2 : Nat), v = .agg #[.slice p1 t.cs.length c1, .slice p2 t.rs.length c2] ∧ InI W p1 t.cs ∧ InI W p2 t.rs := by
  obtain ⟨cs, rfl, hsz⟩ := okWide_struct Tryd.underlying24 hv
  obtain ⟨c0, c1, rfl⟩ := array2t (hsz.trans cellsTb)
  obtain ⟨fuel, hf⟩ := h
  obtain ⟨xs, n, _, _, hl, hlen, hfl⟩ := DataW.trod_struct Tryd.underlying24 hf
  obtain ⟨y0, y1, rfl⟩ := list2t hlen
  have h0 : DataW.trod enc Tryd.prog W base (fun _ => true) held n 22 [c0] = some y0 := by have := hfl 0 _ rfl; simpa [Value.cells, cellsRt] using this
  have h1 : DataW.trod enc Tryd.prog W base (fun _ => true) held n 22 [c1] = some y1 := by have := hfl 1 _ rfl; simpa [Value.cells, cellsRt] using this
  obtain ⟨z0, p0, k0, rfl, i0⟩ := open_row h0
  obtain ⟨z1, p1, k1, rfl, i1⟩ := open_row h1
  exact ⟨⟨z0, z1⟩, p0, p1, k0, k1, rfl, i0, i1⟩
/-- what the law counts of a table -/
def leftT (t : Tb) : Int := if t.cs.length + t.rs.length ≤ 1048576 then 1048576 - (t.cs.length : Int) - (t.rs.length : Int) else -1
set_option maxRecDepth 100000 in
theorem szTable_any (t : Tb) (p1 p2 : Option Addr) (c1 c2 : Nat) (w : World) (hn1 : t.cs.length ≤ 9223372036854775807) (hn2 : t.rs.length ≤ 9223372036854775807) :
    Calls Tryd.prog 4 #[.agg #[.slice p1 t.cs.length c1, .slice p2 t.rs.length c2], .int .i64 1048576] w fun x w' => x = .returned (.int .i64 (leftT t)) ∧ Below w.heap.size w w' := by
  unfold leftT
  generalize t.cs.length = n1 at *
  generalize t.rs.length = n2 at *
  have H1 : Hid (∀ W : World, Calls Tryd.prog 13 #[.slice p1 n1 c1, .int .i64 1048576] W fun x w' => x = .returned (.int .i64 (if (n1 : Int) ≤ 1048576 then 1048576 - (n1 : Int) else -1)) ∧ W = w') := fun W => szInt64S_from 1048576 (by omega) p1 n1 c1 W hn1
  by_cases h : n1 ≤ 1048576
  · have H2 : Hid (∀ W : World, Calls Tryd.prog 13 #[.slice p2 n2 c2, .int .i64 (1048576 - (n1 : Int))] W fun x w' => x = .returned (.int .i64 (if (n2 : Int) ≤ 1048576 - (n1 : Int) then 1048576 - (n1 : Int) - (n2 : Int) else -1)) ∧ W = w') := fun W => szInt64S_from (1048576 - (n1 : Int)) (by omega) p2 n2 c2 W hn2
    rw [if_pos (show (n1 : Int) ≤ 1048576 by omega)] at H1
    have h1 : ¬ (1048576 : Int) - (n1 : Int) < 0 := by omega
    by_cases h2 : n1 + n2 ≤ 1048576
    · rw [if_pos (show (n2 : Int) ≤ 1048576 - (n1 : Int) by omega)] at H2
      rw [if_pos h2]
      have h3 : ¬ (1048576 : Int) - (n1 : Int) - (n2 : Int) < 0 := by omega
      go_enter Tryd.func4, Tryd.ntmps4
      go_wp2_with (first
        | (have _ := hD; go_at_call 13; refine (H2.out _).mono ?_; rintro e w1 ⟨rfl, rfl⟩)
        | (go_at_call 13; refine (H1.out _).mono ?_; rintro e w1 ⟨rfl, rfl⟩; have hD : Hid True := trivial))
      go_ret
      exact ⟨rfl, all_alloc _ _⟩
    · rw [if_neg (show ¬ (n2 : Int) ≤ 1048576 - (n1 : Int) by omega)] at H2
      rw [if_neg h2]
      go_enter Tryd.func4, Tryd.ntmps4
      go_wp2_with (first
        | (have _ := hD; go_at_call 13; refine (H2.out _).mono ?_; rintro e w1 ⟨rfl, rfl⟩)
        | (go_at_call 13; refine (H1.out _).mono ?_; rintro e w1 ⟨rfl, rfl⟩; have hD : Hid True := trivial))
      go_ret
      exact ⟨rfl, all_alloc _ _⟩
  · rw [if_neg (show ¬ (n1 : Int) ≤ 1048576 by omega)] at H1
    rw [if_neg (by omega)]
    go_enter Tryd.func4, Tryd.ntmps4
    go_wp2_with (go_at_call 13; refine (H1.out _).mono ?_; rintro e w1 ⟨rfl, rfl⟩)
    go_ret
    exact ⟨rfl, all_alloc _ _⟩
set_option maxRecDepth 100000 in
set_option maxHeartbeats 800000 in
theorem eqTable_same (t : Tb) (a1 a2 b1 b2 : Value) (w : World) (hl1 : t.cs.length ≤ 10000000) (hl2 : t.rs.length ≤ 10000000) (h1 : RowI w a1 t.cs) (h2 : RowI w a2 t.rs) (h3 : RowI w b1 t.cs) (h4 : RowI w b2 t.rs) :
    Calls Tryd.prog 9 #[.agg #[a1, a2], .agg #[b1, b2]] w fun x w' => x = .returned (.bool true) ∧ Below w.heap.size w w' := by
  have H1 : Hid (∀ W, Below w.heap.size w W → Calls Tryd.prog 28 #[a1, b1] W fun e w' => e = .returned (.bool true) ∧ Below W.heap.size W w') := fun W hW => eqInt64S_same a1 b1 t.cs W hl1 (h1.below hW) (h3.below hW)
  have H2 : Hid (∀ W, Below w.heap.size w W → Calls Tryd.prog 28 #[a2, b2] W fun e w' => e = .returned (.bool true) ∧ Below W.heap.size W w') := fun W hW => eqInt64S_same a2 b2 t.rs W hl2 (h2.below hW) (h4.below hW)
  obtain ⟨p1, c1, rfl, _⟩ := h1
  obtain ⟨p2, c2, rfl, _⟩ := h2
  obtain ⟨p3, c3, rfl, _⟩ := h3
  obtain ⟨p4, c4, rfl, _⟩ := h4
  have hA0 : Hid (Below w.heap.size w _) := keepB (all_alloc w (.cells #[.slice p1 t.cs.length c1, .slice p2 t.rs.length c2] 26)) (Nat.le_refl _) (all_alloc _ (.cells #[.slice p3 t.cs.length c3, .slice p4 t.rs.length c4] 26))
  have hX : Hid _ := blk (heap_alloc_new w (.cells #[.slice p1 t.cs.length c1, .slice p2 t.rs.length c2] 26)) (all_alloc _ (.cells #[.slice p3 t.cs.length c3, .slice p4 t.rs.length c4] 26))
  have hY : Hid _ := heap_alloc_new (w.alloc (.cells #[.slice p1 t.cs.length c1, .slice p2 t.rs.length c2] 26)) (.cells #[.slice p3 t.cs.length c3, .slice p4 t.rs.length c4] 26)
  rw [show (w.alloc (.cells #[.slice p1 t.cs.length c1, .slice p2 t.rs.length c2] 26)).heap.size = w.heap.size + 1 by simp] at hY
  go_enter Tryd.func9, Tryd.ntmps9
  go_wp2_with (first
    | (have _ := hD; go_at_call 28; refine (H2.out _ (keepB hA0.out (Nat.le_refl _) hb1)).mono ?_; rintro e w2 ⟨rfl, hb2⟩)
    | (go_at_call 28; refine (H1.out _ hA0.out).mono ?_; rintro e w1 ⟨rfl, hb1⟩; have hD : Hid True := trivial; have x1 := cellW hX.out 1 _ rfl w1 hb1; have y1 := cellW hY.out 1 _ rfl w1 hb1))
  go_ret
  exact ⟨rfl, keepB (keepB hA0.out (Nat.le_refl _) hb1) (Nat.le_refl _) hb2⟩
/-- two lists of a table's own, that lie apart -/
structure OwnT (w : World) (base : Nat) (v1 v2 : Value) (t : Tb) : Prop where
  c : OwnI w base v1 t.cs
  r : OwnI w base v2 t.rs
  ne : ∀ a b, v1.ownBlock = some a → v2.ownBlock = some b → a ≠ b
theorem OwnT.below {w w' : World} {base : Nat} {v1 v2 : Value} {t : Tb} (h : OwnT w base v1 v2 t) (hb : Below w.heap.size w w') : OwnT w' base v1 v2 t := ⟨h.c.below hb, h.r.below hb, h.ne⟩
theorem OwnI.farT {w : World} {base : Nat} {v : Value} {zs : List Int} (h : OwnI w base v zs) {a : Addr} (ha : a.block < base) (x : Value) : OwnI (w.setCell a x) base v zs := by
  refine ⟨h.1, h.2.imp id ?_⟩
  rintro ⟨g, cap, cur, e1, e2, e3, e4⟩
  exact ⟨g, cap, cur, e1, e2, (Below.heap_setCell _ _ _ _ (by omega)).trans e3, e4⟩
theorem OwnI.leT {w : World} {base B : Nat} {v : Value} {zs : List Int} (h : OwnI w base v zs) (hB : B ≤ base) : OwnI w B v zs := by
  refine ⟨h.1, h.2.imp id ?_⟩
  rintro ⟨g, cap, cur, e1, e2, e3⟩
  exact ⟨g, cap, cur, e1, Nat.le_trans hB e2, e3⟩
theorem OwnT.farT {w : World} {base : Nat} {v1 v2 : Value} {t : Tb} (h : OwnT w base v1 v2 t) {a : Addr} (ha : a.block < base) (x : Value) : OwnT (w.setCell a x) base v1 v2 t := ⟨h.c.farT ha x, h.r.farT ha x, h.ne⟩
theorem OwnT.leT {w : World} {base B : Nat} {v1 v2 : Value} {t : Tb} (h : OwnT w base v1 v2 t) (hB : B ≤ base) : OwnT w B v1 v2 t := ⟨h.c.leT hB, h.r.leT hB, h.ne⟩
/-- one made behind the other -/
theorem OwnT.mk2 {w : World} {b m : Nat} {v1 v2 : Value} {t : Tb} (h1 : OwnI w b v1 t.cs) (h2 : OwnI w m v2 t.rs) (hb : b ≤ m) (hlt : ∀ k, v1.ownBlock = some k → k < m) : OwnT w b v1 v2 t :=
  ⟨h1, h2.leT hb, fun a c ha hc e => by have := hlt a ha; have := (OwnI.lt h2 c hc).1; omega⟩
theorem blk_set {W : World} {G : Nat} {cs : Array Value} {t : TypeId} (h : W.heap[G]? = some (.cells cs t (0, 0))) (o : Nat) (v : Value) : (W.setCell ⟨G, o, none⟩ v).heap[G]? = some (.cells (cs.setIfInBounds o v) t (0, 0)) := by
  rw [setCell_eq_setRow W G o cs _ (0, 0) _ h, setRow_heap W G cs _ _ _ h]
theorem blk_far {W : World} {G : Nat} {o : Obj} (h : W.heap[G]? = some o) {a : Addr} (ha : G ≠ a.block) (v : Value) : (W.setCell a v).heap[G]? = some o := (Below.heap_setCell _ _ _ _ (by omega)).trans h
end Go.Proofs.YtfpibedloodjlabDoor
/- QUESTIONS over numbers and lists: right, their bytes, and what is read of bytes. -/
namespace Go.Proofs.YtfpibedloodjlabDoor
open Go.RowKit
set_option linter.unusedVariables false
set_option linter.unusedSimpArgs false

/-- a question -/
structure Ak where
  c : Int
  a : Int
  m : Int
  vs : List Int
def Ak.fit (q : Ak) : Bool :=
    if q.c = 1 then (decide (1 ≤ q.m) && decide (q.m ≤ 64)) && decide (q.vs.length = 0)
    else if q.c = 3 then (decide (1 ≤ q.m) && decide (q.m ≤ 8)) && decide (q.vs.length = 0)
    else if q.c = 5 then decide (q.m = 1) && (decide (q.vs.length = 1) && q.vs.all bitB)
    else if q.c = 6 then decide (q.m = 1) && (decide (q.vs.length = 1) && q.vs.all wordB)
    else if q.c = 15 then (decide (1 ≤ q.m) && decide (q.m ≤ 16)) && (decide ((q.vs.length : Int) = q.m) && q.vs.all bitB)
    else if q.c = 16 then (decide (1 ≤ q.m) && decide (q.m ≤ 4)) && (decide ((q.vs.length : Int) = q.m) && q.vs.all wordB)
    else false
def Ak.right (q : Ak) : Bool := wordB q.a && q.fit
def twoL (n : Int) : List UInt8 := [UInt8.ofNat (n.toNat / 256), UInt8.ofNat (n.toNat % 256)]
def twoB (n : Int) : ByteArray := ⟨(twoL n).toArray⟩
def oneL (n : Int) : List UInt8 := [UInt8.ofNat n.toNat]
def oneB (n : Int) : ByteArray := ⟨(oneL n).toArray⟩
def wordsL (zs : List Int) : List UInt8 := zs.flatMap twoL
def wordsB (zs : List Int) : ByteArray := ⟨(wordsL zs).toArray⟩
def countedL (l : List UInt8) : List UInt8 := oneL (l.length : Int) ++ l
def Ak.tail (q : Ak) : List UInt8 :=
    if q.c = 1 ∨ q.c = 3 then twoL q.m
    else if q.c = 5 then twoL (65280 * q.vs.getD 0 0)
    else if q.c = 6 then twoL (q.vs.getD 0 0)
    else if q.c = 15 then twoL q.m ++ countedL (packL q.vs)
    else twoL q.m ++ countedL (wordsL q.vs)
def askL (q : Ak) : List UInt8 := oneL q.c ++ (twoL q.a ++ q.tail)
def askB (q : Ak) : ByteArray := if q.right then ⟨(askL q).toArray⟩ else ByteArray.empty
theorem wordsL_length (zs : List Int) : (wordsL zs).length = 2 * zs.length := by
  induction zs with
  | nil => rfl
  | cons a l ih => simp [wordsL, twoL] at ih ⊢; omega
theorem wordsL_snoc (l : List Int) (n : Int) : wordsL (l ++ [n]) = wordsL l ++ twoL n := by simp [wordsL]
theorem Ak.codes {q : Ak} (h : q.right = true) : q.c = 1 ∨ q.c = 3 ∨ q.c = 5 ∨ q.c = 6 ∨ q.c = 15 ∨ q.c = 16 := by
  unfold Ak.right Ak.fit at h
  rw [Bool.and_eq_true] at h
  have h := h.2
  repeat' split at h
  all_goals first | omega | simp at h

def wordAt (s : ByteArray) (i : Nat) : Int := ((256 * byteAt s i + byteAt s (i + 1) : Nat) : Int)
/-- so many words from a place on -/
def wordsAt (s : ByteArray) (i n : Nat) : List Int := (List.range n).map fun k => wordAt s (i + 2 * k)
/-- bits from a place on -/
def bitsAt (s : ByteArray) (p m : Nat) : List Int := (List.range m).map fun i => ((byteAt s (p + i / 8) / 2 ^ (i % 8) % 2 : Nat) : Int)
def readS (s : ByteArray) : Ak :=
  let c : Int := (byteAt s 0 : Int)
  let m := wordAt s 3
  if c = 5 then ⟨c, wordAt s 1, 1, [m / 65280]⟩
  else if c = 6 then ⟨c, wordAt s 1, 1, [m]⟩
  else if c = 15 then ⟨c, wordAt s 1, m, if 6 < s.size ∧ (1 ≤ m ∧ m ≤ 16) ∧ ((s.size - 6 : Nat) : Int) = (m + 7) / 8 then bitsAt s 6 m.toNat else []⟩
  else if c = 16 then ⟨c, wordAt s 1, m, wordsAt s 6 (min 7 ((s.size - 6) / 2))⟩
  else ⟨c, wordAt s 1, m, []⟩
def readI (s : ByteArray) : Ak :=
  let c : Int := (byteAt s 0 : Int)
  let m := wordAt s 3
  if c = 5 then ⟨c, wordAt s 1, 1, [m / 65280]⟩
  else if c = 6 then ⟨c, wordAt s 1, 1, [m]⟩
  else if c = 15 then ⟨c, wordAt s 1, m, if (1 ≤ m ∧ m ≤ 64) ∧ ((s.size - 6 : Nat) : Int) = (m + 7) / 8 then bitsAt s 6 m.toNat else []⟩
  else if c = 16 then ⟨c, wordAt s 1, m, wordsAt s 6 ((s.size - 6) / 2)⟩
  else ⟨c, wordAt s 1, m, []⟩
theorem wordsAt_length (s : ByteArray) (i n : Nat) : (wordsAt s i n).length = n := by simp [wordsAt]
theorem bitsAt_length (s : ByteArray) (p m : Nat) : (bitsAt s p m).length = m := by simp [bitsAt]
/-- the two readers part just where neither reads a right one -/
theorem reads (s : ByteArray) : readI s = readS s ∨ ((readI s).right = false ∧ (readS s).right = false) := by
  unfold readI readS
  generalize wordAt s 3 = m
  generalize wordAt s 1 = a
  generalize (byteAt s 0 : Int) = c
  dsimp only
  by_cases h5 : c = 5
  · rw [if_pos h5, if_pos h5]; exact .inl rfl
  rw [if_neg h5, if_neg h5]
  by_cases h6 : c = 6
  · rw [if_pos h6, if_pos h6]; exact .inl rfl
  rw [if_neg h6, if_neg h6]
  by_cases h15 : c = 15
  · rw [if_pos h15, if_pos h15]
    by_cases hm : m ≤ 16
    · left
      congr 1
      by_cases h1 : (1 ≤ m ∧ m ≤ 64) ∧ ((s.size - 6 : Nat) : Int) = (m + 7) / 8
      · rw [if_pos h1, if_pos ⟨by omega, by omega, h1.2⟩]
      · rw [if_neg h1, if_neg (by omega)]
    · right
      subst h15
      simp [Ak.right, Ak.fit, hm]
  rw [if_neg h15, if_neg h15]
  by_cases h16 : c = 16
  · rw [if_pos h16, if_pos h16]
    by_cases hz : (s.size - 6) / 2 ≤ 7
    · left
      rw [Nat.min_eq_right hz]
    · right
      subst h16
      have e : min 7 ((s.size - 6) / 2) = 7 := by omega
      rw [e]
      simp only [Ak.right, Ak.fit, wordsAt_length]
      constructor
      · by_cases hm : m ≤ 4
        · have : ¬ (((s.size - 6) / 2 : Nat) : Int) = m := by omega
          simp [this]
          omega
        · simp [hm]
      · by_cases hm : m ≤ 4
        · have : ¬ (7 : Int) = m := by omega
          simp [this]
        · simp [hm]
  rw [if_neg h16, if_neg h16]
  exact .inl rfl
theorem askB_size (q : Ak) (h : q.right = false) : askB q = ByteArray.empty := by unfold askB; rw [if_neg (by simp [h])]
end Go.Proofs.YtfpibedloodjlabDoor
