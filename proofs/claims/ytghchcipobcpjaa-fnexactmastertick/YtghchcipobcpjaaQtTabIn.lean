/- BITS AS BYTES over lists: packed eight to a byte, and taken back. -/
import Derived.Test.YtghchcipobcpjaaQtPlainGet
import Derived.Test.YtghchcipobcpjaaQtInts
import Derived.WalkKit
import Derived.Below
import Derived.WalkSpells
import Derived.Outline
import Derived.OpenShut
import Derived.ShutString
import Derived.ChangeOld
import Derived.Lib.SmallJoins
import Derived.Deep.RegionHeld3
import Derived.Deep.DeepCutAuto
namespace Go.Proofs.Ytghchcipobcpjaa
open Go.RowKit
set_option linter.unusedVariables false
set_option linter.unusedSimpArgs false

def bitB (n : Int) : Bool := decide (0 ≤ n) && decide (n ≤ 1)
theorem bitB_iff (n : Int) : bitB n = true ↔ n = 0 ∨ n = 1 := by
  unfold bitB
  rw [Bool.and_eq_true, decide_eq_true_eq, decide_eq_true_eq]
  omega
/-- the k-th of a list, as a bit -/
def nthB (zs : List Int) (k : Nat) : Nat := if zs.getD k 0 = 1 then 1 else 0
theorem nthB_le (zs : List Int) (k : Nat) : nthB zs k ≤ 1 := by unfold nthB; split <;> omega
def byteOf (zs : List Int) (j : Nat) : Nat :=
  nthB zs (8 * j) + 2 * nthB zs (8 * j + 1) + 4 * nthB zs (8 * j + 2) + 8 * nthB zs (8 * j + 3) + 16 * nthB zs (8 * j + 4) + 32 * nthB zs (8 * j + 5) + 64 * nthB zs (8 * j + 6) + 128 * nthB zs (8 * j + 7)
theorem byteOf_lt (zs : List Int) (j : Nat) : byteOf zs j < 256 := by
  unfold byteOf
  have h0 := nthB_le zs (8 * j); have h1 := nthB_le zs (8 * j + 1); have h2 := nthB_le zs (8 * j + 2); have h3 := nthB_le zs (8 * j + 3)
  have h4 := nthB_le zs (8 * j + 4); have h5 := nthB_le zs (8 * j + 5); have h6 := nthB_le zs (8 * j + 6); have h7 := nthB_le zs (8 * j + 7)
  omega
def packL (zs : List Int) : List UInt8 := (List.range ((zs.length + 7) / 8)).map fun j => UInt8.ofNat (byteOf zs j)
def packB (zs : List Int) : ByteArray := ⟨(packL zs).toArray⟩
theorem packL_length (zs : List Int) : (packL zs).length = (zs.length + 7) / 8 := by simp [packL]
/-- the row in the making: the first n bits are in -/
def packAt (zs : List Int) (n : Nat) : List Int := (List.range ((zs.length + 7) / 8)).map fun j => (byteOf (zs.take n) j : Int)
theorem packAt_length (zs : List Int) (n : Nat) : (packAt zs n).length = (zs.length + 7) / 8 := by simp [packAt]
theorem packAt_get (zs : List Int) (n j : Nat) (h : j < (packAt zs n).length) : (packAt zs n)[j] = (byteOf (zs.take n) j : Int) := by simp [packAt]
theorem nthB_nil (k : Nat) : nthB [] k = 0 := by simp [nthB]
theorem packAt_zero (zs : List Int) : packAt zs 0 = List.replicate ((zs.length + 7) / 8) 0 := by
  apply List.ext_getElem
  · simp [packAt]
  · intro j h1 h2
    rw [packAt_get, List.take_zero, List.getElem_replicate]
    simp [byteOf, nthB_nil]
theorem nthB_take_old (zs : List Int) (n k : Nat) (h : k ≠ n) : nthB (zs.take (n + 1)) k = nthB (zs.take n) k := by
  unfold nthB
  rw [List.getD_eq_getElem?_getD, List.getD_eq_getElem?_getD]
  rcases Nat.lt_or_gt_of_ne h with h | h
  · rw [List.getElem?_take_of_lt (by omega), List.getElem?_take_of_lt (by omega)]
  · rw [List.getElem?_eq_none (by rw [List.length_take]; omega), List.getElem?_eq_none (by rw [List.length_take]; omega)]
theorem nthB_take_new (zs : List Int) (n k : Nat) (h : n ≤ k) : nthB (zs.take n) k = 0 := by
  unfold nthB
  rw [List.getD_eq_getElem?_getD, List.getElem?_eq_none (by rw [List.length_take]; omega)]
  rfl
theorem nthB_take_at (zs : List Int) (n : Nat) (h : n < zs.length) : nthB (zs.take (n + 1)) n = if zs[n] = 1 then 1 else 0 := by
  unfold nthB
  rw [List.getD_eq_getElem?_getD, List.getElem?_take_of_lt (by omega), List.getElem?_eq_getElem h]
  rfl
theorem byteOf_other (zs : List Int) (n j : Nat) (h : j ≠ n / 8) : byteOf (zs.take (n + 1)) j = byteOf (zs.take n) j := by
  unfold byteOf
  rw [nthB_take_old zs n _ (by omega), nthB_take_old zs n _ (by omega), nthB_take_old zs n _ (by omega), nthB_take_old zs n _ (by omega), nthB_take_old zs n _ (by omega), nthB_take_old zs n _ (by omega), nthB_take_old zs n _ (by omega), nthB_take_old zs n _ (by omega)]
/-- the bit that comes in -/
theorem byteOf_next (zs : List Int) (n : Nat) (h : n < zs.length) : byteOf (zs.take (n + 1)) (n / 8) = byteOf (zs.take n) (n / 8) + (if zs[n] = 1 then 1 else 0) * 2 ^ (n % 8) ∧ byteOf (zs.take n) (n / 8) < 2 ^ (n % 8) := by
  have key := nthB_take_at zs n h
  generalize (if zs[n] = 1 then 1 else 0) = b at key
  have hn : n = 8 * (n / 8) + n % 8 := by omega
  generalize hj : n / 8 = j at hn ⊢
  generalize hr : n % 8 = r at hn ⊢
  have hr8 : r < 8 := by omega
  have bd : ∀ k, nthB (zs.take n) k ≤ 1 := nthB_le _
  have z : ∀ k, n ≤ k → nthB (zs.take n) k = 0 := nthB_take_new zs n
  have o : ∀ k, k ≠ n → nthB (zs.take (n + 1)) k = nthB (zs.take n) k := nthB_take_old zs n
  have hB : ∀ i, i < 8 → nthB (zs.take (n + 1)) (8 * j + i) = nthB (zs.take n) (8 * j + i) + if i = r then b else 0 := by
    intro i hi
    by_cases e : i = r
    · rw [if_pos e, e, ← hn, key, z n (Nat.le_refl _), Nat.zero_add]
    · rw [if_neg e, o _ (by omega), Nat.add_zero]
  have hZ : ∀ i, r ≤ i → nthB (zs.take n) (8 * j + i) = 0 := fun i hi => z _ (by omega)
  have b1 := hB 1 (by omega); have b2 := hB 2 (by omega); have b3 := hB 3 (by omega)
  have b4 := hB 4 (by omega); have b5 := hB 5 (by omega); have b6 := hB 6 (by omega); have b7 := hB 7 (by omega)
  have c1 := hZ 1; have c2 := hZ 2; have c3 := hZ 3; have c4 := hZ 4; have c5 := hZ 5; have c6 := hZ 6; have c7 := hZ 7
  have d1 := bd (8 * j + 1); have d2 := bd (8 * j + 2); have d3 := bd (8 * j + 3); have d4 := bd (8 * j + 4); have d5 := bd (8 * j + 5); have d6 := bd (8 * j + 6); have d7 := bd (8 * j + 7)
  unfold byteOf
  have b0 : nthB (zs.take (n + 1)) (8 * j) = nthB (zs.take n) (8 * j) + if 0 = r then b else 0 := hB 0 (by omega)
  have c0 : r ≤ 0 → nthB (zs.take n) (8 * j) = 0 := hZ 0
  have d0 : nthB (zs.take n) (8 * j) ≤ 1 := bd _
  generalize nthB (zs.take n) (8 * j) = x0 at *
  generalize nthB (zs.take n) (8 * j + 1) = x1 at *
  generalize nthB (zs.take n) (8 * j + 2) = x2 at *
  generalize nthB (zs.take n) (8 * j + 3) = x3 at *
  generalize nthB (zs.take n) (8 * j + 4) = x4 at *
  generalize nthB (zs.take n) (8 * j + 5) = x5 at *
  generalize nthB (zs.take n) (8 * j + 6) = x6 at *
  generalize nthB (zs.take n) (8 * j + 7) = x7 at *
  rw [b0, b1, b2, b3, b4, b5, b6, b7]
  clear b0 b1 b2 b3 b4 b5 b6 b7 hB hZ z o bd key
  match r, hr8 with
  | 0, _ => simp at *; omega
  | 1, _ => simp at *; omega
  | 2, _ => simp at *; omega
  | 3, _ => simp at *; omega
  | 4, _ => simp at *; omega
  | 5, _ => simp at *; omega
  | 6, _ => simp at *; omega
  | 7, _ => simp at *; omega
theorem packAt_step (zs : List Int) (n : Nat) (h : n < zs.length) (x : Int) (hx : x = (byteOf (zs.take (n + 1)) (n / 8) : Int)) : (packAt zs n).set (n / 8) x = packAt zs (n + 1) := by
  subst hx
  apply List.ext_getElem
  · simp [packAt]
  · intro j h1 h2
    rw [packAt_get, List.getElem_set]
    split
    · next e => rw [e]
    · next e => rw [packAt_get, byteOf_other zs n j (fun h => e h.symm)]
theorem packAt_same (zs : List Int) (n : Nat) (h : n < zs.length) (hb : ¬ zs[n] = 1) : packAt zs (n + 1) = packAt zs n := by
  apply List.ext_getElem
  · simp [packAt]
  · intro j h1 h2
    rw [packAt_get, packAt_get]
    by_cases e : j = n / 8
    · rw [e, (byteOf_next zs n h).1, if_neg hb, Nat.zero_mul, Nat.add_zero]
    · rw [byteOf_other zs n j e]
theorem packAt_all (zs : List Int) : packAt zs zs.length = (packL zs).map fun b => (b.toNat : Int) := by
  unfold packAt packL
  rw [List.take_length, List.map_map]
  apply List.map_congr_left
  intro j hj
  have := byteOf_lt zs j
  simp
  omega
/-- bits of bytes -/
def unpackL (s : ByteArray) (m : Nat) : List Int := (List.range m).map fun i => ((byteAt s (i / 8) / 2 ^ (i % 8) % 2 : Nat) : Int)
theorem unpackL_length (s : ByteArray) (m : Nat) : (unpackL s m).length = m := by simp [unpackL]
theorem unpackL_get (s : ByteArray) (m i : Nat) (h : i < (unpackL s m).length) : (unpackL s m)[i] = ((byteAt s (i / 8) / 2 ^ (i % 8) % 2 : Nat) : Int) := by simp [unpackL]
theorem byteOf_bit (zs : List Int) (j r : Nat) (hr : r < 8) : byteOf zs j / 2 ^ r % 2 = nthB zs (8 * j + r) := by
  have d0 := nthB_le zs (8 * j); have d1 := nthB_le zs (8 * j + 1); have d2 := nthB_le zs (8 * j + 2); have d3 := nthB_le zs (8 * j + 3)
  have d4 := nthB_le zs (8 * j + 4); have d5 := nthB_le zs (8 * j + 5); have d6 := nthB_le zs (8 * j + 6); have d7 := nthB_le zs (8 * j + 7)
  unfold byteOf
  match r, hr with
  | 0, _ => simp; omega
  | 1, _ => simp; omega
  | 2, _ => simp; omega
  | 3, _ => simp; omega
  | 4, _ => simp; omega
  | 5, _ => simp; omega
  | 6, _ => simp; omega
  | 7, _ => simp; omega
theorem byteAt_pack (zs : List Int) (j : Nat) (h : j < (zs.length + 7) / 8) : byteAt (packB zs) j = byteOf zs j := by
  have := byteOf_lt zs j
  unfold byteAt packB
  rw [List.getD_eq_getElem?_getD]
  simp [packL, h]
  omega
theorem unpack_pack (zs : List Int) (h : zs.all bitB = true) : unpackL (packB zs) zs.length = zs := by
  apply List.ext_getElem
  · rw [unpackL_length]
  · intro i h1 h2
    rw [unpackL_get, byteAt_pack zs _ (by omega), byteOf_bit zs _ _ (by omega), show 8 * (i / 8) + i % 8 = i by omega]
    have hb := (bitB_iff _).1 (List.all_eq_true.1 h _ (List.getElem_mem h2))
    unfold nthB
    rw [List.getD_eq_getElem?_getD, List.getElem?_eq_getElem h2]
    rcases hb with e | e <;> simp [e]
end Go.Proofs.Ytghchcipobcpjaa
/- CHAPTER 6 over lists: tables. -/
namespace Go.Proofs.Ytghchcipobcpjaa
open Go.RowKit
set_option linter.unusedVariables false
set_option linter.unusedSimpArgs false

/-- a table -/
structure Tb where
  cs : List Int
  rs : List Int
def Tb.right (t : Tb) : Bool := (decide (t.cs.length ≤ 24) && t.cs.all bitB) && (decide (t.rs.length ≤ 12) && t.rs.all wordB)
theorem Tb.right_iff (t : Tb) : t.right = true ↔ (t.cs.length ≤ 24 ∧ t.cs.all bitB = true) ∧ t.rs.length ≤ 12 ∧ t.rs.all wordB = true := by
  unfold Tb.right
  rw [Bool.and_eq_true, Bool.and_eq_true, Bool.and_eq_true, decide_eq_true_eq, decide_eq_true_eq]
def zeroT : Tb := ⟨[], []⟩
def newT (c r : Int) : Tb := if (0 ≤ c ∧ c ≤ 24) ∧ 0 ≤ r ∧ r ≤ 12 then ⟨List.replicate c.toNat 0, List.replicate r.toNat 0⟩ else zeroT
theorem newT_len (c r : Int) : (newT c r).cs.length ≤ 24 ∧ (newT c r).rs.length ≤ 12 := by
  unfold newT
  by_cases h : (0 ≤ c ∧ c ≤ 24) ∧ 0 ≤ r ∧ r ≤ 12
  · rw [if_pos h]; simp; omega
  · rw [if_neg h]; simp [zeroT]
def goodB (s : ByteArray) : Bool := (decide (1 ≤ s.size) && decide (s.size ≤ 8000)) && decide (byteAt s 0 < 128)
end Go.Proofs.Ytghchcipobcpjaa
/- BLOCKS that stay: small laws. -/
namespace Go.Proofs.Ytghchcipobcpjaa
open Go.RowKit
theorem all_alloc (w : World) (o : Obj) : Below w.heap.size w (w.alloc o) := (Below.refl _ _).alloc (Nat.le_refl _) _
theorem blk {Y Z : World} {G : Nat} {o : Obj} (h : Y.heap[G]? = some o) (hb : Below Y.heap.size Y Z) : Z.heap[G]? = some o := (hb.block G (Array.getElem?_eq_some_iff.1 h).1).trans h
/-- the cells of a block, in whatever world that kept it -/
theorem cellW {A : World} {g : Nat} {cs : Array Value} {t : TypeId} (h : A.heap[g]? = some (.cells cs t (0, 0))) (o : Nat) (v : Value) (hv : cs[o]? = some v) : ∀ W, Below A.heap.size A W → W.cell? ⟨g, o, none⟩ = some v := fun W hW => by
  have := blk h hW
  simp only [World.cell?, this]
  simpa using hv
theorem frozenW {A : World} {g : Nat} {cs : Array Value} {t : TypeId} (h : A.heap[g]? = some (.cells cs t (0, 0))) (o : Nat) : ∀ W, Below A.heap.size A W → W.frozen? ⟨g, o, none⟩ = false := fun W hW => by
  have := blk h hW
  simp [World.frozen?, this]
end Go.Proofs.Ytghchcipobcpjaa
/- A TABLE THAT CAME IN: opened; copied, counted and held against another by the law itself; marked, still marked. -/
namespace Go.Proofs.Ytghchcipobcpjaa
open Go.RowKit Go.ChangeShapes Go.WideShapes Go.ChangeAt
set_option linter.unusedVariables false
set_option linter.unusedSimpArgs false

theorem array2t {α : Type} {cs : Array α} (h : cs.size = 2) : ∃ c0 c1, cs = #[c0, c1] := by
  obtain ⟨l⟩ := cs
  match l, h with
  | [c0, c1], _ => exact ⟨c0, c1, rfl⟩
theorem list2t {α : Type} {l : List α} (h : l.length = 2) : ∃ c0 c1, l = [c0, c1] := by
  match l, h with
  | [c0, c1], _ => exact ⟨c0, c1, rfl⟩
theorem cellsIt : Try.prog.cellsOf 2 = 1 := by kernel_rfl
theorem cellsRt : Try.prog.cellsOf 70 = 1 := by kernel_rfl
set_option maxRecDepth 100000 in
theorem open_row {H : Type} {enc : TypeId × Value → H} {W : World} {base : Nat} {held : Bool} {c : Value} {y : _} {n : Nat} (h : DataW.trod enc Try.prog W base (fun _ => true) held n 70 [c] = some y) :
    ∃ (zs : List Int) (p : Option Addr) (k : Nat), c = .slice p zs.length k ∧ InI W p zs := by
  obtain ⟨a, len, cap, ys, e7, hrow⟩ : ∃ a len cap zs, c = .slice a len cap ∧ IsRowN .i64 W a len cap zs := by
    rcases open_ints Try.underlying70 Try.underlying2 cellsIt h with ⟨hcs, _⟩ | ⟨x, l, c, zs, hcs, _, hl, hm, hz, _, hcell, hwz⟩
    · simp at hcs
      exact ⟨none, 0, 0, [], hcs, .inl ⟨rfl, rfl, rfl, rfl⟩⟩
    · simp at hcs
      exact ⟨some x, l, c, zs, hcs, .inr ⟨_, rfl, hl, hm, by simpa using hz, hcell, hwz⟩⟩
  subst e7
  obtain ⟨ws, rfl, hini, _⟩ := hrow.ini
  exact ⟨ws, a, cap, rfl, hini⟩
/-- what the law counts of a table -/
def leftT (t : Tb) : Int := if t.cs.length + t.rs.length ≤ 1048576 then 1048576 - (t.cs.length : Int) - (t.rs.length : Int) else -1
/-- two lists of a table's own, that lie apart -/
structure OwnT (w : World) (base : Nat) (v1 v2 : Value) (t : Tb) : Prop where
  c : OwnI w base v1 t.cs
  r : OwnI w base v2 t.rs
  ne : ∀ a b, v1.ownBlock = some a → v2.ownBlock = some b → a ≠ b
theorem OwnT.below {w w' : World} {base : Nat} {v1 v2 : Value} {t : Tb} (h : OwnT w base v1 v2 t) (hb : Below w.heap.size w w') : OwnT w' base v1 v2 t := ⟨h.c.below hb, h.r.below hb, h.ne⟩
theorem OwnI.farT {w : World} {base : Nat} {v : Value} {zs : List Int} (h : OwnI w base v zs) {a : Addr} (ha : a.block < base) (x : Value) : OwnI (w.setCell a x) base v zs := by
  refine ⟨h.1, h.2.imp id ?_⟩
  rintro ⟨g, cap, cur, e1, e2, e3, e4⟩
  exact ⟨g, cap, cur, e1, e2, (Below.heap_setCell _ _ _ _ (by omega)).trans e3, e4⟩
theorem OwnI.leT {w : World} {base B : Nat} {v : Value} {zs : List Int} (h : OwnI w base v zs) (hB : B ≤ base) : OwnI w B v zs := by
  refine ⟨h.1, h.2.imp id ?_⟩
  rintro ⟨g, cap, cur, e1, e2, e3⟩
  exact ⟨g, cap, cur, e1, Nat.le_trans hB e2, e3⟩
theorem OwnT.farT {w : World} {base : Nat} {v1 v2 : Value} {t : Tb} (h : OwnT w base v1 v2 t) {a : Addr} (ha : a.block < base) (x : Value) : OwnT (w.setCell a x) base v1 v2 t := ⟨h.c.farT ha x, h.r.farT ha x, h.ne⟩
theorem OwnT.leT {w : World} {base B : Nat} {v1 v2 : Value} {t : Tb} (h : OwnT w base v1 v2 t) (hB : B ≤ base) : OwnT w B v1 v2 t := ⟨h.c.leT hB, h.r.leT hB, h.ne⟩
/-- one made behind the other -/
theorem OwnT.mk2 {w : World} {b m : Nat} {v1 v2 : Value} {t : Tb} (h1 : OwnI w b v1 t.cs) (h2 : OwnI w m v2 t.rs) (hb : b ≤ m) (hlt : ∀ k, v1.ownBlock = some k → k < m) : OwnT w b v1 v2 t :=
  ⟨h1, h2.leT hb, fun a c ha hc e => by have := hlt a ha; have := (OwnI.lt h2 c hc).1; omega⟩
theorem blk_set {W : World} {G : Nat} {cs : Array Value} {t : TypeId} (h : W.heap[G]? = some (.cells cs t (0, 0))) (o : Nat) (v : Value) : (W.setCell ⟨G, o, none⟩ v).heap[G]? = some (.cells (cs.setIfInBounds o v) t (0, 0)) := by
  rw [setCell_eq_setRow W G o cs _ (0, 0) _ h, setRow_heap W G cs _ _ _ h]
theorem blk_far {W : World} {G : Nat} {o : Obj} (h : W.heap[G]? = some o) {a : Addr} (ha : G ≠ a.block) (v : Value) : (W.setCell a v).heap[G]? = some o := (Below.heap_setCell _ _ _ _ (by omega)).trans h
end Go.Proofs.Ytghchcipobcpjaa
