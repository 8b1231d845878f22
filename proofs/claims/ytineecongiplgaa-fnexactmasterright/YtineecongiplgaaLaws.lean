/- LAWS of memory that the walks want: copy out of a text into a row of the call's own; what a row of bytes reads as. -/
import Derived.WalkKit
import Derived.WalkSpells
import Derived.Below
import Derived.Laws.CopyOwn
import Derived.Lib.SlBytesRow
namespace Go.Proofs.Ytineecongiplgaa
open Go.RowKit

/-- the cells of a text -/
def cellsB (s : ByteArray) : List Value := s.data.toList.map fun b => Value.int .u8 (b.toNat : Int)
theorem cellsB_length (s : ByteArray) : (cellsB s).length = s.size := by simp [cellsB]
theorem cellsB_one (s : ByteArray) : ∀ v ∈ cellsB s, v.oneCell' = true := by
  intro v hv
  obtain ⟨b, _, rfl⟩ := List.mem_map.1 hv
  rfl
theorem firstCells_str {P : Program} (w : World) (size : Nat) (s : ByteArray) : (Builtin.firstCells size s.size (.string s)).run P w = .ok (cellsB s).toArray w := by
  have e : s.extract 0 s.size = s := by
    apply ByteArray.ext; simp
  have e2 : s.data.map (fun b => Value.int .u8 (b.toNat : Int)) = (cellsB s).toArray := by
    apply Array.toList_inj.1; simp [cellsB]
  simp [Builtin.firstCells, e, e2, Sem.run_pure]

theorem run_copy_str {P : Program} (w : World) (dT sT ty elem : TypeId) (dp : Option Addr) (g o dLen dCap : Nat) (s : ByteArray) (cur : Array Value) (t : TypeId)
    (hu : P.underlying dT = some (.slice elem)) (hs : (P.info? elem).map (·.size) = some 1)
    (hg : w.heap[g]? = some (.cells cur t (0, 0))) (hle : s.size ≤ dLen) (hpos : 0 < s.size → dp = some ⟨g, o, none⟩) (hfit : o + s.size ≤ cur.size) :
    (Builtin.copy_ #[dT, sT] ty #[.slice dp dLen dCap, .string s]).run P w =
      .ok (goInt s.size) (w.setRow g (cur.toList.take o ++ cellsB s ++ cur.toList.drop (o + s.size)).toArray) := by
  have hn : Nat.min s.size dLen = s.size := Nat.min_eq_left hle
  have hf := firstCells_str (P := P) w 1 s
  have hst := run_storeCells_at P g o t (cellsB s) 0 cur w hg (by simpa [cellsB_length] using hfit) (cellsB_one s)
  rw [cellsB_length, Nat.add_zero] at hst
  cases hq : P.info? elem with
  | none => simp [hq] at hs
  | some i =>
    have hi : i.size = 1 := by simpa [hq] using hs
    by_cases h0 : 0 < s.size
    · obtain rfl := hpos h0
      simp [Builtin.copy_, run_underlying hu, Builtin.lenOf, sizeOf, typeInfo, hq, hi, hn, hf, hst]
    · have e0 : cellsB s = [] := List.eq_nil_of_length_eq_zero (by rw [cellsB_length]; omega)
      have z0 : s.size = 0 := by omega
      have es : w.setRow g cur = w := setRow_self w g cur t (0, 0) hg
      rw [e0, z0] at hf
      rw [e0]
      cases dp with
      | none => simp [Builtin.copy_, run_underlying hu, Builtin.lenOf, sizeOf, typeInfo, hq, hi, hf, z0, es]
      | some a => simp [Builtin.copy_, run_underlying hu, Builtin.lenOf, sizeOf, typeInfo, hq, hi, hf, z0, storeCells, es]

theorem wpList_copy_str {P : Program} {w : World} {ops : Array Oper} {rest : List Oper} {o : Oper} {a : Act} {Q : Exit → Act → World → Prop} (hgd : o.guard = none) (d s : Operand) (dT sT : TypeId)
    (ho : o.op = .call { callee := .builtin .copy, args := #[d, s], argTypes := #[dT, sT] }) (elem : TypeId) (hu : P.underlying dT = some (.slice elem)) (hsz : (P.info? elem).map (·.size) = some 1)
    (dp : Option Addr) (dLen dCap : Nat) (str : ByteArray) (hd : a.eval d = .slice dp dLen dCap) (hs : a.eval s = .string str) (hle : str.size ≤ dLen)
    (g off : Nat) (cur : List Value) (t : TypeId) (hg : w.heap[g]? = some (.cells cur.toArray t (0, 0))) (hpos : 0 < str.size → dp = some ⟨g, off, none⟩) (hfit : off + str.size ≤ cur.length)
    (B : Nat) (w0 : World) (hb : Below B w0 w) (hBg : B ≤ g)
    (h : ∀ w', Hid (w'.heap[g]? = some (.cells (splice cur off (cellsB str)).toArray t (0, 0))) → Below B w0 w' → wpList P ops Q rest (a.put o.dst (goInt str.size)) w') :
    wpList P ops Q (o :: rest) a w := by
  refine wpList_plain hgd fun K hK => ?_
  have hrun := run_copy_str (P := P) w dT sT o.type elem dp g off dLen dCap str cur.toArray t hu hsz hg hle hpos (by simpa using hfit)
  unfold Oper.wp
  simp only [execOp, ho, resolve, invoke, builtin]
  simp [hd, hs, hrun, Result.andThen]
  refine hK _ _ (h _ (show _ = _ from ?_) (below_setRow hb hBg _))
  rw [setRow_heap w g cur.toArray _ t _ hg]
  simp [splice, cellsB_length]

/-- the block of a row that was just made -/
theorem own_block {w : World} {base : Nat} {e : TypeId} {g n cap : Nat} {xs : List Value} (h : w.ownsRow base e 1 (.slice (some ⟨g, 0, none⟩) n cap) n xs) :
    ∃ cur : List Value, Hid (w.heap[g]? = some (.cells cur.toArray e (0, 0))) ∧ cur.length = cap ∧ Hid (cur.take n = xs) := by
  obtain ⟨_, ⟨h, _⟩ | ⟨g', cap', cur, hv, _, hg, _, _, hs, ht⟩⟩ := h
  · cases h
  · cases hv
    exact ⟨cur.toList, show _ = _ by simpa using hg, by simpa using hs, show _ = _ by simpa using ht⟩
theorem bytes_of_cells {w : World} {g : Nat} {e : TypeId} {cs : List Value} {fr : Nat × Nat} (s : ByteArray) (h : w.heap[g]? = some (.cells cs.toArray e fr)) (hc : cs.take s.size = cellsB s) : Lib.Bytes w g 0 s := by
  intro i hi
  have e1 : cs[i]? = some (.int .u8 (s[i].toNat : Int)) := by
    have e2 : (cs.take s.size)[i]? = cs[i]? := List.getElem?_take_of_lt hi
    rw [← e2, hc, cellsB, List.getElem?_map]
    have e3 : s.data.toList[i]? = some s[i] := by
      rw [List.getElem?_eq_getElem (by simpa using hi)]; rfl
    rw [e3]; rfl
  simp [World.cell?, h, e1]
theorem cellsB_append (a b : ByteArray) : cellsB (a ++ b) = cellsB a ++ cellsB b := by
  simp [cellsB, ByteArray.data_append]
theorem join_cells (cur : List Value) (a b : ByteArray) (h : cur.length = a.size + b.size) : (splice (splice cur 0 (cellsB a)) a.size (cellsB b)).take (a ++ b).size = cellsB (a ++ b) := by
  have ha := cellsB_length a
  have hb := cellsB_length b
  rw [cellsB_append, ByteArray.size_append]
  simp only [splice, List.take_zero, List.nil_append, Nat.zero_add]
  rw [ha, hb]
  have e1 : (cellsB a ++ List.drop a.size cur).take a.size = cellsB a := by rw [← ha]; exact List.take_left' rfl
  have e2 : (cellsB a ++ List.drop a.size cur).drop (a.size + b.size) = [] := by
    apply List.drop_of_length_le; simp [ha, h]
  rw [e1, e2, List.append_nil]
  exact List.take_of_length_le (by simp [ha, hb])
theorem cell_at {w : World} {g : Nat} {cs : List Value} {t : TypeId} {k : Nat} (h : w.heap[g]? = some (.cells cs.toArray t (0, 0))) (hk : k < cs.length) :
    w.cell? ⟨g, k, none⟩ = some (cs.getD k (.int .u8 0)) ∧ w.frozen? ⟨g, k, none⟩ = false := by
  constructor
  · simp [World.cell?, h, hk]
  · simp [World.frozen?, h]
theorem set_at {w : World} {g : Nat} {cs : List Value} {t : TypeId} (k : Nat) (v : Value) (h : w.heap[g]? = some (.cells cs.toArray t (0, 0))) :
    (w.setCell ⟨g, k, none⟩ v).heap[g]? = some (.cells (cs.set k v).toArray t (0, 0)) := by
  rw [setCell_eq_setRow w g k cs.toArray t (0, 0) v h, setRow_heap w g cs.toArray _ t _ h]
  simp
theorem take_set {cs : List Value} {k : Nat} (v : Value) (h : k < cs.length) : (cs.set k v).take (k + 1) = cs.take k ++ [v] := by
  rw [List.take_succ_eq_append_getElem (by simpa using h)]
  rw [List.take_set, List.set_eq_of_length_le (by simp; omega)]
  simp
end Go.Proofs.Ytineecongiplgaa
