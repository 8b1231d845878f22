/- PLAIN: the CRC of a list of bytes over numbers from 0 on; nothing of the program. -/
import Derived.Test.YtfpibedloodjlabDoorProg
import Derived.WalkKit
import Derived.Laws.BitsAllLaws
import Derived.WalkSpells
import Derived.Below
import Derived.Laws.CopyOwn
import Derived.Lib.SlBytesRow
import Derived.Outline
import Derived.Deep.RegionHeld3
import Derived.Deep.QuietTactic
import Derived.BigQuiet
namespace Go.Proofs.YtfpibedloodjlabDoor
open Go.RowKit

def crcStep (x : Nat) : Nat := if x % 2 = 1 then (x / 2) ^^^ 3988292384 else x / 2
def crcSteps : Nat → Nat → Nat
  | 0, x => x
  | n + 1, x => crcStep (crcSteps n x)
def crcB (r b : Nat) : Nat := crcSteps 8 (r ^^^ b)
def crcL (r : Nat) (l : List UInt8) : Nat := l.foldl (fun r c => crcB r c.toNat) r

theorem xor_lt32 {a b : Nat} (ha : a < 4294967296) (hb : b < 4294967296) : a ^^^ b < 4294967296 := Nat.xor_lt_two_pow (n := 32) ha hb
theorem crcStep_lt {x : Nat} (h : x < 4294967296) : crcStep x < 4294967296 := by
  unfold crcStep
  split
  · exact xor_lt32 (by omega) (by decide)
  · omega
theorem crcSteps_lt (n : Nat) {x : Nat} (h : x < 4294967296) : crcSteps n x < 4294967296 := by
  induction n with
  | zero => exact h
  | succ n ih => exact crcStep_lt ih
theorem u8_lt (c : UInt8) : c.toNat < 256 := c.toNat_lt
theorem crcB_lt {r b : Nat} (h : r < 4294967296) (hb : b < 256) : crcB r b < 4294967296 := crcSteps_lt 8 (xor_lt32 h (by omega))
theorem crcL_lt (l : List UInt8) : ∀ {r : Nat}, r < 4294967296 → crcL r l < 4294967296 := by
  induction l with
  | nil => intro r h; exact h
  | cons c l ih => intro r h; exact ih (crcB_lt h (u8_lt c))
theorem crcL_snoc (r : Nat) (l : List UInt8) (c : UInt8) : crcL r (l ++ [c]) = crcB (crcL r l) c.toNat := by
  simp [crcL, List.foldl_append]
theorem crcL_append (r : Nat) (l m : List UInt8) : crcL r (l ++ m) = crcL (crcL r l) m := by
  simp [crcL, List.foldl_append]

/-- the other way to a byte: bit by bit beside the register -/
def bitStep (b i r : Nat) : Nat := if (r ^^^ (b / 2 ^ i)) % 2 = 1 then (r / 2) ^^^ 3988292384 else r / 2
def bitSteps (b : Nat) : Nat → Nat → Nat
  | 0, r => r
  | n + 1, r => bitStep b n (bitSteps b n r)
theorem xor_half (a b : Nat) : (a ^^^ b) / 2 = (a / 2) ^^^ (b / 2) := by
  have := Nat.shiftRight_xor_distrib (a := a) (b := b) (i := 1)
  simpa [Nat.shiftRight_eq_div_pow] using this
theorem bitSteps_eq (b r : Nat) (n : Nat) : crcSteps n (r ^^^ b) = bitSteps b n r ^^^ (b / 2 ^ n) := by
  induction n with
  | zero => simp [crcSteps, bitSteps]
  | succ n ih =>
    show crcStep (crcSteps n (r ^^^ b)) = bitStep b n (bitSteps b n r) ^^^ (b / 2 ^ (n + 1))
    rw [ih]
    have e : b / 2 ^ (n + 1) = b / 2 ^ n / 2 := by rw [Nat.pow_succ, Nat.div_div_eq_div_mul]
    unfold crcStep bitStep
    rw [e]
    split
    · rw [xor_half, Nat.xor_assoc, Nat.xor_comm (b / 2 ^ n / 2), ← Nat.xor_assoc]
    · rw [xor_half]
theorem bitSteps_crcB (b r : Nat) (hb : b < 256) : bitSteps b 8 r = crcB r b := by
  have := bitSteps_eq b r 8
  have h0 : b / 2 ^ 8 = 0 := by omega
  rw [h0, Nat.xor_zero] at this
  exact this.symm
theorem bitStep_lt (b i : Nat) {r : Nat} (h : r < 4294967296) : bitStep b i r < 4294967296 := by
  unfold bitStep
  split
  · exact xor_lt32 (by omega) (by decide)
  · omega
theorem bitSteps_lt (b n : Nat) {r : Nat} (h : r < 4294967296) : bitSteps b n r < 4294967296 := by
  induction n with
  | zero => exact h
  | succ n ih => exact bitStep_lt b n ih

theorem bit_xor (x b k : Nat) (hx : x < 4294967296) (hb : b < 256) : bits .xor .u32 (x : Int) ((b : Int) / 2 ^ k % 4294967296) = ((x ^^^ b / 2 ^ k : Nat) : Int) := by
  have h2 : b / 2 ^ k ≤ b := Nat.div_le_self _ _
  have e : ((b : Int) / 2 ^ k % 4294967296) = ((b / 2 ^ k : Nat) : Int) := by
    have : ((b / 2 ^ k : Nat) : Int) = (b : Int) / 2 ^ k := by simp
    have hlt : b / 2 ^ k < 4294967296 := by omega
    rw [← this]; exact Int.emod_eq_of_lt (Int.natCast_nonneg _) (Int.ofNat_lt.2 hlt)
  rw [e]
  exact u32_xor_nat x (b / 2 ^ k) hx (by omega)
theorem odd_nat (n : Nat) : ((n : Int).tmod 2 == 1) = decide (n % 2 = 1) := by
  have e : (n : Int).tmod 2 = ((n % 2 : Nat) : Int) := by rw [Int.tmod_eq_emod_of_nonneg (by omega)]; omega
  rw [e, Bool.eq_iff_iff]; simp; omega
theorem half_xor (x : Nat) (hx : x < 4294967296) : bits .xor .u32 ((x : Int) / 2) 3988292384 = ((x / 2 ^^^ 3988292384 : Nat) : Int) := by
  have e : (x : Int) / 2 = ((x / 2 : Nat) : Int) := by omega
  rw [e]
  exact u32_xor_nat (x / 2) 3988292384 (by omega) (by decide)
theorem bit_yes {x b k : Nat} (hx : x < 4294967296) (hb : b < 256) (h : ((bits .xor .u32 (x : Int) ((b : Int) / 2 ^ k % 4294967296)).tmod 2 == 1) = true) :
    bits .xor .u32 ((x : Int) / 2) 3988292384 = (bitStep b k x : Nat) := by
  rw [bit_xor x b k hx hb, odd_nat] at h
  rw [half_xor x hx]; unfold bitStep; rw [if_pos (by simpa using h)]
theorem bit_no {x b k : Nat} (hx : x < 4294967296) (hb : b < 256) (h : ((bits .xor .u32 (x : Int) ((b : Int) / 2 ^ k % 4294967296)).tmod 2 == 1) = false) :
    (x : Int) / 2 = (bitStep b k x : Nat) := by
  rw [bit_xor x b k hx hb, odd_nat] at h
  unfold bitStep; rw [if_neg (by simpa using h)]; omega

theorem crcSteps_zero (x : Nat) : crcSteps 0 x = x := rfl
theorem val_int {k : IntKind} {a b : Int} (h : a = b) : Value.int k a = .int k b := by rw [h]
theorem start_byte (x b : Nat) (hx : x < 4294967296) (hb : b < 256) : bits .xor .u32 (x : Int) ((b : Int) % 4294967296) = ((crcSteps 0 (x ^^^ b) : Nat) : Int) := by
  have e : (b : Int) % 4294967296 = (b : Int) := by omega
  rw [e, crcSteps_zero]
  exact u32_xor_nat x b hx (by omega)
theorem start_plain (x b : Nat) (hx : x < 4294967296) (hb : b < 256) : bits .xor .u32 (x : Int) (b : Int) = ((crcSteps 0 (x ^^^ b) : Nat) : Int) := by
  rw [crcSteps_zero]
  exact u32_xor_nat x b hx (by omega)
theorem xor_byte (x b : Nat) (hx : x < 4294967296) (hb : b < 256) : bits .xor .u32 (x : Int) ((b : Int) % 4294967296) = ((x ^^^ b : Nat) : Int) := by
  have e : (b : Int) % 4294967296 = (b : Int) := by omega
  rw [e]
  exact u32_xor_nat x b hx (by omega)
theorem xor_ones (x : Nat) (hx : x < 4294967296) : bits .xor .u32 (x : Int) 4294967295 = ((x ^^^ 4294967295 : Nat) : Int) := u32_xor_nat x 4294967295 hx (by decide)
theorem ones_xor (x : Nat) (hx : x < 4294967296) : bits .xor .u32 IntKind.u32.max (x : Int) = ((x ^^^ 4294967295 : Nat) : Int) := by
  have := u32_xor_nat 4294967295 x (by decide) hx
  rw [Nat.xor_comm] at this
  exact this
theorem and_one (x : Nat) (hx : x < 4294967296) : bits .and .u32 (x : Int) 1 = ((x % 2 : Nat) : Int) := by
  have := u32_and_nat x 1 hx (by decide)
  rw [Nat.and_one_is_mod] at this
  exact this
theorem step_yes {x : Nat} (hx : x < 4294967296) (h : (bits .and .u32 (x : Int) 1 == 1) = true) : bits .xor .u32 ((x : Int) / 2) 3988292384 = (crcStep x : Nat) := by
  rw [and_one x hx] at h
  rw [half_xor x hx]; unfold crcStep; rw [if_pos (by simp at h; omega)]
theorem step_no {x : Nat} (hx : x < 4294967296) (h : (bits .and .u32 (x : Int) 1 == 1) = false) : (x : Int) / 2 = (crcStep x : Nat) := by
  rw [and_one x hx] at h
  unfold crcStep; rw [if_neg (by simp at h; omega)]; omega

theorem ret_int {k : IntKind} {a b : Int} (h : a = b) : Ending.returned (.int k a) = .returned (.int k b) := by rw [h]
theorem ret_bool {a b : Bool} (h : a = b) : Ending.returned (.bool a) = .returned (.bool b) := by rw [h]
theorem take_snoc (s : ByteArray) (k : Nat) (h : k < s.size) : s.data.toList.take (k + 1) = s.data.toList.take k ++ [s[k]] := by
  rw [List.take_succ_eq_append_getElem (by simpa using h)]; rfl
end Go.Proofs.YtfpibedloodjlabDoor
/- LAWS of memory that the walks want: copy out of a text into a row of the call's own; what a row of bytes reads as. -/
namespace Go.Proofs.YtfpibedloodjlabDoor
open Go.RowKit

/-- the cells of a text -/
def cellsB (s : ByteArray) : List Value := s.data.toList.map fun b => Value.int .u8 (b.toNat : Int)
theorem cellsB_length (s : ByteArray) : (cellsB s).length = s.size := by simp [cellsB]
theorem cellsB_one (s : ByteArray) : ∀ v ∈ cellsB s, v.oneCell' = true := by
  intro v hv
  obtain ⟨b, _, rfl⟩ := List.mem_map.1 hv
  rfl
theorem firstCells_str {P : Program} (w : World) (size : Nat) (s : ByteArray) : (Builtin.firstCells size s.size (.string s)).run P w = .ok (cellsB s).toArray w := by
  have e : s.extract 0 s.size = s := by
    apply ByteArray.ext; simp
  have e2 : s.data.map (fun b => Value.int .u8 (b.toNat : Int)) = (cellsB s).toArray := by
    apply Array.toList_inj.1; simp [cellsB]
  simp [Builtin.firstCells, e, e2, Sem.run_pure]

theorem run_copy_str {P : Program} (w : World) (dT sT ty elem : TypeId) (dp : Option Addr) (g o dLen dCap : Nat) (s : ByteArray) (cur : Array Value) (t : TypeId)
    (hu : P.underlying dT = some (.slice elem)) (hs : (P.info? elem).map (·.size) = some 1)
    (hg : w.heap[g]? = some (.cells cur t (0, 0))) (hle : s.size ≤ dLen) (hpos : 0 < s.size → dp = some ⟨g, o, none⟩) (hfit : o + s.size ≤ cur.size) :
    (Builtin.copy_ #[dT, sT] ty #[.slice dp dLen dCap, .string s]).run P w =
      .ok (goInt s.size) (w.setRow g (cur.toList.take o ++ cellsB s ++ cur.toList.drop (o + s.size)).toArray) := by
  have hn : Nat.min s.size dLen = s.size := Nat.min_eq_left hle
  have hf := firstCells_str (P := P) w 1 s
  have hst := run_storeCells_at P g o t (cellsB s) 0 cur w hg (by simpa [cellsB_length] using hfit) (cellsB_one s)
  rw [cellsB_length, Nat.add_zero] at hst
  cases hq : P.info? elem with
  | none => simp [hq] at hs
  | some i =>
    have hi : i.size = 1 := by simpa [hq] using hs
    by_cases h0 : 0 < s.size
    · obtain rfl := hpos h0
      simp [Builtin.copy_, run_underlying hu, Builtin.lenOf, sizeOf, typeInfo, hq, hi, hn, hf, hst]
    · have e0 : cellsB s = [] := List.eq_nil_of_length_eq_zero (by rw [cellsB_length]; omega)
      have z0 : s.size = 0 := by omega
      have es : w.setRow g cur = w := setRow_self w g cur t (0, 0) hg
      rw [e0, z0] at hf
      rw [e0]
      cases dp with
      | none => simp [Builtin.copy_, run_underlying hu, Builtin.lenOf, sizeOf, typeInfo, hq, hi, hf, z0, es]
      | some a => simp [Builtin.copy_, run_underlying hu, Builtin.lenOf, sizeOf, typeInfo, hq, hi, hf, z0, storeCells, es]

theorem wpList_copy_str {P : Program} {w : World} {ops : Array Oper} {rest : List Oper} {o : Oper} {a : Act} {Q : Exit → Act → World → Prop} (hgd : o.guard = none) (d s : Operand) (dT sT : TypeId)
    (ho : o.op = .call { callee := .builtin .copy, args := #[d, s], argTypes := #[dT, sT] }) (elem : TypeId) (hu : P.underlying dT = some (.slice elem)) (hsz : (P.info? elem).map (·.size) = some 1)
    (dp : Option Addr) (dLen dCap : Nat) (str : ByteArray) (hd : a.eval d = .slice dp dLen dCap) (hs : a.eval s = .string str) (hle : str.size ≤ dLen)
    (g off : Nat) (cur : List Value) (t : TypeId) (hg : w.heap[g]? = some (.cells cur.toArray t (0, 0))) (hpos : 0 < str.size → dp = some ⟨g, off, none⟩) (hfit : off + str.size ≤ cur.length)
    (B : Nat) (w0 : World) (hb : Below B w0 w) (hBg : B ≤ g)
    (h : ∀ w', Hid (w'.heap[g]? = some (.cells (splice cur off (cellsB str)).toArray t (0, 0))) → Below B w0 w' → wpList P ops Q rest (a.put o.dst (goInt str.size)) w') :
    wpList P ops Q (o :: rest) a w := by
  refine wpList_plain hgd fun K hK => ?_
  have hrun := run_copy_str (P := P) w dT sT o.type elem dp g off dLen dCap str cur.toArray t hu hsz hg hle hpos (by simpa using hfit)
  unfold Oper.wp
  simp only [execOp, ho, resolve, invoke, builtin]
  simp [hd, hs, hrun, Result.andThen]
  refine hK _ _ (h _ (show _ = _ from ?_) (below_setRow hb hBg _))
  rw [setRow_heap w g cur.toArray _ t _ hg]
  simp [splice, cellsB_length]

/-- the block of a row that was just made -/
theorem own_block {w : World} {base : Nat} {e : TypeId} {g n cap : Nat} {xs : List Value} (h : w.ownsRow base e 1 (.slice (some ⟨g, 0, none⟩) n cap) n xs) :
    ∃ cur : List Value, Hid (w.heap[g]? = some (.cells cur.toArray e (0, 0))) ∧ cur.length = cap ∧ Hid (cur.take n = xs) := by
  obtain ⟨_, ⟨h, _⟩ | ⟨g', cap', cur, hv, _, hg, _, _, hs, ht⟩⟩ := h
  · cases h
  · cases hv
    exact ⟨cur.toList, show _ = _ by simpa using hg, by simpa using hs, show _ = _ by simpa using ht⟩
theorem bytes_of_cells {w : World} {g : Nat} {e : TypeId} {cs : List Value} {fr : Nat × Nat} (s : ByteArray) (h : w.heap[g]? = some (.cells cs.toArray e fr)) (hc : cs.take s.size = cellsB s) : Lib.Bytes w g 0 s := by
  intro i hi
  have e1 : cs[i]? = some (.int .u8 (s[i].toNat : Int)) := by
    have e2 : (cs.take s.size)[i]? = cs[i]? := List.getElem?_take_of_lt hi
    rw [← e2, hc, cellsB, List.getElem?_map]
    have e3 : s.data.toList[i]? = some s[i] := by
      rw [List.getElem?_eq_getElem (by simpa using hi)]; rfl
    rw [e3]; rfl
  simp [World.cell?, h, e1]
theorem cellsB_append (a b : ByteArray) : cellsB (a ++ b) = cellsB a ++ cellsB b := by
  simp [cellsB, ByteArray.data_append]
theorem join_cells (cur : List Value) (a b : ByteArray) (h : cur.length = a.size + b.size) : (splice (splice cur 0 (cellsB a)) a.size (cellsB b)).take (a ++ b).size = cellsB (a ++ b) := by
  have ha := cellsB_length a
  have hb := cellsB_length b
  rw [cellsB_append, ByteArray.size_append]
  simp only [splice, List.take_zero, List.nil_append, Nat.zero_add]
  rw [ha, hb]
  have e1 : (cellsB a ++ List.drop a.size cur).take a.size = cellsB a := by rw [← ha]; exact List.take_left' rfl
  have e2 : (cellsB a ++ List.drop a.size cur).drop (a.size + b.size) = [] := by
    apply List.drop_of_length_le; simp [ha, h]
  rw [e1, e2, List.append_nil]
  exact List.take_of_length_le (by simp [ha, hb])
theorem cell_at {w : World} {g : Nat} {cs : List Value} {t : TypeId} {k : Nat} (h : w.heap[g]? = some (.cells cs.toArray t (0, 0))) (hk : k < cs.length) :
    w.cell? ⟨g, k, none⟩ = some (cs.getD k (.int .u8 0)) ∧ w.frozen? ⟨g, k, none⟩ = false := by
  constructor
  · simp [World.cell?, h, hk]
  · simp [World.frozen?, h]
theorem set_at {w : World} {g : Nat} {cs : List Value} {t : TypeId} (k : Nat) (v : Value) (h : w.heap[g]? = some (.cells cs.toArray t (0, 0))) :
    (w.setCell ⟨g, k, none⟩ v).heap[g]? = some (.cells (cs.set k v).toArray t (0, 0)) := by
  rw [setCell_eq_setRow w g k cs.toArray t (0, 0) v h, setRow_heap w g cs.toArray _ t _ h]
  simp
theorem take_set {cs : List Value} {k : Nat} (v : Value) (h : k < cs.length) : (cs.set k v).take (k + 1) = cs.take k ++ [v] := by
  rw [List.take_succ_eq_append_getElem (by simpa using h)]
  rw [List.take_set, List.set_eq_of_length_le (by simp; omega)]
  simp
end Go.Proofs.YtfpibedloodjlabDoor
/- WHAT WAS THERE stays: two small laws. -/
namespace Go.Proofs.YtfpibedloodjlabDoor
open Go.RowKit
theorem keepB {B : Nat} {W a b : World} (h : Below B W a) (hB : B ≤ W.heap.size) (k : Below a.heap.size a b) : Below B W b := h.trans (k.mono (Nat.le_trans hB h.size))
theorem bcellF {B : Nat} {W w1 : World} (hb : Below B W w1) : (∀ b o, b < B → w1.cell? ⟨b, o, none⟩ = W.cell? ⟨b, o, none⟩) ∧ (∀ b o, b < B → w1.frozen? ⟨b, o, none⟩ = W.frozen? ⟨b, o, none⟩) :=
  ⟨fun b o h => hb.cell (p := ⟨b, o, none⟩) h, fun b o h => hb.frozen (p := ⟨b, o, none⟩) h⟩
end Go.Proofs.YtfpibedloodjlabDoor
/- OWN ROWS of numbers, and the law's own questions of them: copied, the same, marked, still marked. -/
namespace Go.Proofs.YtfpibedloodjlabDoor
open Go.RowKit
set_option linter.unusedVariables false
set_option linter.unusedSimpArgs false

/-- a list of numbers that a call made for itself -/
def OwnI (w : World) (base : Nat) (v : Value) (zs : List Int) : Prop := w.ownsRow base 2 1 v zs.length (zs.map (Value.int .i64))
theorem OwnI.shape {w : World} {base : Nat} {v : Value} {zs : List Int} (h : OwnI w base v zs) : ∃ a cap, v = .slice a zs.length cap := by
  obtain ⟨_, ⟨rfl, h0⟩ | ⟨g, cap, cur, rfl, _⟩⟩ := h
  · rw [h0]; exact ⟨_, _, rfl⟩
  · exact ⟨_, _, rfl⟩
theorem OwnI.cell {w : World} {base : Nat} {a : Option Addr} {n cap : Nat} {zs : List Int} (h : OwnI w base (.slice a n cap) zs) (k : Nat) (hk : k < zs.length) : ∃ g, a = some ⟨g, 0, none⟩ ∧ base ≤ g ∧ g < w.heap.size ∧ w.cell? ⟨g, k, none⟩ = some (.int .i64 zs[k]) ∧ w.frozen? ⟨g, k, none⟩ = false := by
  obtain ⟨_, ⟨h1, h0⟩ | ⟨g, cap, cur, h1, hb, hg, _, _, _, ht⟩⟩ := h
  · omega
  · cases h1
    have hg' := (Array.getElem?_eq_some_iff.1 hg).1
    have e : cur[k]? = some (.int .i64 zs[k]) := by
      have : (cur.toList.take (zs.length * 1))[k]? = some (.int .i64 zs[k]) := by rw [ht, List.getElem?_map, List.getElem?_eq_getElem hk]; rfl
      rw [List.getElem?_take_of_lt (by omega)] at this
      simpa using this
    exact ⟨g, rfl, hb, hg', by simp [World.cell?, hg, e], by simp [World.frozen?, hg]⟩
theorem OwnI.below {w w' : World} {base : Nat} {v : Value} {zs : List Int} (h : OwnI w base v zs) (hb : Below w.heap.size w w') : OwnI w' base v zs := by
  refine ⟨h.1, h.2.imp id ?_⟩
  rintro ⟨g, cap, cur, e1, e2, e3, e4⟩
  exact ⟨g, cap, cur, e1, e2, (hb.block g (Array.getElem?_eq_some_iff.1 e3).1).trans e3, e4⟩
theorem OwnI.set {w : World} {base g n cap : Nat} {zs : List Int} (h : OwnI w base (.slice (some ⟨g, 0, none⟩) n cap) zs) (j : Nat) (hj : j < zs.length) (m : Int) : OwnI (w.setCell ⟨g, j, none⟩ (.int .i64 m)) base (.slice (some ⟨g, 0, none⟩) n cap) (zs.set j m) := by
  obtain ⟨h0, ⟨h1, _⟩ | ⟨g, cap, cur, h1, hb, hg, h2, h3, h4, ht⟩⟩ := h
  · cases h1
  · cases h1
    refine ⟨by simp, .inr ⟨g, cap, cur.setIfInBounds j (.int .i64 m), by rw [List.length_set], hb, ?_, by rw [List.length_set]; exact h2, h3, by simpa using h4, ?_⟩⟩
    · rw [setCell_eq_setRow w g j cur _ (0, 0) _ hg, setRow_heap w g cur _ _ _ hg]
    · rw [List.length_set, Array.toList_setIfInBounds, List.take_set, ht, List.map_set]
theorem OwnI.nil (w : World) (base : Nat) : OwnI w base (.slice none 0 0) [] := ⟨by simp, .inl ⟨rfl, rfl⟩⟩
/-- a list of numbers that can be read -/
def RowI (w : World) (v : Value) (zs : List Int) : Prop :=
  ∃ (p : Option Addr) (c : Nat), v = .slice p zs.length c ∧ ∀ k (h : k < zs.length), ∃ g, p = some ⟨g, 0, none⟩ ∧ g < w.heap.size ∧ w.cell? ⟨g, k, none⟩ = some (.int .i64 zs[k])
theorem OwnI.row {w : World} {base : Nat} {v : Value} {zs : List Int} (h : OwnI w base v zs) : RowI w v zs := by
  obtain ⟨p, c, rfl⟩ := h.shape
  refine ⟨p, c, rfl, fun k hk => ?_⟩
  obtain ⟨g, e, _, h1, h2, _⟩ := h.cell k hk
  exact ⟨g, e, h1, h2⟩
theorem RowI.below {w w' : World} {v : Value} {zs : List Int} (h : RowI w v zs) (hb : Below w.heap.size w w') : RowI w' v zs := by
  obtain ⟨p, c, e, h⟩ := h
  refine ⟨p, c, e, fun k hk => ?_⟩
  obtain ⟨g, e1, h1, h2⟩ := h k hk
  exact ⟨g, e1, Nat.lt_of_lt_of_le h1 hb.size, (hb.cell (p := ⟨g, k, none⟩) h1).trans h2⟩

set_option maxRecDepth 100000 in
set_option maxHeartbeats 800000 in
theorem eqInt64S_same (v1 v2 : Value) (zs : List Int) (w : World) (hl : zs.length ≤ 10000000) (h1 : RowI w v1 zs) (h2 : RowI w v2 zs) :
    Calls Tryd.prog 28 #[v1, v2] w fun e w' => e = .returned (.bool true) ∧ Below w.heap.size w w' := by
  obtain ⟨p1, c1, rfl, h1⟩ := h1
  obtain ⟨p2, c2, rfl, h2⟩ := h2
  have e0 : ((zs.length : Int) != (zs.length : Int)) = false := by simp
  have H1 : Hid _ := h1
  have H2 : Hid _ := h2
  clear h1 h2
  go_enter Tryd.func28, Tryd.ntmps28
  go_wp2
  go_loopw [5] (fun i wr => ∃ k : Nat, k ≤ zs.length ∧ i = .int .i64 k ∧ Below w.heap.size w wr) (fun i _ => zs.length - (intOf i).toNat)
  case atStart => exact ⟨0, Nat.zero_le _, rfl, Below.refl _ _⟩
  case round =>
    obtain ⟨k, hk, rfl, hbel⟩ := hrel
    by_cases hlt : k < zs.length
    · obtain ⟨g1, rfl, l1, q1⟩ := H1.out k hlt
      obtain ⟨g2, rfl, l2, q2⟩ := H2.out k hlt
      have q1' := (hbel.cell (p := ⟨g1, k, none⟩) l1).trans q1
      have q2' := (hbel.cell (p := ⟨g2, k, none⟩) l2).trans q2
      clear q1 q2
      have es : (zs[k] != zs[k]) = false := by simp
      go_wp2
      go_quiet (fail)
      go_wp2
      go_roundw
      case rel => exact ⟨k + 1, by omega, by go_num, hbel.trans ((Below.refl _ wr).trans ⟨rfl, rfl, rfl, Nat.le_refl _, fun _ _ => rfl⟩)⟩
      case measure => simp [intOf]; omega
    · go_wp2
      go_ret
      exact ⟨rfl, hbel⟩
def countI (n : Nat) : List Int := (List.range n).map fun (i : Nat) => 1 + (i : Int)
theorem countI_length (n : Nat) : (countI n).length = n := by simp [countI]
theorem countI_at (n k : Nat) (h : k < (countI n).length) : (countI n)[k] = 1 + (k : Int) := by simp [countI]
theorem countI_succ (n : Nat) : countI (n + 1) = countI n ++ [1 + (n : Int)] := by simp [countI, List.range_succ]
theorem set_midI {l m : List Int} {c : Int} (h : m ≠ []) : (l ++ m).set l.length c = (l ++ [c]) ++ m.drop 1 := by
  cases m with
  | nil => exact absurd rfl h
  | cons a m => simp
theorem count_step (zs : List Int) (j : Nat) (h : j < zs.length) : (countI j ++ zs.drop j).set j (1 + (j : Int)) = countI (j + 1) ++ zs.drop (j + 1) := by
  have := set_midI (l := countI j) (m := zs.drop j) (c := 1 + (j : Int)) (by intro e; have := congrArg List.length e; simp at this; omega)
  rw [countI_length] at this
  rw [this, countI_succ, List.drop_drop]
theorem grown_belowI {w a b : World} {row : Option Nat} (h : w.grownBy a row) (k : Below a.heap.size a b) : w.grownBy b row :=
  ⟨k.os.trans h.os, k.tape.trans h.tape, k.output.trans h.output, Nat.le_trans h.size k.size, fun i hi hr => (k.block i (Nat.lt_of_lt_of_le hi h.size)).trans (h.block i hi hr)⟩
theorem grown_setI {w a : World} {g : Nat} (h : w.grownBy a (some g)) (o : Nat) (v : Value) : w.grownBy (a.setCell ⟨g, o, none⟩ v) (some g) :=
  ⟨h.os, h.tape, h.output, by simpa [World.setCell] using h.size, fun i hi hr => (Below.heap_setCell _ _ _ _ (fun e => hr (by rw [e]))).trans (h.block i hi hr)⟩
theorem grown_reflI (w : World) (row : Option Nat) : w.grownBy w row := ⟨rfl, rfl, rfl, Nat.le_refl _, fun _ _ _ => rfl⟩
set_option maxRecDepth 100000 in
set_option maxHeartbeats 800000 in
theorem markInt64S_any (base : Nat) (v : Value) (zs : List Int) (w : World) (hl : zs.length ≤ 10000) (h : OwnI w base v zs) :
    Calls Tryd.prog 29 #[v, .int .i64 1] w fun e w' => e = .returned (.int .i64 (1 + (zs.length : Int))) ∧ OwnI w' base v (countI zs.length) ∧ w.grownBy w' v.ownBlock := by
  obtain ⟨p, cap, rfl⟩ := h.shape
  have HO : Hid (OwnI _ _ _ _) := h
  clear h
  go_enter Tryd.func29, Tryd.ntmps29
  go_wp2
  go_loopw [1, 5] (fun x i wr => ∃ j : Nat, j ≤ zs.length ∧ i = .int .i64 j ∧ x = .int .i64 (1 + (j : Int)) ∧ Hid (OwnI wr base (.slice p zs.length cap) (countI j ++ zs.drop j)) ∧ Hid (w.grownBy wr (Value.slice p zs.length cap).ownBlock)) (fun _ i _ => zs.length - (intOf i).toNat)
  case atStart => exact ⟨0, Nat.zero_le _, rfl, rfl, HO.out, grown_reflI _ _⟩
  case round =>
    obtain ⟨j, hj, rfl, rfl, HW, HGR⟩ := hrel
    have hlen : (countI j ++ zs.drop j).length = zs.length := by rw [List.length_append, countI_length, List.length_drop]; omega
    by_cases hlt : j < zs.length
    · have hk : j < (countI j ++ zs.drop j).length := by rw [hlen]; exact hlt
      obtain ⟨g, hpg, _, hgl, hq, hf⟩ := HW.out.cell j hk
      subst hpg
      have HST : Hid _ := count_step zs j hlt
      have h1 := HW.out.set j hk (1 + (j : Int))
      generalize (countI j ++ zs.drop j)[j] = old at hq
      go_wp2
      go_roundw
      case rel => exact ⟨j + 1, by omega, by go_num, by go_num, (show OwnI _ _ _ _ by rw [← HST.out]; exact h1), grown_setI HGR.out j _⟩
      case measure => simp [intOf]; omega
    · obtain rfl : j = zs.length := by omega
      go_wp2
      go_ret
      refine ⟨rfl, ?_, HGR.out⟩
      have := HW.out
      rwa [List.drop_length, List.append_nil] at this
set_option maxRecDepth 100000 in
set_option maxHeartbeats 800000 in
theorem heldInt64S_any (base : Nat) (v : Value) (n : Nat) (w : World) (hl : n ≤ 10000) (h : OwnI w base v (countI n)) :
    Calls Tryd.prog 44 #[v, .int .i64 1] w fun e w' => e = .returned (.int .i64 (1 + (n : Int))) ∧ Below w.heap.size w w' := by
  obtain ⟨p, cap, rfl⟩ := h.shape
  have HO : Hid _ := fun W hW => (OwnI.below (w' := W) h hW).cell
  clear h
  rw [countI_length]
  go_enter Tryd.func44, Tryd.ntmps44
  go_wp2
  go_loopw [1, 5] (fun x i wr => ∃ j : Nat, j ≤ n ∧ i = .int .i64 j ∧ x = .int .i64 (1 + (j : Int)) ∧ Below w.heap.size w wr) (fun _ i _ => n - (intOf i).toNat)
  case atStart => exact ⟨0, Nat.zero_le _, rfl, rfl, Below.refl _ _⟩
  case round =>
    obtain ⟨j, hj, rfl, rfl, hbel⟩ := hrel
    by_cases hlt : j < n
    · obtain ⟨g, hpg, _, hgl, hq, _⟩ := HO.out wr hbel j (by rw [countI_length]; exact hlt)
      subst hpg
      rw [countI_at] at hq
      have es : ((1 + (j : Int)) != (1 + (j : Int))) = false := by simp
      go_wp2
      go_roundw
      case rel => exact ⟨j + 1, by omega, by go_num, by go_num, hbel⟩
      case measure => simp [intOf]; omega
    · obtain rfl : j = n := by omega
      go_wp2
      go_ret
      exact ⟨rfl, hbel⟩
end Go.Proofs.YtfpibedloodjlabDoor
