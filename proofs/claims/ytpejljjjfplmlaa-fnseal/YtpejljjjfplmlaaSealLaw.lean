/- WHAT A SLICE OF BYTES THAT CAME IN GIVES the draws. -/
import Derived.Test.YtpejljjjfplmlaaDrawSeal
import Derived.Test.YtpejljjjfplmlaaLwAt
import Derived.OpenShut
import Derived.Lib.ConvBytes
namespace Go.Proofs.Ytpejljjjfplmlaa
open Go.RowKit
set_option linter.unusedVariables false

/-- A slice of integers that came in: nil, or a row of 'cap' cells that hold 'zs'. -/
def IsRow (k : IntKind) (w : World) (a : Option Addr) (len cap : Nat) (zs : List Int) : Prop :=
  (a = none ∧ len = 0 ∧ cap = 0 ∧ zs = []) ∨
  ∃ x, a = some x ∧ len ≤ cap ∧ cap ≤ maxLen ∧ zs.length = cap ∧ (∀ i, i < zs.length → w.cell? (x.add i) = some (.int k (zs.getD i 0))) ∧ ∀ n ∈ zs, (Lit.int k n).wf = true
theorem IsRow.len {k : IntKind} {w : World} {a : Option Addr} {len cap : Nat} {zs : List Int} (h : IsRow k w a len cap zs) : len ≤ 9223372036854775807 := by
  rcases h with ⟨_, h, _⟩ | ⟨x, _, h1, h2, _⟩
  · omega
  · unfold maxLen at h2; omega
theorem IsRow.rb {w : World} {a : Option Addr} {len cap : Nat} {zs : List Int} (h : IsRow .u8 w a len cap zs) (hl : len ≤ 1048576) : Rb w.heap.size w a len := by
  refine ⟨hl, ?_⟩
  rcases h with ⟨_, h, _⟩ | ⟨x, rfl, h1, h2, h3, h4, h5⟩
  · exact .inl h
  · by_cases h0 : len = 0
    · exact .inl h0
    · have hc0 := h4 0 (by omega)
      obtain ⟨g, o, sp⟩ := x
      have hsp : sp = none := by simpa [Addr.add] using World.cell?_spot hc0
      subst hsp
      have hg : g < w.heap.size := by
        rcases Nat.lt_or_ge g w.heap.size with h | h
        · exact h
        · simp [World.cell?, Addr.add, Array.getElem?_eq_none h] at hc0
      refine .inr ⟨g, o, rfl, hg, fun i hi => ⟨zs.getD i 0, by rw [← show (⟨g, o, none⟩ : Addr).add i = ⟨g, o + i, none⟩ by unfold Addr.add; split <;> simp_all]; exact h4 i (by omega), ?_⟩⟩
      have hm : zs.getD i 0 ∈ zs := by
        rw [List.getD_eq_getElem?_getD, List.getElem?_eq_getElem (by omega)]
        exact List.getElem_mem _
      exact bounds_u8 (h5 _ hm)
theorem Rb.blw {B : Nat} {x y : World} {a : Option Addr} {len : Nat} (h : Rb B x a len) (k : Below B x y) : Rb B y a len := by
  refine ⟨h.1, h.2.imp id ?_⟩
  rintro ⟨g, o, e, hg, hc⟩
  refine ⟨g, o, e, hg, fun i hi => ?_⟩
  obtain ⟨v, h1, h2⟩ := hc i hi
  exact ⟨v, (k.cell (p := ⟨g, o + i, none⟩) hg).trans h1, h2⟩
/-- '[]byte(s)': a new row with the text's bytes -/
theorem conv_row {P : Program} (v : World) (src dst e : TypeId) (s : ByteArray) {u : TypeDesc} (hs : P.underlying src = some u) (hd : P.underlying dst = some (.slice e)) (he : P.underlying e = some (.int .u8)) :
    ∃ (v' : World) (gc : Nat) (cs : List Value), (convert src dst (.string s)).run P v = .ok (.slice (some ⟨v.heap.size, 0, none⟩) s.size gc) v' ∧ Hid (v'.heap[v.heap.size]? = some (.cells cs.toArray e (cs.length, cs.length + 1)) ∧ cs.take s.size = cellsB s ∧ s.size ≤ cs.length) ∧ Below v.heap.size v v' ∧ v'.heap.size = v.heap.size + 1 := by
  refine ⟨_, _, (Lib.bytesCells v e s).toList, Lib.run_convert_string_bytes v src dst e s hs hd he, ⟨?_, ?_, ?_⟩, ⟨rfl, rfl, rfl, by rw [Lib.bytesWorld_size]; omega, fun k hk => Lib.bytesWorld_at_old v e s k hk⟩, Lib.bytesWorld_size v e s⟩
  · rw [Lib.bytesWorld_at_new]; simp
  · unfold Lib.bytesCells cellsB
    rw [Array.toList_append, Array.toList_map]
    exact List.take_left' (by rw [List.length_map, Array.length_toList]; rfl)
  · unfold Lib.bytesCells
    rw [Array.length_toList, Array.size_append, Array.size_map]
    exact Nat.le_add_right _ _
theorem row_cell {w : World} {g : Nat} {e : TypeId} {cs : List Value} {s : ByteArray} (h : w.heap[g]? = some (.cells cs.toArray e (cs.length, cs.length + 1)) ∧ cs.take s.size = cellsB s ∧ s.size ≤ cs.length) (j : Nat) (hj : j < s.size) :
    w.cell? ⟨g, j, none⟩ = some (.int .u8 (s[j].toNat : Int)) ∧ w.frozen? ⟨g, j, none⟩ = false := by
  obtain ⟨h1, h2, h3⟩ := h
  constructor
  · have hb := bytes_of_cells (w := w) (g := g) (e := e) s h1 h2 j hj
    rw [Nat.zero_add] at hb
    exact hb
  · simp only [World.frozen?, h1]
    simp
    omega
/-- a byte of the row is turned: what the row reads as then -/
theorem row_turned {w : World} {g : Nat} {e : TypeId} {cs : List Value} {s : ByteArray} (h : w.heap[g]? = some (.cells cs.toArray e (cs.length, cs.length + 1)) ∧ cs.take s.size = cellsB s ∧ s.size ≤ cs.length) (j : Nat) (hj : j < s.size) (x : UInt8) :
    Lib.Bytes (w.setCell ⟨g, j, none⟩ (.int .u8 (x.toNat : Int))) g 0 ⟨(s.data.toList.set j x).toArray⟩ := by
  obtain ⟨h1, h2, h3⟩ := h
  have h4 : (w.setCell ⟨g, j, none⟩ (.int .u8 (x.toNat : Int))).heap[g]? = some (.cells (cs.set j (.int .u8 (x.toNat : Int))).toArray e (cs.length, cs.length + 1)) := by
    rw [setCell_eq_setRow w g j cs.toArray e _ _ h1, setRow_heap w g cs.toArray _ e _ h1]
    simp
  refine bytes_of_cells _ h4 ?_
  have hz : (⟨(s.data.toList.set j x).toArray⟩ : ByteArray).size = s.size := by show (s.data.toList.set j x).toArray.size = s.data.size; simp
  rw [hz, List.take_set, h2]
  simp [cellsB, List.map_set]
theorem turned_conv {P : Program} {v4 v6 : World} {g : Nat} {e : TypeId} {cs : List Value} {s : ByteArray} (src dst : TypeId) (hs : P.underlying src = some (.slice e)) (he : P.underlying e = some (.int .u8)) (hd : P.underlying dst = some .string)
    (h : v4.heap[g]? = some (.cells cs.toArray e (cs.length, cs.length + 1)) ∧ cs.take s.size = cellsB s ∧ s.size ≤ cs.length) (j : Nat) (hj : j < s.size) (x : UInt8) (hg : g < v4.heap.size) (hb : Below v4.heap.size (v4.setCell ⟨g, j, none⟩ (.int .u8 (x.toNat : Int))).drew v6) (n gc : Nat) (hn : s.size = n) :
    (convert src dst (.slice (some ⟨g, 0, none⟩) n gc)).run P v6 = .ok (.string ⟨(s.data.toList.set j x).toArray⟩) v6 := by
  have hz : (⟨(s.data.toList.set j x).toArray⟩ : ByteArray).size = s.size := by show (s.data.toList.set j x).toArray.size = s.data.size; simp
  have hB := row_turned h j hj x
  have hB6 : Lib.Bytes v6 g 0 ⟨(s.data.toList.set j x).toArray⟩ := fun i hi => (hb.cell (p := ⟨g, 0 + i, none⟩) hg).trans (hB i hi)
  have := Lib.run_convert_whole v6 src e dst hs he hd g 0 _ hB6 gc
  rw [hz, hn] at this
  exact this
theorem turned_byte (x0 d : Nat) (hx : x0 < 256) (hd : d < 255) : ∃ y : UInt8, bits .xor .u8 (x0 : Int) (1 + (d : Int)) = (y.toNat : Int) ∧ y.toNat ≠ x0 := by
  have e : (1 + (d : Int)) = ((1 + d : Nat) : Int) := by omega
  have hl : x0 ^^^ (1 + d) < 256 := Nat.xor_lt_two_pow (n := 8) hx (by omega)
  refine ⟨UInt8.ofNat (x0 ^^^ (1 + d)), ?_, ?_⟩
  · rw [e, u8_xor_nat x0 (1 + d) hx (by omega), UInt8.toNat_ofNat', Nat.mod_eq_of_lt hl]
  · rw [UInt8.toNat_ofNat', Nat.mod_eq_of_lt hl]
    intro h
    have h2 : x0 ^^^ (1 + d) = x0 ^^^ 0 := by rw [h, Nat.xor_zero]
    have := xor_cancel_left h2
    omega
theorem field_code (s : ByteArray) (n c : Int) (w : World) : (Instr.field 27 (.agg #[.string s, .int .i64 n, .int .i64 c]) 2).run Try.prog w = .ok (.int .i64 c) w := by kernel_rfl
end Go.Proofs.Ytpejljjjfplmlaa
