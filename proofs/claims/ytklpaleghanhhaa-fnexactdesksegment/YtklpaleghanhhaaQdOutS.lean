/- BITS OF BYTES: the program's BitsRead and the model's. -/
import Derived.Test.YtklpaleghanhhaaQdBits
import Derived.Test.YtklpaleghanhhaaQdBox
import Derived.Test.YtklpaleghanhhaaQdSay
import Derived.Test.YtklpaleghanhhaaQdPlainTb
import Derived.Test.YtklpaleghanhhaaQdStM
import Derived.Test.YtklpaleghanhhaaQdSayR
import Derived.Test.YtklpaleghanhhaaQdStnQ
import Derived.Test.YtklpaleghanhhaaQdStnH
import Derived.WalkKit
import Derived.Laws.Rows
import Derived.Laws.Tables
import Derived.Deep.MidRow
namespace Go.Proofs.Ytklpaleghanhhaa
open Go.RowKit
set_option linter.unusedVariables false
set_option linter.unusedSimpArgs false

def bitsR (s : ByteArray) (m : Int) : List Int := if (1 ≤ m ∧ m ≤ 64) ∧ (s.size : Int) = (m + 7) / 8 then unpackL s m.toNat else []
/-- the row in the making -/
def unAt (s : ByteArray) (m k : Nat) : List Int := (unpackL s m).take k ++ List.replicate (m - k) 0
theorem unAt_length (s : ByteArray) (m k : Nat) (h : k ≤ m) : (unAt s m k).length = m := by unfold unAt; rw [List.length_append, List.length_take, unpackL_length, List.length_replicate]; omega
theorem unAt_step (s : ByteArray) (m k : Nat) (h : k < m) (x : Int) (hx : x = ((byteAt s (k / 8) / 2 ^ (k % 8) % 2 : Nat) : Int)) : (unAt s m k).set k x = unAt s m (k + 1) := by
  have hl : k < (unpackL s m).length := by rw [unpackL_length]; exact h
  unfold unAt
  have := set_midI (l := (unpackL s m).take k) (m := List.replicate (m - k) (0 : Int)) (c := x) (by intro e; have := congrArg List.length e; simp at this; omega)
  rw [List.length_take, Nat.min_eq_left (by omega)] at this
  rw [this, List.take_succ_eq_append_getElem hl, unpackL_get, hx, List.drop_replicate, Nat.sub_sub]
theorem and_table : ∀ r : Fin 8, ∀ o : Fin 256, wrap64 (bits BinOp.and IntKind.u8 ((o.val : Int) / 2 ^ r.val) 1) = ((o.val / 2 ^ r.val % 2 : Nat) : Int) := by decide +kernel
/-- numbers put behind one another -/
theorem OwnI.of {w : World} {base : Nat} {v : Value} {zs : List Int} {n : Nat} {xs : List Value} (h : w.ownsRow base 2 1 v n xs) (hn : n = zs.length) (hx : xs = zs.map (Value.int .i64)) : OwnI w base v zs := by subst hn; subst hx; exact h
theorem own_madeI (w : World) (base : Nat) (hb : base ≤ w.heap.size) : OwnI (w.alloc (.cells #[] 2)) base (.slice (some ⟨w.heap.size, 0, none⟩) 0 0) [] :=
  World.ownsRow_made w #[] 0 hb (by decide) rfl
theorem cells_newI (w : World) (xs : List Value) (t : TypeId) : ∀ j u, xs[j]? = some u → (w.alloc (.cells xs.toArray t)).cell? ((⟨w.heap.size, 0, none⟩ : Addr).add j) = some u := by
  intro j u hu
  have hn := heap_alloc_new w (.cells xs.toArray t)
  have e : (⟨w.heap.size, 0, none⟩ : Addr).add j = ⟨w.heap.size, j, none⟩ := by unfold Addr.add; split <;> simp_all
  rw [e]
  simp only [World.cell?, hn]
  simpa using hu
theorem cells_newG (w : World) (xs : List Value) (t : TypeId) (g : Nat) (hg : g = w.heap.size) : ∀ j u, xs[j]? = some u → (w.alloc (.cells xs.toArray t)).cell? ((⟨g, 0, none⟩ : Addr).add j) = some u := by subst hg; exact cells_newI w xs t
theorem bit_div {b r : Nat} (hb : b < 256) : (wrap64 ((b : Int) / ((2 ^ r : Nat) : Int))).tmod 2 = ((b / 2 ^ r % 2 : Nat) : Int) := by
  have e : (b : Int) / ((2 ^ r : Nat) : Int) = ((b / 2 ^ r : Nat) : Int) := by simp
  have h : b / 2 ^ r ≤ b := Nat.div_le_self _ _
  rw [e]
  generalize b / 2 ^ r = q at h
  have e2 : wrap64 (q : Int) = q := by unfold wrap64; omega
  rw [e2, Int.tmod_eq_emod_of_nonneg (by omega)]
  omega
end Go.Proofs.Ytklpaleghanhhaa
/- THE WALKS of a station's parts: the program's. -/
namespace Go.Proofs.Ytklpaleghanhhaa
open Go.RowKit
set_option linter.unusedVariables false
set_option linter.unusedSimpArgs false

end Go.Proofs.Ytklpaleghanhhaa
/- A WHOLE BOX read at once, also behind a guard that says yes. -/
namespace Go
theorem Proofs.Ytklpaleghanhhaa.wpList_load_rowG {P : Program} {ops : Array Oper} {rest : List Oper} {o : Oper} {a : Act} {w : World} {Q : Exit → Act → World → Prop} (hw : Region.wanted o (yielded ops a.tmps) = true) (ty : TypeId) (x : Operand) (ho : o.op = .load ty x)
    (g : Nat) (hx : a.eval x = .pointer (some ⟨g, 0, none⟩)) (t : TypeId) (cs : Array Value) (fr : Nat × Nat) (d : TypeDesc) (hg : w.heap[g]? = some (.cells cs t fr))
    (hu : P.underlying ty = some d) (hd : (match d with | .struct _ | .array _ _ => true | _ => false) = true) (hi : (P.info? ty).map (·.size) = some cs.size)
    (h : wpList P ops Q rest (a.put o.dst (.agg cs)) w) : wpList P ops Q (o :: rest) a w :=
  wpList_step fun K hK => by rw [if_pos hw]; exact wp_load_row ty x ho g hx t cs fr d hg hu hd hi (hK _ _ h)
end Go
/- A WHOLE BOX read at once in a region that draws. -/
namespace Go
theorem Proofs.Ytklpaleghanhhaa.exec_load_row {P : Program} {o : Oper} {a : Act} {w : World} (ty : TypeId) (x : Operand) (ho : o.op = .load ty x)
    (g : Nat) (hx : a.eval x = .pointer (some ⟨g, 0, none⟩)) (t : TypeId) (cs : Array Value) (fr : Nat × Nat) (d : TypeDesc) (hg : w.heap[g]? = some (.cells cs t fr))
    (hu : P.underlying ty = some d) (hd : (match d with | .struct _ | .array _ _ => true | _ => false) = true) (hi : (P.info? ty).map (·.size) = some cs.size) :
    (execOp a.eval o).run P w = .ok (.value (.agg cs)) w := by
  unfold execOp
  simp only [ho, hx, Instr.loadAt, Instr.sureAddr, Sem.run_bind, Sem.run_pure, Result.andThen_ok, run_loadVar_row w g t ty cs fr d hg hu hd hi]
end Go
/- WHAT A STATION GIVES BACK, nothing said: the same, marked, still marked. Written by mkouts.py. -/
namespace Go.Proofs.Ytklpaleghanhhaa
open Go.RowKit
set_option linter.unusedVariables false
set_option linter.unusedSimpArgs false

theorem range_head {w : World} {b : Nat} {cs more : List Value} {t : TypeId} {fr : Nat × Nat} (hb : w.heap[b]? = some (.cells (cs ++ more).toArray t fr)) : w.rangeAt b 0 cs := fun j v hv => by
  have hj := (List.getElem?_eq_some_iff.1 hv).1
  rw [cell_of_row w b (0 + j) _ t fr hb, Nat.zero_add]
  simp only [List.getElem?_toArray]
  rw [List.getElem?_append_left hj, hv]
end Go.Proofs.Ytklpaleghanhhaa
