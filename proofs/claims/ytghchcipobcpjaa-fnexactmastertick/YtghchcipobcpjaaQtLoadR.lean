/- A RIGHT MASTER, over lists. -/
import Derived.Test.YtghchcipobcpjaaQtOwnM
import Derived.Test.YtghchcipobcpjaaQtLet
import Derived.WalkKit
import Derived.Laws.Rows
namespace Go.Proofs.Ytghchcipobcpjaa
set_option linter.unusedVariables false
set_option linter.unusedSimpArgs false

/-- what is open rises, from above a number to below another -/
def riseW (lo nx : Int) : List Wt → Bool
  | [] => true
  | x :: l => decide (lo < x.i) && (decide (x.i < nx) && (bodyB x.t && (decide (1 ≤ x.r) && (decide (x.r ≤ 3) && (decide (0 ≤ x.g) && (decide (x.g ≤ 2) && riseW x.i nx l))))))
def lastW (l : List Wt) (k : Nat) : Int := if k = 0 then 0 else (l.getD (k - 1) ⟨0, ByteArray.empty, 0, 0⟩).i
theorem lastW_zero (l : List Wt) : lastW l 0 = 0 := rfl
theorem lastW_succ (l : List Wt) (k : Nat) (h : k < l.length) : lastW l (k + 1) = l[k].i := by
  unfold lastW
  rw [if_neg (by omega), Nat.add_sub_cancel, List.getD_eq_getElem?_getD, List.getElem?_eq_getElem h]
  rfl
theorem riseW_drop {nx : Int} {l : List Wt} {k : Nat} (h : k < l.length) : riseW (lastW l k) nx (l.drop k) = (decide (lastW l k < l[k].i) && (decide (l[k].i < nx) && (bodyB l[k].t && (decide (1 ≤ l[k].r) && (decide (l[k].r ≤ 3) && (decide (0 ≤ l[k].g) && (decide (l[k].g ≤ 2) && riseW (lastW l (k + 1)) nx (l.drop (k + 1))))))))) := by
  rw [List.drop_eq_getElem_cons h, lastW_succ l k h]
  rfl
/-- what may be open, when the next number is that -/
def openW (nx : Int) (l : List Wt) : Bool := riseW 0 nx l && decide (l.length ≤ 3)
/-- the first place of a number in what is open (the length, where it isn't) -/
def placeW (l : List Wt) (i : Int) : Nat := l.findIdx (fun x => x.i == i)
def opB (l : List Wt) (i : Int) : Bool := decide (placeW l i < l.length)
theorem placeW_at {l : List Wt} {i : Int} {k : Nat} (h : k < l.length) (hi : l[k].i = i) (hb : ∀ j (hj : j < k), (l[j]'(by omega)).i ≠ i) : placeW l i = k := by
  unfold placeW
  rw [List.findIdx_eq h]
  exact ⟨by simpa using hi, fun j hj => by simpa using hb j hj⟩
theorem placeW_no {l : List Wt} {i : Int} (hb : ∀ j (hj : j < l.length), l[j].i ≠ i) : placeW l i = l.length := by
  unfold placeW
  rw [List.findIdx_eq_length]
  intro x hx
  obtain ⟨j, hj, rfl⟩ := List.getElem_of_mem hx
  simpa using hb j hj
theorem opB_yes {l : List Wt} {i : Int} {k : Nat} (h : k < l.length) (hi : l[k].i = i) (hb : ∀ j (hj : j < k), (l[j]'(by omega)).i ≠ i) : opB l i = true := by
  unfold opB
  rw [placeW_at h hi hb]
  exact decide_eq_true h
theorem opB_no {l : List Wt} {i : Int} (hb : ∀ j (hj : j < l.length), l[j].i ≠ i) : opB l i = false := by
  unfold opB
  rw [placeW_no hb]
  exact decide_eq_false (by omega)
/-- what is done: each number a new one, none open, from 1 to below the next -/
def freshD (nx : Int) (op : List Wt) : List Int → List Dn → Bool
  | _, [] => true
  | seen, d :: l => ((!seen.contains d.i) && ((!opB op d.i) && (decide (1 ≤ d.i) && (decide (d.i < nx) && decide (d.a.size ≤ 40))))) && freshD nx op (seen ++ [d.i]) l
def seenD (l : List Dn) (k : Nat) : List Int := (l.take k).map Dn.i
theorem seenD_zero (l : List Dn) : seenD l 0 = [] := by simp [seenD]
theorem seenD_succ (l : List Dn) (k : Nat) (h : k < l.length) : seenD l (k + 1) = seenD l k ++ [l[k].i] := by
  unfold seenD
  rw [List.take_succ_eq_append_getElem h, List.map_append]
  rfl
theorem seenD_len (l : List Dn) (k : Nat) (h : k ≤ l.length) : (seenD l k).length = k := by
  unfold seenD
  rw [List.length_map, List.length_take]
  omega
theorem freshD_drop {nx : Int} {op : List Wt} {l : List Dn} {k : Nat} (h : k < l.length) : freshD nx op (seenD l k) (l.drop k) = (((!(seenD l k).contains l[k].i) && ((!opB op l[k].i) && (decide (1 ≤ l[k].i) && (decide (l[k].i < nx) && decide (l[k].a.size ≤ 40))))) && freshD nx op (seenD l (k + 1)) (l.drop (k + 1))) := by
  rw [List.drop_eq_getElem_cons h, seenD_succ l k h]
  rfl
def donesB (nx : Int) (op : List Wt) (l : List Dn) : Bool := decide (op.length + l.length ≤ 20) && freshD nx op [] l
def Mst.right (m : Mst) : Bool := idB m.nx && (openW m.nx m.op && donesB m.nx m.op m.dn)
end Go.Proofs.Ytghchcipobcpjaa
/- A WHOLE BOX read at once, also behind a guard that says yes. -/
namespace Go
theorem Proofs.Ytghchcipobcpjaa.wpList_load_rowG {P : Program} {ops : Array Oper} {rest : List Oper} {o : Oper} {a : Act} {w : World} {Q : Exit → Act → World → Prop} (hw : Region.wanted o (yielded ops a.tmps) = true) (ty : TypeId) (x : Operand) (ho : o.op = .load ty x)
    (g : Nat) (hx : a.eval x = .pointer (some ⟨g, 0, none⟩)) (t : TypeId) (cs : Array Value) (fr : Nat × Nat) (d : TypeDesc) (hg : w.heap[g]? = some (.cells cs t fr))
    (hu : P.underlying ty = some d) (hd : (match d with | .struct _ | .array _ _ => true | _ => false) = true) (hi : (P.info? ty).map (·.size) = some cs.size)
    (h : wpList P ops Q rest (a.put o.dst (.agg cs)) w) : wpList P ops Q (o :: rest) a w :=
  wpList_step fun K hK => by rw [if_pos hw]; exact wp_load_row ty x ho g hx t cs fr d hg hu hd hi (hK _ _ h)
end Go
