/- AN APPEND of one list of texts behind another, as one step of a region that draws its order. -/
import Derived.Test.YtiaphaghjklhaaaFrameK
import Derived.Deep.RegionLaw
import Derived.Laws.OwnMore
namespace Go.Proofs.Ytiaphaghjklhaaa
open Go.RowKit
set_option linter.unusedVariables false

theorem infoT : (Try.prog.info? 9).map (fun i => (i.zero, i.size, i.bytes)) = some (some (.string ⟨#[]⟩), 1, 16) := by kernel_rfl
theorem step_append_S {ops : Array Oper} {o : Oper} {a : Act} {w : World} {K : Act → World → Prop} {Q : Exit → Act → World → Prop} {E : Prop}
    (hw : Region.wanted o (yielded ops a.tmps) = true) (s x : Operand) (hop : o.op = Op.call { callee := Callee.builtin Builtin.append, args := #[s, x], argTypes := #[38, 38] })
    (base : Nat) (v : Value) (xs : List ByteArray) (hs : a.eval s = v) (hown : OwnS w base v xs) (bx : Nat) (vx : Value) (ys : List ByteArray) (hx : a.eval x = vx) (hownx : OwnS w bx vx ys)
    (hl : xs.length + ys.length ≤ 100000) (hbase : base ≤ w.heap.size)
    (hK : ∀ v' w', OwnS w' base v' (xs ++ ys) → w.grownBy w' v.ownBlock → K (a.put o.dst v') w') :
    if Region.wanted o (yielded ops a.tmps) = true then Oper.wp Try.prog o a w K Q else E := by
  rw [if_pos hw]
  obtain ⟨i0, hi, hz0, hz1, hz2⟩ := info_parts infoT
  obtain ⟨e1, ⟨rfl, h0⟩ | ⟨g, cap, cur, rfl, hb, hg, h2, h3, h4, ht⟩⟩ := hownx
  · have hrun := run_append_owned_none (P := Try.prog) (w := w) base 38 o.type 9 i0 1 Try.underlying38 hi v xs.length _ hown
    obtain rfl : ys = [] := List.eq_nil_of_length_eq_zero h0
    unfold Oper.wp
    simp [execOp, hop, resolve, invoke, builtin, hs, hx, hrun, Result.andThen]
    exact hK v w (by rw [List.append_nil]; exact hown) ⟨rfl, rfl, rfl, Nat.le_refl _, fun _ _ _ => rfl⟩
  · obtain ⟨v', w', hrun, r1, r2, _⟩ := run_append_own (P := Try.prog) w base 38 o.type 9 i0 (.string ⟨#[]⟩) 1 16 Try.underlying38 hi hz0 hz1 hz2 rfl (by decide) v xs.length (xs.map Value.string) hown ⟨g, 0, none⟩ ys.length cap (ys.map Value.string) (by simp)
      (by
        intro j u hj
        have hk : j < ys.length := by
          rcases Nat.lt_or_ge j ys.length with h | h
          · exact h
          · rw [List.getElem?_eq_none (by simpa using h)] at hj; cases hj
        rw [← ht, List.getElem?_take_of_lt (by omega)] at hj
        rw [show (⟨g, 0, none⟩ : Addr).add j = ⟨g, j, none⟩ by simp [Addr.add]; omega]
        simp only [World.cell?, hg]
        simpa using hj)
      (by intro u hu; obtain ⟨b, _, rfl⟩ := List.mem_map.1 hu; rfl) (by unfold maxLen; omega) (by omega) hbase
    unfold Oper.wp
    simp [execOp, hop, resolve, invoke, builtin, hs, hx, hrun, Result.andThen]
    exact hK v' w' (by unfold OwnS; rw [List.length_append, List.map_append]; exact r1) r2
theorem own_empty (w : World) (base : Nat) (hb : base ≤ w.heap.size) : OwnS (w.alloc (.cells #[] 9)) base (.slice (some ⟨w.heap.size, 0, none⟩) 0 0) [] :=
  World.ownsRow_made w #[] 0 hb (by decide) rfl
theorem own_emptyD (w : World) (base : Nat) (hb : base ≤ w.heap.size) : OwnS (World.drew (w.alloc (.cells #[] 9))) base (.slice (some ⟨w.heap.size, 0, none⟩) 0 0) [] := own_empty w base hb
theorem below_grown {B : Nat} {W w w' : World} {base : Nat} {v : Value} {ss : List ByteArray} (h : Below B W w) (hB : B ≤ W.heap.size) (ho : OwnS w base v ss) (hb : B ≤ base) (hg : w.grownBy w' v.ownBlock) : Below B W w' :=
  h.grown hg (Nat.le_trans hB h.size) (fun k e => Nat.le_trans hb (ho.lt k e).1)
end Go.Proofs.Ytiaphaghjklhaaa
