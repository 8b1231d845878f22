/- MORE OF WHAT THE MODEL'S SayRead keeps: a list that grows, what makes it refuse. -/
import Derived.Test.YthmbfkppjijelaaSayRS
import Derived.Deep.RegionLaw
namespace Go.Proofs.Ythmbfkppjijelaa
open Go.RowKit
set_option linter.unusedVariables false
set_option linter.unusedSimpArgs false

theorem OwnI.grown {w w' : World} {base g : Nat} {v : Value} {l : List Int} (h : OwnI w base v l) (gr : w.grownBy w' (some g)) (hg : g < base) : OwnI w' base v l := by
  refine ⟨h.1, h.2.imp id ?_⟩
  rintro ⟨k, cap, cur, e1, e2, e3, e4⟩
  exact ⟨k, cap, cur, e1, e2, (gr.block k (Array.getElem?_eq_some_iff.1 e3).1 (by intro e; have := Option.some.inj e; omega)).trans e3, e4⟩
theorem RS.grown {w : World} {s : ByteArray} {g h base : Nat} {cs : Array Value} {a : Int} {b : Bool} {W w' : World} {v : Value} {l : List Int} (k : RS w s g h cs a b W) (ho : OwnI W base v l) (hg : g < base) (hh : h < base) (gr : W.grownBy w' v.ownBlock) : RS w s g h cs a b w' := by
  have key : ∀ j, j < base → j < W.heap.size → w'.heap[j]? = W.heap[j]? := fun j hj hl => gr.block j hl (by intro e; have := (World.ownsRow.lt ho j e.symm).1; omega)
  refine ⟨(key g hg (Array.getElem?_eq_some_iff.1 k.G).1).trans k.G, (key h hh (Array.getElem?_eq_some_iff.1 k.H).1).trans k.H, (key _ (by have := k.ne; omega) (Array.getElem?_eq_some_iff.1 k.R).1).trans k.R, k.bel.grown gr k.bel.size (fun j e => ?_), k.ne⟩
  have := (World.ownsRow.lt ho j e).1
  have := k.ne
  omega
theorem step_append_I {ops : Array Oper} {o : Oper} {a : Act} {w : World} {K : Act → World → Prop} {Q : Exit → Act → World → Prop} {E : Prop}
    (hgd : o.guard = none) (s x : Operand) (hop : o.op = Op.call { callee := Callee.builtin Builtin.append, args := #[s, x], argTypes := #[25, 25] })
    (base : Nat) (v : Value) (xs : List Int) (hs : a.eval s = v) (hown : OwnI w base v xs) (g : Nat) (n : Int) (hx : a.eval x = .slice (some ⟨g, 0, none⟩) 1 1) (hc : w.cell? ⟨g, 0, none⟩ = some (.int .i64 n))
    (hl : xs.length ≤ 100000) (hbase : base ≤ w.heap.size)
    (hK : ∀ v' w', OwnI w' base v' (xs ++ [n]) → w.grownBy w' v.ownBlock → K (a.put o.dst v') w') :
    if Region.wanted o (yielded ops a.tmps) = true then Oper.wp Try.prog o a w K Q else E := by
  have hw : Region.wanted o (yielded ops a.tmps) = true := by simp [Region.wanted, hgd]
  rw [if_pos hw]
  obtain ⟨i0, hi, hz0, hz1, hz2⟩ := info_parts info64
  obtain ⟨v', w', hrun, r1, r2, _⟩ := run_append_own (P := Try.prog) w base 25 o.type 2 i0 (.int .i64 0) 1 8 Try.underlying25 hi hz0 hz1 hz2 rfl (by decide) v xs.length (xs.map (Value.int .i64)) hown ⟨g, 0, none⟩ 1 1 [.int .i64 n] (by simp)
    (by
      intro j u hj
      have hj0 : j = 0 := by
        rcases Nat.eq_zero_or_pos j with h | h
        · exact h
        · rw [List.getElem?_eq_none (by simp; omega)] at hj; cases hj
      subst hj0
      simp at hj
      subst hj
      simpa [Addr.add] using hc)
    (by intro u hu; simp at hu; subst hu; rfl) (by unfold maxLen; omega) (by omega) hbase
  unfold Oper.wp
  simp [execOp, hop, resolve, invoke, builtin, hs, hx, hrun, Result.andThen]
  exact hK v' w' (OwnI.snoc r1) r2
/-- where the loop over the words stands -/
def LpS (w : World) (s : ByteArray) (g h : Nat) (n1 n2 n3 n4 n5 n6 n7 : Int) (K : Nat) (a8 : Int) (k : Value) (wr : World) : Prop :=
  ∃ (j : Nat) (lw : List Int) (a : Int) (b : Bool) (v : Value), j ≤ K ∧ k = .int .i64 ((K : Int) - j) ∧ Hid (RdS s lw a b j a8) ∧ Hid (RS w s g h #[.int .i64 n1, .int .i64 n2, .int .i64 n3, .int .i64 n4, .int .i64 n5, .int .i64 n6, .int .i64 n7, v, .string ⟨#[]⟩] a b wr) ∧ Hid (OwnI wr (h + 1) v lw) ∧ lw.length = j
theorem saidR_bad {s : ByteArray} {n1 n2 n3 n4 n5 n6 n7 n8 a : Int} {b : Bool} (D : RdS s [n1, n2, n3, n4, n5, n6, n7, n8] a b 8 0) (hbad : ¬ (b = false ∧ 0 ≤ n8 ∧ n8 ≤ 4)) : saidR s = none := by
  cases hS : saidR s with
  | none => rfl
  | some y =>
    obtain ⟨_, _, hP⟩ := saidR_right hS
    obtain ⟨m0, m1, m2, m3, m4, m5, m6, m7, q, ws, q2, e1, _⟩ := saidP_some hP
    cases b with
    | true => rw [D.2 rfl] at e1; cases e1
    | false =>
      have h := saidR_count hS (D.1 rfl)
      simp at h
      exact absurd ⟨rfl, h.1, h.2⟩ hbad
theorem saidP_eq {s : ByteArray} {n1 n2 n3 n4 n5 n6 n7 n8 a : Int} (D : numsR s 0 8 = some ([n1, n2, n3, n4, n5, n6, n7, n8], a)) : saidP s = match numsR s a n8.toNat with
    | none => none
    | some (ws, q2) => if (getT s q2).2.2 = 0 then some ⟨n1, n2, n3, ⟨n4, n5, n6, n7⟩, ws, (getT s q2).1⟩ else none := by
  unfold saidP
  rw [D]
  rfl
theorem saidR_of_none {s : ByteArray} (h : saidP s = none) : saidR s = none := by unfold saidR; rw [h]
theorem sayRes_some {s : ByteArray} {y : Sy} (h8 : ¬ 8000 < s.size) (h : saidP s = some y) (hq : sayB y = s) : sayRes s = (y, 0) := by unfold sayRes saidR; rw [if_neg h8, h]; simp [hq]
theorem sayRes_not {s : ByteArray} {y : Sy} (h8 : ¬ 8000 < s.size) (h : saidP s = some y) (hq : ¬ sayB y = s) : sayRes s = (zeroSy, 3) := by unfold sayRes saidR; rw [if_neg h8, h]; simp [hq]
theorem sayRes_none {s : ByteArray} (h8 : ¬ 8000 < s.size) (h : saidR s = none) : sayRes s = (zeroSy, 3) := by unfold sayRes; rw [if_neg h8, h]
end Go.Proofs.Ythmbfkppjijelaa
