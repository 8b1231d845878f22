/- A REGION THAT DRAWS ITS ORDER, where a guard says no: what is not wanted is taken first. -/
import Derived.Test.YtineecongiplgaaQpPaN
import Derived.Deep.RegionHeld3
namespace Go
section
variable {P : Program} {ops : Array Oper} {Q : Exit → Act → World → Prop} {md : Region.Mode} {S : World → Prop}
theorem Proofs.Ytineecongiplgaa.skipH {i : Nat} {oi : Oper} {fuel : Nat} {listed : Array Bool} {a : Act} {w : World} (hi : ops[i]? = some oi)
    (hs : Region.noSelect ops = true) (hf : Region.free md ops listed i = true) (hr : (Region.ready md ops listed).contains i = true)
    (hQ : ∀ c a w, Q (.panic c) (a.put oi.dst undef) w → Q (.panic c) a w) (hw : Region.wanted oi (yielded ops a.tmps) = false) (hS : S w)
    (h : wpAnyH P md ops Q S fuel (listed.setIfInBounds i true) (a.put oi.dst undef) w) : wpAnyH P md ops Q S (fuel + 1) listed a w :=
  wpAnyH_take hi hs hf hr hQ (Or.inr ⟨hw, rfl⟩) hS h
theorem Proofs.Ytineecongiplgaa.yieldH {i : Nat} {oi : Oper} {v : Value} {fuel : Nat} {listed : Array Bool} {a : Act} {w : World} (hi : ops[i]? = some oi)
    (hs : Region.noSelect ops = true) (hf : Region.free md ops listed i = true) (hr : (Region.ready md ops listed).contains i = true)
    (hQ : ∀ c a w, Q (.panic c) (a.put oi.dst v) w → Q (.panic c) a w) (hw : Region.wanted oi (yielded ops a.tmps) = true) (hy : ∀ w, S w → (execOp a.eval oi).run P w = .ok (.value v) w) (hS : S w)
    (h : wpAnyH P md ops Q S fuel (listed.setIfInBounds i true) (a.put oi.dst v) w) : wpAnyH P md ops Q S (fuel + 1) listed a w :=
  wpAnyH_take hi hs hf hr hQ (Or.inl ⟨hw, hy⟩) hS h
end
end Go
/- A STEP ALONG A PATH: the program's and the model's. Written by mkpas.py. -/

namespace Go.Proofs.Ytineecongiplgaa
open Go.RowKit
set_option linter.unusedVariables false
set_option linter.unusedSimpArgs false

theorem cellG {Z W : World} {G k : Nat} {cs : Array Value} {t : TypeId} (h : Z.heap[k]? = some (.cells cs t (0, 0))) (hne : k ≠ G) (o : Nat) (v : Value) (hc : cs[o]? = some v) (g : Z.grownBy W (some G)) : W.cell? ⟨k, o, none⟩ = some v :=
  cellW ((g.block k (Array.getElem?_eq_some_iff.1 h).1 (fun e => hne (Option.some.inj e))).trans h) o v hc W (Below.refl _ _)
theorem cellG2 {Z : World} {G : Nat} {p : Addr} {v : Value} (h : Z.cell? p = some v) (hl : p.block < Z.heap.size) (hne : p.block ≠ G) (W : World) (g : Z.grownBy W (some G)) : W.cell? p = some v := by
  rw [← h]
  unfold World.cell?
  rw [g.block _ hl (fun e => hne (Option.some.inj e))]
theorem own_set_ne {w : World} {b : Nat} {v : Value} {zs : List Int} (h : OwnI w b v zs) {a : Addr} (hne : ∀ k, v.ownBlock = some k → k ≠ a.block) (x : Value) : OwnI (w.setCell a x) b v zs := by
  refine ⟨h.1, h.2.imp id ?_⟩
  rintro ⟨g, cap, cur, e1, e2, e3, e4⟩
  exact ⟨g, cap, cur, e1, e2, (Below.heap_setCell _ _ _ _ (hne g (by rw [e1]; rfl))).trans e3, e4⟩
theorem own_pair {w : World} {b1 b2 H g : Nat} {v1 v2 x y : Value} {l r : List Int} (h1 : OwnI w b1 v1 l) (h2 : OwnI w b2 v2 r) (n1 : ∀ k, v1.ownBlock = some k → k ≠ g) (n2 : ∀ k, v2.ownBlock = some k → k ≠ g) (hne : ∀ a b, v1.ownBlock = some a → v2.ownBlock = some b → a ≠ b) (e1 : H ≤ b1) (e2 : H ≤ b2) : OwnT ((w.setCell ⟨g, 0, none⟩ x).setCell ⟨g, 1, none⟩ y) H v1 v2 ⟨l, r⟩ :=
  ⟨OwnI.leT (own_set_ne (own_set_ne h1 n1 x) n1 y) e1, OwnI.leT (own_set_ne (own_set_ne h2 n2 x) n2 y) e2, hne⟩
theorem src_cells {w : World} {zs : List Int} {q : Addr} (hc : ∀ k (h : k < zs.length), ∃ g o, some q = some (⟨g, o, none⟩ : Addr) ∧ g < w.heap.size ∧ w.cell? ⟨g, o + k, none⟩ = some (.int .i64 zs[k])) : ∀ j u, (zs.map (Value.int .i64))[j]? = some u → w.cell? (q.add j) = some u := by
  intro j u hj
  rw [List.getElem?_map] at hj
  cases hz : zs[j]? with
  | none => rw [hz] at hj; cases hj
  | some z =>
    rw [hz] at hj
    cases hj
    obtain ⟨hlt, hzj⟩ := List.getElem?_eq_some_iff.1 hz
    obtain ⟨g, o, e, _, hq⟩ := hc j hlt
    cases e
    rw [hzj] at hq
    rw [show (⟨g, o, none⟩ : Addr).add j = ⟨g, o + j, none⟩ by unfold Addr.add; split <;> simp_all]
    exact hq
/-- numbers put behind an empty row, wherever they lie -/
theorem app_empty_src (w : World) (ty : TypeId) (G : Nat) (hG : w.heap[G]? = some (.cells #[] 2 (0, 0))) (u : Value) (zs : List Int) (hs : SrcI w u zs) (hl : zs.length ≤ 100000) :
    ∃ G' c w', (Builtin.append_ #[23, 23] ty #[.slice (some ⟨G, 0, none⟩) 0 0, u]).run Try.prog w = .ok (.slice (some ⟨G', 0, none⟩) zs.length c) w' ∧ (G' = G ∨ G' = w.heap.size) ∧ (∀ base, base ≤ G → OwnI w' base (.slice (some ⟨G', 0, none⟩) zs.length c) zs) ∧ Below w.heap.size w w' := by
  obtain ⟨i0, hi, hz0, hz1, hz2⟩ := info_parts info64
  have hlt := (Array.getElem?_eq_some_iff.1 hG).1
  have hown : ∀ base, base ≤ G → OwnI w base (.slice (some ⟨G, 0, none⟩) 0 0) [] := fun base h => ⟨by simp, .inr ⟨G, 0, #[], rfl, h, hG, Nat.le_refl _, by unfold maxLen; omega, rfl, rfl⟩⟩
  obtain ⟨p, c, rfl, hc⟩ := hs
  by_cases h0 : zs.length = 0
  · obtain rfl : zs = [] := List.eq_nil_of_length_eq_zero h0
    cases p with
    | none =>
      have hr := run_append_owned_none (P := Try.prog) w 0 23 ty 2 i0 1 Try.underlying23 hi (.slice (some ⟨G, 0, none⟩) 0 0) 0 [] (hown 0 (Nat.zero_le _))
      exact ⟨G, 0, w, hr, .inl rfl, hown, Below.refl _ _⟩
    | some p =>
      refine ⟨G, 0, w, ?_, .inl rfl, hown, Below.refl _ _⟩
      simp [Builtin.append_, run_underlying Try.underlying23, sizeOf, typeInfo, hi, Builtin.lenOf, Builtin.firstCells, loadCells, loadCellsFrom, storeCells]
  · obtain ⟨g, o, rfl, _⟩ := hc 0 (by omega)
    have hr := run_append_grow (P := Try.prog) w 23 ty 2 i0 (.int .i64 0) Try.underlying23 hi hz0 ⟨G, 0, none⟩ 0 0 [] (by simp) (by simp) ⟨g, o, none⟩ zs.length c (zs.map (Value.int .i64)) (by rw [hz1]; simp) (src_cells hc) (by omega) (by omega) (by rw [hz2, nextslicecap_zero (by omega)]; omega)
    have hge := grownCap_ge w (0 + zs.length) 0 2
    have hle := grownCap_le_maxLen w (0 + zs.length) 0 2 (by unfold maxLen; omega)
    simp only [Nat.zero_add, Array.empty_append] at hr hge hle
    refine ⟨_, _, _, hr, .inr rfl, fun base hb => own_new zs _ _ (by omega) hge hle (by omega), ?_⟩
    exact (Below.refl w.heap.size w).trans (Below.alloc (Below.drew (Below.refl _ _)) (Nat.le_refl _) _)
/-- numbers put behind one -/
theorem app_via (w : World) (ty : TypeId) (G : Nat) (via : Int) (hG : w.heap[G]? = some (.cells #[.int .i64 via] 2 (0, 0))) (u : Value) (zs : List Int) (hs : SrcI w u zs) (hl : zs.length ≤ 100000) :
    ∃ G' c w', (Builtin.append_ #[23, 23] ty #[.slice (some ⟨G, 0, none⟩) 1 1, u]).run Try.prog w = .ok (.slice (some ⟨G', 0, none⟩) (zs.length + 1) c) w' ∧ (G' = G ∨ G' = w.heap.size) ∧ (∀ base, base ≤ G → OwnI w' base (.slice (some ⟨G', 0, none⟩) (via :: zs).length c) (via :: zs)) ∧ Below w.heap.size w w' := by
  obtain ⟨i0, hi, hz0, hz1, hz2⟩ := info_parts info64
  have hlt := (Array.getElem?_eq_some_iff.1 hG).1
  have hown : ∀ base, base ≤ G → OwnI w base (.slice (some ⟨G, 0, none⟩) 1 1) [via] := fun base h => ⟨by simp, .inr ⟨G, 1, #[.int .i64 via], rfl, h, hG, Nat.le_refl _, by unfold maxLen; omega, rfl, rfl⟩⟩
  obtain ⟨p, c, rfl, hc⟩ := hs
  by_cases h0 : zs.length = 0
  · obtain rfl : zs = [] := List.eq_nil_of_length_eq_zero h0
    cases p with
    | none =>
      have hr := run_append_owned_none (P := Try.prog) w 0 23 ty 2 i0 1 Try.underlying23 hi (.slice (some ⟨G, 0, none⟩) 1 1) 1 [.int .i64 via] (hown 0 (Nat.zero_le _))
      exact ⟨G, 1, w, hr, .inl rfl, hown, Below.refl _ _⟩
    | some p =>
      refine ⟨G, 1, w, ?_, .inl rfl, hown, Below.refl _ _⟩
      simp [Builtin.append_, run_underlying Try.underlying23, sizeOf, typeInfo, hi, Builtin.lenOf, Builtin.firstCells, loadCells, loadCellsFrom, storeCells]
  · obtain ⟨g, o, rfl, _⟩ := hc 0 (by omega)
    have hr := run_append_grow (P := Try.prog) w 23 ty 2 i0 (.int .i64 0) Try.underlying23 hi hz0 ⟨G, 0, none⟩ 1 1 [.int .i64 via] (by rw [hz1]; rfl) (ownI_src (hown 0 (Nat.zero_le _))) ⟨g, o, none⟩ zs.length c (zs.map (Value.int .i64)) (by rw [hz1]; simp) (src_cells hc) (by omega) (by omega) (by rw [hz2]; exact growslice_fits (by omega) (by omega))
    rw [Nat.add_comm 1 zs.length] at hr
    have hge := grownCap_ge w (zs.length + 1) 1 2
    have hle := grownCap_le_maxLen w (zs.length + 1) 1 2 (by unfold maxLen; omega)
    have hn := fun base (hb : base ≤ G) => own_new (w := w) (base := base) (via :: zs) (grownCap w (zs.length + 1) 1 2) (grownCap w (zs.length + 1) 1 2 - (zs.length + 1)) (by omega) (by simp; omega) hle (by simp; omega)
    refine ⟨w.heap.size, _, _, hr, .inr rfl, fun base hb => ?_, ?_⟩
    · have := hn base hb
      simpa using this
    · exact (Below.refl w.heap.size w).trans (Below.alloc (Below.drew (Below.refl _ _)) (Nat.le_refl _) _)
theorem tail_src (g c : Nat) (a : Int) (l : List Int) (hn : l.length + 1 ≤ c) (W : World) (b : Nat) (h : OwnI W b (.slice (some ⟨g, 0, none⟩) (l.length + 1) c) (a :: l)) : SrcI W (.slice (if c = 1 then some ⟨g, 0, none⟩ else some ⟨g, 1, none⟩) l.length (c - 1)) l := by
  refine ⟨_, _, rfl, fun k hk => ?_⟩
  rw [if_neg (by omega)]
  obtain ⟨g', e, _, hlt, hq, _⟩ := h.cell (k + 1) (by simp; omega)
  cases e
  exact ⟨g, 1, rfl, hlt, by rw [Nat.add_comm 1 k]; simpa using hq⟩
end Go.Proofs.Ytineecongiplgaa
