/- ROWS OF RECORDS TURNED IN PLACE: a record stored, a field stored, what is behind cleared. -/
import Derived.Test.YtghchcipobcpjaaQtSpK
import Derived.Lib.SliceRun
namespace Go.Proofs.Ytghchcipobcpjaa
open Go.RowKit
set_option linter.unusedVariables false
set_option linter.unusedSimpArgs false

theorem OwnK.of {α : Type} {m : Nat} {ty : TypeId} {cell : α → List Value} (hm : ∀ x, (cell x).length = m) {w : World} {base g c : Nat} {cur : Array Value} {l : List α} (hb : base ≤ g) (hg : w.heap[g]? = some (.cells cur ty (0, 0))) (hs : cur.size = c * m) (hlc : l.length ≤ c) (hcm : c ≤ maxLen)
    (hr : ∀ k (h : k < l.length), w.rangeAt g (k * m) (cell l[k])) : OwnK m ty cell w base (.slice (some ⟨g, 0, none⟩) l.length c) l := by
  refine ⟨flat_len hm l, .inr ⟨g, c, cur, rfl, hb, hg, hlc, hcm, hs, ?_⟩⟩
  apply List.ext_getElem?
  intro i
  by_cases hi : i < l.length * m
  · rw [List.getElem?_take_of_lt hi]
    have hm0 : 0 < m := by
      rcases Nat.eq_zero_or_pos m with h | h
      · rw [h] at hi; omega
      · exact h
    have hk : i / m < l.length := Nat.div_lt_of_lt_mul (by rw [Nat.mul_comm]; exact hi)
    have hj : i % m < m := Nat.mod_lt _ hm0
    have e := flat_at hm l (i / m) (i % m) hk hj
    rw [Nat.div_add_mod' i m] at e
    have hv : (cell l[i / m])[i % m]? = some ((cell l[i / m])[i % m]'(by rw [hm]; exact hj)) := List.getElem?_eq_getElem _
    have q := hr (i / m) hk (i % m) _ hv
    rw [Nat.div_add_mod' i m, cell_of_row w g i cur ty (0, 0) hg] at q
    rw [e, hv, ← q]
    simp
  · have h1 : cur.toList.length = c * m := by simpa using hs
    rw [List.getElem?_eq_none (by rw [List.length_take]; omega), List.getElem?_eq_none (by rw [flat_len hm]; omega)]
theorem OwnK.ranges {α : Type} {m : Nat} {ty : TypeId} {cell : α → List Value} (hm : ∀ x, (cell x).length = m) {w : World} {base g n c : Nat} {l : List α} (h : OwnK m ty cell w base (.slice (some ⟨g, 0, none⟩) n c) l) :
    n = l.length ∧ base ≤ g ∧ c ≤ maxLen ∧ l.length ≤ c ∧ ∃ cur, w.heap[g]? = some (.cells cur ty (0, 0)) ∧ cur.size = c * m ∧ ∀ k (h : k < l.length), w.rangeAt g (k * m) (cell l[k]) := by
  have hsh := OwnK.shape h
  obtain ⟨h0, ⟨e, _⟩ | ⟨g', cap, cur, e, h1, h2, h3, h4, h5, h6⟩⟩ := h
  · cases e
  · cases e
    obtain ⟨p, c', e2⟩ := hsh
    cases e2
    refine ⟨rfl, h1, h4, h3, cur, h2, h5, fun k hk j x hj => ?_⟩
    have hjm : j < m := by rw [← hm l[k]]; exact (List.getElem?_eq_some_iff.1 hj).1
    have e := flat_at hm l k j hk hjm
    rw [hj, ← h6] at e
    have hlt : k * m + j < l.length * m := by have := rcMul (m := m) hk; omega
    rw [List.getElem?_take_of_lt hlt] at e
    rw [World.cell?]
    simp only [h2]
    simpa using e
theorem OwnK.setr {α : Type} {m : Nat} {ty : TypeId} {cell : α → List Value} (hm : ∀ x, (cell x).length = m) {w : World} {base g n c : Nat} {l : List α} (h : OwnK m ty cell w base (.slice (some ⟨g, 0, none⟩) n c) l) (k : Nat) (hk : k < l.length) (x : α) :
    w.there g (k * m) m ∧ OwnK m ty cell (w.setCells g (k * m) (cell x)) base (.slice (some ⟨g, 0, none⟩) n c) (l.set k x) := by
  obtain ⟨rfl, hb, hcm, hlc, cur, hg, hs, hr⟩ := OwnK.ranges hm h
  have key := rcStep (o := 0) (n := c) (j := k) hg (by omega) (by omega) (cell x) (hm x)
  simp only [Nat.zero_add] at key
  obtain ⟨t1, ⟨cur', t2, t3⟩, t4, t5⟩ := key
  refine ⟨t1, ?_⟩
  have hl : (l.set k x).length = l.length := List.length_set
  rw [← hl]
  refine OwnK.of hm hb t2 t3 (by omega) hcm fun i hi => ?_
  by_cases e : i = k
  · subst e
    rw [List.getElem_set_self]
    exact t4
  · rw [List.getElem_set_ne (by omega)]
    exact t5 i e _ (hm _) (hr i (by omega))
theorem OwnK.setf {α : Type} {m : Nat} {ty : TypeId} {cell : α → List Value} (hm : ∀ x, (cell x).length = m) {w : World} {base g n c : Nat} {l : List α} (h : OwnK m ty cell w base (.slice (some ⟨g, 0, none⟩) n c) l) (k : Nat) (hk : k < l.length) (f : Nat) (hf : f < m) (x : α) (u : Value) (hx : cell x = (cell l[k]).set f u) :
    OwnK m ty cell (w.setCell ⟨g, k * m + f, none⟩ u) base (.slice (some ⟨g, 0, none⟩) n c) (l.set k x) := by
  obtain ⟨rfl, hb, hcm, hlc, cur, hg, hs, hr⟩ := OwnK.ranges hm h
  have h1 := rcMul (m := m) (show k < c by omega)
  have hl : (l.set k x).length = l.length := List.length_set
  have ht : w.there g (k * m + f) 1 := rcThere hg _ _ (by omega)
  have hsame : (w.setCell ⟨g, k * m + f, none⟩ u).rangeAt g (k * m + f) [u] := World.rangeAt_setCells_same w g (k * m + f) [u] ht
  have hap : ∀ (o : Nat) (v : Value), o ≠ k * m + f → w.cell? ⟨g, o, none⟩ = some v → (w.setCell ⟨g, k * m + f, none⟩ u).cell? ⟨g, o, none⟩ = some v := fun o v ho hv => by
    have q : w.rangeAt g o [v] := fun j y hy => by
      cases j with
      | zero => cases hy; exact hv
      | succ j => simp at hy
    have := World.rangeAt_setCells_apart q g (k * m + f) [u] (by rcases Nat.lt_or_gt_of_ne ho with h | h; exact .inr (.inl (by simp only [List.length_singleton]; omega)); exact .inr (.inr (by simp only [List.length_singleton]; omega)))
    exact this 0 v rfl
  rw [← hl]
  refine OwnK.of hm hb (blk_set hg (k * m + f) u) (by rw [Array.size_setIfInBounds]; exact hs) (by omega) hcm fun i hi j v hv => ?_
  by_cases e : i = k
  · subst e
    rw [List.getElem_set_self, hx] at hv
    by_cases ej : j = f
    · subst ej
      rw [List.getElem?_set_self (by rw [hm]; exact hf)] at hv
      cases hv
      exact hsame 0 u rfl
    · rw [List.getElem?_set_ne (by omega)] at hv
      exact hap _ v (by omega) (hr i (by omega) j v hv)
  · rw [List.getElem_set_ne (by omega)] at hv
    have hjm : j < m := by rw [← hm l[i]]; exact (List.getElem?_eq_some_iff.1 hv).1
    refine hap _ v ?_ (hr i (by omega) j v hv)
    rcases Nat.lt_or_gt_of_ne e with h | h
    · have := rcMul (m := m) h; omega
    · have := rcMul (m := m) h; omega
/-- a shorter list at the beginning of a row -/
theorem OwnK.cut {α : Type} {m : Nat} {ty : TypeId} {cell : α → List Value} (hm : ∀ x, (cell x).length = m) {w : World} {base g n c : Nat} {l : List α} (h : OwnK m ty cell w base (.slice (some ⟨g, 0, none⟩) n c) l) (P : Nat) (hP : P ≤ l.length) (vs : List Value) :
    OwnK m ty cell (w.setCells g (P * m) vs) base (.slice (some ⟨g, 0, none⟩) P c) (l.take P) := by
  obtain ⟨rfl, hb, hcm, hlc, cur, hg, hs, hr⟩ := OwnK.ranges hm h
  obtain ⟨cur', t1, t2⟩ := rcSetCells_row g ty vs (P * m) w cur hg
  have e : (l.take P).length = P := by rw [List.length_take]; omega
  have := OwnK.of (base := base) hm hb t1 (by rw [t2]; exact hs) (l := l.take P) (c := c) (by omega) hcm (fun i hi => by
    rw [List.getElem_take]
    have hi' : i < P := by omega
    have := rcMul (m := m) hi'
    exact World.rangeAt_setCells_apart (hr i (by omega)) g (P * m) vs (.inr (.inl (by rw [hm]; omega))))
  rwa [e] at this
theorem zeroRun {ty : TypeId} {i : TypeInfo} {z : Value} (hi : Try.prog.info? ty = some i) (hz : i.zero = some z) (w : World) : (zeroValue ty).run Try.prog w = .ok z w := by
  simp [zeroValue, typeInfo, hi, hz]
/-- 'clear' of records: something is stored there -/
theorem run_clear_rec (w : World) (t e ty : TypeId) (z : Value) (m : Nat) (ht : Try.prog.underlying t = some (.slice e)) (hv : ∀ w, (zeroValue e).run Try.prog w = .ok z w) (hz : z.cells.size = m) (h1 : ∀ v ∈ z.cells.toList, v.oneCell' = true) (b o n c : Nat) (hn : 0 < n) (hth : w.there b o (n * m)) :
    (Builtin.clear_ #[t] ty #[.slice (some ⟨b, o, none⟩) n c]).run Try.prog w = .ok (.tuple #[]) (w.setCells b o (Builtin.zeroCells z.cells n).toList) := by
  have hl : (Builtin.zeroCells z.cells n).toList.length = n * m := by
    rw [← hz]
    simp [Builtin.zeroCells]
  have hone : ∀ v ∈ (Builtin.zeroCells z.cells n).toList, v.oneCell' = true := by
    intro v hv
    simp only [Builtin.zeroCells, Array.toList_map, List.mem_map] at hv
    obtain ⟨j, hj, rfl⟩ := hv
    have hj' : j < n * z.cells.size := by simpa using hj
    have hzp : 0 < z.cells.size := by
      rcases Nat.eq_zero_or_pos z.cells.size with h | h
      · rw [h] at hj'; omega
      · exact h
    have hlt : j % z.cells.size < z.cells.size := Nat.mod_lt _ hzp
    rw [getElem!_pos z.cells _ hlt]
    exact h1 _ (by simp)
  have hst := run_storeCells_cells (P := Try.prog) b o (Builtin.zeroCells z.cells n).toList 0 w (fun j hj => (hth j (by omega)).1) (fun j hj => (hth j (by omega)).2) hone
  simp only [Nat.add_zero] at hst
  obtain ⟨k, rfl⟩ : ∃ k, n = k + 1 := ⟨n - 1, by omega⟩
  simp [Builtin.clear_, run_underlying ht, hv, hst]
end Go.Proofs.Ytghchcipobcpjaa
