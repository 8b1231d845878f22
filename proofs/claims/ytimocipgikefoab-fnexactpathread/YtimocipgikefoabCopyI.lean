/- COPIES OF LISTS of numbers. -/
import Derived.Test.YtimocipgikefoabTabIn
import Derived.Test.YtimocipgikefoabBitsR
import Derived.Deep.RegionWith
import Derived.Deep.RegionLaw
import Derived.Deep.QuietTactic
import Derived.BigQuiet
import Derived.BigRegion
namespace Go.Proofs.Ytimocipgikefoab
open Go.RowKit
set_option linter.unusedVariables false
set_option linter.unusedSimpArgs false

theorem ownI_src {w : World} {b : Nat} {p : Addr} {n c : Nat} {zs : List Int} (h : OwnI w b (.slice (some p) n c) zs) : ∀ j u, (zs.map (Value.int .i64))[j]? = some u → w.cell? (p.add j) = some u := by
  intro j u hj
  rw [List.getElem?_map] at hj
  cases hz : zs[j]? with
  | none => rw [hz] at hj; cases hj
  | some z =>
    rw [hz] at hj
    cases hj
    obtain ⟨hlt, hzj⟩ := List.getElem?_eq_some_iff.1 hz
    obtain ⟨g, e, _, _, hq, _⟩ := h.cell j hlt
    cases e
    rw [hzj] at hq
    rw [show (⟨g, 0, none⟩ : Addr).add j = ⟨g, j, none⟩ by unfold Addr.add; split <;> simp_all]
    exact hq
theorem own_new {w : World} {base : Nat} (zs : List Int) (c : Nat) (k : Nat) (hb : base ≤ w.heap.size) (hc : zs.length ≤ c) (hm : c ≤ maxLen) (hk : c = zs.length + k) : OwnI (w.drew.alloc (.cells ((zs.map (Value.int .i64)).toArray ++ Builtin.zeroCells (Value.int .i64 0).cells k) 2)) base (.slice (some ⟨w.heap.size, 0, none⟩) zs.length c) zs := by
  refine ⟨by simp, .inr ⟨w.heap.size, c, _, rfl, hb, heap_alloc_new w.drew _, hc, hm, ?_, ?_⟩⟩
  · simp [size_zeroCells, Value.cells]; omega
  · simp only [Array.toList_append, Nat.mul_one]
    rw [show zs.length = ((zs.map (Value.int .i64)).toArray.toList).length by simp]
    exact List.take_left
/-- numbers put behind nothing: a copy -/
theorem app_nil (w : World) (ty : TypeId) (b : Nat) (u : Value) (zs : List Int) (hs : OwnI w b u zs) (hl : zs.length ≤ 100000) :
    ∃ v' w', (Builtin.append_ #[22, 22] ty #[.slice none 0 0, u]).run Try.prog w = .ok v' w' ∧ OwnI w' w.heap.size v' zs ∧ Below w.heap.size w w' := by
  obtain ⟨i0, hi, hz0, hz1, hz2⟩ := info_parts info64
  rcases hs.2 with ⟨rfl, h0⟩ | ⟨g, cap, cur, rfl, _⟩
  · obtain rfl : zs = [] := List.eq_nil_of_length_eq_zero h0
    exact ⟨_, _, run_append_owned_none w w.heap.size _ _ 2 i0 1 Try.underlying22 hi _ 0 [] (World.ownsRow_nil _ _ _ _), OwnI.nil _ _, Below.refl _ _⟩
  · by_cases h0 : zs.length = 0
    · obtain rfl : zs = [] := List.eq_nil_of_length_eq_zero h0
      refine ⟨.slice none 0 0, w, ?_, OwnI.nil _ _, Below.refl _ _⟩
      simp [Builtin.append_, run_underlying Try.underlying22, sizeOf, typeInfo, hi, Builtin.lenOf, Builtin.firstCells, loadCells, loadCellsFrom]
    · have hr := run_append_nil (P := Try.prog) w 22 ty 2 i0 (.int .i64 0) Try.underlying22 hi hz0 ⟨g, 0, none⟩ zs.length cap (zs.map (Value.int .i64)) (by rw [hz1]; simp) (ownI_src hs) (by omega) (by omega) (by rw [hz2]; omega)
      have hge := grownCap_ge w zs.length 0 2
      have hle := grownCap_le_maxLen w zs.length 0 2 (by unfold maxLen; omega)
      refine ⟨_, _, hr, own_new zs _ _ (Nat.le_refl _) hge hle (by omega), ?_⟩
      exact (Below.refl w.heap.size w).trans (Below.alloc (Below.drew (Below.refl _ _)) (Nat.le_refl _) _)
/-- numbers put behind an empty row: a copy -/
theorem app_empty (w : World) (ty : TypeId) (G : Nat) (hG : w.heap[G]? = some (.cells #[] 2 (0, 0))) (b : Nat) (u : Value) (zs : List Int) (hs : OwnI w b u zs) (hl : zs.length ≤ 100000) :
    ∃ G' c w', (Builtin.append_ #[22, 22] ty #[.slice (some ⟨G, 0, none⟩) 0 0, u]).run Try.prog w = .ok (.slice (some ⟨G', 0, none⟩) zs.length c) w' ∧ (G' = G ∨ G' = w.heap.size) ∧ (∀ base, base ≤ G → OwnI w' base (.slice (some ⟨G', 0, none⟩) zs.length c) zs) ∧ Below w.heap.size w w' := by
  obtain ⟨i0, hi, hz0, hz1, hz2⟩ := info_parts info64
  have hlt := (Array.getElem?_eq_some_iff.1 hG).1
  have hown : ∀ base, base ≤ G → OwnI w base (.slice (some ⟨G, 0, none⟩) 0 0) [] := fun base h => ⟨by simp, .inr ⟨G, 0, #[], rfl, h, hG, Nat.le_refl _, by unfold maxLen; omega, rfl, rfl⟩⟩
  rcases hs.2 with ⟨rfl, h0⟩ | ⟨g, cap, cur, rfl, _⟩
  · obtain rfl : zs = [] := List.eq_nil_of_length_eq_zero h0
    exact ⟨_, _, _, run_append_owned_none w 0 _ _ 2 i0 1 Try.underlying22 hi _ 0 [] (hown 0 (Nat.zero_le _)), .inl rfl, hown, Below.refl _ _⟩
  · by_cases h0 : zs.length = 0
    · obtain rfl : zs = [] := List.eq_nil_of_length_eq_zero h0
      refine ⟨G, 0, w, ?_, .inl rfl, hown, Below.refl _ _⟩
      simp [Builtin.append_, run_underlying Try.underlying22, sizeOf, typeInfo, hi, Builtin.lenOf, Builtin.firstCells, loadCells, loadCellsFrom, storeCells]
    · have hr := run_append_grow (P := Try.prog) w 22 ty 2 i0 (.int .i64 0) Try.underlying22 hi hz0 ⟨G, 0, none⟩ 0 0 [] (by simp) (by simp) ⟨g, 0, none⟩ zs.length cap (zs.map (Value.int .i64)) (by rw [hz1]; simp) (ownI_src hs) (by omega) (by omega) (by rw [hz2, nextslicecap_zero (by omega)]; omega)
      have hge := grownCap_ge w (0 + zs.length) 0 2
      have hle := grownCap_le_maxLen w (0 + zs.length) 0 2 (by unfold maxLen; omega)
      simp only [Nat.zero_add, Array.empty_append] at hr hge hle
      refine ⟨_, _, _, hr, .inr rfl, fun base hb => own_new zs _ _ (by omega) hge hle (by omega), ?_⟩
      exact (Below.refl w.heap.size w).trans (Below.alloc (Below.drew (Below.refl _ _)) (Nat.le_refl _) _)
end Go.Proofs.Ytimocipgikefoab
