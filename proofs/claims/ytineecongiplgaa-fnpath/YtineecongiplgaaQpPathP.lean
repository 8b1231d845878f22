/- COPIES OF LISTS of numbers. -/
import Derived.Test.YtineecongiplgaaQpOwnU
import Derived.Test.YtineecongiplgaaQpBitsR
import Derived.Test.YtineecongiplgaaQpPlainSt
import Derived.Test.YtineecongiplgaaQpBox
import Derived.Deep.RegionWith
import Derived.Deep.RegionLaw
import Derived.Deep.QuietTactic
import Derived.BigQuiet
import Derived.BigRegion
namespace Go.Proofs.Ytineecongiplgaa
open Go.RowKit
set_option linter.unusedVariables false
set_option linter.unusedSimpArgs false

theorem ownI_src {w : World} {b : Nat} {p : Addr} {n c : Nat} {zs : List Int} (h : OwnI w b (.slice (some p) n c) zs) : ∀ j u, (zs.map (Value.int .i64))[j]? = some u → w.cell? (p.add j) = some u := by
  intro j u hj
  rw [List.getElem?_map] at hj
  cases hz : zs[j]? with
  | none => rw [hz] at hj; cases hj
  | some z =>
    rw [hz] at hj
    cases hj
    obtain ⟨hlt, hzj⟩ := List.getElem?_eq_some_iff.1 hz
    obtain ⟨g, e, _, _, hq, _⟩ := h.cell j hlt
    cases e
    rw [hzj] at hq
    rw [show (⟨g, 0, none⟩ : Addr).add j = ⟨g, j, none⟩ by unfold Addr.add; split <;> simp_all]
    exact hq
theorem own_new {w : World} {base : Nat} (zs : List Int) (c : Nat) (k : Nat) (hb : base ≤ w.heap.size) (hc : zs.length ≤ c) (hm : c ≤ maxLen) (hk : c = zs.length + k) : OwnI (w.drew.alloc (.cells ((zs.map (Value.int .i64)).toArray ++ Builtin.zeroCells (Value.int .i64 0).cells k) 2)) base (.slice (some ⟨w.heap.size, 0, none⟩) zs.length c) zs := by
  refine ⟨by simp, .inr ⟨w.heap.size, c, _, rfl, hb, heap_alloc_new w.drew _, hc, hm, ?_, ?_⟩⟩
  · simp [size_zeroCells, Value.cells]; omega
  · simp only [Array.toList_append, Nat.mul_one]
    rw [show zs.length = ((zs.map (Value.int .i64)).toArray.toList).length by simp]
    exact List.take_left
/-- numbers put behind nothing: a copy -/
theorem app_nil (w : World) (ty : TypeId) (b : Nat) (u : Value) (zs : List Int) (hs : OwnI w b u zs) (hl : zs.length ≤ 100000) :
    ∃ v' w', (Builtin.append_ #[23, 23] ty #[.slice none 0 0, u]).run Try.prog w = .ok v' w' ∧ OwnI w' w.heap.size v' zs ∧ Below w.heap.size w w' := by
  obtain ⟨i0, hi, hz0, hz1, hz2⟩ := info_parts info64
  rcases hs.2 with ⟨rfl, h0⟩ | ⟨g, cap, cur, rfl, _⟩
  · obtain rfl : zs = [] := List.eq_nil_of_length_eq_zero h0
    exact ⟨_, _, run_append_owned_none w w.heap.size _ _ 2 i0 1 Try.underlying23 hi _ 0 [] (World.ownsRow_nil _ _ _ _), OwnI.nil _ _, Below.refl _ _⟩
  · by_cases h0 : zs.length = 0
    · obtain rfl : zs = [] := List.eq_nil_of_length_eq_zero h0
      refine ⟨.slice none 0 0, w, ?_, OwnI.nil _ _, Below.refl _ _⟩
      simp [Builtin.append_, run_underlying Try.underlying23, sizeOf, typeInfo, hi, Builtin.lenOf, Builtin.firstCells, loadCells, loadCellsFrom]
    · have hr := run_append_nil (P := Try.prog) w 23 ty 2 i0 (.int .i64 0) Try.underlying23 hi hz0 ⟨g, 0, none⟩ zs.length cap (zs.map (Value.int .i64)) (by rw [hz1]; simp) (ownI_src hs) (by omega) (by omega) (by rw [hz2]; omega)
      have hge := grownCap_ge w zs.length 0 2
      have hle := grownCap_le_maxLen w zs.length 0 2 (by unfold maxLen; omega)
      refine ⟨_, _, hr, own_new zs _ _ (Nat.le_refl _) hge hle (by omega), ?_⟩
      exact (Below.refl w.heap.size w).trans (Below.alloc (Below.drew (Below.refl _ _)) (Nat.le_refl _) _)
/-- numbers put behind an empty row: a copy -/
theorem app_empty (w : World) (ty : TypeId) (G : Nat) (hG : w.heap[G]? = some (.cells #[] 2 (0, 0))) (b : Nat) (u : Value) (zs : List Int) (hs : OwnI w b u zs) (hl : zs.length ≤ 100000) :
    ∃ G' c w', (Builtin.append_ #[23, 23] ty #[.slice (some ⟨G, 0, none⟩) 0 0, u]).run Try.prog w = .ok (.slice (some ⟨G', 0, none⟩) zs.length c) w' ∧ (G' = G ∨ G' = w.heap.size) ∧ (∀ base, base ≤ G → OwnI w' base (.slice (some ⟨G', 0, none⟩) zs.length c) zs) ∧ Below w.heap.size w w' := by
  obtain ⟨i0, hi, hz0, hz1, hz2⟩ := info_parts info64
  have hlt := (Array.getElem?_eq_some_iff.1 hG).1
  have hown : ∀ base, base ≤ G → OwnI w base (.slice (some ⟨G, 0, none⟩) 0 0) [] := fun base h => ⟨by simp, .inr ⟨G, 0, #[], rfl, h, hG, Nat.le_refl _, by unfold maxLen; omega, rfl, rfl⟩⟩
  rcases hs.2 with ⟨rfl, h0⟩ | ⟨g, cap, cur, rfl, _⟩
  · obtain rfl : zs = [] := List.eq_nil_of_length_eq_zero h0
    exact ⟨_, _, _, run_append_owned_none w 0 _ _ 2 i0 1 Try.underlying23 hi _ 0 [] (hown 0 (Nat.zero_le _)), .inl rfl, hown, Below.refl _ _⟩
  · by_cases h0 : zs.length = 0
    · obtain rfl : zs = [] := List.eq_nil_of_length_eq_zero h0
      refine ⟨G, 0, w, ?_, .inl rfl, hown, Below.refl _ _⟩
      simp [Builtin.append_, run_underlying Try.underlying23, sizeOf, typeInfo, hi, Builtin.lenOf, Builtin.firstCells, loadCells, loadCellsFrom, storeCells]
    · have hr := run_append_grow (P := Try.prog) w 23 ty 2 i0 (.int .i64 0) Try.underlying23 hi hz0 ⟨G, 0, none⟩ 0 0 [] (by simp) (by simp) ⟨g, 0, none⟩ zs.length cap (zs.map (Value.int .i64)) (by rw [hz1]; simp) (ownI_src hs) (by omega) (by omega) (by rw [hz2, nextslicecap_zero (by omega)]; omega)
      have hge := grownCap_ge w (0 + zs.length) 0 2
      have hle := grownCap_le_maxLen w (0 + zs.length) 0 2 (by unfold maxLen; omega)
      simp only [Nat.zero_add, Array.empty_append] at hr hge hle
      refine ⟨_, _, _, hr, .inr rfl, fun base hb => own_new zs _ _ (by omega) hge hle (by omega), ?_⟩
      exact (Below.refl w.heap.size w).trans (Below.alloc (Below.drew (Below.refl _ _)) (Nat.le_refl _) _)
set_option maxRecDepth 100000 in
theorem copyNums_any (b : Nat) (v : Value) (zs : List Int) (w : World) (hl : zs.length ≤ 100000) (hs : OwnI w b v zs) :
    Calls Try.prog 42 #[v] w fun e w' => ∃ v', e = .returned v' ∧ OwnI w' w.heap.size v' zs ∧ Below w.heap.size w w' := by
  have H : Hid (∀ ty, ∃ v' w', (Builtin.append_ #[23, 23] ty #[.slice none 0 0, v]).run Try.prog w = .ok v' w' ∧ OwnI w' w.heap.size v' zs ∧ Below w.heap.size w w') := fun ty => app_nil w ty b v zs hs hl
  obtain ⟨p, c, rfl⟩ := hs.shape
  clear hs
  obtain ⟨v', w', hrun, hO, hB⟩ := H.out 23
  have hO' : Hid (OwnI _ _ _ _) := hO
  obtain ⟨p', c', rfl⟩ := hO.shape
  clear hO H
  go_enter Try.func42, Try.ntmps42
  go_wp2_with (at_builtin; refine wpList_plain rfl fun K hK => ?_; unfold Oper.wp; simp [execOp, resolve, invoke, builtin, Act.eval, hrun, Result.andThen]; refine hK _ _ ?_)
  go_ret
  exact ⟨_, rfl, hO'.out, hB⟩
end Go.Proofs.Ytineecongiplgaa
/- A NUMBER PUT BEHIND an own row of numbers, inside a region that draws its order. -/
namespace Go.Proofs.Ytineecongiplgaa
open Go.RowKit
set_option linter.unusedVariables false
set_option linter.unusedSimpArgs false

theorem step_append_IQ {ops : Array Oper} {o : Oper} {a : Act} {w : World} {K : Act → World → Prop} {Q : Exit → Act → World → Prop} {E : Prop}
    (hgd : o.guard = none) (s x : Operand) (hop : o.op = Op.call { callee := Callee.builtin Builtin.append, args := #[s, x], argTypes := #[23, 23] })
    (base : Nat) (v : Value) (xs : List Int) (hs : a.eval s = v) (hown : OwnI w base v xs) (g : Nat) (n : Int) (hx : a.eval x = .slice (some ⟨g, 0, none⟩) 1 1) (hc : w.cell? ⟨g, 0, none⟩ = some (.int .i64 n))
    (hl : xs.length ≤ 100000) (hbase : base ≤ w.heap.size)
    (hK : ∀ v' w', OwnI w' base v' (xs ++ [n]) → w.grownBy w' v.ownBlock → K (a.put o.dst v') w') :
    if Region.wanted o (yielded ops a.tmps) = true then Oper.wp Try.prog o a w K Q else E := by
  have hw : Region.wanted o (yielded ops a.tmps) = true := by simp [Region.wanted, hgd]
  rw [if_pos hw]
  obtain ⟨i0, hi, hz0, hz1, hz2⟩ := info_parts info64
  obtain ⟨v', w', hrun, r1, r2, _⟩ := run_append_own (P := Try.prog) w base 23 o.type 2 i0 (.int .i64 0) 1 8 Try.underlying23 hi hz0 hz1 hz2 rfl (by decide) v xs.length (xs.map (Value.int .i64)) hown ⟨g, 0, none⟩ 1 1 [.int .i64 n] (by simp)
    (by
      intro j u hj
      have hj0 : j = 0 := by
        rcases Nat.eq_zero_or_pos j with h | h
        · exact h
        · rw [List.getElem?_eq_none (by simp; omega)] at hj; cases hj
      subst hj0
      simp at hj
      subst hj
      simpa [Addr.add] using hc)
    (by intro u hu; simp at hu; subst hu; rfl) (by unfold maxLen; omega) (by omega) hbase
  unfold Oper.wp
  simp [execOp, hop, resolve, invoke, builtin, hs, hx, hrun, Result.andThen]
  exact hK v' w' (OwnI.of r1 (by rw [List.length_append]; rfl) (by rw [List.map_append]; rfl)) r2
end Go.Proofs.Ytineecongiplgaa
/- A NUMBER PUT BEHIND an own row of numbers: where the row lies then. -/
namespace Go.Proofs.Ytineecongiplgaa
open Go.RowKit
set_option linter.unusedVariables false
set_option linter.unusedSimpArgs false

theorem app_oneK (w : World) (ty : TypeId) (base : Nat) (v : Value) (xs : List Int) (hown : OwnI w base v xs) (g : Nat) (n : Int) (hc : w.cell? ⟨g, 0, none⟩ = some (.int .i64 n)) (hl : xs.length ≤ 100000) (hb : base ≤ w.heap.size) :
    ∃ v' w', (Builtin.append_ #[23, 23] ty #[v, .slice (some ⟨g, 0, none⟩) 1 1]).run Try.prog w = .ok v' w' ∧ OwnI w' base v' (xs ++ [n]) ∧ w.grownBy w' v.ownBlock ∧ (v'.ownBlock = v.ownBlock ∨ v'.ownBlock = some w.heap.size) := by
  obtain ⟨i0, hi, hz0, hz1, hz2⟩ := info_parts info64
  have hnews : ∀ j u, ([Value.int .i64 n] : List Value)[j]? = some u → w.cell? ((⟨g, 0, none⟩ : Addr).add j) = some u := by
    intro j u hj
    have hj0 : j = 0 := by
      rcases Nat.eq_zero_or_pos j with h | h
      · exact h
      · rw [List.getElem?_eq_none (by simp; omega)] at hj; cases hj
    subst hj0
    simp at hj
    subst hj
    simpa [Addr.add] using hc
  obtain ⟨v', w', hrun, r1, r2, _⟩ := run_append_own (P := Try.prog) w base 23 ty 2 i0 (.int .i64 0) 1 8 Try.underlying23 hi hz0 hz1 hz2 rfl (by decide) v xs.length (xs.map (Value.int .i64)) hown ⟨g, 0, none⟩ 1 1 [.int .i64 n] (by simp) hnews
    (by intro u hu; simp at hu; subst hu; rfl) (by unfold maxLen; omega) (by omega) hb
  refine ⟨v', w', hrun, OwnI.of r1 (by rw [List.length_append]; rfl) (by rw [List.map_append]; rfl), r2, ?_⟩
  rcases hown.2 with ⟨rfl, h0⟩ | ⟨k, cap, cur, rfl, hbk, hk, hnc, hcm, hcs, htake⟩
  · have hr := run_append_nil (P := Try.prog) w 23 ty 2 i0 (.int .i64 0) Try.underlying23 hi hz0 ⟨g, 0, none⟩ 1 1 [.int .i64 n] (by rw [hz1]; rfl) hnews (by omega) (by omega) (by rw [hz2]; omega)
    rw [hr] at hrun
    cases hrun
    exact .inr rfl
  · by_cases hroom : xs.length + 1 ≤ cap
    · have hr := run_append_room (P := Try.prog) w 23 ty 2 i0 Try.underlying23 hi k xs.length cap cur hk ⟨g, 0, none⟩ 1 1 [.int .i64 n] (by rw [hz1]; rfl) hnews (by intro u hu; simp at hu; subst hu; rfl) hroom (by rw [hz1]; simp; omega)
      rw [hr] at hrun
      cases hrun
      exact .inl rfl
    · have hr := run_append_grow (P := Try.prog) w 23 ty 2 i0 (.int .i64 0) Try.underlying23 hi hz0 ⟨k, 0, none⟩ xs.length cap (xs.map (Value.int .i64)) (by rw [hz1]; simp) (ownI_src hown) ⟨g, 0, none⟩ 1 1 [.int .i64 n] (by rw [hz1]; rfl) hnews (by omega) (by omega) (by rw [hz2]; exact growslice_fits (by omega) (by omega))
      rw [hr] at hrun
      cases hrun
      exact .inr rfl
end Go.Proofs.Ytineecongiplgaa
/- THE DRAW of hops. -/
namespace Go.Proofs.Ytineecongiplgaa
open Go.RowKit
set_option linter.unusedVariables false
set_option linter.unusedSimpArgs false

theorem Rb_blwP {B : Nat} {x y : World} {a : Option Addr} {len : Nat} (h : Rb B x a len) (k : Below B x y) : Rb B y a len := by
  refine ⟨h.1, h.2.imp id ?_⟩
  rintro ⟨g, o, e, hg, hc⟩
  refine ⟨g, o, e, hg, fun i hi => ?_⟩
  obtain ⟨v, h1, h2⟩ := hc i hi
  exact ⟨v, (k.cell (p := ⟨g, o + i, none⟩) hg).trans h1, h2⟩
theorem Dr.past {b B : Nat} {a : Option Addr} {len cap : Nat} {w0 w w' : World} (h : Dr b B a len cap w0 w) {H : Nat} (hb : Below H w w') (hbH : b < H) (hwH : w0.heap.size ≤ H) : Dr b B a len cap w0 w' :=
  ⟨h.src.of_block (hb.block b hbH), Rb_blwP h.rb (hb.mono (by have := h.le; omega)), ⟨hb.os.trans h.grb.os, hb.tape.trans h.grb.tape, hb.output.trans h.grb.output, Nat.le_trans h.grb.size hb.size, fun i hi hne => (hb.block i (by omega)).trans (h.grb.block i hi hne)⟩, Nat.lt_of_lt_of_le h.lt hb.size, h.le⟩
theorem OwnI.onlyP {b : Nat} {w w' : World} {base : Nat} {v : Value} {zs : List Int} (h : OwnI w base v zs) (ho : Only b w w') (hb : b < base) : OwnI w' base v zs := by
  refine ⟨h.1, h.2.imp id ?_⟩
  rintro ⟨g, cap, cur, e1, e2, e3, e4⟩
  exact ⟨g, cap, cur, e1, e2, (ho.block g (by omega)).trans e3, e4⟩
/-- a number put behind hops that were drawn -/
theorem hop_step {b B : Nat} {a : Option Addr} {len cap : Nat} {w0 w : World} (h : Dr b B a len cap w0 w) {H : Nat} (hbH : b < H) (hwH : w0.heap.size ≤ H) (hH : H ≤ w.heap.size) {v : Value} {zs : List Int} (hO : OwnI w H v zs) (hl : zs.length ≤ 100000) (x : Int) :
    ∃ (p : Option Addr) (n c : Nat) (w3 : World), (Builtin.append_ #[23, 23] 23 #[v, .slice (some ⟨w.heap.size, 0, none⟩) 1 1]).run Try.prog (w.alloc (.cells #[.int .i64 x] 2)) = .ok (.slice p n c) w3 ∧ OwnI w3 H (.slice p n c) (zs ++ [x]) ∧ Dr b B a len cap w0 w3 ∧ H ≤ w3.heap.size := by
  have hob := all_alloc w (.cells #[.int .i64 x] 2)
  have hcell : (w.alloc (.cells #[.int .i64 x] 2)).cell? ⟨w.heap.size, 0, none⟩ = some (.int .i64 x) := cellW (heap_alloc_new w _) 0 _ rfl _ (Below.refl _ _)
  obtain ⟨v', w3, hrun, hown, hgr, _⟩ := app_oneK (w.alloc (.cells #[.int .i64 x] 2)) 23 H v zs (hO.below hob) w.heap.size x hcell hl (by have := hob.size; omega)
  have hlt := OwnI.lt (hO.below hob)
  have hB : Below H w w3 := (hob.mono hH).grown hgr (by have := hob.size; omega) (fun k e => (hlt k e).1)
  obtain ⟨p', n', c', rfl⟩ : ∃ p n c, v' = .slice p n c := by obtain ⟨p, c, e⟩ := hown.shape; exact ⟨p, _, c, e⟩
  exact ⟨p', n', c', w3, hrun, hown, h.past hB hbH hwH, Nat.le_trans hH hB.size⟩
def tab09 : List Int := [0, 9, -1]
theorem tab09_cell {W : World} {g : Nat} (h : W.heap[g]? = some (.cells #[.int .i64 0, .int .i64 9, .int .i64 (-1)] 2 (0, 0))) (r : Nat) (hr : r < 3) : W.cell? ⟨g, r, none⟩ = some (.int .i64 (tab09.getD r 0)) := by
  refine cellW h r _ ?_ W (Below.refl _ _)
  match r, hr with
  | 0, _ => rfl
  | 1, _ => rfl
  | 2, _ => rfl
theorem wrap1 (r : Nat) (h : r < 100) : IntKind.i64.wrap (1 + (r : Int)) = 1 + (r : Int) := by
  have e : (1 + (r : Int)) % 2 ^ 64 = 1 + r := Int.emod_eq_of_lt (by omega) (by omega)
  simp only [IntKind.wrap, IntKind.bits, IntKind.signed, e]
  rw [if_neg]
  simp; omega
set_option maxRecDepth 100000 in
set_option maxHeartbeats 3200000 in
theorem l08Hops_D {b B : Nat} {a : Option Addr} {len cap : Nat} {w0 w : World} (h : Dr b B a len cap w0 w) :
    Calls Try.prog 40 #[.pointer (some ⟨b, 0, none⟩)] w fun e w' => ∃ (v : Value) (zs : List Int), e = .returned v ∧ OwnI w' w.heap.size v zs ∧ zs.length ≤ 6 ∧ Dr b B a len cap w0 w' := by
  have HD0 : Hid (Dr b B a len cap w0 (w.alloc (.cells #[] 2))) := h.alloc _
  have HO0 : Hid (OwnI (w.alloc (.cells #[] 2)) w.heap.size (.slice (some ⟨w.heap.size, 0, none⟩) 0 0) []) := ⟨by simp, .inr ⟨w.heap.size, 0, #[], rfl, Nat.le_refl _, heap_alloc_new w _, Nat.le_refl _, by unfold maxLen; omega, rfl, rfl⟩⟩
  have hbH : b < w.heap.size := h.lt
  have hwH : w0.heap.size ≤ w.heap.size := h.size
  have hH0 : w.heap.size ≤ (w.alloc (.cells #[] 2)).heap.size := by simp
  clear h
  go_enter Try.func40, Try.ntmps40
  go_upto_region 2 with fail
  generalize w.alloc (.cells #[] 2) = A at HD0 HO0 hH0 ⊢
  go_wp2_with (go_at_call 45; refine (n_D HD0.out 6 (by omega)).mono ?_; rintro e w1 ⟨r, rfl, hr, hD1, ho1⟩; have HD1 : Hid (Dr _ _ _ _ _ _ _) := hD1; have HO1 : Hid (OwnI _ _ _ _) := OwnI.onlyP HO0.out ho1 hbH; have hr6 : r < 6 := (by omega); have hH1 : w.heap.size ≤ w1.heap.size := (by rw [ho1.size]; exact hH0); clear hD1 ho1 hr)
  go_loopw [3, 4] (fun l i wr => ∃ (m : Nat) (p : Option Addr) (n c : Nat) (zs : List Int), i = .int .i64 m ∧ l = .slice p n c ∧ m + zs.length ≤ 5 ∧ w.heap.size ≤ wr.heap.size ∧ Hid (OwnI wr w.heap.size (.slice p n c) zs) ∧ Hid (Dr b B a len cap w0 wr)) (fun _ i _ => (intOf i).toNat)
  case atStart => exact ⟨r, _, _, _, [], rfl, rfl, by simp; omega, hH1, HO1, HD1⟩
  case round =>
    obtain ⟨m, p, n, c, zs, rfl, rfl, hm, hHr, HO, HD⟩ := hrel
    by_cases hm0 : 0 < m
    · have hm0' : (0 : Int) < (m : Int) := by omega
      go_wp2_with (first
        | (go_at_call 45; refine (n_D HD.out 8 (by omega)).mono ?_; rintro e w2 ⟨r8, rfl, hr8, hD2, ho2⟩; have hw8 := wrap1 r8 (by omega); obtain ⟨p3, n3, c3, w3, hrun, hO3, hD3, hH3⟩ := hop_step hD2 hbH hwH (by rw [ho2.size]; exact hHr) (OwnI.onlyP HO.out ho2 hbH) (by omega) (1 + (r8 : Int)); have HO3 : Hid (OwnI _ _ _ _) := hO3; have HD3 : Hid (Dr _ _ _ _ _ _ _) := hD3; clear hO3 hD3 hD2 ho2 hr8)
        | (at_builtin; refine wpList_plain rfl fun K hK => ?_; unfold Oper.wp; simp [execOp, resolve, invoke, builtin, Act.eval, hrun, Result.andThen]; refine hK _ _ ?_))
      go_roundw
      case rel => exact ⟨m - 1, p3, n3, c3, _, by go_num, rfl, by rw [List.length_append, List.length_singleton]; omega, hH3, HO3, HD3⟩
      case measure => simp [intOf]; omega
    · have hm0' : ¬ (0 : Int) < (m : Int) := by omega
      go_wp2_with (first
        | (go_at_call 44; refine (one_D HD.out 15 (by omega)).mono ?_; rintro e w2 ⟨r2, rfl, hD2, ho2⟩; have HD2 : Hid (Dr _ _ _ _ _ _ _) := hD2; have HO2 : Hid (OwnI _ _ _ _) := OwnI.onlyP HO.out ho2 hbH; have hH2 : w.heap.size ≤ w2.heap.size := (by rw [ho2.size]; exact hHr); clear hD2 ho2 HD HO; have hZ : Hid _ := heap_alloc_new w2 (.cells #[.int .i64 0, .int .i64 9, .int .i64 (-1)] 2); have HD4 : Hid (Dr b B a len cap w0 _) := HD2.out.alloc (.cells #[.int .i64 0, .int .i64 9, .int .i64 (-1)] 2); have HO4 : Hid (OwnI _ _ _ _) := OwnI.below HO2.out (all_alloc w2 (.cells #[.int .i64 0, .int .i64 9, .int .i64 (-1)] 2)); have hH4 : w.heap.size ≤ (w2.alloc (.cells #[.int .i64 0, .int .i64 9, .int .i64 (-1)] 2)).heap.size := Nat.le_trans hH2 (all_alloc w2 _).size)
        | (go_at_call 45; refine (n_D HD4.out 3 (by omega)).mono ?_; rintro e w5 ⟨r3, rfl, hr3, hD5, ho5⟩; have hr33 : r3 < 3 := (by omega); have hc5 : w5.cell? ⟨w2.heap.size, r3, none⟩ = some (.int .i64 (tab09.getD r3 0)) := (tab09_cell ((ho5.block _ (by omega)).trans hZ.out) r3 hr33); have hi3 : (r3 : Int) < 3 := (by omega); obtain ⟨p3, n3, c3, w6, hrun, hO6, hD6, hH6⟩ := hop_step hD5 hbH hwH (by rw [ho5.size]; exact hH4) (OwnI.onlyP HO4.out ho5 hbH) (by omega) (tab09.getD r3 0); have HO6 : Hid (OwnI _ _ _ _) := hO6; have HD6 : Hid (Dr _ _ _ _ _ _ _) := hD6; clear hO6 hD6 hD5 ho5 hr3; generalize tab09.getD r3 0 = x3 at hc5 hrun HO6)
        | (at_builtin; refine wpList_plain rfl fun K hK => ?_; unfold Oper.wp; simp [execOp, resolve, invoke, builtin, Act.eval, hrun, Result.andThen]; refine hK _ _ ?_))
      all_goals first
        | (go_ret; exact ⟨_, zs, rfl, HO2.out, by omega, HD2.out⟩)
        | (go_ret; exact ⟨_, _, rfl, HO6.out, by rw [List.length_append, List.length_singleton]; omega, HD6.out⟩)
end Go.Proofs.Ytineecongiplgaa
/- CHAPTER 9 over lists: paths (as tables: the numbers ahead, the numbers behind). -/
namespace Go.Proofs.Ytineecongiplgaa
open Go.RowKit
set_option linter.unusedVariables false
set_option linter.unusedSimpArgs false

def hopsB (l : List Int) : Bool := l.all addrB && decide (l.length ≤ 5)
def Tb.path (t : Tb) : Bool := hopsB (t.cs ++ t.rs)
theorem Tb.path_iff (t : Tb) : t.path = true ↔ (t.cs.all addrB = true ∧ t.rs.all addrB = true) ∧ t.cs.length + t.rs.length ≤ 5 := by
  unfold Tb.path hopsB
  rw [List.all_append, List.length_append]
  simp only [Bool.and_eq_true, decide_eq_true_eq]
theorem Tb.path_spec (t : Tb) : ((hopsB t.cs && hopsB t.rs) && decide (t.cs.length + t.rs.length ≤ 5)) = t.path := by
  rw [Bool.eq_iff_iff, Tb.path_iff]
  unfold hopsB
  simp only [Bool.and_eq_true, decide_eq_true_eq]
  constructor
  · rintro ⟨⟨⟨h1, h2⟩, h3, h4⟩, h5⟩; exact ⟨⟨h1, h3⟩, h5⟩
  · rintro ⟨⟨h1, h3⟩, h5⟩; exact ⟨⟨⟨h1, by omega⟩, h3, by omega⟩, h5⟩
/-- what is answered: the path, who it goes to, the code -/
structure Pout where
  t : Tb
  a : Int
  c : Int
def newP (l : List Int) : Pout := if 400 < l.length then ⟨zeroT, 0, 2⟩ else if l.length < 1 ∨ hopsB l = false then ⟨zeroT, 0, 1⟩ else ⟨⟨l, []⟩, 0, 0⟩
def stepP (t : Tb) (v : Int) : Pout := if t.path = false ∨ addrB v = false then ⟨zeroT, 0, 1⟩ else match t.cs with
  | [] => ⟨zeroT, 0, 6⟩
  | a :: l => ⟨⟨l, v :: t.rs⟩, a, 0⟩
def homeP (t : Tb) : Pout := if t.path = false then ⟨zeroT, 0, 1⟩ else ⟨⟨t.rs, []⟩, 0, 0⟩
theorem newP_len (l : List Int) : (newP l).t.cs.length ≤ 5 ∧ (newP l).t.rs.length ≤ 5 := by
  unfold newP hopsB
  split
  · simp [zeroT]
  · split
    · simp [zeroT]
    · rename_i h
      simp at h
      simp; omega
theorem stepP_len (t : Tb) (v : Int) : (stepP t v).t.cs.length ≤ 5 ∧ (stepP t v).t.rs.length ≤ 6 := by
  unfold stepP
  split
  · simp [zeroT]
  · rename_i h
    have hp : t.path = true := by cases hh : t.path <;> simp_all
    have := ((Tb.path_iff t).1 hp).2
    split
    · simp [zeroT]
    · rename_i a l e
      rw [e] at this
      simp at this ⊢
      omega
theorem homeP_len (t : Tb) : (homeP t).t.cs.length ≤ 5 ∧ (homeP t).t.rs.length ≤ 5 := by
  unfold homeP
  split
  · simp [zeroT]
  · rename_i h
    have hp : t.path = true := by cases hh : t.path <;> simp_all
    have := ((Tb.path_iff t).1 hp).2
    simp; omega
end Go.Proofs.Ytineecongiplgaa
