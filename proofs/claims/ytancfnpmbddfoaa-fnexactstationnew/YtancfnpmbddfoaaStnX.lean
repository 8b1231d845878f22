/- THE LAW'S OWN COPY of what others told all. -/
import Derived.Test.YtancfnpmbddfoaaStnV
namespace Go.Proofs.Ytancfnpmbddfoaa
open Go.RowKit
set_option linter.unusedVariables false
set_option linter.unusedSimpArgs false

theorem owns_below {w w' : World} {base : Nat} {e : TypeId} {k : Nat} {v : Value} {n : Nat} {xs : List Value} (h : w.ownsRow base e k v n xs) (hb : Below w.heap.size w w') : w'.ownsRow base e k v n xs := by
  refine ⟨h.1, h.2.imp id ?_⟩
  rintro ⟨g, cap, cur, e1, e2, e3, e4⟩
  exact ⟨g, cap, cur, e1, e2, (hb.block g (Array.getElem?_eq_some_iff.1 e3).1).trans e3, e4⟩
theorem owns_far {w : World} {base : Nat} {e : TypeId} {k : Nat} {v : Value} {n : Nat} {xs : List Value} (h : w.ownsRow base e k v n xs) {a : Addr} (ha : a.block < base) (x : Value) : (w.setCell a x).ownsRow base e k v n xs := by
  refine ⟨h.1, h.2.imp id ?_⟩
  rintro ⟨g, cap, cur, e1, e2, e3, e4⟩
  exact ⟨g, cap, cur, e1, e2, (Below.heap_setCell _ _ _ _ (by omega)).trans e3, e4⟩
theorem owns_le {w : World} {base B : Nat} {e : TypeId} {k : Nat} {v : Value} {n : Nat} {xs : List Value} (h : w.ownsRow base e k v n xs) (hB : B ≤ base) : w.ownsRow B e k v n xs := by
  refine ⟨h.1, h.2.imp id ?_⟩
  rintro ⟨g, cap, cur, e1, e2, e3⟩
  exact ⟨g, cap, cur, e1, Nat.le_trans hB e2, e3⟩
theorem OwnG.below {w w' : World} {base : Nat} {v : Value} {gs : List (Int × List Int)} (h : OwnG w base v gs) (hb : Below w.heap.size w w') : OwnG w' base v gs := by
  obtain ⟨ps, hl, hr, hk, hd, hn⟩ := h
  exact ⟨ps, hl, owns_below hr hb, fun k h1 h2 => ⟨(hk k h1 h2).1, (hk k h1 h2).2.below hb⟩, hd, hn⟩
theorem OwnG.farT {w : World} {base : Nat} {v : Value} {gs : List (Int × List Int)} (h : OwnG w base v gs) {a : Addr} (ha : a.block < base) (x : Value) : OwnG (w.setCell a x) base v gs := by
  obtain ⟨ps, hl, hr, hk, hd, hn⟩ := h
  exact ⟨ps, hl, owns_far hr ha x, fun k h1 h2 => ⟨(hk k h1 h2).1, (hk k h1 h2).2.farT ha x⟩, hd, hn⟩
theorem OwnG.leT {w : World} {base B : Nat} {v : Value} {gs : List (Int × List Int)} (h : OwnG w base v gs) (hB : B ≤ base) : OwnG w B v gs := by
  obtain ⟨ps, hl, hr, hk, hd, hn⟩ := h
  exact ⟨ps, hl, owns_le hr hB, fun k h1 h2 => ⟨(hk k h1 h2).1, (hk k h1 h2).2.leT hB⟩, hd, hn⟩
theorem OwnT4.farT {w : World} {base : Nat} {v : Value} {ss : List ByteArray} (h : OwnT4 w base v ss) {a : Addr} (ha : a.block < base) (x : Value) : OwnT4 (w.setCell a x) base v ss := owns_far h ha x
theorem OwnT4.leT {w : World} {base B : Nat} {v : Value} {ss : List ByteArray} (h : OwnT4 w base v ss) (hB : B ≤ base) : OwnT4 w B v ss := owns_le h hB
/-- the first of them copied -/
def PartG (w : World) (r n : Nat) (gs : List (Int × List Int)) (j : Nat) : Prop :=
  ∃ ps : List (Int × Value), ps.length = n ∧ w.ownsRow r 79 2 (.slice (some ⟨r, 0, none⟩) n n) n (flatP ps) ∧
    (∀ k (hk : k < j) (h : k < gs.length) (h' : k < ps.length), ps[k].1 = gs[k].1 ∧ OwnI w (r + 1) ps[k].2 gs[k].2) ∧
    (∀ i k a (hi : i < j) (hk : k < j) (h1 : i < ps.length) (h2 : k < ps.length), ps[i].2.ownBlock = some a → ps[k].2.ownBlock = some a → i = k)
theorem PartG.step {w w2 : World} {r n j : Nat} {gs : List (Int × List Int)} (h : PartG w r n gs j) (hn : n = gs.length) (hj : j < gs.length) (hb : Below w.heap.size w w2) (v : Value) (ho : OwnI w2 w.heap.size v gs[j].2) :
    PartG ((w2.setCell ⟨r, j * 2, none⟩ (.int .i64 gs[j].1)).setCell ⟨r, j * 2 + 1, none⟩ v) r n gs (j + 1) := by
  obtain ⟨ps, hl, hr, hk, hd⟩ := h
  have hrw : r < w.heap.size := (hr.lt r rfl).2
  refine ⟨ps.set j (gs[j].1, v), by rw [List.length_set]; exact hl, ?_, ?_, ?_⟩
  · have h1 := (World.ownsRow.stored (owns_below hr hb) (j * 2) (.int .i64 gs[j].1)).1
    have h2 := (World.ownsRow.stored h1 (j * 2 + 1) v).1
    rw [flatP_set ps j gs[j].1 v (by omega)] at h2
    exact h2
  · intro k hk1 h1 h2
    by_cases hkj : k = j
    · subst hkj
      rw [List.getElem_set_self]
      exact ⟨rfl, OwnI.farT (OwnI.farT (OwnI.leT ho (by omega)) (by simp only; omega) _) (by simp only; omega) _⟩
    · rw [List.getElem_set_ne (fun e => hkj e.symm)]
      obtain ⟨a1, a2⟩ := hk k (by omega) h1 (by omega)
      exact ⟨a1, OwnI.farT (OwnI.farT (a2.below hb) (by simp only; omega) _) (by simp only; omega) _⟩
  · intro i k a hi hk1 h1 h2 e1 e2
    have key : ∀ m (hm : m < j) (h3 : m < ps.length), ps[m].2.ownBlock = some a → a < w.heap.size := fun m hm h3 e => (OwnI.lt (hk m hm (by omega) h3).2 a e).2
    have h1' : i < ps.length := by simpa using h1
    have h2' : k < ps.length := by simpa using h2
    by_cases hij : i = j
    · by_cases hkj : k = j
      · omega
      · subst hij
        rw [List.getElem_set_self] at e1
        rw [List.getElem_set_ne (fun e => hkj e.symm)] at e2
        have := key k (by omega) h2' e2
        have := (OwnI.lt ho a e1).1
        omega
    · by_cases hkj : k = j
      · subst hkj
        rw [List.getElem_set_self] at e2
        rw [List.getElem_set_ne (fun e => hij e.symm)] at e1
        have := key i (by omega) h1' e1
        have := (OwnI.lt ho a e2).1
        omega
      · rw [List.getElem_set_ne (fun e => hij e.symm)] at e1
        rw [List.getElem_set_ne (fun e => hkj e.symm)] at e2
        exact hd i k a (by omega) (by omega) h1' h2' e1 e2
theorem PartG.all {w : World} {r n : Nat} {gs : List (Int × List Int)} (h : PartG w r n gs n) (hn : n = gs.length) : OwnG w r (.slice (some ⟨r, 0, none⟩) n n) gs := by
  subst hn
  obtain ⟨ps, hl, hr, hk, hd⟩ := h
  refine ⟨ps, hl, hr, fun k h1 h2 => ⟨(hk k h1 h1 h2).1, (hk k h1 h1 h2).2.leT (by omega)⟩, fun i j a hi hj e1 e2 => hd i j a (by omega) (by omega) hi hj e1 e2, fun i a hi e1 e2 => ?_⟩
  have := (OwnI.lt (hk i (by omega) (by omega) hi).2 a e1).1
  have e3 : r = a := by simpa [Value.ownBlock] using e2
  omega
theorem PartG.cells {w : World} {r n j : Nat} {gs : List (Int × List Int)} (h : PartG w r n gs j) (k : Nat) (hk : k < n) : (∃ x, w.cell? ⟨r, k * 2, none⟩ = some (.int .i64 x)) ∧ (∃ u, w.cell? ⟨r, k * 2 + 1, none⟩ = some u) ∧ w.frozen? ⟨r, k * 2, none⟩ = false ∧ w.frozen? ⟨r, k * 2 + 1, none⟩ = false ∧ r < w.heap.size := by
  obtain ⟨ps, hl, hr, _⟩ := h
  refine ⟨⟨ps[k].1, ?_⟩, ⟨ps[k].2, ?_⟩, hr.frozenAt _, hr.frozenAt _, (hr.lt r rfl).2⟩
  · rw [hr.cellAt (k * 2) (by omega), flatP_even ps k (by omega)]
  · rw [hr.cellAt (k * 2 + 1) (by omega), flatP_odd ps k (by omega)]
theorem PartG.below {w w' : World} {r n j : Nat} {gs : List (Int × List Int)} (h : PartG w r n gs j) (hb : Below w.heap.size w w') : PartG w' r n gs j := by
  obtain ⟨ps, hl, hr, hk, hd⟩ := h
  exact ⟨ps, hl, owns_below hr hb, fun k h1 h2 h3 => ⟨(hk k h1 h2 h3).1, (hk k h1 h2 h3).2.below hb⟩, hd⟩
set_option maxRecDepth 100000 in
set_option maxHeartbeats 1600000 in
theorem toGlobS_any (a : Option Addr) (c : Nat) (gs : List (Int × List Int)) (w : World) (hl : gs.length ≤ 1048576) (hlw : ∀ g ∈ gs, g.2.length ≤ 1048576) (hr : InG w a gs) :
    Calls Try.prog 45 #[.slice a gs.length c] w fun e w' => ∃ v, e = .returned v ∧ OwnG w' w.heap.size v gs ∧ Below w.heap.size w w' := by
  obtain ⟨i0, hi, hz0, hz1, hz2⟩ := info_parts infoG4
  have HR : Hid (∀ W, Below w.heap.size w W → ∀ k (h : k < gs.length), ∃ g o u c, a = some ⟨g, o, none⟩ ∧ g < W.heap.size ∧ W.cell? ⟨g, o + k * 2, none⟩ = some (.int .i64 gs[k].1) ∧ W.cell? ⟨g, o + k * 2 + 1, none⟩ = some (.slice u gs[k].2.length c) ∧ InI W u gs[k].2) := fun W hW => (hr.below hW).2
  have HLW : Hid _ := hlw
  clear hr hlw
  go_enter Try.func45, Try.ntmps45
  go_wp2_with (at_make; refine wpList_make_full _ rfl (.tmp 6) (.tmp 6) 32 rfl w.heap.size 79 i0 (.agg #[.int .i64 0, .slice none 0 0]) 2 Try.underlying32 hi hz0 hz1 .i64 .i64 _ _ gs.length rfl rfl (by omega) (by omega) (by rw [hz2]; omega) (by unfold maxLen; omega) (Nat.le_refl _) ?_; intro w1 hown1 hgrow1; have hB1 := (Below.refl w.heap.size w).grown hgrow1 (Nat.le_refl _) (fun k e => by cases e); rw [← flatP_zero] at hown1)
  have HO1 : Hid (PartG w1 w.heap.size gs.length gs 0) := by
    show PartG _ _ _ _ _
    exact ⟨List.replicate gs.length (0, .slice none 0 0), by simp, hown1, fun k hk => absurd hk (by omega), fun i k a hi => absurd hi (by omega)⟩
  clear hown1 hgrow1
  go_loopw [4] (fun i wr => ∃ j : Nat, j ≤ gs.length ∧ i = .int .i64 j ∧ Hid (PartG wr w.heap.size gs.length gs j) ∧ Below w.heap.size w wr) (fun i _ => gs.length - (intOf i).toNat)
  case atStart => exact ⟨0, Nat.zero_le _, rfl, HO1.out, hB1⟩
  case round =>
    obtain ⟨j, hj, rfl, HW, hbel⟩ := hrel
    by_cases hlt : j < gs.length
    · obtain ⟨ga, oa, pu, cu, rfl, la, q1, q2, hu⟩ := HR.out wr hbel j hlt
      have hlw := HLW.out gs[j] (List.getElem_mem hlt)
      have HC : Hid (Calls Try.prog 72 #[.agg #[.int .i64 gs[j].1, .slice pu gs[j].2.length cu]] wr fun x w' => ∃ v, x = .returned (.agg #[.int .i64 gs[j].1, v]) ∧ OwnI w' wr.heap.size v gs[j].2 ∧ Below wr.heap.size wr w') := toGlob_any gs[j].1 pu cu gs[j].2 wr hlw hu
      have HST : Hid (∀ w2 v, Below wr.heap.size wr w2 → OwnI w2 wr.heap.size v gs[j].2 → PartG ((w2.setCell ⟨w.heap.size, j * 2, none⟩ (.int .i64 gs[j].1)).setCell ⟨w.heap.size, j * 2 + 1, none⟩ v) w.heap.size gs.length gs (j + 1)) := fun w2 v hb ho => HW.out.step rfl hlt hb v ho
      have HCL : Hid (∀ w2, Below wr.heap.size wr w2 → (∃ x, w2.cell? ⟨w.heap.size, j * 2, none⟩ = some (.int .i64 x)) ∧ (∃ u, w2.cell? ⟨w.heap.size, j * 2 + 1, none⟩ = some u) ∧ w2.frozen? ⟨w.heap.size, j * 2, none⟩ = false ∧ w2.frozen? ⟨w.heap.size, j * 2 + 1, none⟩ = false ∧ w.heap.size < w2.heap.size) := fun w2 hb => (HW.out.below hb).cells j hlt
      clear hu hlw
      generalize gs[j].1 = z at q1 HC HST
      generalize gs[j].2 = ws at q2 HC HST
      generalize ws.length = nw at q2 HC
      go_wp2_with (go_at_call 72; refine HC.out.mono ?_; rintro e w2 ⟨v, rfl, own2, hb2⟩; obtain ⟨pv, cv, rfl⟩ := own2.shape; obtain ⟨⟨x, k1⟩, ⟨u, k2⟩, f1, f2, hsz⟩ := HCL.out w2 hb2; have HS2 : Hid _ := HST.out w2 _ hb2 own2)
      go_roundw
      case rel => exact ⟨j + 1, by omega, by go_num, (show PartG _ _ _ _ _ from HS2.out), ((keepB hbel (Nat.le_refl _) hb2).setCell (Nat.le_refl _) _).setCell (Nat.le_refl _) _⟩
      case measure => simp [intOf]; omega
    · obtain rfl : j = gs.length := by omega
      go_wp2
      go_ret
      exact ⟨_, rfl, HW.out.all rfl, hbel⟩
end Go.Proofs.Ytancfnpmbddfoaa
