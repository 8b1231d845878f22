/- THE WALK of what others told all, right: the program's. -/
import Derived.Test.YtggdjiijcoklgaaHOutS
import Derived.Lib.SmallJoins
namespace Go.Proofs.Ytggdjiijcoklgaa
open Go.RowKit
set_option linter.unusedVariables false
set_option linter.unusedSimpArgs false

set_option maxRecDepth 100000 in
set_option maxHeartbeats 1600000 in
theorem globsRight_any (s : Stn) (v1 v2 v3 v4 : Value) (w : World) (hl : s.gs.length ≤ 1048576) (hlw : ∀ g ∈ s.gs, g.2.length ≤ 1048576) (hr : RowG w v3 s.gs) :
    Calls Try.prog 92 #[.agg #[.int .i64 s.ad, .int .i64 s.bo, .int .i64 s.st, .int .i64 s.s.g, .int .i64 s.s.o, .int .i64 s.s.b, .int .i64 s.s.h, .int .i64 s.t.g, .int .i64 s.t.o, .int .i64 s.t.b, .int .i64 s.t.h, .int .i64 s.qu, .int .i64 s.tr, .int .i64 s.he, .int .i64 s.po, v1, v2, v3, v4]] w fun e w' => e = .returned (.bool (globsB s.ad s.gs)) ∧ Below w.heap.size w w' := by
  obtain ⟨i0, hi, hz0, hz1, hz2⟩ := info_parts info64
  obtain ⟨B, hB⟩ : ∃ B, Hid (s.gs.all (fun g => wordsQ g.2) = B) := ⟨_, show _ = _ from rfl⟩
  unfold globsB
  rw [hB.out]
  obtain ⟨p, c, rfl, hr⟩ := hr
  have hA : Hid (Below w.heap.size w _) := all_alloc w (.cells #[.int .i64 s.ad, .int .i64 s.bo, .int .i64 s.st, .int .i64 s.s.g, .int .i64 s.s.o, .int .i64 s.s.b, .int .i64 s.s.h, .int .i64 s.t.g, .int .i64 s.t.o, .int .i64 s.t.b, .int .i64 s.t.h, .int .i64 s.qu, .int .i64 s.tr, .int .i64 s.he, .int .i64 s.po, v1, v2, .slice p s.gs.length c, v4] 33)
  have hX : Hid _ := heap_alloc_new w (.cells #[.int .i64 s.ad, .int .i64 s.bo, .int .i64 s.st, .int .i64 s.s.g, .int .i64 s.s.o, .int .i64 s.s.b, .int .i64 s.s.h, .int .i64 s.t.g, .int .i64 s.t.o, .int .i64 s.t.b, .int .i64 s.t.h, .int .i64 s.qu, .int .i64 s.tr, .int .i64 s.he, .int .i64 s.po, v1, v2, .slice p s.gs.length c, v4] 33)
  have HR0 : RowG (w.alloc (.cells #[.int .i64 s.ad, .int .i64 s.bo, .int .i64 s.st, .int .i64 s.s.g, .int .i64 s.s.o, .int .i64 s.s.b, .int .i64 s.s.h, .int .i64 s.t.g, .int .i64 s.t.o, .int .i64 s.t.b, .int .i64 s.t.h, .int .i64 s.qu, .int .i64 s.tr, .int .i64 s.he, .int .i64 s.po, v1, v2, .slice p s.gs.length c, v4] 33)) (.slice p s.gs.length c) s.gs := RowG.below ⟨p, c, rfl, hr⟩ (all_alloc _ _)
  have HR : Hid (∀ W, Below (w.alloc (.cells #[.int .i64 s.ad, .int .i64 s.bo, .int .i64 s.st, .int .i64 s.s.g, .int .i64 s.s.o, .int .i64 s.s.b, .int .i64 s.s.h, .int .i64 s.t.g, .int .i64 s.t.o, .int .i64 s.t.b, .int .i64 s.t.h, .int .i64 s.qu, .int .i64 s.tr, .int .i64 s.he, .int .i64 s.po, v1, v2, .slice p s.gs.length c, v4] 33)).heap.size (w.alloc (.cells #[.int .i64 s.ad, .int .i64 s.bo, .int .i64 s.st, .int .i64 s.s.g, .int .i64 s.s.o, .int .i64 s.s.b, .int .i64 s.s.h, .int .i64 s.t.g, .int .i64 s.t.o, .int .i64 s.t.b, .int .i64 s.t.h, .int .i64 s.qu, .int .i64 s.tr, .int .i64 s.he, .int .i64 s.po, v1, v2, .slice p s.gs.length c, v4] 33)) W → RowG W (.slice p s.gs.length c) s.gs) := fun W hW => HR0.below hW
  have HLW : Hid _ := hlw
  have HTE : Hid (∀ W v, OwnI W 0 v (s.gs.map Prod.fst) → Calls Try.prog 90 #[v, .int .i64 s.ad] W fun e w' => e = .returned (.bool (othersB s.ad (s.gs.map Prod.fst))) ∧ W = w') := fun W v h => othersRise_any v _ s.ad W (by rw [List.length_map]; omega) h.row
  clear hr HR0 hlw
  generalize othersB s.ad (s.gs.map Prod.fst) = O at HTE
  go_enter Try.func92, Try.ntmps92
  go_upto_region 2 with fail
  have hsA : (w.alloc (.cells #[.int .i64 s.ad, .int .i64 s.bo, .int .i64 s.st, .int .i64 s.s.g, .int .i64 s.s.o, .int .i64 s.s.b, .int .i64 s.s.h, .int .i64 s.t.g, .int .i64 s.t.o, .int .i64 s.t.b, .int .i64 s.t.h, .int .i64 s.qu, .int .i64 s.tr, .int .i64 s.he, .int .i64 s.po, v1, v2, .slice p s.gs.length c, v4] 33)).heap.size = w.heap.size + 1 := by simp
  generalize w.alloc (.cells #[.int .i64 s.ad, .int .i64 s.bo, .int .i64 s.st, .int .i64 s.s.g, .int .i64 s.s.o, .int .i64 s.s.b, .int .i64 s.s.h, .int .i64 s.t.g, .int .i64 s.t.o, .int .i64 s.t.b, .int .i64 s.t.h, .int .i64 s.qu, .int .i64 s.tr, .int .i64 s.he, .int .i64 s.po, v1, v2, .slice p s.gs.length c, v4] 33) = A at hA hX HR hsA ⊢
  have x0 := cellW hX.out 0 _ rfl
  have x11 := cellW hX.out 17 _ rfl A (Below.refl _ _)
  go_wp2
  go_loopw [3, 9] (fun v i wr => ∃ k : Nat, k ≤ s.gs.length ∧ i = .int .i64 k ∧ Hid (OwnI wr A.heap.size v ((s.gs.map Prod.fst).take k)) ∧ Hid ((s.gs.take k).all (fun g => wordsQ g.2) = true) ∧ Below A.heap.size A wr) (fun _ i _ => s.gs.length - (intOf i).toNat)
  case atStart => exact ⟨0, Nat.zero_le _, rfl, OwnI.nil _ _, rfl, Below.refl _ _⟩
  case round =>
    obtain ⟨k, hk, rfl, HW, HA, hbel⟩ := hrel
    obtain ⟨pv, cv, hv⟩ := HW.out.shape
    have hlk : ((s.gs.map Prod.fst).take k).length = k := by rw [List.length_take, List.length_map]; omega
    rw [hlk] at hv
    subst hv
    by_cases hlt : k < s.gs.length
    · obtain ⟨p', c', e', hrow⟩ := HR.out wr hbel
      cases e'
      obtain ⟨g, u, rfl, l1, q1, q2, hu⟩ := hrow k hlt
      clear hrow
      have HN : Hid (wordsQ s.gs[k].2 = false → B = false) := fun h => by rw [← hB.out]; exact all_take_no hlt h
      have HY : Hid (wordsQ s.gs[k].2 = true → (s.gs.take (k + 1)).all (fun g => wordsQ g.2) = true) := fun h => all_take_more hlt HA.out h
      have HTK : Hid ((s.gs.map Prod.fst).take (k + 1) = (s.gs.map Prod.fst).take k ++ [s.gs[k].1]) := by
        show _ = _
        rw [List.take_succ_eq_append_getElem (by rw [List.length_map]; exact hlt), List.getElem_map]
      have hlw := HLW.out s.gs[k] (List.getElem_mem hlt)
      obtain ⟨pu, cu, rfl, hu⟩ := hu
      have HU : Hid (∀ W, Below wr.heap.size wr W → Calls Try.prog 91 #[.slice pu s.gs[k].2.length cu] W fun e w' => e = .returned (.bool (wordsQ s.gs[k].2)) ∧ Below W.heap.size W w') := fun W hW => wordsRight_any _ s.gs[k].2 W (by omega) (RowI.below ⟨pu, cu, rfl, hu⟩ hW)
      clear hu
      generalize s.gs[k].1 = z at q1 HTK
      generalize s.gs[k].2 = ws at q2 HN HY HU hlw
      generalize ws.length = nw at q2 HU hlw
      have hbox : Below wr.heap.size wr (wr.alloc (.cells #[.int .i64 z, .slice pu nw cu] 118)) := all_alloc _ _
      have hY : Hid _ := heap_alloc_new wr (.cells #[.int .i64 z, .slice pu nw cu] 118)
      cases hq : wordsQ ws with
      | true =>
        rw [hq] at HU
        go_upto_region 7 with (go_at_call 91; refine (HU.out _ hbox).mono ?_; rintro e w2 ⟨rfl, hb2⟩; have y0 := cellW hY.out 0 _ rfl w2 hb2)
        have HOW : Hid (OwnI w2 A.heap.size (.slice pv k cv) ((s.gs.map Prod.fst).take k)) := (HW.out.below hbox).below hb2
        have hbel2 : Below A.heap.size A w2 := keepB (keepB hbel (Nat.le_refl _) hbox) (Nat.le_refl _) hb2
        have hsz := hbel2.size
        go_wp2_with (at_builtin; refine wpList_append_own _ rfl (.tmp 17) (.tmp 20) 24 rfl A.heap.size 2 i0 (.int .i64 0) 1 8 Try.underlying24 hi hz0 hz1 hz2 rfl (by decide) _ _ _ rfl (World.ownsRow.alloc HOW.out _) ⟨w2.heap.size, 0, none⟩ 1 1 [_] rfl rfl (cells_newG _ _ _ _ rfl) (by intro x hx; simp at hx; subst hx; rfl) (by unfold maxLen; omega) (by omega) (by simp; omega) ?_; intro v' w3 hown' hgrow _)
        go_roundw
        case rel =>
          have hbl : Below A.heap.size A w3 := (hbel2.alloc (by omega) _).grown hgrow (by simp; omega) (fun k e => (World.ownsRow.lt HOW.out k e).1)
          refine ⟨k + 1, by omega, by go_num, (show OwnI _ _ _ _ from ?_), HY.out hq, hbl⟩
          rw [HTK.out]
          exact OwnI.of hown' (by rw [List.length_append]; rfl) (by rw [List.map_append]; rfl)
        case measure => simp [intOf]; omega
      | false =>
        rw [hq] at HU
        go_wp2_with (go_at_call 91; refine (HU.out _ hbox).mono ?_; rintro e w2 ⟨rfl, hb2⟩)
        go_ret
        exact ⟨ret_bool (by rw [HN.out hq]; rfl), keepB (keepB (keepB hA.out (Nat.le_refl _) hbel) (Nat.le_refl _) hbox) (Nat.le_refl _) hb2⟩
    · obtain rfl : k = s.gs.length := by omega
      have e1 : s.gs.take s.gs.length = s.gs := List.take_of_length_le (by omega)
      have e2 : B = true := by rw [← hB.out, ← HA.out, e1]
      have y0 := x0 wr hbel
      have HT : Hid (OwnI wr 0 (.slice pv s.gs.length cv) (s.gs.map Prod.fst)) := by
        show OwnI _ _ _ _
        have := HW.out
        rw [List.take_of_length_le (by rw [List.length_map]; omega)] at this
        exact Joins.ownsRow_le this (Nat.zero_le _)
      subst e2
      clear e1 hlk
      go_wp2_with (go_at_call 90; refine (HTE.out _ _ HT.out).mono ?_; rintro e w2 ⟨rfl, rfl⟩)
      go_ret
      exact ⟨ret_bool (by simp), keepB hA.out (Nat.le_refl _) hbel⟩
end Go.Proofs.Ytggdjiijcoklgaa
