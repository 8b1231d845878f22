/- THE WALKS of a station's parts: the program's. -/
import Derived.Test.YtggdjiijcoklgaaQTail
import Derived.Test.YtggdjiijcoklgaaQStM
import Derived.Test.YtggdjiijcoklgaaQSay
import Derived.Test.YtggdjiijcoklgaaQSayR
import Derived.Test.YtggdjiijcoklgaaQBitsR
import Derived.Lib.SmallJoins
namespace Go.Proofs.Ytggdjiijcoklgaa
open Go.RowKit
set_option linter.unusedVariables false
set_option linter.unusedSimpArgs false

set_option maxRecDepth 100000 in
set_option maxHeartbeats 1600000 in
theorem othersRise_any (v : Value) (zs : List Int) (own : Int) (w : World) (hl : zs.length ≤ 10000000) (hr : RowI w v zs) :
    Calls Try.prog 90 #[v, .int .i64 own] w fun e w' => e = .returned (.bool (othersB own zs)) ∧ w = w' := by
  obtain ⟨p, c, rfl, hr⟩ := hr
  have HR : Hid _ := hr
  clear hr
  obtain ⟨B, hB⟩ : ∃ B, Hid (othersB own zs = B) := ⟨_, show _ = _ from rfl⟩
  rw [hB.out]
  go_enter Try.func90, Try.ntmps90
  go_wp2
  go_loop [5, 10] (fun l i => ∃ k : Nat, k ≤ zs.length ∧ i = .int .i64 k ∧ l = .int .i64 ((0 :: zs).getD k 0) ∧ Hid ((List.range k).all (othersF own zs) = true)) (fun _ i => zs.length - (intOf i).toNat)
  case atStart => exact ⟨0, Nat.zero_le _, rfl, rfl, rfl⟩
  case round =>
    obtain ⟨k, hk, rfl, rfl, HA⟩ := hrel
    by_cases hlt : k < zs.length
    · obtain ⟨g, rfl, l1, q1⟩ := HR.out k hlt
      have HN : Hid (othersF own zs k = false → B = false) := fun h => by rw [← hB.out]; exact all_range_no hlt h
      have HY : Hid (othersF own zs k = true → (List.range (k + 1)).all (othersF own zs) = true) := fun h => all_range_more HA.out h
      have HL : Hid _ := last_succ zs k hlt
      rw [othersF_at own zs k hlt] at HN HY
      generalize (0 :: zs).getD k 0 = L at HN HY ⊢
      generalize zs[k] = z at q1 HN HY HL
      by_cases h1 : L < z
      · by_cases h2 : z = own
        · have e2 : (z == own) = true := by simpa using h2
          go_wp2
          go_ret
          exact ⟨ret_bool (HN.out (by simp [riseB, h2])).symm, rfl⟩
        · have e2 : (z == own) = false := by simpa using h2
          cases h3 : addrB z with
          | true =>
            go_wp2_with (go_at_call 87; refine (isAddress_any z _).mono ?_; rintro e w1 ⟨rfl, rfl⟩; rw [h3])
            go_round
            case rel => exact ⟨k + 1, by omega, by go_num, by rw [HL.out], HY.out (by simp [riseB, h1, h2, h3])⟩
            case measure => simp [intOf]; omega
          | false =>
            go_wp2_with (go_at_call 87; refine (isAddress_any z _).mono ?_; rintro e w1 ⟨rfl, rfl⟩; rw [h3])
            go_ret
            exact ⟨ret_bool (HN.out (by simp [riseB, h3])).symm, rfl⟩
      · go_wp2
        go_ret
        exact ⟨ret_bool (HN.out (by simp [riseB, show ¬ L < z by omega])).symm, rfl⟩
    · have e1 : k = zs.length := by omega
      have e2 : B = true := by rw [← hB.out, ← HA.out, e1]; rfl
      go_wp2
      go_ret
      exact ⟨by first | exact ret_bool e2.symm | rfl, rfl⟩
set_option maxRecDepth 100000 in
set_option maxHeartbeats 1600000 in
theorem outRight_any (v : Value) (ss : List ByteArray) (w : World) (hl : ss.length ≤ 10000000) (hz : ∀ s ∈ ss, s.size ≤ 9223372036854775807) (hr : RowS w v ss) :
    Calls Try.prog 93 #[v] w fun e w' => e = .returned (.bool (outB ss)) ∧ w = w' := by
  obtain ⟨p, c, rfl, hr⟩ := hr
  have HR : Hid _ := hr
  have HZ : Hid _ := hz
  clear hr hz
  obtain ⟨B, hB⟩ : ∃ B, Hid (ss.all bodyQ = B) := ⟨_, show _ = _ from rfl⟩
  unfold outB
  rw [hB.out]
  go_enter Try.func93, Try.ntmps93
  go_wp2
  go_loop [7] (fun i => ∃ k : Nat, k ≤ ss.length ∧ i = .int .i64 k ∧ Hid ((ss.take k).all bodyQ = true)) (fun i => ss.length - (intOf i).toNat)
  case atStart => exact ⟨0, Nat.zero_le _, rfl, rfl⟩
  case round =>
    obtain ⟨k, hk, rfl, HA⟩ := hrel
    by_cases hlt : k < ss.length
    · obtain ⟨g, rfl, l1, q1⟩ := HR.out k hlt
      have HN : Hid (bodyQ ss[k] = false → B = false) := fun h => by rw [← hB.out]; exact all_take_no hlt h
      have HY : Hid (bodyQ ss[k] = true → (ss.take (k + 1)).all bodyQ = true) := fun h => all_take_more hlt HA.out h
      have hbz := HZ.out ss[k] (List.getElem_mem hlt)
      generalize ss[k] = z at q1 HN HY hbz
      have HC : Hid (∀ W : World, Calls Try.prog 43 #[.string z] W fun e w' => e = .returned (.bool (bodyQ z)) ∧ W = w') := fun W => bodyRight_any z W hbz
      cases h3 : bodyQ z with
      | true =>
        rw [h3] at HC
        go_wp2_with (go_at_call 43; refine (HC.out _).mono ?_; rintro e w1 ⟨rfl, rfl⟩)
        go_round
        case rel => exact ⟨k + 1, by omega, by go_num, HY.out h3⟩
        case measure => simp [intOf]; omega
      | false =>
        rw [h3] at HC
        go_wp2_with (go_at_call 43; refine (HC.out _).mono ?_; rintro e w1 ⟨rfl, rfl⟩)
        go_ret
        exact ⟨ret_bool (by rw [HN.out h3]; rfl), rfl⟩
    · have e1 : ss.take k = ss := List.take_of_length_le (by omega)
      have e2 : B = true := by rw [← hB.out, ← HA.out, e1]
      subst e2
      by_cases h4 : ss.length ≤ 3
      all_goals
        go_wp2
        go_ret
        exact ⟨ret_bool (by simp <;> omega), rfl⟩
end Go.Proofs.Ytggdjiijcoklgaa
/- THE WALK of what others told all, right: the program's. -/
namespace Go.Proofs.Ytggdjiijcoklgaa
open Go.RowKit
set_option linter.unusedVariables false
set_option linter.unusedSimpArgs false

set_option maxRecDepth 100000 in
set_option maxHeartbeats 1600000 in
theorem globsRight_any (s : Stn) (v1 v2 v3 v4 : Value) (w : World) (hl : s.gs.length ≤ 1048576) (hlw : ∀ g ∈ s.gs, g.2.length ≤ 1048576) (hr : RowG w v3 s.gs) :
    Calls Try.prog 92 #[.agg #[.int .i64 s.ad, .int .i64 s.bo, .int .i64 s.st, .int .i64 s.s.g, .int .i64 s.s.o, .int .i64 s.s.b, .int .i64 s.s.h, .int .i64 s.t.g, .int .i64 s.t.o, .int .i64 s.t.b, .int .i64 s.t.h, .int .i64 s.qu, .int .i64 s.tr, .int .i64 s.he, .int .i64 s.po, v1, v2, v3, v4]] w fun e w' => e = .returned (.bool (globsB s.ad s.gs)) ∧ Below w.heap.size w w' := by
  obtain ⟨i0, hi, hz0, hz1, hz2⟩ := info_parts info64
  obtain ⟨B, hB⟩ : ∃ B, Hid (s.gs.all (fun g => wordsQ g.2) = B) := ⟨_, show _ = _ from rfl⟩
  unfold globsB
  rw [hB.out]
  obtain ⟨p, c, rfl, hr⟩ := hr
  have hA : Hid (Below w.heap.size w _) := all_alloc w (.cells #[.int .i64 s.ad, .int .i64 s.bo, .int .i64 s.st, .int .i64 s.s.g, .int .i64 s.s.o, .int .i64 s.s.b, .int .i64 s.s.h, .int .i64 s.t.g, .int .i64 s.t.o, .int .i64 s.t.b, .int .i64 s.t.h, .int .i64 s.qu, .int .i64 s.tr, .int .i64 s.he, .int .i64 s.po, v1, v2, .slice p s.gs.length c, v4] 33)
  have hX : Hid _ := heap_alloc_new w (.cells #[.int .i64 s.ad, .int .i64 s.bo, .int .i64 s.st, .int .i64 s.s.g, .int .i64 s.s.o, .int .i64 s.s.b, .int .i64 s.s.h, .int .i64 s.t.g, .int .i64 s.t.o, .int .i64 s.t.b, .int .i64 s.t.h, .int .i64 s.qu, .int .i64 s.tr, .int .i64 s.he, .int .i64 s.po, v1, v2, .slice p s.gs.length c, v4] 33)
  have HR0 : RowG (w.alloc (.cells #[.int .i64 s.ad, .int .i64 s.bo, .int .i64 s.st, .int .i64 s.s.g, .int .i64 s.s.o, .int .i64 s.s.b, .int .i64 s.s.h, .int .i64 s.t.g, .int .i64 s.t.o, .int .i64 s.t.b, .int .i64 s.t.h, .int .i64 s.qu, .int .i64 s.tr, .int .i64 s.he, .int .i64 s.po, v1, v2, .slice p s.gs.length c, v4] 33)) (.slice p s.gs.length c) s.gs := RowG.below ⟨p, c, rfl, hr⟩ (all_alloc _ _)
  have HR : Hid (∀ W, Below (w.alloc (.cells #[.int .i64 s.ad, .int .i64 s.bo, .int .i64 s.st, .int .i64 s.s.g, .int .i64 s.s.o, .int .i64 s.s.b, .int .i64 s.s.h, .int .i64 s.t.g, .int .i64 s.t.o, .int .i64 s.t.b, .int .i64 s.t.h, .int .i64 s.qu, .int .i64 s.tr, .int .i64 s.he, .int .i64 s.po, v1, v2, .slice p s.gs.length c, v4] 33)).heap.size (w.alloc (.cells #[.int .i64 s.ad, .int .i64 s.bo, .int .i64 s.st, .int .i64 s.s.g, .int .i64 s.s.o, .int .i64 s.s.b, .int .i64 s.s.h, .int .i64 s.t.g, .int .i64 s.t.o, .int .i64 s.t.b, .int .i64 s.t.h, .int .i64 s.qu, .int .i64 s.tr, .int .i64 s.he, .int .i64 s.po, v1, v2, .slice p s.gs.length c, v4] 33)) W → RowG W (.slice p s.gs.length c) s.gs) := fun W hW => HR0.below hW
  have HLW : Hid _ := hlw
  have HTE : Hid (∀ W v, OwnI W 0 v (s.gs.map Prod.fst) → Calls Try.prog 90 #[v, .int .i64 s.ad] W fun e w' => e = .returned (.bool (othersB s.ad (s.gs.map Prod.fst))) ∧ W = w') := fun W v h => othersRise_any v _ s.ad W (by rw [List.length_map]; omega) h.row
  clear hr HR0 hlw
  generalize othersB s.ad (s.gs.map Prod.fst) = O at HTE
  go_enter Try.func92, Try.ntmps92
  go_upto_region 2 with fail
  have hsA : (w.alloc (.cells #[.int .i64 s.ad, .int .i64 s.bo, .int .i64 s.st, .int .i64 s.s.g, .int .i64 s.s.o, .int .i64 s.s.b, .int .i64 s.s.h, .int .i64 s.t.g, .int .i64 s.t.o, .int .i64 s.t.b, .int .i64 s.t.h, .int .i64 s.qu, .int .i64 s.tr, .int .i64 s.he, .int .i64 s.po, v1, v2, .slice p s.gs.length c, v4] 33)).heap.size = w.heap.size + 1 := by simp
  generalize w.alloc (.cells #[.int .i64 s.ad, .int .i64 s.bo, .int .i64 s.st, .int .i64 s.s.g, .int .i64 s.s.o, .int .i64 s.s.b, .int .i64 s.s.h, .int .i64 s.t.g, .int .i64 s.t.o, .int .i64 s.t.b, .int .i64 s.t.h, .int .i64 s.qu, .int .i64 s.tr, .int .i64 s.he, .int .i64 s.po, v1, v2, .slice p s.gs.length c, v4] 33) = A at hA hX HR hsA ⊢
  have x0 := cellW hX.out 0 _ rfl
  have x11 := cellW hX.out 17 _ rfl A (Below.refl _ _)
  go_wp2
  go_loopw [3, 9] (fun v i wr => ∃ k : Nat, k ≤ s.gs.length ∧ i = .int .i64 k ∧ Hid (OwnI wr A.heap.size v ((s.gs.map Prod.fst).take k)) ∧ Hid ((s.gs.take k).all (fun g => wordsQ g.2) = true) ∧ Below A.heap.size A wr) (fun _ i _ => s.gs.length - (intOf i).toNat)
  case atStart => exact ⟨0, Nat.zero_le _, rfl, OwnI.nil _ _, rfl, Below.refl _ _⟩
  case round =>
    obtain ⟨k, hk, rfl, HW, HA, hbel⟩ := hrel
    obtain ⟨pv, cv, hv⟩ := HW.out.shape
    have hlk : ((s.gs.map Prod.fst).take k).length = k := by rw [List.length_take, List.length_map]; omega
    rw [hlk] at hv
    subst hv
    by_cases hlt : k < s.gs.length
    · obtain ⟨p', c', e', hrow⟩ := HR.out wr hbel
      cases e'
      obtain ⟨g, u, rfl, l1, q1, q2, hu⟩ := hrow k hlt
      clear hrow
      have HN : Hid (wordsQ s.gs[k].2 = false → B = false) := fun h => by rw [← hB.out]; exact all_take_no hlt h
      have HY : Hid (wordsQ s.gs[k].2 = true → (s.gs.take (k + 1)).all (fun g => wordsQ g.2) = true) := fun h => all_take_more hlt HA.out h
      have HTK : Hid ((s.gs.map Prod.fst).take (k + 1) = (s.gs.map Prod.fst).take k ++ [s.gs[k].1]) := by
        show _ = _
        rw [List.take_succ_eq_append_getElem (by rw [List.length_map]; exact hlt), List.getElem_map]
      have hlw := HLW.out s.gs[k] (List.getElem_mem hlt)
      obtain ⟨pu, cu, rfl, hu⟩ := hu
      have HU : Hid (∀ W, Below wr.heap.size wr W → Calls Try.prog 91 #[.slice pu s.gs[k].2.length cu] W fun e w' => e = .returned (.bool (wordsQ s.gs[k].2)) ∧ Below W.heap.size W w') := fun W hW => wordsRight_any _ s.gs[k].2 W (by omega) (RowI.below ⟨pu, cu, rfl, hu⟩ hW)
      clear hu
      generalize s.gs[k].1 = z at q1 HTK
      generalize s.gs[k].2 = ws at q2 HN HY HU hlw
      generalize ws.length = nw at q2 HU hlw
      have hbox : Below wr.heap.size wr (wr.alloc (.cells #[.int .i64 z, .slice pu nw cu] 118)) := all_alloc _ _
      have hY : Hid _ := heap_alloc_new wr (.cells #[.int .i64 z, .slice pu nw cu] 118)
      cases hq : wordsQ ws with
      | true =>
        rw [hq] at HU
        go_upto_region 7 with (go_at_call 91; refine (HU.out _ hbox).mono ?_; rintro e w2 ⟨rfl, hb2⟩; have y0 := cellW hY.out 0 _ rfl w2 hb2)
        have HOW : Hid (OwnI w2 A.heap.size (.slice pv k cv) ((s.gs.map Prod.fst).take k)) := (HW.out.below hbox).below hb2
        have hbel2 : Below A.heap.size A w2 := keepB (keepB hbel (Nat.le_refl _) hbox) (Nat.le_refl _) hb2
        have hsz := hbel2.size
        go_wp2_with (at_builtin; refine wpList_append_own _ rfl (.tmp 17) (.tmp 20) 24 rfl A.heap.size 2 i0 (.int .i64 0) 1 8 Try.underlying24 hi hz0 hz1 hz2 rfl (by decide) _ _ _ rfl (World.ownsRow.alloc HOW.out _) ⟨w2.heap.size, 0, none⟩ 1 1 [_] rfl rfl (cells_newG _ _ _ _ rfl) (by intro x hx; simp at hx; subst hx; rfl) (by unfold maxLen; omega) (by omega) (by simp; omega) ?_; intro v' w3 hown' hgrow _)
        go_roundw
        case rel =>
          have hbl : Below A.heap.size A w3 := (hbel2.alloc (by omega) _).grown hgrow (by simp; omega) (fun k e => (World.ownsRow.lt HOW.out k e).1)
          refine ⟨k + 1, by omega, by go_num, (show OwnI _ _ _ _ from ?_), HY.out hq, hbl⟩
          rw [HTK.out]
          exact OwnI.of hown' (by rw [List.length_append]; rfl) (by rw [List.map_append]; rfl)
        case measure => simp [intOf]; omega
      | false =>
        rw [hq] at HU
        go_wp2_with (go_at_call 91; refine (HU.out _ hbox).mono ?_; rintro e w2 ⟨rfl, hb2⟩)
        go_ret
        exact ⟨ret_bool (by rw [HN.out hq]; rfl), keepB (keepB (keepB hA.out (Nat.le_refl _) hbel) (Nat.le_refl _) hbox) (Nat.le_refl _) hb2⟩
    · obtain rfl : k = s.gs.length := by omega
      have e1 : s.gs.take s.gs.length = s.gs := List.take_of_length_le (by omega)
      have e2 : B = true := by rw [← hB.out, ← HA.out, e1]
      have y0 := x0 wr hbel
      have HT : Hid (OwnI wr 0 (.slice pv s.gs.length cv) (s.gs.map Prod.fst)) := by
        show OwnI _ _ _ _
        have := HW.out
        rw [List.take_of_length_le (by rw [List.length_map]; omega)] at this
        exact Joins.ownsRow_le this (Nat.zero_le _)
      subst e2
      clear e1 hlk
      go_wp2_with (go_at_call 90; refine (HTE.out _ _ HT.out).mono ?_; rintro e w2 ⟨rfl, rfl⟩)
      go_ret
      exact ⟨ret_bool (by simp), keepB hA.out (Nat.le_refl _) hbel⟩
end Go.Proofs.Ytggdjiijcoklgaa
