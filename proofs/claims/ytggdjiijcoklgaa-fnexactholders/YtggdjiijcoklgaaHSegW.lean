/- THE LAW'S OWN COPY of a segment. -/
import Derived.Test.YtggdjiijcoklgaaHSt
import Derived.Test.YtggdjiijcoklgaaHStnW
import Derived.Deep.DeepCutAuto
namespace Go.Proofs.Ytggdjiijcoklgaa
open Go.RowKit
set_option linter.unusedVariables false
set_option linter.unusedSimpArgs false

theorem infoSt19 : (Try.prog.info? 33).map (fun i => (i.zero, i.size, i.bytes)) = some (some (.agg #[.int .i64 0, .int .i64 0, .int .i64 0, .int .i64 0, .int .i64 0, .int .i64 0, .int .i64 0, .int .i64 0, .int .i64 0, .int .i64 0, .int .i64 0, .int .i64 0, .int .i64 0, .int .i64 0, .int .i64 0, .slice none 0 0, .slice none 0 0, .slice none 0 0, .slice none 0 0]), 19, 216) := by kernel_rfl
theorem infoBo : (Try.prog.info? 4).map (fun i => (i.zero, i.size, i.bytes)) = some (some (.bool false), 1, 1) := by kernel_rfl
theorem infoNt : (Try.prog.info? 130).map (fun i => (i.zero, i.size, i.bytes)) = some (some (.agg #[.int .i64 0, .int .i64 0, .string ⟨#[]⟩]), 3, 32) := by kernel_rfl
theorem owns_block {w : World} {base : Nat} {e : TypeId} {k g n c m : Nat} {xs : List Value} (h : w.ownsRow base e k (.slice (some ⟨g, 0, none⟩) n c) m xs) : ∃ cur, w.heap[g]? = some (.cells cur e (0, 0)) ∧ cur.size = c * k := by
  rcases h.2 with ⟨e0, _⟩ | ⟨g', cap, cur, e0, h1, h2, h3, h4, h5, _⟩
  · cases e0
  · cases e0
    exact ⟨cur, h2, h5⟩
set_option maxRecDepth 100000 in
set_option maxHeartbeats 1600000 in
theorem toStationS_any (a : Option Addr) (c : Nat) (ss : List Stn) (w : World) (hl : (ss.length : Int) + ssum ss ≤ 1048576) (hr : InSt w a ss) :
    Calls Try.prog 59 #[.slice a ss.length c] w fun e w' => ∃ v, e = .returned v ∧ OwnStS w' w.heap.size w'.heap.size v ss ∧ Below w.heap.size w w' := by
  obtain ⟨i0, hi, hz0, hz1, hz2⟩ := info_parts infoSt19
  have hpos := ssum_pos ss
  have hlen : ss.length ≤ 1048576 := by omega
  have HR : Hid (∀ W, Below w.heap.size w W → InSt W a ss) := fun W hW => hr.below hW
  have HT : Hid (∀ s ∈ ss, s.tot ≤ 1048576) := fun s hs => by have := ssum_each hs; omega
  clear hr hl hpos
  go_enter Try.func59, Try.ntmps59
  go_wp2_with (at_make; refine wpList_make_full _ rfl (.tmp 6) (.tmp 6) 51 rfl w.heap.size 33 i0 (.agg #[.int .i64 0, .int .i64 0, .int .i64 0, .int .i64 0, .int .i64 0, .int .i64 0, .int .i64 0, .int .i64 0, .int .i64 0, .int .i64 0, .int .i64 0, .int .i64 0, .int .i64 0, .int .i64 0, .int .i64 0, .slice none 0 0, .slice none 0 0, .slice none 0 0, .slice none 0 0]) 19 Try.underlying51 hi hz0 hz1 .i64 .i64 _ _ ss.length rfl rfl (by omega) (by omega) (by rw [hz2]; omega) (by unfold maxLen; omega) (Nat.le_refl _) ?_; intro w1 hown1 hgrow1; have hB1 := (Below.refl w.heap.size w).grown hgrow1 (Nat.le_refl _) (fun k e => by cases e); obtain ⟨cur1, hc1, hc2⟩ := owns_block hown1; clear hown1)
  have HO1 : Hid (PartSt w1 w.heap.size ss.length ss 0) := PartSt.start hc1 hc2
  clear hc1 hc2 hgrow1
  go_loopw [4] (fun i wr => ∃ j : Nat, j ≤ ss.length ∧ i = .int .i64 j ∧ Hid (PartSt wr w.heap.size ss.length ss j) ∧ Below w.heap.size w wr) (fun i _ => ss.length - (intOf i).toNat)
  case atStart => exact ⟨0, Nat.zero_le _, rfl, HO1.out, hB1⟩
  case round =>
    obtain ⟨j, hj, rfl, HW, hbel⟩ := hrel
    by_cases hlt : j < ss.length
    · obtain ⟨g, o, p1, p2, p3, p4, c1, c2, c3, c4, rfl, l1, hrg, i1, i2, i3, i4⟩ := (HR.out wr hbel).2 j hlt
      have htot := HT.out ss[j] (List.getElem_mem hlt)
      have HC : Hid (Calls Try.prog 9 #[.agg (stC ss[j] ⟨.slice p1 ss[j].kn.length c1, .slice p2 ss[j].ws.length c2, .slice p3 ss[j].gs.length c3, .slice p4 ss[j].os.length c4⟩).toArray] wr fun x w' => ∃ v1 v2 v3 v4, x = .returned (.agg (stC ss[j] ⟨v1, v2, v3, v4⟩).toArray) ∧ OwnStn w' wr.heap.size v1 v2 v3 v4 ss[j] ∧ Below wr.heap.size wr w') :=
        toStation_any ss[j] p1 p2 p3 p4 c1 c2 c3 c4 wr (by unfold Stn.tot at htot; omega) (by unfold Stn.tot at htot; omega) (by unfold Stn.tot at htot; omega) (fun g hg => by have := wsum_each hg; unfold Stn.tot at htot; omega) (by unfold Stn.tot at htot; omega) i1 i2 i3 i4
      have HRG : Hid _ := hrg
      have HST : Hid (∀ w2 (u : Vs), Below wr.heap.size wr w2 → OwnStn w2 wr.heap.size u.a u.b u.c u.d ss[j] → PartSt (w2.setCells w.heap.size (j * 19) (stC ss[j] u)) w.heap.size ss.length ss (j + 1)) := fun w2 u hb ho => HW.out.step rfl hlt hb u ho
      have HTH : Hid (∀ w2, Below wr.heap.size wr w2 → w2.there w.heap.size (j * 19) 19) := fun w2 hb => HW.out.there hlt hb
      clear i1 i2 i3 i4 hrg htot
      generalize ss[j] = s at HC HRG HST
      generalize (⟨.slice p1 s.kn.length c1, .slice p2 s.ws.length c2, .slice p3 s.gs.length c3, .slice p4 s.os.length c4⟩ : Vs) = u at HC HRG
      have hload : Hid True := trivial
      go_wp2_with (first
        | (have _ := hload; refine wpList_load_mid rfl 28 (.tmp 18) rfl g (o + j * 19) rfl (stC s u) _ HRG.out Try.underlying28 rfl (by kernel_rfl) ?_; clear hload)
        | (go_at_call 9; refine HC.out.mono ?_; rintro e w2 ⟨v1, v2, v3, v4, rfl, own2, hb2⟩; have HS2 : Hid _ := HST.out w2 ⟨v1, v2, v3, v4⟩ hb2 own2; have HT2 : Hid _ := HTH.out w2 hb2; obtain ⟨ra, rb, rc, rdd⟩ := own2.rows; obtain ⟨q1, d1, rfl, _⟩ := ra; obtain ⟨q2, d2, rfl, _⟩ := rb; obtain ⟨q3, d3, rfl, _⟩ := rc; obtain ⟨q4, d4, rfl, _⟩ := rdd)
        | (refine wpList_store_mid rfl 33 (.tmp 21) (.tmp 20) rfl w.heap.size (j * 19) _ rfl rfl HT2.out (by kernel_rfl) (by simp [stC, Value.oneCell']) ?_; clear HT2))
      go_roundw
      case rel => exact ⟨j + 1, by omega, by go_num, (show PartSt _ _ _ _ _ from HS2.out), Below.setCells w.heap.size (Nat.le_refl _) _ _ _ (keepB hbel (Nat.le_refl _) hb2)⟩
      case measure => simp [intOf]; omega
    · obtain rfl : j = ss.length := by omega
      go_wp2
      go_ret
      exact ⟨_, rfl, (HW.out.all rfl (by unfold maxLen; omega)), hbel⟩
set_option maxRecDepth 100000 in
set_option maxHeartbeats 800000 in
theorem toBoolS_any (a : Option Addr) (c : Nat) (us : List Bool) (w : World) (hl : us.length ≤ 1048576) (hr : InBo w a us) :
    Calls Try.prog 60 #[.slice a us.length c] w fun e w' => ∃ v, e = .returned v ∧ OwnBS w' w.heap.size w'.heap.size v us ∧ Below w.heap.size w w' := by
  obtain ⟨i0, hi, hz0, hz1, hz2⟩ := info_parts infoBo
  have HR : Hid (∀ W, Below w.heap.size w W → InBo W a us) := fun W hW => hr.below hW
  clear hr
  go_enter Try.func60, Try.ntmps60
  go_wp2_with (at_make; refine wpList_make_full _ rfl (.tmp 6) (.tmp 6) 45 rfl w.heap.size 4 i0 (.bool false) 1 Try.underlying45 hi hz0 hz1 .i64 .i64 _ _ us.length rfl rfl (by omega) (by omega) (by rw [hz2]; omega) (by unfold maxLen; omega) (Nat.le_refl _) ?_; intro w1 hown1 hgrow1; have hB1 := (Below.refl w.heap.size w).grown hgrow1 (Nat.le_refl _) (fun k e => by cases e); obtain ⟨cur1, hc1, hc2⟩ := owns_block hown1; clear hown1)
  have HO1 : Hid (∃ cur, w1.heap[w.heap.size]? = some (.cells cur 4 (0, 0)) ∧ cur.size = us.length * 1 ∧ ∀ k (hk : k < 0) (h : k < us.length), w1.rangeAt w.heap.size (k * 1) [.bool us[k]]) := by
    show ∃ _, _
    exact ⟨cur1, hc1, hc2, fun k hk => absurd hk (by omega)⟩
  clear hc1 hc2 hgrow1
  go_loopw [4] (fun i wr => ∃ j : Nat, j ≤ us.length ∧ i = .int .i64 j ∧ Hid (∃ cur, wr.heap[w.heap.size]? = some (.cells cur 4 (0, 0)) ∧ cur.size = us.length * 1 ∧ ∀ k (hk : k < j) (h : k < us.length), wr.rangeAt w.heap.size (k * 1) [.bool us[k]]) ∧ Below w.heap.size w wr) (fun i _ => us.length - (intOf i).toNat)
  case atStart => exact ⟨0, Nat.zero_le _, rfl, HO1.out, hB1⟩
  case round =>
    obtain ⟨j, hj, rfl, HW, hbel⟩ := hrel
    by_cases hlt : j < us.length
    · obtain ⟨g, o, rfl, l1, q1⟩ := (HR.out wr hbel).2 j hlt
      obtain ⟨cur, hg, hs, hk⟩ := HW.out
      obtain ⟨ht, ⟨cur', g1, g2⟩, g3, g4⟩ := part_step hg hs hlt [.bool us[j]] rfl
      have HS : Hid (∃ cur, (wr.setCells w.heap.size (j * 1) [.bool us[j]]).heap[w.heap.size]? = some (.cells cur 4 (0, 0)) ∧ cur.size = us.length * 1 ∧ ∀ k (hk : k < j + 1) (h : k < us.length), (wr.setCells w.heap.size (j * 1) [.bool us[j]]).rangeAt w.heap.size (k * 1) [.bool us[k]]) := by
        refine ⟨cur', g1, g2, fun k h1 h2 => ?_⟩
        by_cases hkj : k < j
        · exact g4 k hkj _ rfl (hk k hkj h2)
        · obtain rfl : k = j := by omega
          exact g3
      have hx := (ht 0 (by omega)).1
      have hf := (ht 0 (by omega)).2
      obtain ⟨x, hx⟩ := Option.isSome_iff_exists.1 hx
      rw [Nat.mul_one, Nat.add_zero] at hx hf
      rw [Nat.mul_one] at HS
      unfold World.setCells World.setCells at HS
      clear hg hs hk ht g1 g2 g3 g4 HW
      generalize us[j] = z at q1 HS
      go_wp2
      go_roundw
      case rel => exact ⟨j + 1, by omega, by go_num, HS.out, hbel.setCell (Nat.le_refl _) _⟩
      case measure => simp [intOf]; omega
    · obtain rfl : j = us.length := by omega
      go_wp2
      go_ret
      obtain ⟨cur, hg, hs, hk⟩ := HW.out
      exact ⟨_, rfl, ⟨Nat.le_refl _, .inr ⟨w.heap.size, us.length, cur, rfl, Nat.le_refl _, (Array.getElem?_eq_some_iff.1 hg).1, hg, hs, Nat.le_refl _, fun k hk2 => hk k hk2 hk2⟩⟩, hbel⟩
set_option maxRecDepth 100000 in
set_option maxHeartbeats 1600000 in
theorem toNote_any (n : Nt) (w : World) :
    Calls Try.prog 103 #[.agg #[.int .i64 n.f, .int .i64 n.t, .string n.b]] w fun x w' => x = .returned (.agg (ntC n).toArray) ∧ Below w.heap.size w w' := by
  obtain ⟨f, t, b⟩ := n
  go_enter Try.func103, Try.ntmps103
  go_wp2
  refine bodyPost_ret (v := .agg #[.int .i64 f, .int .i64 t, .string b]) (by simp [results, Try.results103, go_sem]) rfl ⟨rfl, ?_⟩
  repeat (first | (refine Below.setCell ?_ (by simp <;> omega) _) | (refine Below.alloc ?_ (by simp <;> omega) _))
  exact Below.refl _ _
set_option maxRecDepth 100000 in
set_option maxHeartbeats 1600000 in
theorem toNoteS_any (a : Option Addr) (c : Nat) (ns : List Nt) (w : World) (hl : ns.length ≤ 1048576) (hr : InN w a ns) :
    Calls Try.prog 61 #[.slice a ns.length c] w fun e w' => ∃ v, e = .returned v ∧ OwnNS w' w.heap.size w'.heap.size v ns ∧ Below w.heap.size w w' := by
  obtain ⟨i0, hi, hz0, hz1, hz2⟩ := info_parts infoNt
  have HR : Hid (∀ W, Below w.heap.size w W → InN W a ns) := fun W hW => hr.below hW
  clear hr
  go_enter Try.func61, Try.ntmps61
  go_wp2_with (at_make; refine wpList_make_full _ rfl (.tmp 6) (.tmp 6) 52 rfl w.heap.size 130 i0 (.agg #[.int .i64 0, .int .i64 0, .string ⟨#[]⟩]) 3 Try.underlying52 hi hz0 hz1 .i64 .i64 _ _ ns.length rfl rfl (by omega) (by omega) (by rw [hz2]; omega) (by unfold maxLen; omega) (Nat.le_refl _) ?_; intro w1 hown1 hgrow1; have hB1 := (Below.refl w.heap.size w).grown hgrow1 (Nat.le_refl _) (fun k e => by cases e); obtain ⟨cur1, hc1, hc2⟩ := owns_block hown1; clear hown1)
  have HO1 : Hid (∃ cur, w1.heap[w.heap.size]? = some (.cells cur 130 (0, 0)) ∧ cur.size = ns.length * 3 ∧ ∀ k (hk : k < 0) (h : k < ns.length), w1.rangeAt w.heap.size (k * 3) (ntC ns[k])) := by
    show ∃ _, _
    exact ⟨cur1, hc1, hc2, fun k hk => absurd hk (by omega)⟩
  clear hc1 hc2 hgrow1
  go_loopw [4] (fun i wr => ∃ j : Nat, j ≤ ns.length ∧ i = .int .i64 j ∧ Hid (∃ cur, wr.heap[w.heap.size]? = some (.cells cur 130 (0, 0)) ∧ cur.size = ns.length * 3 ∧ ∀ k (hk : k < j) (h : k < ns.length), wr.rangeAt w.heap.size (k * 3) (ntC ns[k])) ∧ Below w.heap.size w wr) (fun i _ => ns.length - (intOf i).toNat)
  case atStart => exact ⟨0, Nat.zero_le _, rfl, HO1.out, hB1⟩
  case round =>
    obtain ⟨j, hj, rfl, HW, hbel⟩ := hrel
    by_cases hlt : j < ns.length
    · obtain ⟨g, o, rfl, l1, q1, q2, q3⟩ := (HR.out wr hbel).2.2 j hlt
      have HC : Hid (∀ W : World, Calls Try.prog 103 #[.agg #[.int .i64 ns[j].f, .int .i64 ns[j].t, .string ns[j].b]] W fun x w' => x = .returned (.agg (ntC ns[j]).toArray) ∧ Below W.heap.size W w') := fun W => toNote_any ns[j] W
      have HS : Hid (∀ w2, Below wr.heap.size wr w2 → w2.there w.heap.size (j * 3) 3 ∧ ∃ cur, (w2.setCells w.heap.size (j * 3) (ntC ns[j])).heap[w.heap.size]? = some (.cells cur 130 (0, 0)) ∧ cur.size = ns.length * 3 ∧ ∀ k (hk : k < j + 1) (h : k < ns.length), (w2.setCells w.heap.size (j * 3) (ntC ns[j])).rangeAt w.heap.size (k * 3) (ntC ns[k])) := by
        intro w2 hb
        obtain ⟨cur, hg, hs, hk⟩ := HW.out
        have hr : w.heap.size < wr.heap.size := (Array.getElem?_eq_some_iff.1 hg).1
        obtain ⟨ht, ⟨cur', g1, g2⟩, g3, g4⟩ := part_step ((hb.block _ hr).trans hg) hs hlt (ntC ns[j]) rfl
        refine ⟨ht, cur', g1, g2, fun k h1 h2 => ?_⟩
        by_cases hkj : k < j
        · exact g4 k hkj _ rfl (range_below (hk k hkj h2) hr hb)
        · obtain rfl : k = j := by omega
          exact g3
      clear HW
      generalize ns[j] = z at q1 q2 q3 HC HS
      go_wp2_with (first
        | (go_at_call 103; refine (HC.out _).mono ?_; rintro e w2 ⟨rfl, hb2⟩; obtain ⟨ht2, hs2⟩ := HS.out w2 hb2; have HT2 : Hid _ := ht2; have HS2 : Hid (∃ _, _) := hs2; clear ht2 hs2)
        | (refine wpList_store_mid rfl 130 (.tmp 21) (.tmp 20) rfl w.heap.size (j * 3) _ rfl rfl HT2.out (by kernel_rfl) (by simp [ntC, Value.oneCell']) ?_; clear HT2))
      go_roundw
      case rel => exact ⟨j + 1, by omega, by go_num, (show ∃ _, _ from HS2.out), Below.setCells w.heap.size (Nat.le_refl _) _ _ _ (keepB hbel (Nat.le_refl _) hb2)⟩
      case measure => simp [intOf]; omega
    · obtain rfl : j = ns.length := by omega
      go_wp2
      go_ret
      obtain ⟨cur, hg, hs, hk⟩ := HW.out
      exact ⟨_, rfl, ⟨Nat.le_refl _, .inr ⟨w.heap.size, ns.length, cur, rfl, Nat.le_refl _, (Array.getElem?_eq_some_iff.1 hg).1, hg, hs, Nat.le_refl _, fun k hk2 => hk k hk2 hk2⟩⟩, hbel⟩
end Go.Proofs.Ytggdjiijcoklgaa
