/- THE LAW'S OWN QUESTIONS of a station: the same. -/
import Derived.Test.YtancfnpmbddfoaaStnG
import Derived.Test.YtancfnpmbddfoaaTail
import Derived.Deep.RegionHeld3
import Derived.Deep.RegionWith
import Derived.Deep.DeepCutAuto
namespace Go.Proofs.Ytancfnpmbddfoaa
open Go.RowKit
set_option linter.unusedVariables false
set_option linter.unusedSimpArgs false

set_option maxRecDepth 100000 in
theorem eqStampQ_same (s : St) (w : World) : Calls Try.prog 54 #[.agg #[.int .i64 s.g, .int .i64 s.o, .int .i64 s.b, .int .i64 s.h], .agg #[.int .i64 s.g, .int .i64 s.o, .int .i64 s.b, .int .i64 s.h]] w fun x w' => x = .returned (.bool true) ∧ Below w.heap.size w w' := by
  have e0 : (s.g != s.g) = false := by simp
  have e1 : (s.o != s.o) = false := by simp
  have e2 : (s.b != s.b) = false := by simp
  have e3 : (s.h != s.h) = false := by simp
  go_enter Try.func54, Try.ntmps54
  go_wp2
  go_ret
  exact ⟨rfl, ((Below.refl _ _).alloc (Nat.le_refl _) _).alloc (by simp) _⟩
set_option maxRecDepth 100000 in
set_option maxHeartbeats 800000 in
theorem eqGlob_same (a : Int) (zs : List Int) (v1 v2 : Value) (w : World) (hl : zs.length ≤ 10000000) (h1 : RowI w v1 zs) (h2 : RowI w v2 zs) :
    Calls Try.prog 77 #[.agg #[.int .i64 a, v1], .agg #[.int .i64 a, v2]] w fun x w' => x = .returned (.bool true) ∧ Below w.heap.size w w' := by
  have e0 : (a != a) = false := by simp
  have hA0 : Hid (Below w.heap.size w _) := keepB (all_alloc w (.cells #[.int .i64 a, v1] 79)) (Nat.le_refl _) (all_alloc _ (.cells #[.int .i64 a, v2] 79))
  have H1 : Hid (∀ W, Below w.heap.size w W → Calls Try.prog 24 #[v1, v2] W fun e w' => e = .returned (.bool true) ∧ Below W.heap.size W w') := fun W hW => eqInt64S_same v1 v2 zs W hl (h1.below hW) (h2.below hW)
  clear h1 h2
  go_enter Try.func77, Try.ntmps77
  go_wp2_with (go_at_call 24; refine (H1.out _ hA0.out).mono ?_; rintro e w1 ⟨rfl, hb1⟩)
  go_ret
  exact ⟨rfl, keepB hA0.out (Nat.le_refl _) hb1⟩
theorem rowG_cells {w : World} {v : Value} {gs : List (Int × List Int)} (h : RowG w v gs) (k : Nat) (hk : k < gs.length) : ∃ g c u, v = .slice (some ⟨g, 0, none⟩) gs.length c ∧ (∀ W, Below w.heap.size w W → W.cell? ⟨g, k * 2, none⟩ = some (.int .i64 gs[k].1)) ∧ (∀ W, Below w.heap.size w W → W.cell? ⟨g, k * 2 + 1, none⟩ = some u) ∧ RowI w u gs[k].2 := by
  obtain ⟨p, c, rfl, h⟩ := h
  obtain ⟨g, u, rfl, hl, q1, q2, hu⟩ := h k hk
  exact ⟨g, c, u, rfl, fun W hW => (hW.cell (p := ⟨g, k * 2, none⟩) hl).trans q1, fun W hW => (hW.cell (p := ⟨g, k * 2 + 1, none⟩) hl).trans q2, hu⟩
theorem rowS_cells {w : World} {v : Value} {ss : List ByteArray} (h : RowS w v ss) (k : Nat) (hk : k < ss.length) : ∃ g c, v = .slice (some ⟨g, 0, none⟩) ss.length c ∧ (∀ W, Below w.heap.size w W → W.cell? ⟨g, k, none⟩ = some (.string ss[k])) := by
  obtain ⟨p, c, rfl, h⟩ := h
  obtain ⟨g, rfl, hl, q1⟩ := h k hk
  exact ⟨g, c, rfl, fun W hW => (hW.cell (p := ⟨g, k, none⟩) hl).trans q1⟩
set_option maxRecDepth 100000 in
set_option maxHeartbeats 1600000 in
theorem eqGlobS_same (v1 v2 : Value) (gs : List (Int × List Int)) (w : World) (hl : gs.length ≤ 1048576) (hlw : ∀ g ∈ gs, g.2.length ≤ 1048576) (h1 : RowG w v1 gs) (h2 : RowG w v2 gs) :
    Calls Try.prog 55 #[v1, v2] w fun e w' => e = .returned (.bool true) ∧ Below w.heap.size w w' := by
  have e0 : ((gs.length : Int) != (gs.length : Int)) = false := by simp
  have H1 : Hid (∀ W, Below w.heap.size w W → ∀ k (hk : k < gs.length), ∃ g c u, v1 = .slice (some ⟨g, 0, none⟩) gs.length c ∧ (∀ W', Below W.heap.size W W' → W'.cell? ⟨g, k * 2, none⟩ = some (.int .i64 gs[k].1)) ∧ (∀ W', Below W.heap.size W W' → W'.cell? ⟨g, k * 2 + 1, none⟩ = some u) ∧ RowI W u gs[k].2) := fun W hW => rowG_cells (h1.below hW)
  have H2 : Hid (∀ W, Below w.heap.size w W → ∀ k (hk : k < gs.length), ∃ g c u, v2 = .slice (some ⟨g, 0, none⟩) gs.length c ∧ (∀ W', Below W.heap.size W W' → W'.cell? ⟨g, k * 2, none⟩ = some (.int .i64 gs[k].1)) ∧ (∀ W', Below W.heap.size W W' → W'.cell? ⟨g, k * 2 + 1, none⟩ = some u) ∧ RowI W u gs[k].2) := fun W hW => rowG_cells (h2.below hW)
  have HLW : Hid _ := hlw
  obtain ⟨p1, c1, rfl, _⟩ := h1
  obtain ⟨p2, c2, rfl, _⟩ := h2
  clear hlw
  go_enter Try.func55, Try.ntmps55
  go_wp2
  go_loopw [5] (fun i wr => ∃ k : Nat, k ≤ gs.length ∧ i = .int .i64 k ∧ Below w.heap.size w wr) (fun i _ => gs.length - (intOf i).toNat)
  case atStart => exact ⟨0, Nat.zero_le _, rfl, Below.refl _ _⟩
  case round =>
    obtain ⟨k, hk, rfl, hbel⟩ := hrel
    by_cases hlt : k < gs.length
    · obtain ⟨g1, d1, u1, e1, q1, q2, r1⟩ := H1.out wr hbel k hlt
      obtain ⟨g2, d2, u2, e2, q3, q4, r2⟩ := H2.out wr hbel k hlt
      cases e1
      cases e2
      have hlw := HLW.out gs[k] (List.getElem_mem hlt)
      have HC : Hid (∀ W, Below wr.heap.size wr W → Calls Try.prog 77 #[.agg #[.int .i64 gs[k].1, u1], .agg #[.int .i64 gs[k].1, u2]] W fun x w' => x = .returned (.bool true) ∧ Below W.heap.size W w') := fun W hW => eqGlob_same gs[k].1 gs[k].2 u1 u2 W (by omega) (r1.below hW) (r2.below hW)
      clear r1 r2 hlw
      generalize gs[k].1 = z at q1 q3 HC
      have hR : Below wr.heap.size wr wr.drew := Below.drew (Below.refl _ _)
      go_upto_region 6 with fail
      refine wp_region_held_drew (S := (fun w' => Below wr.heap.size wr w')) (by kernel_rfl) ?_ (fun hHeld => ?_)
      · (try dsimp only); exact hR
      first
        | (refine skipH (i := 0) rfl (by kernel_rfl) (by kernel_rfl) (by kernel_rfl) (fun _ _ _ h => h) (by rfl) (by assumption) ?_; try simp only [Act.put, List.setIfInBounds_toArray, List.set_cons_zero, List.set_cons_succ, List.getElem_toArray, List.getElem_cons_succ, List.getElem_cons_zero])
        | (refine yieldH (i := 0) (v := ?_) rfl (by kernel_rfl) (by kernel_rfl) (by kernel_rfl) (fun _ _ _ h => h) (by rfl) ?_ (by assumption) ?_; rotate_left; (intro w hSw; (try dsimp only at hSw); go_simp; (try with_reducible rfl)); try simp only [Act.put, List.setIfInBounds_toArray, List.set_cons_zero, List.set_cons_succ, List.getElem_toArray, List.getElem_cons_succ, List.getElem_cons_zero])
        | fail
      first
        | (refine skipH (i := 1) rfl (by kernel_rfl) (by kernel_rfl) (by kernel_rfl) (fun _ _ _ h => h) (by rfl) (by assumption) ?_; try simp only [Act.put, List.setIfInBounds_toArray, List.set_cons_zero, List.set_cons_succ, List.getElem_toArray, List.getElem_cons_succ, List.getElem_cons_zero])
        | (refine yieldH (i := 1) (v := ?_) rfl (by kernel_rfl) (by kernel_rfl) (by kernel_rfl) (fun _ _ _ h => h) (by rfl) ?_ (by assumption) ?_; rotate_left; (intro w hSw; (try dsimp only at hSw); go_simp; (try with_reducible rfl)); try simp only [Act.put, List.setIfInBounds_toArray, List.set_cons_zero, List.set_cons_succ, List.getElem_toArray, List.getElem_cons_succ, List.getElem_cons_zero])
        | fail
      first
        | (refine skipH (i := 2) rfl (by kernel_rfl) (by kernel_rfl) (by kernel_rfl) (fun _ _ _ h => h) (by rfl) (by assumption) ?_; try simp only [Act.put, List.setIfInBounds_toArray, List.set_cons_zero, List.set_cons_succ, List.getElem_toArray, List.getElem_cons_succ, List.getElem_cons_zero])
        | (refine yieldH (i := 2) (v := ?_) rfl (by kernel_rfl) (by kernel_rfl) (by kernel_rfl) (fun _ _ _ h => h) (by rfl) ?_ (by assumption) ?_; rotate_left; (intro w hSw; (try dsimp only at hSw); go_simp; (try with_reducible rfl)); try simp only [Act.put, List.setIfInBounds_toArray, List.set_cons_zero, List.set_cons_succ, List.getElem_toArray, List.getElem_cons_succ, List.getElem_cons_zero])
        | fail
      first
        | (refine skipH (i := 3) rfl (by kernel_rfl) (by kernel_rfl) (by kernel_rfl) (fun _ _ _ h => h) (by rfl) (by assumption) ?_; try simp only [Act.put, List.setIfInBounds_toArray, List.set_cons_zero, List.set_cons_succ, List.getElem_toArray, List.getElem_cons_succ, List.getElem_cons_zero])
        | (refine yieldH (i := 3) (v := ?_) rfl (by kernel_rfl) (by kernel_rfl) (by kernel_rfl) (fun _ _ _ h => h) (by rfl) ?_ (by assumption) ?_; rotate_left; (intro w hSw; (try dsimp only at hSw); go_simp; (try with_reducible rfl)); try simp only [Act.put, List.setIfInBounds_toArray, List.set_cons_zero, List.set_cons_succ, List.getElem_toArray, List.getElem_cons_succ, List.getElem_cons_zero])
        | fail
      first
        | (refine skipH (i := 4) rfl (by kernel_rfl) (by kernel_rfl) (by kernel_rfl) (fun _ _ _ h => h) (by rfl) (by assumption) ?_; try simp only [Act.put, List.setIfInBounds_toArray, List.set_cons_zero, List.set_cons_succ, List.getElem_toArray, List.getElem_cons_succ, List.getElem_cons_zero])
        | (refine yieldH (i := 4) (v := ?_) rfl (by kernel_rfl) (by kernel_rfl) (by kernel_rfl) (fun _ _ _ h => h) (by rfl) ?_ (by assumption) ?_; rotate_left; (intro w hSw; (try dsimp only at hSw); go_simp; (try with_reducible rfl)); try simp only [Act.put, List.setIfInBounds_toArray, List.set_cons_zero, List.set_cons_succ, List.getElem_toArray, List.getElem_cons_succ, List.getElem_cons_zero])
        | fail
      first
        | (refine skipH (i := 5) rfl (by kernel_rfl) (by kernel_rfl) (by kernel_rfl) (fun _ _ _ h => h) (by rfl) (by assumption) ?_; try simp only [Act.put, List.setIfInBounds_toArray, List.set_cons_zero, List.set_cons_succ, List.getElem_toArray, List.getElem_cons_succ, List.getElem_cons_zero])
        | (refine yieldH (i := 5) (v := ?_) rfl (by kernel_rfl) (by kernel_rfl) (by kernel_rfl) (fun _ _ _ h => h) (by rfl) ?_ (by assumption) ?_; rotate_left; (intro w hSw; (try dsimp only at hSw); go_simp; (try with_reducible rfl)); try simp only [Act.put, List.setIfInBounds_toArray, List.set_cons_zero, List.set_cons_succ, List.getElem_toArray, List.getElem_cons_succ, List.getElem_cons_zero])
        | fail
      first
        | (refine skipH (i := 6) rfl (by kernel_rfl) (by kernel_rfl) (by kernel_rfl) (fun _ _ _ h => h) (by rfl) (by assumption) ?_; try simp only [Act.put, List.setIfInBounds_toArray, List.set_cons_zero, List.set_cons_succ, List.getElem_toArray, List.getElem_cons_succ, List.getElem_cons_zero])
        | (refine yieldH (i := 6) (v := ?_) rfl (by kernel_rfl) (by kernel_rfl) (by kernel_rfl) (fun _ _ _ h => h) (by rfl) ?_ (by assumption) ?_; rotate_left; (intro w hSw; (try dsimp only at hSw); go_simp; (try with_reducible rfl)); try simp only [Act.put, List.setIfInBounds_toArray, List.set_cons_zero, List.set_cons_succ, List.getElem_toArray, List.getElem_cons_succ, List.getElem_cons_zero])
        | fail
      first
        | (refine skipH (i := 7) rfl (by kernel_rfl) (by kernel_rfl) (by kernel_rfl) (fun _ _ _ h => h) (by rfl) (by assumption) ?_; try simp only [Act.put, List.setIfInBounds_toArray, List.set_cons_zero, List.set_cons_succ, List.getElem_toArray, List.getElem_cons_succ, List.getElem_cons_zero])
        | (refine yieldH (i := 7) (v := ?_) rfl (by kernel_rfl) (by kernel_rfl) (by kernel_rfl) (fun _ _ _ h => h) (by rfl) ?_ (by assumption) ?_; rotate_left; (intro w hSw; (try dsimp only at hSw); go_simp; (try with_reducible rfl)); try simp only [Act.put, List.setIfInBounds_toArray, List.set_cons_zero, List.set_cons_succ, List.getElem_toArray, List.getElem_cons_succ, List.getElem_cons_zero])
        | fail
      refine wpAnyH_ready (rs := [8]) (by kernel_rfl) (by simp) ?_
      refine AllReadyH.cons rfl (fun K hK => ?_) AllReadyH.nil
      go_simp
      go_at_call 77; refine (HC.out _ hR).mono ?_; rintro e2 w2 ⟨rfl, hb2⟩; have s2 : Below wr.heap.size wr w2 := keepB hR (Nat.le_refl _) hb2
      dsimp only
      refine hK.out _ _ ?_ (fun hHeld => ?_)
      · (try dsimp only); exact s2
      clear hK K
      try simp only [Act.put, List.setIfInBounds_toArray, List.set_cons_zero, List.set_cons_succ, List.getElem_toArray, List.getElem_cons_succ, List.getElem_cons_zero]
      first
        | (refine skipH (i := 9) rfl (by kernel_rfl) (by kernel_rfl) (by kernel_rfl) (fun _ _ _ h => h) (by rfl) (by assumption) ?_; try simp only [Act.put, List.setIfInBounds_toArray, List.set_cons_zero, List.set_cons_succ, List.getElem_toArray, List.getElem_cons_succ, List.getElem_cons_zero])
        | (refine yieldH (i := 9) (v := ?_) rfl (by kernel_rfl) (by kernel_rfl) (by kernel_rfl) (fun _ _ _ h => h) (by rfl) ?_ (by assumption) ?_; rotate_left; (intro w hSw; (try dsimp only at hSw); go_simp; (try with_reducible rfl)); try simp only [Act.put, List.setIfInBounds_toArray, List.set_cons_zero, List.set_cons_succ, List.getElem_toArray, List.getElem_cons_succ, List.getElem_cons_zero])
        | fail
      refine wpAnyH_done (by kernel_rfl) ?_ _
      go_wp2
      go_roundw
      case rel => exact ⟨k + 1, by omega, by go_num, keepB hbel (Nat.le_refl _) s2⟩
      case measure => simp [intOf]; omega
    · go_wp2
      go_ret
      exact ⟨rfl, hbel⟩
set_option maxRecDepth 100000 in
set_option maxHeartbeats 1600000 in
theorem eqStringQ_same (v1 v2 : Value) (ss : List ByteArray) (w : World) (hl : ss.length ≤ 1048576) (h1 : RowS w v1 ss) (h2 : RowS w v2 ss) :
    Calls Try.prog 56 #[v1, v2] w fun e w' => e = .returned (.bool true) ∧ Below w.heap.size w w' := by
  have e0 : ((ss.length : Int) != (ss.length : Int)) = false := by simp
  have H1 : Hid (∀ W, Below w.heap.size w W → ∀ k (hk : k < ss.length), ∃ g c, v1 = .slice (some ⟨g, 0, none⟩) ss.length c ∧ (∀ W', Below W.heap.size W W' → W'.cell? ⟨g, k, none⟩ = some (.string ss[k]))) := fun W hW => rowS_cells (h1.below hW)
  have H2 : Hid (∀ W, Below w.heap.size w W → ∀ k (hk : k < ss.length), ∃ g c, v2 = .slice (some ⟨g, 0, none⟩) ss.length c ∧ (∀ W', Below W.heap.size W W' → W'.cell? ⟨g, k, none⟩ = some (.string ss[k]))) := fun W hW => rowS_cells (h2.below hW)
  obtain ⟨p1, c1, rfl, _⟩ := h1
  obtain ⟨p2, c2, rfl, _⟩ := h2
  go_enter Try.func56, Try.ntmps56
  go_wp2
  go_loopw [5] (fun i wr => ∃ k : Nat, k ≤ ss.length ∧ i = .int .i64 k ∧ Below w.heap.size w wr) (fun i _ => ss.length - (intOf i).toNat)
  case atStart => exact ⟨0, Nat.zero_le _, rfl, Below.refl _ _⟩
  case round =>
    obtain ⟨k, hk, rfl, hbel⟩ := hrel
    by_cases hlt : k < ss.length
    · obtain ⟨g1, d1, e1, q1⟩ := H1.out wr hbel k hlt
      obtain ⟨g2, d2, e2, q3⟩ := H2.out wr hbel k hlt
      cases e1
      cases e2
      generalize ss[k] = z at q1 q3
      have es : (z.toList == z.toList) = true := by simp
      have hR : Below wr.heap.size wr wr.drew := Below.drew (Below.refl _ _)
      go_upto_region 6 with fail
      refine wp_region_held_drew (S := (fun w' => Below wr.heap.size wr w')) (by kernel_rfl) ?_ (fun hHeld => ?_)
      · (try dsimp only); exact hR
      first
        | (refine skipH (i := 0) rfl (by kernel_rfl) (by kernel_rfl) (by kernel_rfl) (fun _ _ _ h => h) (by rfl) (by assumption) ?_; try simp only [Act.put, List.setIfInBounds_toArray, List.set_cons_zero, List.set_cons_succ, List.getElem_toArray, List.getElem_cons_succ, List.getElem_cons_zero])
        | (refine yieldH (i := 0) (v := ?_) rfl (by kernel_rfl) (by kernel_rfl) (by kernel_rfl) (fun _ _ _ h => h) (by rfl) ?_ (by assumption) ?_; rotate_left; (intro w hSw; (try dsimp only at hSw); go_simp; (try with_reducible rfl)); try simp only [Act.put, List.setIfInBounds_toArray, List.set_cons_zero, List.set_cons_succ, List.getElem_toArray, List.getElem_cons_succ, List.getElem_cons_zero])
        | fail
      first
        | (refine skipH (i := 1) rfl (by kernel_rfl) (by kernel_rfl) (by kernel_rfl) (fun _ _ _ h => h) (by rfl) (by assumption) ?_; try simp only [Act.put, List.setIfInBounds_toArray, List.set_cons_zero, List.set_cons_succ, List.getElem_toArray, List.getElem_cons_succ, List.getElem_cons_zero])
        | (refine yieldH (i := 1) (v := ?_) rfl (by kernel_rfl) (by kernel_rfl) (by kernel_rfl) (fun _ _ _ h => h) (by rfl) ?_ (by assumption) ?_; rotate_left; (intro w hSw; (try dsimp only at hSw); go_simp; (try with_reducible rfl)); try simp only [Act.put, List.setIfInBounds_toArray, List.set_cons_zero, List.set_cons_succ, List.getElem_toArray, List.getElem_cons_succ, List.getElem_cons_zero])
        | fail
      first
        | (refine skipH (i := 2) rfl (by kernel_rfl) (by kernel_rfl) (by kernel_rfl) (fun _ _ _ h => h) (by rfl) (by assumption) ?_; try simp only [Act.put, List.setIfInBounds_toArray, List.set_cons_zero, List.set_cons_succ, List.getElem_toArray, List.getElem_cons_succ, List.getElem_cons_zero])
        | (refine yieldH (i := 2) (v := ?_) rfl (by kernel_rfl) (by kernel_rfl) (by kernel_rfl) (fun _ _ _ h => h) (by rfl) ?_ (by assumption) ?_; rotate_left; (intro w hSw; (try dsimp only at hSw); go_simp; (try with_reducible rfl)); try simp only [Act.put, List.setIfInBounds_toArray, List.set_cons_zero, List.set_cons_succ, List.getElem_toArray, List.getElem_cons_succ, List.getElem_cons_zero])
        | fail
      first
        | (refine skipH (i := 3) rfl (by kernel_rfl) (by kernel_rfl) (by kernel_rfl) (fun _ _ _ h => h) (by rfl) (by assumption) ?_; try simp only [Act.put, List.setIfInBounds_toArray, List.set_cons_zero, List.set_cons_succ, List.getElem_toArray, List.getElem_cons_succ, List.getElem_cons_zero])
        | (refine yieldH (i := 3) (v := ?_) rfl (by kernel_rfl) (by kernel_rfl) (by kernel_rfl) (fun _ _ _ h => h) (by rfl) ?_ (by assumption) ?_; rotate_left; (intro w hSw; (try dsimp only at hSw); go_simp; (try with_reducible rfl)); try simp only [Act.put, List.setIfInBounds_toArray, List.set_cons_zero, List.set_cons_succ, List.getElem_toArray, List.getElem_cons_succ, List.getElem_cons_zero])
        | fail
      first
        | (refine skipH (i := 4) rfl (by kernel_rfl) (by kernel_rfl) (by kernel_rfl) (fun _ _ _ h => h) (by rfl) (by assumption) ?_; try simp only [Act.put, List.setIfInBounds_toArray, List.set_cons_zero, List.set_cons_succ, List.getElem_toArray, List.getElem_cons_succ, List.getElem_cons_zero])
        | (refine yieldH (i := 4) (v := ?_) rfl (by kernel_rfl) (by kernel_rfl) (by kernel_rfl) (fun _ _ _ h => h) (by rfl) ?_ (by assumption) ?_; rotate_left; (intro w hSw; (try dsimp only at hSw); go_simp; (try with_reducible rfl)); try simp only [Act.put, List.setIfInBounds_toArray, List.set_cons_zero, List.set_cons_succ, List.getElem_toArray, List.getElem_cons_succ, List.getElem_cons_zero])
        | fail
      first
        | (refine skipH (i := 5) rfl (by kernel_rfl) (by kernel_rfl) (by kernel_rfl) (fun _ _ _ h => h) (by rfl) (by assumption) ?_; try simp only [Act.put, List.setIfInBounds_toArray, List.set_cons_zero, List.set_cons_succ, List.getElem_toArray, List.getElem_cons_succ, List.getElem_cons_zero])
        | (refine yieldH (i := 5) (v := ?_) rfl (by kernel_rfl) (by kernel_rfl) (by kernel_rfl) (fun _ _ _ h => h) (by rfl) ?_ (by assumption) ?_; rotate_left; (intro w hSw; (try dsimp only at hSw); go_simp; (try with_reducible rfl)); try simp only [Act.put, List.setIfInBounds_toArray, List.set_cons_zero, List.set_cons_succ, List.getElem_toArray, List.getElem_cons_succ, List.getElem_cons_zero])
        | fail
      first
        | (refine skipH (i := 6) rfl (by kernel_rfl) (by kernel_rfl) (by kernel_rfl) (fun _ _ _ h => h) (by rfl) (by assumption) ?_; try simp only [Act.put, List.setIfInBounds_toArray, List.set_cons_zero, List.set_cons_succ, List.getElem_toArray, List.getElem_cons_succ, List.getElem_cons_zero])
        | (refine yieldH (i := 6) (v := ?_) rfl (by kernel_rfl) (by kernel_rfl) (by kernel_rfl) (fun _ _ _ h => h) (by rfl) ?_ (by assumption) ?_; rotate_left; (intro w hSw; (try dsimp only at hSw); go_simp; (try with_reducible rfl)); try simp only [Act.put, List.setIfInBounds_toArray, List.set_cons_zero, List.set_cons_succ, List.getElem_toArray, List.getElem_cons_succ, List.getElem_cons_zero])
        | fail
      first
        | (refine skipH (i := 7) rfl (by kernel_rfl) (by kernel_rfl) (by kernel_rfl) (fun _ _ _ h => h) (by rfl) (by assumption) ?_; try simp only [Act.put, List.setIfInBounds_toArray, List.set_cons_zero, List.set_cons_succ, List.getElem_toArray, List.getElem_cons_succ, List.getElem_cons_zero])
        | (refine yieldH (i := 7) (v := ?_) rfl (by kernel_rfl) (by kernel_rfl) (by kernel_rfl) (fun _ _ _ h => h) (by rfl) ?_ (by assumption) ?_; rotate_left; (intro w hSw; (try dsimp only at hSw); go_simp; (try with_reducible rfl)); try simp only [Act.put, List.setIfInBounds_toArray, List.set_cons_zero, List.set_cons_succ, List.getElem_toArray, List.getElem_cons_succ, List.getElem_cons_zero])
        | fail
      first
        | (refine skipH (i := 8) rfl (by kernel_rfl) (by kernel_rfl) (by kernel_rfl) (fun _ _ _ h => h) (by rfl) (by assumption) ?_; try simp only [Act.put, List.setIfInBounds_toArray, List.set_cons_zero, List.set_cons_succ, List.getElem_toArray, List.getElem_cons_succ, List.getElem_cons_zero])
        | (refine yieldH (i := 8) (v := ?_) rfl (by kernel_rfl) (by kernel_rfl) (by kernel_rfl) (fun _ _ _ h => h) (by rfl) ?_ (by assumption) ?_; rotate_left; (intro w hSw; (try dsimp only at hSw); go_simp; (try with_reducible rfl)); try simp only [Act.put, List.setIfInBounds_toArray, List.set_cons_zero, List.set_cons_succ, List.getElem_toArray, List.getElem_cons_succ, List.getElem_cons_zero])
        | fail
      refine wpAnyH_done (by kernel_rfl) ?_ _
      go_wp2
      go_roundw
      case rel => exact ⟨k + 1, by omega, by go_num, keepB hbel (Nat.le_refl _) hR⟩
      case measure => simp [intOf]; omega
    · go_wp2
      go_ret
      exact ⟨rfl, hbel⟩
end Go.Proofs.Ytancfnpmbddfoaa
namespace Go.Proofs.Ytancfnpmbddfoaa
open Go.RowKit
set_option linter.unusedVariables false
set_option linter.unusedSimpArgs false

def wsum (gs : List (Int × List Int)) : Nat := (gs.map fun g => g.2.length).sum
def bsum (ss : List ByteArray) : Nat := (ss.map fun s => s.size).sum
theorem wsum_take (gs : List (Int × List Int)) (k : Nat) (h : k < gs.length) : wsum (gs.take (k + 1)) = wsum (gs.take k) + gs[k].2.length := by
  unfold wsum
  rw [List.take_succ_eq_append_getElem h, List.map_append, List.sum_append]
  simp
theorem bsum_take (ss : List ByteArray) (k : Nat) (h : k < ss.length) : bsum (ss.take (k + 1)) = bsum (ss.take k) + ss[k].size := by
  unfold bsum
  rw [List.take_succ_eq_append_getElem h, List.map_append, List.sum_append]
  simp
theorem wsum_le (gs : List (Int × List Int)) (k : Nat) : wsum (gs.take k) ≤ wsum gs := by
  have : wsum gs = wsum (gs.take k) + wsum (gs.drop k) := by
    unfold wsum
    rw [← List.sum_append, ← List.map_append, List.take_append_drop]
  omega
theorem bsum_le (ss : List ByteArray) (k : Nat) : bsum (ss.take k) ≤ bsum ss := by
  have : bsum ss = bsum (ss.take k) + bsum (ss.drop k) := by
    unfold bsum
    rw [← List.sum_append, ← List.map_append, List.take_append_drop]
  omega
theorem wsum_each {gs : List (Int × List Int)} {g : Int × List Int} (h : g ∈ gs) : g.2.length ≤ wsum gs := by
  obtain ⟨k, hk, rfl⟩ := List.getElem_of_mem h
  have h1 := wsum_take gs k hk
  have h2 := wsum_le gs (k + 1)
  omega
theorem bsum_each {ss : List ByteArray} {s : ByteArray} (h : s ∈ ss) : s.size ≤ bsum ss := by
  obtain ⟨k, hk, rfl⟩ := List.getElem_of_mem h
  have h1 := bsum_take ss k hk
  have h2 := bsum_le ss (k + 1)
  omega
set_option maxRecDepth 100000 in
theorem szGlob_any (L : Int) (hL : 0 ≤ L ∧ L ≤ 1048576) (a : Int) (p : Option Addr) (n c : Nat) (w : World) (hn : n ≤ 9223372036854775807) :
    Calls Try.prog 70 #[.agg #[.int .i64 a, .slice p n c], .int .i64 L] w fun x w' => x = .returned (.int .i64 (if (n : Int) ≤ L then L - (n : Int) else -1)) ∧ Below w.heap.size w w' := by
  have H1 : Hid (∀ W : World, Calls Try.prog 32 #[.slice p n c, .int .i64 L] W fun x w' => x = .returned (.int .i64 (if (n : Int) ≤ L then L - (n : Int) else -1)) ∧ W = w') := fun W => szInt64S_from L hL p n c W hn
  by_cases h : (n : Int) ≤ L
  · rw [if_pos h] at H1 ⊢
    have h1 : ¬ L - (n : Int) < 0 := by omega
    go_enter Try.func70, Try.ntmps70
    go_wp2_with (go_at_call 32; refine (H1.out _).mono ?_; rintro e w1 ⟨rfl, rfl⟩)
    go_ret
    exact ⟨rfl, all_alloc _ _⟩
  · rw [if_neg h] at H1 ⊢
    go_enter Try.func70, Try.ntmps70
    go_wp2_with (go_at_call 32; refine (H1.out _).mono ?_; rintro e w1 ⟨rfl, rfl⟩)
    go_ret
    exact ⟨rfl, all_alloc _ _⟩
set_option maxRecDepth 100000 in
set_option maxHeartbeats 1600000 in
theorem szGlobS_any (L : Int) (hL : 0 ≤ L ∧ L ≤ 1048576) (a : Option Addr) (c : Nat) (gs : List (Int × List Int)) (w : World) (hr : InG w a gs) :
    Calls Try.prog 33 #[.slice a gs.length c, .int .i64 L] w fun x w' => x = .returned (.int .i64 (if (gs.length : Int) + (wsum gs : Int) ≤ L then L - ((gs.length : Int) + (wsum gs : Int)) else -1)) ∧ Below w.heap.size w w' := by
  have hn := hr.1
  by_cases h : (gs.length : Int) ≤ L
  · have h1 : ¬ L - (gs.length : Int) < 0 := by omega
    have HR : Hid (∀ W, Below w.heap.size w W → ∀ k (h : k < gs.length), ∃ g o u c, a = some ⟨g, o, none⟩ ∧ g < W.heap.size ∧ W.cell? ⟨g, o + k * 2, none⟩ = some (.int .i64 gs[k].1) ∧ W.cell? ⟨g, o + k * 2 + 1, none⟩ = some (.slice u gs[k].2.length c) ∧ InI W u gs[k].2) := fun W hW => (hr.below hW).2
    clear hr
    obtain ⟨V, hV⟩ : ∃ V, Hid ((if (gs.length : Int) + (wsum gs : Int) ≤ L then L - ((gs.length : Int) + (wsum gs : Int)) else -1) = V) := ⟨_, show _ = _ from rfl⟩
    rw [hV.out]
    go_enter Try.func33, Try.ntmps33
    go_wp2
    go_loopw [1, 5] (fun l i wr => ∃ (k : Nat) (M : Int), k ≤ gs.length ∧ i = .int .i64 k ∧ l = .int .i64 M ∧ (0 ≤ M ∧ M ≤ 1048576) ∧ Hid (M = L - (gs.length : Int) - (wsum (gs.take k) : Int)) ∧ Below w.heap.size w wr) (fun _ i _ => gs.length - (intOf i).toNat)
    case atStart => exact ⟨0, L - (gs.length : Int), Nat.zero_le _, rfl, rfl, by omega, (show _ = _ by simp [wsum]), Below.refl _ _⟩
    case round =>
      obtain ⟨k, M, hk, rfl, rfl, hM, HM, hbel⟩ := hrel
      by_cases hlt : k < gs.length
      · obtain ⟨g, o, u, cu, rfl, l1, q1, q2, hu⟩ := HR.out wr hbel k hlt
        have HT : Hid _ := wsum_take gs k hlt
        have HE : Hid _ := wsum_le gs (k + 1)
        have hnw := hu.1
        clear hu
        have HC : Hid (∀ W : World, Calls Try.prog 70 #[.agg #[.int .i64 gs[k].1, .slice u gs[k].2.length cu], .int .i64 M] W fun x w' => x = .returned (.int .i64 (if (gs[k].2.length : Int) ≤ M then M - (gs[k].2.length : Int) else -1)) ∧ Below W.heap.size W w') := fun W => szGlob_any M hM gs[k].1 u gs[k].2.length cu W hnw
        generalize gs[k].1 = z at q1 HC
        generalize gs[k].2.length = n at q2 HC HT hnw
        by_cases h5 : (n : Int) ≤ M
        · rw [if_pos h5] at HC
          have h6 : ¬ M - (n : Int) < 0 := by omega
          go_wp2_with (go_at_call 70; refine (HC.out _).mono ?_; rintro e w1 ⟨rfl, hb1⟩)
          go_roundw
          case rel => exact ⟨k + 1, M - (n : Int), by omega, by go_num, by go_num, by omega, (show _ = _ by rw [HT.out, HM.out]; omega), keepB hbel (Nat.le_refl _) hb1⟩
          case measure => simp [intOf]; omega
        · rw [if_neg h5] at HC
          go_wp2_with (go_at_call 70; refine (HC.out _).mono ?_; rintro e w1 ⟨rfl, hb1⟩)
          go_ret
          have e1 := HM.out
          have e2 := HT.out
          have e3 := HE.out
          have e4 : V = -1 := by rw [← hV.out, if_neg (by omega)]
          exact ⟨by rw [e4]; rfl, keepB hbel (Nat.le_refl _) hb1⟩
      · have hkk : Hid (k = gs.length) := (by omega : k = gs.length)
        go_wp2
        go_ret
        have e1 := HM.out
        rw [hkk.out, List.take_length] at e1
        have e4 : V = M := by rw [← hV.out, if_pos (by omega)]; omega
        exact ⟨by rw [e4]; rfl, hbel⟩
  · have h1 : L - (gs.length : Int) < 0 := by omega
    rw [if_neg (by omega)]
    clear hr
    go_enter Try.func33, Try.ntmps33
    go_wp2
    go_ret
    exact ⟨rfl, Below.refl _ _⟩
set_option maxRecDepth 100000 in
set_option maxHeartbeats 1600000 in
theorem szStringS_any (L : Int) (hL : 0 ≤ L ∧ L ≤ 1048576) (a : Option Addr) (c : Nat) (ss : List ByteArray) (w : World) (hr : InS w a ss) :
    Calls Try.prog 34 #[.slice a ss.length c, .int .i64 L] w fun x w' => x = .returned (.int .i64 (if (ss.length : Int) + (bsum ss : Int) ≤ L then L - ((ss.length : Int) + (bsum ss : Int)) else -1)) ∧ w = w' := by
  have hn := hr.1
  by_cases h : (ss.length : Int) ≤ L
  · have h1 : ¬ L - (ss.length : Int) < 0 := by omega
    have HR : Hid _ := hr.2.2
    have HZ : Hid _ := hr.2.1
    clear hr
    obtain ⟨V, hV⟩ : ∃ V, Hid ((if (ss.length : Int) + (bsum ss : Int) ≤ L then L - ((ss.length : Int) + (bsum ss : Int)) else -1) = V) := ⟨_, show _ = _ from rfl⟩
    rw [hV.out]
    go_enter Try.func34, Try.ntmps34
    go_wp2
    go_loop [1, 5] (fun l i => ∃ (k : Nat) (M : Int), k ≤ ss.length ∧ i = .int .i64 k ∧ l = .int .i64 M ∧ (0 ≤ M ∧ M ≤ 1048576) ∧ Hid (M = L - (ss.length : Int) - (bsum (ss.take k) : Int))) (fun _ i => ss.length - (intOf i).toNat)
    case atStart => exact ⟨0, L - (ss.length : Int), Nat.zero_le _, rfl, rfl, by omega, (show _ = _ by simp [bsum])⟩
    case round =>
      obtain ⟨k, M, hk, rfl, rfl, hM, HM⟩ := hrel
      by_cases hlt : k < ss.length
      · obtain ⟨g, o, rfl, l1, q1⟩ := HR.out k hlt
        have HT : Hid _ := bsum_take ss k hlt
        have HE : Hid _ := bsum_le ss (k + 1)
        have hz := HZ.out ss[k] (List.getElem_mem hlt)
        unfold maxLen at hz
        generalize ss[k] = z at q1 HT hz
        by_cases h5 : (z.size : Int) ≤ M
        · have h6 : ¬ M - (z.size : Int) < 0 := by omega
          go_wp2
          go_round
          case rel => exact ⟨k + 1, M - (z.size : Int), by omega, by go_num, by go_num, by omega, (show _ = _ by rw [HT.out, HM.out]; omega)⟩
          case measure => simp [intOf]; omega
        · have h6 : M - (z.size : Int) < 0 := by omega
          go_wp2
          go_ret
          have e1 := HM.out
          have e2 := HT.out
          have e3 := HE.out
          have e4 : V = -1 := by rw [← hV.out, if_neg (by omega)]
          exact ⟨by rw [e4]; rfl, rfl⟩
      · have hkk : Hid (k = ss.length) := (by omega : k = ss.length)
        go_wp2
        go_ret
        have e1 := HM.out
        rw [hkk.out, List.take_length] at e1
        have e4 : V = M := by rw [← hV.out, if_pos (by omega)]; omega
        exact ⟨by rw [e4]; rfl, rfl⟩
  · have h1 : L - (ss.length : Int) < 0 := by omega
    rw [if_neg (by omega)]
    clear hr
    go_enter Try.func34, Try.ntmps34
    go_wp2
    go_ret
    exact ⟨rfl, rfl⟩
end Go.Proofs.Ytancfnpmbddfoaa
namespace Go.Proofs.Ytancfnpmbddfoaa
open Go.RowKit
set_option linter.unusedVariables false
set_option linter.unusedSimpArgs false

/-- how much a station counts -/
def Stn.tot (s : Stn) : Int := (s.kn.length : Int) + (s.ws.length : Int) + ((s.gs.length : Int) + (wsum s.gs : Int)) + ((s.os.length : Int) + (bsum s.os : Int))
set_option maxRecDepth 100000 in
set_option maxHeartbeats 3200000 in
theorem szStation_any (s : Stn) (p1 p2 p3 p4 : Option Addr) (c1 c2 c3 c4 : Nat) (w : World) (i1 : InI w p1 s.kn) (i2 : InI w p2 s.ws) (i3 : InG w p3 s.gs) (i4 : InS w p4 s.os) :
    Calls Try.prog 9 #[.agg #[.int .i64 s.ad, .int .i64 s.bo, .int .i64 s.st, .int .i64 s.s.g, .int .i64 s.s.o, .int .i64 s.s.b, .int .i64 s.s.h, .int .i64 s.t.g, .int .i64 s.t.o, .int .i64 s.t.b, .int .i64 s.t.h, .int .i64 s.qu, .int .i64 s.tr, .int .i64 s.he, .int .i64 s.po, .slice p1 s.kn.length c1, .slice p2 s.ws.length c2, .slice p3 s.gs.length c3, .slice p4 s.os.length c4], .int .i64 1048576] w fun x w' => x = .returned (.int .i64 (if s.tot ≤ 1048576 then 1048576 - s.tot else -1)) ∧ Below w.heap.size w w' := by
  have hn1 := i1.1
  have hn2 := i2.1
  have H1 : Hid (∀ W : World, Calls Try.prog 32 #[.slice p1 s.kn.length c1, .int .i64 1048576] W fun x w' => x = .returned (.int .i64 (if (s.kn.length : Int) ≤ 1048576 then 1048576 - (s.kn.length : Int) else -1)) ∧ W = w') := fun W => szInt64S_from 1048576 (by omega) p1 s.kn.length c1 W hn1
  have G2 : ∀ L : Int, 0 ≤ L ∧ L ≤ 1048576 → ∀ W : World, Calls Try.prog 32 #[.slice p2 s.ws.length c2, .int .i64 L] W fun x w' => x = .returned (.int .i64 (if (s.ws.length : Int) ≤ L then L - (s.ws.length : Int) else -1)) ∧ W = w' := fun L hL W => szInt64S_from L hL p2 s.ws.length c2 W hn2
  have G3 : ∀ L : Int, 0 ≤ L ∧ L ≤ 1048576 → ∀ W : World, Below w.heap.size w W → Calls Try.prog 33 #[.slice p3 s.gs.length c3, .int .i64 L] W fun x w' => x = .returned (.int .i64 (if (s.gs.length : Int) + (wsum s.gs : Int) ≤ L then L - ((s.gs.length : Int) + (wsum s.gs : Int)) else -1)) ∧ Below W.heap.size W w' := fun L hL W hW => szGlobS_any L hL p3 c3 s.gs W (i3.below hW)
  have G4 : ∀ L : Int, 0 ≤ L ∧ L ≤ 1048576 → ∀ W : World, Below w.heap.size w W → Calls Try.prog 34 #[.slice p4 s.os.length c4, .int .i64 L] W fun x w' => x = .returned (.int .i64 (if (s.os.length : Int) + (bsum s.os : Int) ≤ L then L - ((s.os.length : Int) + (bsum s.os : Int)) else -1)) ∧ W = w' := fun L hL W hW => szStringS_any L hL p4 c4 s.os W (i4.below hW)
  clear i1 i2 i3 i4 hn1 hn2
  obtain ⟨V, hV⟩ : ∃ V, (if s.tot ≤ 1048576 then 1048576 - s.tot else -1) = V := ⟨_, rfl⟩
  rw [hV]
  unfold Stn.tot at hV
  have hA := all_alloc w (.cells #[.int .i64 s.ad, .int .i64 s.bo, .int .i64 s.st, .int .i64 s.s.g, .int .i64 s.s.o, .int .i64 s.s.b, .int .i64 s.s.h, .int .i64 s.t.g, .int .i64 s.t.o, .int .i64 s.t.b, .int .i64 s.t.h, .int .i64 s.qu, .int .i64 s.tr, .int .i64 s.he, .int .i64 s.po, .slice p1 s.kn.length c1, .slice p2 s.ws.length c2, .slice p3 s.gs.length c3, .slice p4 s.os.length c4] 28)
  have hX : Hid _ := heap_alloc_new w (.cells #[.int .i64 s.ad, .int .i64 s.bo, .int .i64 s.st, .int .i64 s.s.g, .int .i64 s.s.o, .int .i64 s.s.b, .int .i64 s.s.h, .int .i64 s.t.g, .int .i64 s.t.o, .int .i64 s.t.b, .int .i64 s.t.h, .int .i64 s.qu, .int .i64 s.tr, .int .i64 s.he, .int .i64 s.po, .slice p1 s.kn.length c1, .slice p2 s.ws.length c2, .slice p3 s.gs.length c3, .slice p4 s.os.length c4] 28)
  generalize hn3 : (s.gs.length : Int) + (wsum s.gs : Int) = N3 at *
  generalize hn4 : (s.os.length : Int) + (bsum s.os : Int) = N4 at *
  have hp3 : 0 ≤ N3 := by omega
  have hp4 : 0 ≤ N4 := by omega
  clear hn3 hn4
  generalize s.kn.length = n1 at *
  generalize s.ws.length = n2 at *
  by_cases h1 : (n1 : Int) ≤ 1048576
  · rw [if_pos h1] at H1
    have f1 : ¬ (1048576 : Int) - (n1 : Int) < 0 := by omega
    have H2 : Hid (∀ W : World, Calls Try.prog 32 #[.slice p2 n2 c2, .int .i64 (1048576 - (n1 : Int))] W fun x w' => x = .returned (.int .i64 (if (n2 : Int) ≤ 1048576 - (n1 : Int) then 1048576 - (n1 : Int) - (n2 : Int) else -1)) ∧ W = w') := G2 (1048576 - (n1 : Int)) (by omega)
    clear G2
    by_cases h2 : (n2 : Int) ≤ 1048576 - (n1 : Int)
    · rw [if_pos h2] at H2
      have f2 : ¬ (1048576 : Int) - (n1 : Int) - (n2 : Int) < 0 := by omega
      have H3 : Hid (∀ W : World, Below w.heap.size w W → Calls Try.prog 33 #[.slice p3 s.gs.length c3, .int .i64 (1048576 - (n1 : Int) - (n2 : Int))] W fun x w' => x = .returned (.int .i64 (if N3 ≤ 1048576 - (n1 : Int) - (n2 : Int) then 1048576 - (n1 : Int) - (n2 : Int) - N3 else -1)) ∧ Below W.heap.size W w') := G3 (1048576 - (n1 : Int) - (n2 : Int)) (by omega)
      clear G3
      by_cases h3 : N3 ≤ 1048576 - (n1 : Int) - (n2 : Int)
      · rw [if_pos h3] at H3
        have f3 : ¬ (1048576 : Int) - (n1 : Int) - (n2 : Int) - N3 < 0 := by omega
        have H4 : Hid (∀ W : World, Below w.heap.size w W → Calls Try.prog 34 #[.slice p4 s.os.length c4, .int .i64 (1048576 - (n1 : Int) - (n2 : Int) - N3)] W fun x w' => x = .returned (.int .i64 (if N4 ≤ 1048576 - (n1 : Int) - (n2 : Int) - N3 then 1048576 - (n1 : Int) - (n2 : Int) - N3 - N4 else -1)) ∧ W = w') := G4 (1048576 - (n1 : Int) - (n2 : Int) - N3) (by omega)
        clear G4
        by_cases h4 : N4 ≤ 1048576 - (n1 : Int) - (n2 : Int) - N3
        · rw [if_pos h4] at H4
          have f4 : ¬ (1048576 : Int) - (n1 : Int) - (n2 : Int) - N3 - N4 < 0 := by omega
          obtain rfl : V = 1048576 - (n1 : Int) - (n2 : Int) - N3 - N4 := by rw [← hV, if_pos (by omega)]; omega
          clear hV h1 h2 h3 h4
          go_enter Try.func9, Try.ntmps9
          go_upto_region 1 with fail
          generalize w.alloc (.cells #[.int .i64 s.ad, .int .i64 s.bo, .int .i64 s.st, .int .i64 s.s.g, .int .i64 s.s.o, .int .i64 s.s.b, .int .i64 s.s.h, .int .i64 s.t.g, .int .i64 s.t.o, .int .i64 s.t.b, .int .i64 s.t.h, .int .i64 s.qu, .int .i64 s.tr, .int .i64 s.he, .int .i64 s.po, .slice p1 n1 c1, .slice p2 n2 c2, .slice p3 s.gs.length c3, .slice p4 s.os.length c4] 28) = A at hA hX ⊢
          have x15 : Hid _ := cellW hX.out 15 _ rfl
          have d15 := x15.out A (Below.refl _ _)
          have x16 : Hid _ := cellW hX.out 16 _ rfl
          have d16 := x16.out A (Below.refl _ _)
          have x17 : Hid _ := cellW hX.out 17 _ rfl
          have d17 := x17.out A (Below.refl _ _)
          have x18 : Hid _ := cellW hX.out 18 _ rfl
          have d18 := x18.out A (Below.refl _ _)
          go_wp2_with (first
    | (have _ := hD1; go_at_call 32; refine (H2.out _).mono ?_; rintro e w2 ⟨rfl, rfl⟩)
    | (go_at_call 32; refine (H1.out _).mono ?_; rintro e w1 ⟨rfl, rfl⟩; have hD1 : Hid True := trivial)
    | (go_at_call 33; refine (H3.out _ hA).mono ?_; rintro e w3 ⟨rfl, hb3⟩; have hB3 : Below w.heap.size w w3 := keepB hA (Nat.le_refl _) hb3; have d18 := x18.out w3 hb3)
    | (go_at_call 34; refine (H4.out _ hB3).mono ?_; rintro e w4 ⟨rfl, rfl⟩))
          go_ret
          exact ⟨rfl, by first | exact hB3 | exact hA⟩
        · rw [if_neg h4] at H4
          obtain rfl : V = -1 := by rw [← hV, if_neg (by omega)]
          clear hV h1 h2 h3 h4
          go_enter Try.func9, Try.ntmps9
          go_upto_region 1 with fail
          generalize w.alloc (.cells #[.int .i64 s.ad, .int .i64 s.bo, .int .i64 s.st, .int .i64 s.s.g, .int .i64 s.s.o, .int .i64 s.s.b, .int .i64 s.s.h, .int .i64 s.t.g, .int .i64 s.t.o, .int .i64 s.t.b, .int .i64 s.t.h, .int .i64 s.qu, .int .i64 s.tr, .int .i64 s.he, .int .i64 s.po, .slice p1 n1 c1, .slice p2 n2 c2, .slice p3 s.gs.length c3, .slice p4 s.os.length c4] 28) = A at hA hX ⊢
          have x15 : Hid _ := cellW hX.out 15 _ rfl
          have d15 := x15.out A (Below.refl _ _)
          have x16 : Hid _ := cellW hX.out 16 _ rfl
          have d16 := x16.out A (Below.refl _ _)
          have x17 : Hid _ := cellW hX.out 17 _ rfl
          have d17 := x17.out A (Below.refl _ _)
          have x18 : Hid _ := cellW hX.out 18 _ rfl
          have d18 := x18.out A (Below.refl _ _)
          go_wp2_with (first
    | (have _ := hD1; go_at_call 32; refine (H2.out _).mono ?_; rintro e w2 ⟨rfl, rfl⟩)
    | (go_at_call 32; refine (H1.out _).mono ?_; rintro e w1 ⟨rfl, rfl⟩; have hD1 : Hid True := trivial)
    | (go_at_call 33; refine (H3.out _ hA).mono ?_; rintro e w3 ⟨rfl, hb3⟩; have hB3 : Below w.heap.size w w3 := keepB hA (Nat.le_refl _) hb3; have d18 := x18.out w3 hb3)
    | (go_at_call 34; refine (H4.out _ hB3).mono ?_; rintro e w4 ⟨rfl, rfl⟩))
          go_ret
          exact ⟨rfl, by first | exact hB3 | exact hA⟩
      · rw [if_neg h3] at H3
        obtain rfl : V = -1 := by rw [← hV, if_neg (by omega)]
        clear hV h1 h2 h3
        go_enter Try.func9, Try.ntmps9
        go_upto_region 1 with fail
        generalize w.alloc (.cells #[.int .i64 s.ad, .int .i64 s.bo, .int .i64 s.st, .int .i64 s.s.g, .int .i64 s.s.o, .int .i64 s.s.b, .int .i64 s.s.h, .int .i64 s.t.g, .int .i64 s.t.o, .int .i64 s.t.b, .int .i64 s.t.h, .int .i64 s.qu, .int .i64 s.tr, .int .i64 s.he, .int .i64 s.po, .slice p1 n1 c1, .slice p2 n2 c2, .slice p3 s.gs.length c3, .slice p4 s.os.length c4] 28) = A at hA hX ⊢
        have x15 : Hid _ := cellW hX.out 15 _ rfl
        have d15 := x15.out A (Below.refl _ _)
        have x16 : Hid _ := cellW hX.out 16 _ rfl
        have d16 := x16.out A (Below.refl _ _)
        have x17 : Hid _ := cellW hX.out 17 _ rfl
        have d17 := x17.out A (Below.refl _ _)
        have x18 : Hid _ := cellW hX.out 18 _ rfl
        have d18 := x18.out A (Below.refl _ _)
        go_wp2_with (first
    | (have _ := hD1; go_at_call 32; refine (H2.out _).mono ?_; rintro e w2 ⟨rfl, rfl⟩)
    | (go_at_call 32; refine (H1.out _).mono ?_; rintro e w1 ⟨rfl, rfl⟩; have hD1 : Hid True := trivial)
    | (go_at_call 33; refine (H3.out _ hA).mono ?_; rintro e w3 ⟨rfl, hb3⟩; have hB3 : Below w.heap.size w w3 := keepB hA (Nat.le_refl _) hb3; have d18 := x18.out w3 hb3)
    | (go_at_call 34; refine (H4.out _ hB3).mono ?_; rintro e w4 ⟨rfl, rfl⟩))
        go_ret
        exact ⟨rfl, by first | exact hB3 | exact hA⟩
    · rw [if_neg h2] at H2
      obtain rfl : V = -1 := by rw [← hV, if_neg (by omega)]
      clear hV h1 h2
      go_enter Try.func9, Try.ntmps9
      go_upto_region 1 with fail
      generalize w.alloc (.cells #[.int .i64 s.ad, .int .i64 s.bo, .int .i64 s.st, .int .i64 s.s.g, .int .i64 s.s.o, .int .i64 s.s.b, .int .i64 s.s.h, .int .i64 s.t.g, .int .i64 s.t.o, .int .i64 s.t.b, .int .i64 s.t.h, .int .i64 s.qu, .int .i64 s.tr, .int .i64 s.he, .int .i64 s.po, .slice p1 n1 c1, .slice p2 n2 c2, .slice p3 s.gs.length c3, .slice p4 s.os.length c4] 28) = A at hA hX ⊢
      have x15 : Hid _ := cellW hX.out 15 _ rfl
      have d15 := x15.out A (Below.refl _ _)
      have x16 : Hid _ := cellW hX.out 16 _ rfl
      have d16 := x16.out A (Below.refl _ _)
      have x17 : Hid _ := cellW hX.out 17 _ rfl
      have d17 := x17.out A (Below.refl _ _)
      have x18 : Hid _ := cellW hX.out 18 _ rfl
      have d18 := x18.out A (Below.refl _ _)
      go_wp2_with (first
    | (have _ := hD1; go_at_call 32; refine (H2.out _).mono ?_; rintro e w2 ⟨rfl, rfl⟩)
    | (go_at_call 32; refine (H1.out _).mono ?_; rintro e w1 ⟨rfl, rfl⟩; have hD1 : Hid True := trivial)
    | (go_at_call 33; refine (H3.out _ hA).mono ?_; rintro e w3 ⟨rfl, hb3⟩; have hB3 : Below w.heap.size w w3 := keepB hA (Nat.le_refl _) hb3; have d18 := x18.out w3 hb3)
    | (go_at_call 34; refine (H4.out _ hB3).mono ?_; rintro e w4 ⟨rfl, rfl⟩))
      go_ret
      exact ⟨rfl, by first | exact hB3 | exact hA⟩
  · rw [if_neg h1] at H1
    obtain rfl : V = -1 := by rw [← hV, if_neg (by omega)]
    clear hV h1
    go_enter Try.func9, Try.ntmps9
    go_upto_region 1 with fail
    generalize w.alloc (.cells #[.int .i64 s.ad, .int .i64 s.bo, .int .i64 s.st, .int .i64 s.s.g, .int .i64 s.s.o, .int .i64 s.s.b, .int .i64 s.s.h, .int .i64 s.t.g, .int .i64 s.t.o, .int .i64 s.t.b, .int .i64 s.t.h, .int .i64 s.qu, .int .i64 s.tr, .int .i64 s.he, .int .i64 s.po, .slice p1 n1 c1, .slice p2 n2 c2, .slice p3 s.gs.length c3, .slice p4 s.os.length c4] 28) = A at hA hX ⊢
    have x15 : Hid _ := cellW hX.out 15 _ rfl
    have d15 := x15.out A (Below.refl _ _)
    have x16 : Hid _ := cellW hX.out 16 _ rfl
    have d16 := x16.out A (Below.refl _ _)
    have x17 : Hid _ := cellW hX.out 17 _ rfl
    have d17 := x17.out A (Below.refl _ _)
    have x18 : Hid _ := cellW hX.out 18 _ rfl
    have d18 := x18.out A (Below.refl _ _)
    go_wp2_with (first
    | (have _ := hD1; go_at_call 32; refine (H2.out _).mono ?_; rintro e w2 ⟨rfl, rfl⟩)
    | (go_at_call 32; refine (H1.out _).mono ?_; rintro e w1 ⟨rfl, rfl⟩; have hD1 : Hid True := trivial)
    | (go_at_call 33; refine (H3.out _ hA).mono ?_; rintro e w3 ⟨rfl, hb3⟩; have hB3 : Below w.heap.size w w3 := keepB hA (Nat.le_refl _) hb3; have d18 := x18.out w3 hb3)
    | (go_at_call 34; refine (H4.out _ hB3).mono ?_; rintro e w4 ⟨rfl, rfl⟩))
    go_ret
    exact ⟨rfl, by first | exact hB3 | exact hA⟩
set_option maxRecDepth 100000 in
set_option maxHeartbeats 6400000 in
theorem eqStation_same (s : Stn) (v1 v2 v3 v4 u1 u2 u3 u4 : Value) (w : World) (hl1 : s.kn.length ≤ 1048576) (hl2 : s.ws.length ≤ 1048576) (hl : s.gs.length ≤ 1048576) (hlw : ∀ g ∈ s.gs, g.2.length ≤ 1048576) (hl4 : s.os.length ≤ 1048576)
    (r1 : RowI w v1 s.kn) (r2 : RowI w v2 s.ws) (r3 : RowG w v3 s.gs) (r4 : RowS w v4 s.os) (t1 : RowI w u1 s.kn) (t2 : RowI w u2 s.ws) (t3 : RowG w u3 s.gs) (t4 : RowS w u4 s.os) :
    Calls Try.prog 13 #[.agg #[.int .i64 s.ad, .int .i64 s.bo, .int .i64 s.st, .int .i64 s.s.g, .int .i64 s.s.o, .int .i64 s.s.b, .int .i64 s.s.h, .int .i64 s.t.g, .int .i64 s.t.o, .int .i64 s.t.b, .int .i64 s.t.h, .int .i64 s.qu, .int .i64 s.tr, .int .i64 s.he, .int .i64 s.po, v1, v2, v3, v4], .agg #[.int .i64 s.ad, .int .i64 s.bo, .int .i64 s.st, .int .i64 s.s.g, .int .i64 s.s.o, .int .i64 s.s.b, .int .i64 s.s.h, .int .i64 s.t.g, .int .i64 s.t.o, .int .i64 s.t.b, .int .i64 s.t.h, .int .i64 s.qu, .int .i64 s.tr, .int .i64 s.he, .int .i64 s.po, u1, u2, u3, u4]] w fun e w' => e = .returned (.bool true) ∧ Below w.heap.size w w' := by
  have e0 : (s.ad != s.ad) = false := by simp
  have e1 : (s.bo != s.bo) = false := by simp
  have e2 : (s.st != s.st) = false := by simp
  have e11 : (s.qu != s.qu) = false := by simp
  have e12 : (s.tr != s.tr) = false := by simp
  have e13 : (s.he != s.he) = false := by simp
  have e14 : (s.po != s.po) = false := by simp
  have HS : Hid (∀ W : World, Calls Try.prog 54 #[.agg #[.int .i64 s.s.g, .int .i64 s.s.o, .int .i64 s.s.b, .int .i64 s.s.h], .agg #[.int .i64 s.s.g, .int .i64 s.s.o, .int .i64 s.s.b, .int .i64 s.s.h]] W fun e w' => e = .returned (.bool true) ∧ Below W.heap.size W w') := fun W => eqStampQ_same s.s W
  have HT : Hid (∀ W : World, Calls Try.prog 54 #[.agg #[.int .i64 s.t.g, .int .i64 s.t.o, .int .i64 s.t.b, .int .i64 s.t.h], .agg #[.int .i64 s.t.g, .int .i64 s.t.o, .int .i64 s.t.b, .int .i64 s.t.h]] W fun e w' => e = .returned (.bool true) ∧ Below W.heap.size W w') := fun W => eqStampQ_same s.t W
  have H1 : Hid (∀ W : World, Below w.heap.size w W → Calls Try.prog 24 #[v1, u1] W fun e w' => e = .returned (.bool true) ∧ Below W.heap.size W w') := fun W hW => eqInt64S_same v1 u1 s.kn W (by omega) (r1.below hW) (t1.below hW)
  have H2 : Hid (∀ W : World, Below w.heap.size w W → Calls Try.prog 24 #[v2, u2] W fun e w' => e = .returned (.bool true) ∧ Below W.heap.size W w') := fun W hW => eqInt64S_same v2 u2 s.ws W (by omega) (r2.below hW) (t2.below hW)
  have H3 : Hid (∀ W : World, Below w.heap.size w W → Calls Try.prog 55 #[v3, u3] W fun e w' => e = .returned (.bool true) ∧ Below W.heap.size W w') := fun W hW => eqGlobS_same v3 u3 s.gs W hl hlw (r3.below hW) (t3.below hW)
  have H4 : Hid (∀ W : World, Below w.heap.size w W → Calls Try.prog 56 #[v4, u4] W fun e w' => e = .returned (.bool true) ∧ Below W.heap.size W w') := fun W hW => eqStringQ_same v4 u4 s.os W hl4 (r4.below hW) (t4.below hW)
  obtain ⟨p1, c1, rfl, _⟩ := r1
  obtain ⟨p2, c2, rfl, _⟩ := r2
  obtain ⟨p3, c3, rfl, _⟩ := r3
  obtain ⟨p4, c4, rfl, _⟩ := r4
  obtain ⟨q1, d1, rfl, _⟩ := t1
  obtain ⟨q2, d2, rfl, _⟩ := t2
  obtain ⟨q3, d3, rfl, _⟩ := t3
  obtain ⟨q4, d4, rfl, _⟩ := t4
  clear hl1 hl2 hl hlw hl4
  have hA : Below w.heap.size w _ := keepB (all_alloc w (.cells #[.int .i64 s.ad, .int .i64 s.bo, .int .i64 s.st, .int .i64 s.s.g, .int .i64 s.s.o, .int .i64 s.s.b, .int .i64 s.s.h, .int .i64 s.t.g, .int .i64 s.t.o, .int .i64 s.t.b, .int .i64 s.t.h, .int .i64 s.qu, .int .i64 s.tr, .int .i64 s.he, .int .i64 s.po, .slice p1 s.kn.length c1, .slice p2 s.ws.length c2, .slice p3 s.gs.length c3, .slice p4 s.os.length c4] 34)) (Nat.le_refl _) (all_alloc _ (.cells #[.int .i64 s.ad, .int .i64 s.bo, .int .i64 s.st, .int .i64 s.s.g, .int .i64 s.s.o, .int .i64 s.s.b, .int .i64 s.s.h, .int .i64 s.t.g, .int .i64 s.t.o, .int .i64 s.t.b, .int .i64 s.t.h, .int .i64 s.qu, .int .i64 s.tr, .int .i64 s.he, .int .i64 s.po, .slice q1 s.kn.length d1, .slice q2 s.ws.length d2, .slice q3 s.gs.length d3, .slice q4 s.os.length d4] 34))
  have hX : Hid _ := blk (heap_alloc_new w (.cells #[.int .i64 s.ad, .int .i64 s.bo, .int .i64 s.st, .int .i64 s.s.g, .int .i64 s.s.o, .int .i64 s.s.b, .int .i64 s.s.h, .int .i64 s.t.g, .int .i64 s.t.o, .int .i64 s.t.b, .int .i64 s.t.h, .int .i64 s.qu, .int .i64 s.tr, .int .i64 s.he, .int .i64 s.po, .slice p1 s.kn.length c1, .slice p2 s.ws.length c2, .slice p3 s.gs.length c3, .slice p4 s.os.length c4] 34)) (all_alloc _ (.cells #[.int .i64 s.ad, .int .i64 s.bo, .int .i64 s.st, .int .i64 s.s.g, .int .i64 s.s.o, .int .i64 s.s.b, .int .i64 s.s.h, .int .i64 s.t.g, .int .i64 s.t.o, .int .i64 s.t.b, .int .i64 s.t.h, .int .i64 s.qu, .int .i64 s.tr, .int .i64 s.he, .int .i64 s.po, .slice q1 s.kn.length d1, .slice q2 s.ws.length d2, .slice q3 s.gs.length d3, .slice q4 s.os.length d4] 34))
  have hY : Hid _ := heap_alloc_new (w.alloc (.cells #[.int .i64 s.ad, .int .i64 s.bo, .int .i64 s.st, .int .i64 s.s.g, .int .i64 s.s.o, .int .i64 s.s.b, .int .i64 s.s.h, .int .i64 s.t.g, .int .i64 s.t.o, .int .i64 s.t.b, .int .i64 s.t.h, .int .i64 s.qu, .int .i64 s.tr, .int .i64 s.he, .int .i64 s.po, .slice p1 s.kn.length c1, .slice p2 s.ws.length c2, .slice p3 s.gs.length c3, .slice p4 s.os.length c4] 34)) (.cells #[.int .i64 s.ad, .int .i64 s.bo, .int .i64 s.st, .int .i64 s.s.g, .int .i64 s.s.o, .int .i64 s.s.b, .int .i64 s.s.h, .int .i64 s.t.g, .int .i64 s.t.o, .int .i64 s.t.b, .int .i64 s.t.h, .int .i64 s.qu, .int .i64 s.tr, .int .i64 s.he, .int .i64 s.po, .slice q1 s.kn.length d1, .slice q2 s.ws.length d2, .slice q3 s.gs.length d3, .slice q4 s.os.length d4] 34)
  rw [show (w.alloc (.cells #[.int .i64 s.ad, .int .i64 s.bo, .int .i64 s.st, .int .i64 s.s.g, .int .i64 s.s.o, .int .i64 s.s.b, .int .i64 s.s.h, .int .i64 s.t.g, .int .i64 s.t.o, .int .i64 s.t.b, .int .i64 s.t.h, .int .i64 s.qu, .int .i64 s.tr, .int .i64 s.he, .int .i64 s.po, .slice p1 s.kn.length c1, .slice p2 s.ws.length c2, .slice p3 s.gs.length c3, .slice p4 s.os.length c4] 34)).heap.size = w.heap.size + 1 by simp] at hY
  go_enter Try.func13, Try.ntmps13
  go_upto_region 1 with fail
  generalize (w.alloc (.cells #[.int .i64 s.ad, .int .i64 s.bo, .int .i64 s.st, .int .i64 s.s.g, .int .i64 s.s.o, .int .i64 s.s.b, .int .i64 s.s.h, .int .i64 s.t.g, .int .i64 s.t.o, .int .i64 s.t.b, .int .i64 s.t.h, .int .i64 s.qu, .int .i64 s.tr, .int .i64 s.he, .int .i64 s.po, .slice p1 s.kn.length c1, .slice p2 s.ws.length c2, .slice p3 s.gs.length c3, .slice p4 s.os.length c4] 34)).alloc (.cells #[.int .i64 s.ad, .int .i64 s.bo, .int .i64 s.st, .int .i64 s.s.g, .int .i64 s.s.o, .int .i64 s.s.b, .int .i64 s.s.h, .int .i64 s.t.g, .int .i64 s.t.o, .int .i64 s.t.b, .int .i64 s.t.h, .int .i64 s.qu, .int .i64 s.tr, .int .i64 s.he, .int .i64 s.po, .slice q1 s.kn.length d1, .slice q2 s.ws.length d2, .slice q3 s.gs.length d3, .slice q4 s.os.length d4] 34) = A at hA hX hY ⊢
  have xa0 : Hid _ := cellW hX.out 0 _ rfl
  have xb0 : Hid _ := cellW hY.out 0 _ rfl
  have xa1 : Hid _ := cellW hX.out 1 _ rfl
  have xb1 : Hid _ := cellW hY.out 1 _ rfl
  have xa2 : Hid _ := cellW hX.out 2 _ rfl
  have xb2 : Hid _ := cellW hY.out 2 _ rfl
  have xa3 : Hid _ := cellW hX.out 3 _ rfl
  have xb3 : Hid _ := cellW hY.out 3 _ rfl
  have xa4 : Hid _ := cellW hX.out 4 _ rfl
  have xb4 : Hid _ := cellW hY.out 4 _ rfl
  have xa5 : Hid _ := cellW hX.out 5 _ rfl
  have xb5 : Hid _ := cellW hY.out 5 _ rfl
  have xa6 : Hid _ := cellW hX.out 6 _ rfl
  have xb6 : Hid _ := cellW hY.out 6 _ rfl
  have xa7 : Hid _ := cellW hX.out 7 _ rfl
  have xb7 : Hid _ := cellW hY.out 7 _ rfl
  have xa8 : Hid _ := cellW hX.out 8 _ rfl
  have xb8 : Hid _ := cellW hY.out 8 _ rfl
  have xa9 : Hid _ := cellW hX.out 9 _ rfl
  have xb9 : Hid _ := cellW hY.out 9 _ rfl
  have xa10 : Hid _ := cellW hX.out 10 _ rfl
  have xb10 : Hid _ := cellW hY.out 10 _ rfl
  have xa11 : Hid _ := cellW hX.out 11 _ rfl
  have xb11 : Hid _ := cellW hY.out 11 _ rfl
  have xa12 : Hid _ := cellW hX.out 12 _ rfl
  have xb12 : Hid _ := cellW hY.out 12 _ rfl
  have xa13 : Hid _ := cellW hX.out 13 _ rfl
  have xb13 : Hid _ := cellW hY.out 13 _ rfl
  have xa14 : Hid _ := cellW hX.out 14 _ rfl
  have xb14 : Hid _ := cellW hY.out 14 _ rfl
  have xa15 : Hid _ := cellW hX.out 15 _ rfl
  have xb15 : Hid _ := cellW hY.out 15 _ rfl
  have xa16 : Hid _ := cellW hX.out 16 _ rfl
  have xb16 : Hid _ := cellW hY.out 16 _ rfl
  have xa17 : Hid _ := cellW hX.out 17 _ rfl
  have xb17 : Hid _ := cellW hY.out 17 _ rfl
  have xa18 : Hid _ := cellW hX.out 18 _ rfl
  have xb18 : Hid _ := cellW hY.out 18 _ rfl
  have a0 := xa0.out A (Below.refl _ _)
  have b0 := xb0.out A (Below.refl _ _)
  have a1 := xa1.out A (Below.refl _ _)
  have b1 := xb1.out A (Below.refl _ _)
  have a2 := xa2.out A (Below.refl _ _)
  have b2 := xb2.out A (Below.refl _ _)
  have a3 := xa3.out A (Below.refl _ _)
  have b3 := xb3.out A (Below.refl _ _)
  have a4 := xa4.out A (Below.refl _ _)
  have b4 := xb4.out A (Below.refl _ _)
  have a5 := xa5.out A (Below.refl _ _)
  have b5 := xb5.out A (Below.refl _ _)
  have a6 := xa6.out A (Below.refl _ _)
  have b6 := xb6.out A (Below.refl _ _)
  go_wp2_with (first
    | (have _ := hB1; go_at_call 54; refine (HT.out _).mono ?_; rintro e w2 ⟨rfl, hb2⟩; have hB2 := keepB hB1 (Nat.le_refl _) hb2; have hW2 := keepB hA (Nat.le_refl _) hB2; clear hB1; have a11_w2 := xa11.out w2 hB2; have b11_w2 := xb11.out w2 hB2; have a12_w2 := xa12.out w2 hB2; have b12_w2 := xb12.out w2 hB2; have a13_w2 := xa13.out w2 hB2; have b13_w2 := xb13.out w2 hB2; have a14_w2 := xa14.out w2 hB2; have b14_w2 := xb14.out w2 hB2; have a15_w2 := xa15.out w2 hB2; have b15_w2 := xb15.out w2 hB2)
    | (have _ := hD1; go_at_call 24; refine (H2.out _ hW3).mono ?_; rintro e w4 ⟨rfl, hb4⟩; have hB4 := keepB hB3 (Nat.le_refl _) hb4; have hW4 := keepB hA (Nat.le_refl _) hB4; have a17_w4 := xa17.out w4 hB4; have b17_w4 := xb17.out w4 hB4)
    | (go_at_call 54; refine (HS.out _).mono ?_; rintro e w1 ⟨rfl, hb1⟩; have hB1 : Below A.heap.size A w1 := hb1; have a7_w1 := xa7.out w1 hB1; have b7_w1 := xb7.out w1 hB1; have a8_w1 := xa8.out w1 hB1; have b8_w1 := xb8.out w1 hB1; have a9_w1 := xa9.out w1 hB1; have b9_w1 := xb9.out w1 hB1; have a10_w1 := xa10.out w1 hB1; have b10_w1 := xb10.out w1 hB1)
    | (go_at_call 24; refine (H1.out _ hW2).mono ?_; rintro e w3 ⟨rfl, hb3⟩; have hB3 := keepB hB2 (Nat.le_refl _) hb3; have hW3 := keepB hA (Nat.le_refl _) hB3; have hD1 : Hid True := trivial; have a16_w3 := xa16.out w3 hB3; have b16_w3 := xb16.out w3 hB3)
    | (go_at_call 55; refine (H3.out _ hW4).mono ?_; rintro e w5 ⟨rfl, hb5⟩; have hB5 := keepB hB4 (Nat.le_refl _) hb5; have hW5 := keepB hA (Nat.le_refl _) hB5; have a18_w5 := xa18.out w5 hB5; have b18_w5 := xb18.out w5 hB5)
    | (go_at_call 56; refine (H4.out _ hW5).mono ?_; rintro e w6 ⟨rfl, hb6⟩; have hB6 := keepB hB5 (Nat.le_refl _) hb6; have hW6 := keepB hA (Nat.le_refl _) hB6))
  go_ret
  exact ⟨rfl, hW6⟩
end Go.Proofs.Ytancfnpmbddfoaa
