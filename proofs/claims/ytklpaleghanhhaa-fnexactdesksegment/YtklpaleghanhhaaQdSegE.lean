/- A SEGMENT: the law's question whether two are the same. Written by mksege.py. -/
import Derived.Test.YtklpaleghanhhaaQdSegX
import Derived.Test.YtklpaleghanhhaaQdStnQ
import Derived.Test.YtklpaleghanhhaaQdTail
import Derived.Deep.DeepCutAuto
import Derived.Deep.RegionHeld3
namespace Go
theorem Proofs.Ytklpaleghanhhaa.exec_load_mid {P : Program} {o : Oper} {a : Act} {w : World} (ty : TypeId) (x : Operand) (ho : o.op = .load ty x)
    (b f : Nat) (hx : a.eval x = .pointer (some ⟨b, f, none⟩)) (cs : List Value) (d : TypeDesc) (hc : w.rangeAt b f cs)
    (hu : P.underlying ty = some d) (hd : d.isRow = true) (hi : (P.info? ty).map (·.size) = some cs.length) :
    (execOp a.eval o).run P w = .ok (.value (.agg cs.toArray)) w := by
  unfold execOp
  simp only [ho, hx, Instr.loadAt, Instr.sureAddr, Sem.run_bind, Sem.run_pure, Result.andThen_ok, run_loadVar_mid w b f ty cs d hc hu hd hi]
end Go
namespace Go.Proofs.Ytklpaleghanhhaa
open Go.RowKit
set_option linter.unusedVariables false
set_option linter.unusedSimpArgs false

theorem RowSt.at {w : World} {v : Value} {ss : List Stn} (h : RowSt w v ss) (k : Nat) (hk : k < ss.length) : ∃ g c u, v = .slice (some ⟨g, 0, none⟩) ss.length c ∧ (∀ W, Below w.heap.size w W → W.rangeAt g (k * 19) (stC ss[k] u)) ∧ RowI w u.a ss[k].kn ∧ RowI w u.b ss[k].ws ∧ RowG w u.c ss[k].gs ∧ RowS w u.d ss[k].os := by
  obtain ⟨p, c, rfl, h⟩ := h
  obtain ⟨g, u, rfl, hl, q, r⟩ := h k hk
  exact ⟨g, c, u, rfl, fun W hW => range_below q hl hW, r⟩
theorem RowBo.at {w : World} {v : Value} {us : List Bool} (h : RowBo w v us) (k : Nat) (hk : k < us.length) : ∃ g c, v = .slice (some ⟨g, 0, none⟩) us.length c ∧ (∀ W, Below w.heap.size w W → W.cell? ⟨g, k, none⟩ = some (.bool us[k])) := by
  obtain ⟨p, c, rfl, h⟩ := h
  obtain ⟨g, rfl, hl, q⟩ := h k hk
  exact ⟨g, c, rfl, fun W hW => (hW.cell (p := ⟨g, k, none⟩) hl).trans q⟩
theorem RowN.at {w : World} {v : Value} {ns : List Nt} (h : RowN w v ns) (k : Nat) (hk : k < ns.length) : ∃ g c, v = .slice (some ⟨g, 0, none⟩) ns.length c ∧ (∀ W, Below w.heap.size w W → W.rangeAt g (k * 3) (ntC ns[k])) := by
  obtain ⟨p, c, rfl, h⟩ := h
  obtain ⟨g, rfl, hl, q1, q2, q3⟩ := h k hk
  refine ⟨g, c, rfl, fun W hW => range_below (fun j v hv => ?_) hl hW⟩
  match j, hv with
  | 0, hv => cases hv; exact q1
  | 1, hv => cases hv; exact q2
  | 2, hv => cases hv; exact q3
  | j + 3, hv => simp [ntC] at hv
set_option maxRecDepth 100000 in
set_option maxHeartbeats 1600000 in
theorem eqStationS_same (v1 v2 : Value) (ss : List Stn) (w : World) (hl : ss.length ≤ 1048576) (ht : ∀ s ∈ ss, s.tot ≤ 1048576) (h1 : RowSt w v1 ss) (h2 : RowSt w v2 ss) :
    Calls Try.prog 57 #[v1, v2] w fun e w' => e = .returned (.bool true) ∧ Below w.heap.size w w' := by
  have e0 : ((ss.length : Int) != (ss.length : Int)) = false := by simp
  have H1 : Hid (∀ W, Below w.heap.size w W → RowSt W v1 ss) := fun W hW => h1.below hW
  have H2 : Hid (∀ W, Below w.heap.size w W → RowSt W v2 ss) := fun W hW => h2.below hW
  have HT : Hid _ := ht
  obtain ⟨p1, c1, rfl, _⟩ := h1
  obtain ⟨p2, c2, rfl, _⟩ := h2
  clear ht
  go_enter Try.func57, Try.ntmps57
  go_wp2
  go_loopw [5] (fun i wr => ∃ k : Nat, k ≤ ss.length ∧ i = .int .i64 k ∧ Below w.heap.size w wr) (fun i _ => ss.length - (intOf i).toNat)
  case atStart => exact ⟨0, Nat.zero_le _, rfl, Below.refl _ _⟩
  case round =>
    obtain ⟨k, hk, rfl, hbel⟩ := hrel
    by_cases hlt : k < ss.length
    · obtain ⟨g1, d1, u1, e1, q1, a1, a2, a3, a4⟩ := (H1.out wr hbel).at k hlt
      obtain ⟨g2, d2, u2, e2, q2, b1, b2, b3, b4⟩ := (H2.out wr hbel).at k hlt
      cases e1
      cases e2
      have htot := HT.out ss[k] (List.getElem_mem hlt)
      have HC : Hid (∀ W, Below wr.heap.size wr W → Calls Try.prog 101 #[.agg (stC ss[k] u1).toArray, .agg (stC ss[k] u2).toArray] W fun x w' => x = .returned (.bool true) ∧ Below W.heap.size W w') := fun W hW =>
        eqStation_same ss[k] u1.a u1.b u1.c u1.d u2.a u2.b u2.c u2.d W (by unfold Stn.tot at htot; omega) (by unfold Stn.tot at htot; omega) (by unfold Stn.tot at htot; omega) (fun g hg => by have := wsum_each hg; unfold Stn.tot at htot; omega) (by unfold Stn.tot at htot; omega) (a1.below hW) (a2.below hW) (a3.below hW) (a4.below hW) (b1.below hW) (b2.below hW) (b3.below hW) (b4.below hW)
      have Q1 : Hid _ := q1
      have Q2 : Hid _ := q2
      clear a1 a2 a3 a4 b1 b2 b3 b4 htot q1 q2
      generalize ss[k] = s at HC Q1 Q2
      have hR : Below wr.heap.size wr wr.drew := Below.drew (Below.refl _ _)
      go_upto_region 6 with fail
      refine wp_region_held_drew (S := (fun w' => Below wr.heap.size wr w')) (by kernel_rfl) ?_ (fun hHeld => ?_)
      · (try dsimp only); exact hR
      refine yieldH (i := 0) (v := ?_) rfl (by kernel_rfl) (by kernel_rfl) (by kernel_rfl) (fun _ _ _ h => h) (by rfl) ?_ (by assumption) ?_; rotate_left
      · intro w hSw; (try dsimp only at hSw); go_simp; (try with_reducible rfl)
      try simp only [Act.put, List.setIfInBounds_toArray, List.set_cons_zero, List.set_cons_succ, List.getElem_toArray, List.getElem_cons_succ, List.getElem_cons_zero]
      refine yieldH (i := 1) (v := ?_) rfl (by kernel_rfl) (by kernel_rfl) (by kernel_rfl) (fun _ _ _ h => h) (by rfl) ?_ (by assumption) ?_; rotate_left
      · intro w hSw; (try dsimp only at hSw); go_simp; (try with_reducible rfl)
      try simp only [Act.put, List.setIfInBounds_toArray, List.set_cons_zero, List.set_cons_succ, List.getElem_toArray, List.getElem_cons_succ, List.getElem_cons_zero]
      refine yieldH (i := 2) (v := ?_) rfl (by kernel_rfl) (by kernel_rfl) (by kernel_rfl) (fun _ _ _ h => h) (by rfl) ?_ (by assumption) ?_; rotate_left
      · intro w hSw; (try dsimp only at hSw); go_simp; (try with_reducible rfl)
      try simp only [Act.put, List.setIfInBounds_toArray, List.set_cons_zero, List.set_cons_succ, List.getElem_toArray, List.getElem_cons_succ, List.getElem_cons_zero]
      refine yieldH (i := 3) (v := .agg (stC s u1).toArray) rfl (by kernel_rfl) (by kernel_rfl) (by kernel_rfl) (fun _ _ _ h => h) (by rfl) (fun W hW => exec_load_mid 135 (.tmp 19) rfl g1 (k * 19) rfl (stC s u1) _ (Q1.out W hW) Try.underlying135 rfl (by kernel_rfl)) (by assumption) ?_
      try simp only [Act.put, List.setIfInBounds_toArray, List.set_cons_zero, List.set_cons_succ, List.getElem_toArray, List.getElem_cons_succ, List.getElem_cons_zero]
      refine yieldH (i := 4) (v := ?_) rfl (by kernel_rfl) (by kernel_rfl) (by kernel_rfl) (fun _ _ _ h => h) (by rfl) ?_ (by assumption) ?_; rotate_left
      · intro w hSw; (try dsimp only at hSw); go_simp; (try with_reducible rfl)
      try simp only [Act.put, List.setIfInBounds_toArray, List.set_cons_zero, List.set_cons_succ, List.getElem_toArray, List.getElem_cons_succ, List.getElem_cons_zero]
      refine yieldH (i := 5) (v := ?_) rfl (by kernel_rfl) (by kernel_rfl) (by kernel_rfl) (fun _ _ _ h => h) (by rfl) ?_ (by assumption) ?_; rotate_left
      · intro w hSw; (try dsimp only at hSw); go_simp; (try with_reducible rfl)
      try simp only [Act.put, List.setIfInBounds_toArray, List.set_cons_zero, List.set_cons_succ, List.getElem_toArray, List.getElem_cons_succ, List.getElem_cons_zero]
      refine yieldH (i := 6) (v := ?_) rfl (by kernel_rfl) (by kernel_rfl) (by kernel_rfl) (fun _ _ _ h => h) (by rfl) ?_ (by assumption) ?_; rotate_left
      · intro w hSw; (try dsimp only at hSw); go_simp; (try with_reducible rfl)
      try simp only [Act.put, List.setIfInBounds_toArray, List.set_cons_zero, List.set_cons_succ, List.getElem_toArray, List.getElem_cons_succ, List.getElem_cons_zero]
      refine yieldH (i := 7) (v := .agg (stC s u2).toArray) rfl (by kernel_rfl) (by kernel_rfl) (by kernel_rfl) (fun _ _ _ h => h) (by rfl) (fun W hW => exec_load_mid 135 (.tmp 23) rfl g2 (k * 19) rfl (stC s u2) _ (Q2.out W hW) Try.underlying135 rfl (by kernel_rfl)) (by assumption) ?_
      try simp only [Act.put, List.setIfInBounds_toArray, List.set_cons_zero, List.set_cons_succ, List.getElem_toArray, List.getElem_cons_succ, List.getElem_cons_zero]
      refine wpAnyH_ready (rs := [8]) (by kernel_rfl) (by simp) ?_
      refine AllReadyH.cons rfl (fun K hK => ?_) AllReadyH.nil
      go_simp
      go_at_call 101; refine (HC.out _ hR).mono ?_; rintro e2 w2 ⟨rfl, hb2⟩; have s2 : Below wr.heap.size wr w2 := keepB hR (Nat.le_refl _) hb2
      dsimp only
      refine hK.out _ _ ?_ (fun hHeld => ?_)
      · (try dsimp only); exact s2
      clear hK K
      try simp only [Act.put, List.setIfInBounds_toArray, List.set_cons_zero, List.set_cons_succ, List.getElem_toArray, List.getElem_cons_succ, List.getElem_cons_zero]
      refine yieldH (i := 9) (v := ?_) rfl (by kernel_rfl) (by kernel_rfl) (by kernel_rfl) (fun _ _ _ h => h) (by rfl) ?_ (by assumption) ?_; rotate_left
      · intro w hSw; (try dsimp only at hSw); go_simp; (try with_reducible rfl)
      try simp only [Act.put, List.setIfInBounds_toArray, List.set_cons_zero, List.set_cons_succ, List.getElem_toArray, List.getElem_cons_succ, List.getElem_cons_zero]
      refine wpAnyH_done (by kernel_rfl) ?_ _
      go_wp2
      go_roundw
      case rel => exact ⟨k + 1, by omega, by go_num, keepB hbel (Nat.le_refl _) s2⟩
      case measure => simp [intOf]; omega
    · go_wp2
      go_ret
      exact ⟨rfl, hbel⟩
set_option maxRecDepth 100000 in
set_option maxHeartbeats 1600000 in
theorem eqBoolS_same (v1 v2 : Value) (us : List Bool) (w : World) (hl : us.length ≤ 1048576) (h1 : RowBo w v1 us) (h2 : RowBo w v2 us) :
    Calls Try.prog 58 #[v1, v2] w fun e w' => e = .returned (.bool true) ∧ Below w.heap.size w w' := by
  have e0 : ((us.length : Int) != (us.length : Int)) = false := by simp
  have H1 : Hid (∀ W, Below w.heap.size w W → RowBo W v1 us) := fun W hW => h1.below hW
  have H2 : Hid (∀ W, Below w.heap.size w W → RowBo W v2 us) := fun W hW => h2.below hW
  obtain ⟨p1, c1, rfl, _⟩ := h1
  obtain ⟨p2, c2, rfl, _⟩ := h2
  go_enter Try.func58, Try.ntmps58
  go_wp2
  go_loopw [5] (fun i wr => ∃ k : Nat, k ≤ us.length ∧ i = .int .i64 k ∧ Below w.heap.size w wr) (fun i _ => us.length - (intOf i).toNat)
  case atStart => exact ⟨0, Nat.zero_le _, rfl, Below.refl _ _⟩
  case round =>
    obtain ⟨k, hk, rfl, hbel⟩ := hrel
    by_cases hlt : k < us.length
    · obtain ⟨g1, d1, e1, q1⟩ := (H1.out wr hbel).at k hlt
      obtain ⟨g2, d2, e2, q2⟩ := (H2.out wr hbel).at k hlt
      cases e1
      cases e2
      generalize us[k] = z at q1 q2
      have hz : (z != z) = false := by cases z <;> rfl
      have Q1 : Hid _ := q1
      have Q2 : Hid _ := q2
      clear q1 q2
      have hR : Below wr.heap.size wr wr.drew := Below.drew (Below.refl _ _)
      go_upto_region 6 with fail
      refine wp_region_held_drew (S := (fun w' => Below wr.heap.size wr w')) (by kernel_rfl) ?_ (fun hHeld => ?_)
      · (try dsimp only); exact hR
      refine yieldH (i := 0) (v := ?_) rfl (by kernel_rfl) (by kernel_rfl) (by kernel_rfl) (fun _ _ _ h => h) (by rfl) ?_ (by assumption) ?_; rotate_left
      · intro w hSw; (try dsimp only at hSw); go_simp; (try with_reducible rfl)
      try simp only [Act.put, List.setIfInBounds_toArray, List.set_cons_zero, List.set_cons_succ, List.getElem_toArray, List.getElem_cons_succ, List.getElem_cons_zero]
      refine yieldH (i := 1) (v := ?_) rfl (by kernel_rfl) (by kernel_rfl) (by kernel_rfl) (fun _ _ _ h => h) (by rfl) ?_ (by assumption) ?_; rotate_left
      · intro w hSw; (try dsimp only at hSw); go_simp; (try with_reducible rfl)
      try simp only [Act.put, List.setIfInBounds_toArray, List.set_cons_zero, List.set_cons_succ, List.getElem_toArray, List.getElem_cons_succ, List.getElem_cons_zero]
      refine yieldH (i := 2) (v := ?_) rfl (by kernel_rfl) (by kernel_rfl) (by kernel_rfl) (fun _ _ _ h => h) (by rfl) ?_ (by assumption) ?_; rotate_left
      · intro w hSw; (try dsimp only at hSw); go_simp; (try with_reducible rfl)
      try simp only [Act.put, List.setIfInBounds_toArray, List.set_cons_zero, List.set_cons_succ, List.getElem_toArray, List.getElem_cons_succ, List.getElem_cons_zero]
      refine yieldH (i := 3) (v := .bool z) rfl (by kernel_rfl) (by kernel_rfl) (by kernel_rfl) (fun _ _ _ h => h) (by rfl) ?_ (by assumption) ?_
      · intro w hSw; have y := Q1.out w hSw; go_simp
      try simp only [Act.put, List.setIfInBounds_toArray, List.set_cons_zero, List.set_cons_succ, List.getElem_toArray, List.getElem_cons_succ, List.getElem_cons_zero]
      refine yieldH (i := 4) (v := ?_) rfl (by kernel_rfl) (by kernel_rfl) (by kernel_rfl) (fun _ _ _ h => h) (by rfl) ?_ (by assumption) ?_; rotate_left
      · intro w hSw; (try dsimp only at hSw); go_simp; (try with_reducible rfl)
      try simp only [Act.put, List.setIfInBounds_toArray, List.set_cons_zero, List.set_cons_succ, List.getElem_toArray, List.getElem_cons_succ, List.getElem_cons_zero]
      refine yieldH (i := 5) (v := ?_) rfl (by kernel_rfl) (by kernel_rfl) (by kernel_rfl) (fun _ _ _ h => h) (by rfl) ?_ (by assumption) ?_; rotate_left
      · intro w hSw; (try dsimp only at hSw); go_simp; (try with_reducible rfl)
      try simp only [Act.put, List.setIfInBounds_toArray, List.set_cons_zero, List.set_cons_succ, List.getElem_toArray, List.getElem_cons_succ, List.getElem_cons_zero]
      refine yieldH (i := 6) (v := ?_) rfl (by kernel_rfl) (by kernel_rfl) (by kernel_rfl) (fun _ _ _ h => h) (by rfl) ?_ (by assumption) ?_; rotate_left
      · intro w hSw; (try dsimp only at hSw); go_simp; (try with_reducible rfl)
      try simp only [Act.put, List.setIfInBounds_toArray, List.set_cons_zero, List.set_cons_succ, List.getElem_toArray, List.getElem_cons_succ, List.getElem_cons_zero]
      refine yieldH (i := 7) (v := .bool z) rfl (by kernel_rfl) (by kernel_rfl) (by kernel_rfl) (fun _ _ _ h => h) (by rfl) ?_ (by assumption) ?_
      · intro w hSw; have y := Q2.out w hSw; go_simp
      try simp only [Act.put, List.setIfInBounds_toArray, List.set_cons_zero, List.set_cons_succ, List.getElem_toArray, List.getElem_cons_succ, List.getElem_cons_zero]
      refine yieldH (i := 8) (v := ?_) rfl (by kernel_rfl) (by kernel_rfl) (by kernel_rfl) (fun _ _ _ h => h) (by rfl) ?_ (by assumption) ?_; rotate_left
      · intro w hSw; (try dsimp only at hSw); go_simp; (try with_reducible rfl)
      try simp only [Act.put, List.setIfInBounds_toArray, List.set_cons_zero, List.set_cons_succ, List.getElem_toArray, List.getElem_cons_succ, List.getElem_cons_zero]
      refine wpAnyH_done (by kernel_rfl) ?_ _
      go_wp2
      go_roundw
      case rel => exact ⟨k + 1, by omega, by go_num, keepB hbel (Nat.le_refl _) hR⟩
      case measure => simp [intOf]; omega
    · go_wp2
      go_ret
      exact ⟨rfl, hbel⟩
set_option maxRecDepth 100000 in
set_option maxHeartbeats 1600000 in
theorem eqNote_same (n : Nt) (w : World) :
    Calls Try.prog 102 #[.agg (ntC n).toArray, .agg (ntC n).toArray] w fun x w' => x = .returned (.bool true) ∧ Below w.heap.size w w' := by
  obtain ⟨f, t, b⟩ := n
  have e0 : (f != f) = false := by simp
  have e1 : (t != t) = false := by simp
  have hA0 : Hid (Below w.heap.size w _) := keepB (all_alloc w (.cells #[.int .i64 f, .int .i64 t, .string b] 149)) (Nat.le_refl _) (all_alloc _ (.cells #[.int .i64 f, .int .i64 t, .string b] 149))
  show Calls Try.prog 102 #[.agg #[.int .i64 f, .int .i64 t, .string b], .agg #[.int .i64 f, .int .i64 t, .string b]] w _
  go_enter Try.func102, Try.ntmps102
  go_wp2
  go_ret
  exact ⟨rfl, hA0.out⟩
set_option maxRecDepth 100000 in
set_option maxHeartbeats 1600000 in
theorem eqNoteS_same (v1 v2 : Value) (ns : List Nt) (w : World) (hl : ns.length ≤ 1048576) (h1 : RowN w v1 ns) (h2 : RowN w v2 ns) :
    Calls Try.prog 59 #[v1, v2] w fun e w' => e = .returned (.bool true) ∧ Below w.heap.size w w' := by
  have e0 : ((ns.length : Int) != (ns.length : Int)) = false := by simp
  have H1 : Hid (∀ W, Below w.heap.size w W → RowN W v1 ns) := fun W hW => h1.below hW
  have H2 : Hid (∀ W, Below w.heap.size w W → RowN W v2 ns) := fun W hW => h2.below hW
  obtain ⟨p1, c1, rfl, _⟩ := h1
  obtain ⟨p2, c2, rfl, _⟩ := h2
  go_enter Try.func59, Try.ntmps59
  go_wp2
  go_loopw [5] (fun i wr => ∃ k : Nat, k ≤ ns.length ∧ i = .int .i64 k ∧ Below w.heap.size w wr) (fun i _ => ns.length - (intOf i).toNat)
  case atStart => exact ⟨0, Nat.zero_le _, rfl, Below.refl _ _⟩
  case round =>
    obtain ⟨k, hk, rfl, hbel⟩ := hrel
    by_cases hlt : k < ns.length
    · obtain ⟨g1, d1, e1, q1⟩ := (H1.out wr hbel).at k hlt
      obtain ⟨g2, d2, e2, q2⟩ := (H2.out wr hbel).at k hlt
      cases e1
      cases e2
      have HC : Hid (∀ W : World, Calls Try.prog 102 #[.agg (ntC ns[k]).toArray, .agg (ntC ns[k]).toArray] W fun x w' => x = .returned (.bool true) ∧ Below W.heap.size W w') := fun W => eqNote_same ns[k] W
      have Q1 : Hid _ := q1
      have Q2 : Hid _ := q2
      clear q1 q2
      generalize ns[k] = s at HC Q1 Q2
      have hR : Below wr.heap.size wr wr.drew := Below.drew (Below.refl _ _)
      go_upto_region 6 with fail
      refine wp_region_held_drew (S := (fun w' => Below wr.heap.size wr w')) (by kernel_rfl) ?_ (fun hHeld => ?_)
      · (try dsimp only); exact hR
      refine yieldH (i := 0) (v := ?_) rfl (by kernel_rfl) (by kernel_rfl) (by kernel_rfl) (fun _ _ _ h => h) (by rfl) ?_ (by assumption) ?_; rotate_left
      · intro w hSw; (try dsimp only at hSw); go_simp; (try with_reducible rfl)
      try simp only [Act.put, List.setIfInBounds_toArray, List.set_cons_zero, List.set_cons_succ, List.getElem_toArray, List.getElem_cons_succ, List.getElem_cons_zero]
      refine yieldH (i := 1) (v := ?_) rfl (by kernel_rfl) (by kernel_rfl) (by kernel_rfl) (fun _ _ _ h => h) (by rfl) ?_ (by assumption) ?_; rotate_left
      · intro w hSw; (try dsimp only at hSw); go_simp; (try with_reducible rfl)
      try simp only [Act.put, List.setIfInBounds_toArray, List.set_cons_zero, List.set_cons_succ, List.getElem_toArray, List.getElem_cons_succ, List.getElem_cons_zero]
      refine yieldH (i := 2) (v := ?_) rfl (by kernel_rfl) (by kernel_rfl) (by kernel_rfl) (fun _ _ _ h => h) (by rfl) ?_ (by assumption) ?_; rotate_left
      · intro w hSw; (try dsimp only at hSw); go_simp; (try with_reducible rfl)
      try simp only [Act.put, List.setIfInBounds_toArray, List.set_cons_zero, List.set_cons_succ, List.getElem_toArray, List.getElem_cons_succ, List.getElem_cons_zero]
      refine yieldH (i := 3) (v := .agg (ntC s).toArray) rfl (by kernel_rfl) (by kernel_rfl) (by kernel_rfl) (fun _ _ _ h => h) (by rfl) (fun W hW => exec_load_mid 149 (.tmp 19) rfl g1 (k * 3) rfl (ntC s) _ (Q1.out W hW) Try.underlying149 rfl (by kernel_rfl)) (by assumption) ?_
      try simp only [Act.put, List.setIfInBounds_toArray, List.set_cons_zero, List.set_cons_succ, List.getElem_toArray, List.getElem_cons_succ, List.getElem_cons_zero]
      refine yieldH (i := 4) (v := ?_) rfl (by kernel_rfl) (by kernel_rfl) (by kernel_rfl) (fun _ _ _ h => h) (by rfl) ?_ (by assumption) ?_; rotate_left
      · intro w hSw; (try dsimp only at hSw); go_simp; (try with_reducible rfl)
      try simp only [Act.put, List.setIfInBounds_toArray, List.set_cons_zero, List.set_cons_succ, List.getElem_toArray, List.getElem_cons_succ, List.getElem_cons_zero]
      refine yieldH (i := 5) (v := ?_) rfl (by kernel_rfl) (by kernel_rfl) (by kernel_rfl) (fun _ _ _ h => h) (by rfl) ?_ (by assumption) ?_; rotate_left
      · intro w hSw; (try dsimp only at hSw); go_simp; (try with_reducible rfl)
      try simp only [Act.put, List.setIfInBounds_toArray, List.set_cons_zero, List.set_cons_succ, List.getElem_toArray, List.getElem_cons_succ, List.getElem_cons_zero]
      refine yieldH (i := 6) (v := ?_) rfl (by kernel_rfl) (by kernel_rfl) (by kernel_rfl) (fun _ _ _ h => h) (by rfl) ?_ (by assumption) ?_; rotate_left
      · intro w hSw; (try dsimp only at hSw); go_simp; (try with_reducible rfl)
      try simp only [Act.put, List.setIfInBounds_toArray, List.set_cons_zero, List.set_cons_succ, List.getElem_toArray, List.getElem_cons_succ, List.getElem_cons_zero]
      refine yieldH (i := 7) (v := .agg (ntC s).toArray) rfl (by kernel_rfl) (by kernel_rfl) (by kernel_rfl) (fun _ _ _ h => h) (by rfl) (fun W hW => exec_load_mid 149 (.tmp 23) rfl g2 (k * 3) rfl (ntC s) _ (Q2.out W hW) Try.underlying149 rfl (by kernel_rfl)) (by assumption) ?_
      try simp only [Act.put, List.setIfInBounds_toArray, List.set_cons_zero, List.set_cons_succ, List.getElem_toArray, List.getElem_cons_succ, List.getElem_cons_zero]
      refine wpAnyH_ready (rs := [8]) (by kernel_rfl) (by simp) ?_
      refine AllReadyH.cons rfl (fun K hK => ?_) AllReadyH.nil
      go_simp
      go_at_call 102; refine (HC.out _).mono ?_; rintro e2 w2 ⟨rfl, hb2⟩; have s2 : Below wr.heap.size wr w2 := keepB hR (Nat.le_refl _) hb2
      dsimp only
      refine hK.out _ _ ?_ (fun hHeld => ?_)
      · (try dsimp only); exact s2
      clear hK K
      try simp only [Act.put, List.setIfInBounds_toArray, List.set_cons_zero, List.set_cons_succ, List.getElem_toArray, List.getElem_cons_succ, List.getElem_cons_zero]
      refine yieldH (i := 9) (v := ?_) rfl (by kernel_rfl) (by kernel_rfl) (by kernel_rfl) (fun _ _ _ h => h) (by rfl) ?_ (by assumption) ?_; rotate_left
      · intro w hSw; (try dsimp only at hSw); go_simp; (try with_reducible rfl)
      try simp only [Act.put, List.setIfInBounds_toArray, List.set_cons_zero, List.set_cons_succ, List.getElem_toArray, List.getElem_cons_succ, List.getElem_cons_zero]
      refine wpAnyH_done (by kernel_rfl) ?_ _
      go_wp2
      go_roundw
      case rel => exact ⟨k + 1, by omega, by go_num, keepB hbel (Nat.le_refl _) s2⟩
      case measure => simp [intOf]; omega
    · go_wp2
      go_ret
      exact ⟨rfl, hbel⟩
/-- a segment's three lists in memory, to be read -/
structure RowSeg (w : World) (v1 v2 v3 : Value) (s : Seg) : Prop where
  st : RowSt w v1 s.ss
  up : RowBo w v2 s.us
  got : RowN w v3 s.ns
theorem RowSeg.below {w w' : World} {v1 v2 v3 : Value} {s : Seg} (h : RowSeg w v1 v2 v3 s) (hb : Below w.heap.size w w') : RowSeg w' v1 v2 v3 s := ⟨h.st.below hb, h.up.below hb, h.got.below hb⟩
set_option maxRecDepth 100000 in
set_option maxHeartbeats 3200000 in
theorem eqSegment_same (s : Seg) (v1 v2 v3 u1 u2 u3 : Value) (w : World) (ht : s.tot ≤ 1048576) (h1 : RowSeg w v1 v2 v3 s) (h2 : RowSeg w u1 u2 u3 s) :
    Calls Try.prog 22 #[.agg #[v1, v2, v3], .agg #[u1, u2, u3]] w fun e w' => e = .returned (.bool true) ∧ Below w.heap.size w w' := by
  have p1 := ssum_pos s.ss
  have p3 := nsum_pos s.ns
  have hb : s.ss.length ≤ 1048576 ∧ s.us.length ≤ 1048576 ∧ s.ns.length ≤ 1048576 ∧ ssum s.ss ≤ 1048576 := by unfold Seg.tot at ht; omega
  have H1 : Hid (∀ W : World, Below w.heap.size w W → Calls Try.prog 57 #[v1, u1] W fun e w' => e = .returned (.bool true) ∧ Below W.heap.size W w') := fun W hW => eqStationS_same v1 u1 s.ss W hb.1 (fun x hx => by have := ssum_each hx; omega) (h1.st.below hW) (h2.st.below hW)
  have H2 : Hid (∀ W : World, Below w.heap.size w W → Calls Try.prog 58 #[v2, u2] W fun e w' => e = .returned (.bool true) ∧ Below W.heap.size W w') := fun W hW => eqBoolS_same v2 u2 s.us W hb.2.1 (h1.up.below hW) (h2.up.below hW)
  have H3 : Hid (∀ W : World, Below w.heap.size w W → Calls Try.prog 59 #[v3, u3] W fun e w' => e = .returned (.bool true) ∧ Below W.heap.size W w') := fun W hW => eqNoteS_same v3 u3 s.ns W hb.2.2.1 (h1.got.below hW) (h2.got.below hW)
  obtain ⟨⟨a1, c1, rfl, _⟩, ⟨a2, c2, rfl, _⟩, ⟨a3, c3, rfl, _⟩⟩ := h1
  obtain ⟨⟨b1, d1, rfl, _⟩, ⟨b2, d2, rfl, _⟩, ⟨b3, d3, rfl, _⟩⟩ := h2
  clear hb p1 p3 ht
  have hA : Below w.heap.size w _ := keepB (all_alloc w (.cells #[.slice a1 s.ss.length c1, .slice a2 s.us.length c2, .slice a3 s.ns.length c3] 47)) (Nat.le_refl _) (all_alloc _ (.cells #[.slice b1 s.ss.length d1, .slice b2 s.us.length d2, .slice b3 s.ns.length d3] 47))
  have hX : Hid _ := blk (heap_alloc_new w (.cells #[.slice a1 s.ss.length c1, .slice a2 s.us.length c2, .slice a3 s.ns.length c3] 47)) (all_alloc _ (.cells #[.slice b1 s.ss.length d1, .slice b2 s.us.length d2, .slice b3 s.ns.length d3] 47))
  have hY : Hid _ := heap_alloc_new (w.alloc (.cells #[.slice a1 s.ss.length c1, .slice a2 s.us.length c2, .slice a3 s.ns.length c3] 47)) (.cells #[.slice b1 s.ss.length d1, .slice b2 s.us.length d2, .slice b3 s.ns.length d3] 47)
  rw [show (w.alloc (.cells #[.slice a1 s.ss.length c1, .slice a2 s.us.length c2, .slice a3 s.ns.length c3] 47)).heap.size = w.heap.size + 1 by simp] at hY
  go_enter Try.func22, Try.ntmps22
  go_upto_region 1 with fail
  generalize (w.alloc (.cells #[.slice a1 s.ss.length c1, .slice a2 s.us.length c2, .slice a3 s.ns.length c3] 47)).alloc (.cells #[.slice b1 s.ss.length d1, .slice b2 s.us.length d2, .slice b3 s.ns.length d3] 47) = A at hA hX hY ⊢
  have xa0 := cellW hX.out 0 _ rfl A (Below.refl _ _)
  have xb0 := cellW hY.out 0 _ rfl A (Below.refl _ _)
  have xa1 : Hid _ := cellW hX.out 1 _ rfl
  have xb1 : Hid _ := cellW hY.out 1 _ rfl
  have xa2 : Hid _ := cellW hX.out 2 _ rfl
  have xb2 : Hid _ := cellW hY.out 2 _ rfl
  go_wp2_with (first
    | (go_at_call 57; refine (H1.out _ hA).mono ?_; rintro e w1 ⟨rfl, hb1⟩; have hB1 := keepB hA (Nat.le_refl _) hb1; have a1' := xa1.out w1 hb1; have b1' := xb1.out w1 hb1)
    | (go_at_call 58; refine (H2.out _ hB1).mono ?_; rintro e w2 ⟨rfl, hb2⟩; have hB2 := keepB hB1 (Nat.le_refl _) hb2; have a2' := xa2.out w2 (keepB hb1 (Nat.le_refl _) hb2); have b2' := xb2.out w2 (keepB hb1 (Nat.le_refl _) hb2))
    | (go_at_call 59; refine (H3.out _ hB2).mono ?_; rintro e w3 ⟨rfl, hb3⟩; have hB3 := keepB hB2 (Nat.le_refl _) hb3))
  go_ret
  exact ⟨rfl, hB3⟩
end Go.Proofs.Ytklpaleghanhhaa
