/- A SEGMENT's SEATS: the program's. Written by mksegj.py. -/
import Derived.Test.YtggdjiijcoklgaaHSegI
import Derived.Test.YtggdjiijcoklgaaHOutS
import Derived.Test.YtggdjiijcoklgaaHSegW
namespace Go.Proofs.Ytggdjiijcoklgaa
open Go.RowKit
set_option linter.unusedVariables false
set_option linter.unusedSimpArgs false

theorem infoSe : (Try.prog.info? 97).map (fun i => (i.zero, i.size, i.bytes)) = some (some (.agg #[.int .i64 0, .int .i64 0, .int .i64 0, .int .i64 0, .int .i64 0, .int .i64 0, .int .i64 0, .int .i64 0, .int .i64 0, .int .i64 0, .int .i64 0, .int .i64 0, .int .i64 0, .int .i64 0, .int .i64 0, .slice none 0 0, .slice none 0 0, .slice none 0 0, .slice none 0 0, .bool false]), 20, 224) := by kernel_rfl
theorem cell_heap {w w' : World} {b : Nat} (h : w'.heap[b]? = w.heap[b]?) (o : Nat) : w'.cell? ⟨b, o, none⟩ = w.cell? ⟨b, o, none⟩ := by
  unfold World.cell?
  rw [h]
/-- a station's lists are slices -/
def Vs.ok (u : Vs) : Prop := (∃ p n c, u.a = .slice p n c) ∧ (∃ p n c, u.b = .slice p n c) ∧ (∃ p n c, u.c = .slice p n c) ∧ (∃ p n c, u.d = .slice p n c)
theorem stC_one {s : Stn} {u : Vs} (h : u.ok) : (stC s u).toArray.all (·.oneCell') = true := by
  obtain ⟨⟨_, _, _, e1⟩, ⟨_, _, _, e2⟩, ⟨_, _, _, e3⟩, ⟨_, _, _, e4⟩⟩ := h
  simp [stC, e1, e2, e3, e4, Value.oneCell']
theorem seC_one {s : Stn} {u : Vs} {b : Bool} (h : u.ok) : (seC s u b).toArray.all (·.oneCell') = true := by
  obtain ⟨⟨_, _, _, e1⟩, ⟨_, _, _, e2⟩, ⟨_, _, _, e3⟩, ⟨_, _, _, e4⟩⟩ := h
  simp [seC, e1, e2, e3, e4, Value.oneCell']
theorem seC_eq (s : Stn) (u : Vs) (b : Bool) : seC s u b = stC s u ++ [.bool b] := rfl
/-- the first seats laid -/
def PartSe (w : World) (r n : Nat) (cs : List (Stn × Vs × Bool)) (j : Nat) : Prop :=
  ∃ cur, w.heap[r]? = some (.cells cur 97 (0, 0)) ∧ cur.size = n * 20 ∧ ∀ k (hk : k < j) (h : k < cs.length), w.rangeAt r (k * 20) (seC cs[k].1 cs[k].2.1 cs[k].2.2)
theorem PartSe.step {w w2 : World} {r n j : Nat} {cs : List (Stn × Vs × Bool)} (h : PartSe w r n cs j) (hn : n = cs.length) (hj : j < cs.length) (hb : w2.heap[r]? = w.heap[r]?) :
    w2.there r (j * 20) 20 ∧ PartSe (w2.setCells r (j * 20) (seC cs[j].1 cs[j].2.1 cs[j].2.2)) r n cs (j + 1) := by
  obtain ⟨cur, hg, hs, hk⟩ := h
  obtain ⟨ht, ⟨cur', g1, g2⟩, g3, g4⟩ := part_step (hb.trans hg) hs (by omega : j < n) (seC cs[j].1 cs[j].2.1 cs[j].2.2) rfl
  refine ⟨ht, cur', g1, g2, fun k h1 h2 => ?_⟩
  by_cases hkj : k < j
  · refine g4 k hkj _ rfl (fun i v hv => ?_)
    rw [cell_heap hb]
    exact hk k hkj h2 i v hv
  · obtain rfl : k = j := by omega
    exact g3
set_option maxRecDepth 100000 in
set_option maxHeartbeats 3200000 in
theorem seatsOf_any (g0 c0 : Nat) (cs : List (Stn × Vs × Bool)) (gb cb : Nat) (v3 : Value) (n : Nat) (hn : cs.length = n) (w : World) (hl : n ≤ 1000) (h0 : 0 < n) (hg : g0 < w.heap.size) (hgb : gb < w.heap.size)
    (hst : ∀ k (hk : k < cs.length), w.rangeAt g0 (k * 19) (stC cs[k].1 cs[k].2.1) ∧ cs[k].2.1.ok) (hup : ∀ k (hk : k < cs.length), w.cell? ⟨gb, k, none⟩ = some (.bool cs[k].2.2)) :
    Calls Try.prog 63 #[.agg #[.slice (some ⟨g0, 0, none⟩) n c0, .slice (some ⟨gb, 0, none⟩) n cb, v3]] w fun e w' => ∃ r cur, e = .returned (.slice (some ⟨r, 0, none⟩) n n) ∧ w.heap.size ≤ r ∧ r < w'.heap.size ∧
      w'.heap[r]? = some (.cells cur 97 (0, 0)) ∧ cur.size = n * 20 ∧ (∀ k (hk : k < cs.length), w'.rangeAt r (k * 20) (seC cs[k].1 cs[k].2.1 cs[k].2.2) ∧ (seC cs[k].1 cs[k].2.1 cs[k].2.2).toArray.all (·.oneCell') = true) ∧ Below w.heap.size w w' := by
  obtain ⟨i0, hi, hz0, hz1, hz2⟩ := info_parts infoSe
  have hA := all_alloc w (.cells #[.slice (some ⟨g0, 0, none⟩) n c0, .slice (some ⟨gb, 0, none⟩) n cb, v3] 54)
  have hX : Hid _ := heap_alloc_new w (.cells #[.slice (some ⟨g0, 0, none⟩) n c0, .slice (some ⟨gb, 0, none⟩) n cb, v3] 54)
  have HST : Hid (∀ W, Below w.heap.size w W → ∀ k (hk : k < cs.length), W.rangeAt g0 (k * 19) (stC cs[k].1 cs[k].2.1) ∧ cs[k].2.1.ok) := fun W hW k hk => ⟨range_below (hst k hk).1 hg hW, (hst k hk).2⟩
  have HUP : Hid (∀ W, Below w.heap.size w W → ∀ k (hk : k < cs.length), W.cell? ⟨gb, k, none⟩ = some (.bool cs[k].2.2)) := fun W hW k hk => (hW.cell (p := ⟨gb, k, none⟩) hgb).trans (hup k hk)
  have HONE : Hid (∀ k (hk : k < cs.length), (seC cs[k].1 cs[k].2.1 cs[k].2.2).toArray.all (·.oneCell') = true) := fun k hk => seC_one (hst k hk).2
  clear hst hup
  go_enter Try.func63, Try.ntmps63
  go_upto_region 1 with fail
  have zA : (w.alloc (.cells #[.slice (some ⟨g0, 0, none⟩) n c0, .slice (some ⟨gb, 0, none⟩) n cb, v3] 54)).heap.size = w.heap.size + 1 := by simp
  generalize w.alloc (.cells #[.slice (some ⟨g0, 0, none⟩) n c0, .slice (some ⟨gb, 0, none⟩) n cb, v3] 54) = A at hA hX zA ⊢
  have zA' : w.heap.size < A.heap.size := by omega
  clear zA
  have x0 := cellW hX.out 0 _ rfl A (Below.refl _ _)
  go_upto_region 2 with (at_make; refine wpList_make_full _ rfl (.tmp 8) (.tmp 8) 93 rfl A.heap.size 97 i0 (.agg #[.int .i64 0, .int .i64 0, .int .i64 0, .int .i64 0, .int .i64 0, .int .i64 0, .int .i64 0, .int .i64 0, .int .i64 0, .int .i64 0, .int .i64 0, .int .i64 0, .int .i64 0, .int .i64 0, .int .i64 0, .slice none 0 0, .slice none 0 0, .slice none 0 0, .slice none 0 0, .bool false]) 20 Try.underlying93 hi hz0 hz1 .i64 .i64 _ _ n rfl rfl (by omega) (by omega) (by rw [hz2]; omega) (by unfold maxLen; omega) (Nat.le_refl _) ?_; intro w1 hown1 hgrow1; have hB1 : Below A.heap.size A w1 := (Below.refl A.heap.size A).grown hgrow1 (Nat.le_refl _) (fun k e => by cases e); obtain ⟨cur1, hc1, hc2⟩ := owns_block hown1; clear hown1)
  have HO1 : Hid (PartSe w1 A.heap.size n cs 0) := by
    show PartSe _ _ _ _ _
    exact ⟨cur1, hc1, hc2, fun k hk => absurd hk (by omega)⟩
  have hX1 : Hid _ := blk hX.out hB1
  have hA1 : Below w.heap.size w w1 := keepB hA (Nat.le_refl _) hB1
  have zr : A.heap.size < w1.heap.size := (Array.getElem?_eq_some_iff.1 hc1).1
  clear hc1 hc2 hgrow1 hX hA hB1 x0
  generalize hr : A.heap.size = r at *
  have x0 := cellW hX1.out 0 _ rfl w1 (Below.refl _ _)
  go_wp2
  go_loopw [13] (fun i wr => ∃ j : Nat, j ≤ n ∧ i = .int .i64 j ∧ Hid (PartSe wr r n cs j) ∧ Hid (wr.heap[w.heap.size]? = some (Obj.cells #[.slice (some ⟨g0, 0, none⟩) n c0, .slice (some ⟨gb, 0, none⟩) n cb, v3] 54 (0, 0))) ∧ Below w.heap.size w wr) (fun i _ => n - (intOf i).toNat)
  case atStart => exact ⟨0, Nat.zero_le _, rfl, HO1.out, hX1.out, hA1⟩
  case round =>
    obtain ⟨j, hj, rfl, HW, HX, hbel⟩ := hrel
    by_cases hlt : j < n
    · have hlt' : j < cs.length := by omega
      obtain ⟨hrg, hok⟩ := HST.out wr hbel j hlt'
      have hlr : r < wr.heap.size := by obtain ⟨cur, h1, _⟩ := HW.out; exact (Array.getElem?_eq_some_iff.1 h1).1
      have HSTEP : Hid (∀ w2 : World, w2.heap[r]? = wr.heap[r]? → w2.there r (j * 20) 20 ∧ PartSe (w2.setCells r (j * 20) (seC cs[j].1 cs[j].2.1 cs[j].2.2)) r n cs (j + 1)) := fun w2 hb => HW.out.step hn.symm hlt' hb
      have HRG : Hid _ := hrg
      have hone := stC_one (s := cs[j].1) hok
      have honeS := HONE.out j hlt'
      have HB : Hid (wr.cell? ⟨gb, j, none⟩ = some (.bool cs[j].2.2)) := HUP.out wr hbel j hlt'
      clear hrg hok
      generalize cs[j].1 = s at HRG HSTEP hone honeS
      generalize cs[j].2.1 = u at HRG HSTEP hone honeS
      generalize cs[j].2.2 = b at HB HSTEP honeS
      have hload : Hid True := trivial
      go_upto_region 5 with (first
        | (have _ := hload; refine wpList_load_mid rfl 33 (.tmp 16) rfl g0 (j * 19) rfl (stC s u) _ HRG.out Try.underlying33 rfl (by kernel_rfl) ?_; clear hload)
        | (refine wpList_store_row rfl 33 (.tmp 5) (.tmp 17) rfl wr.heap.size (stC s u).toArray rfl rfl _ _ (heap_alloc_new wr _) (by kernel_rfl) rfl hone ?_))
      have hS1 : Hid _ := setRow_heap _ wr.heap.size _ (stC s u).toArray _ _ (heap_alloc_new wr (.cells #[.int .i64 0, .int .i64 0, .int .i64 0, .int .i64 0, .int .i64 0, .int .i64 0, .int .i64 0, .int .i64 0, .int .i64 0, .int .i64 0, .int .i64 0, .int .i64 0, .int .i64 0, .int .i64 0, .int .i64 0, .slice none 0 0, .slice none 0 0, .slice none 0 0, .slice none 0 0] 33))
      have hb1 : Below wr.heap.size wr ((wr.alloc (.cells #[.int .i64 0, .int .i64 0, .int .i64 0, .int .i64 0, .int .i64 0, .int .i64 0, .int .i64 0, .int .i64 0, .int .i64 0, .int .i64 0, .int .i64 0, .int .i64 0, .int .i64 0, .int .i64 0, .int .i64 0, .slice none 0 0, .slice none 0 0, .slice none 0 0, .slice none 0 0] 33)).setRow wr.heap.size (stC s u).toArray) := setRow_fresh _ _ _
      generalize (wr.alloc (.cells #[.int .i64 0, .int .i64 0, .int .i64 0, .int .i64 0, .int .i64 0, .int .i64 0, .int .i64 0, .int .i64 0, .int .i64 0, .int .i64 0, .int .i64 0, .int .i64 0, .int .i64 0, .int .i64 0, .int .i64 0, .slice none 0 0, .slice none 0 0, .slice none 0 0, .slice none 0 0] 33)).setRow wr.heap.size (stC s u).toArray = W1 at hS1 hb1 ⊢
      have hlx : w.heap.size < wr.heap.size := Nat.lt_of_lt_of_le (Array.getElem?_eq_some_iff.1 HX.out).1 (Nat.le_refl _)
      have hXW : Hid _ := blk HX.out hb1
      have hbelW := keepB hbel (Nat.le_refl _) hb1
      have hzW := hb1.size
      have LS : Hid (∀ W' : World, (∀ k, k ≠ r → W'.heap[k]? = W1.heap[k]?) → W'.heap[wr.heap.size]? = some (.cells (stC s u).toArray 33 (0, 0))) := fun W' h => (h _ (by omega)).trans hS1.out
      have LX : Hid (∀ W' : World, (∀ k, k ≠ r → W'.heap[k]? = W1.heap[k]?) → W'.cell? ⟨w.heap.size, 1, none⟩ = some (.slice (some ⟨gb, 0, none⟩) n cb)) := fun W' h => (cell_heap (h _ (by omega)) 1).trans (cellW hXW.out 1 _ rfl W1 (Below.refl _ _))
      have LB : Hid (∀ W' : World, (∀ k, k ≠ r → W'.heap[k]? = W1.heap[k]?) → W'.cell? ⟨gb, j, none⟩ = some (.bool b)) := fun W' h => (cell_heap (h _ (by omega)) j).trans ((hb1.cell (p := ⟨gb, j, none⟩) (by simp only; omega)).trans HB.out)
      have hS0 : ∀ k, k ≠ r → W1.drew.heap[k]? = W1.heap[k]? := fun k _ => rfl
      refine wp_region_held_drew (S := (fun W' : World => ∀ k, k ≠ r → W'.heap[k]? = W1.heap[k]?)) (by kernel_rfl) ?_ (fun hHeld => ?_)
      · (try dsimp only); exact hS0
      refine yieldH (i := 0) (v := ?_) rfl (by kernel_rfl) (by kernel_rfl) (by kernel_rfl) (fun _ _ _ h => h) (by rfl) ?_ (by assumption) ?_; rotate_left
      · intro W' hSw; go_simp; (try with_reducible rfl)
      try simp only [Act.put, List.setIfInBounds_toArray, List.set_cons_zero, List.set_cons_succ, List.getElem_toArray, List.getElem_cons_succ, List.getElem_cons_zero]
      refine yieldH (i := 1) (v := ?_) rfl (by kernel_rfl) (by kernel_rfl) (by kernel_rfl) (fun _ _ _ h => h) (by rfl) ?_ (by assumption) ?_; rotate_left
      · intro W' hSw; go_simp; (try with_reducible rfl)
      try simp only [Act.put, List.setIfInBounds_toArray, List.set_cons_zero, List.set_cons_succ, List.getElem_toArray, List.getElem_cons_succ, List.getElem_cons_zero]
      refine yieldH (i := 2) (v := .agg (stC s u).toArray) rfl (by kernel_rfl) (by kernel_rfl) (by kernel_rfl) (fun _ _ _ h => h) (by rfl) (fun W' hW => exec_load_row 33 (.tmp 5) rfl wr.heap.size rfl _ _ _ _ (LS.out W' hW) Try.underlying33 rfl (by kernel_rfl)) (by assumption) ?_
      try simp only [Act.put, List.setIfInBounds_toArray, List.set_cons_zero, List.set_cons_succ, List.getElem_toArray, List.getElem_cons_succ, List.getElem_cons_zero]
      refine yieldH (i := 3) (v := ?_) rfl (by kernel_rfl) (by kernel_rfl) (by kernel_rfl) (fun _ _ _ h => h) (by rfl) ?_ (by assumption) ?_; rotate_left
      · intro W' hSw; go_simp; (try with_reducible rfl)
      try simp only [Act.put, List.setIfInBounds_toArray, List.set_cons_zero, List.set_cons_succ, List.getElem_toArray, List.getElem_cons_succ, List.getElem_cons_zero]
      refine yieldH (i := 4) (v := ?_) rfl (by kernel_rfl) (by kernel_rfl) (by kernel_rfl) (fun _ _ _ h => h) (by rfl) ?_ (by assumption) ?_; rotate_left
      · intro W' hSw; have y := LX.out W' hSw; go_simp; (try with_reducible rfl)
      try simp only [Act.put, List.setIfInBounds_toArray, List.set_cons_zero, List.set_cons_succ, List.getElem_toArray, List.getElem_cons_succ, List.getElem_cons_zero]
      refine yieldH (i := 5) (v := ?_) rfl (by kernel_rfl) (by kernel_rfl) (by kernel_rfl) (fun _ _ _ h => h) (by rfl) ?_ (by assumption) ?_; rotate_left
      · intro W' hSw; go_simp; (try with_reducible rfl)
      try simp only [Act.put, List.setIfInBounds_toArray, List.set_cons_zero, List.set_cons_succ, List.getElem_toArray, List.getElem_cons_succ, List.getElem_cons_zero]
      refine yieldH (i := 6) (v := ?_) rfl (by kernel_rfl) (by kernel_rfl) (by kernel_rfl) (fun _ _ _ h => h) (by rfl) ?_ (by assumption) ?_; rotate_left
      · intro W' hSw; go_simp; (try with_reducible rfl)
      try simp only [Act.put, List.setIfInBounds_toArray, List.set_cons_zero, List.set_cons_succ, List.getElem_toArray, List.getElem_cons_succ, List.getElem_cons_zero]
      refine yieldH (i := 7) (v := ?_) rfl (by kernel_rfl) (by kernel_rfl) (by kernel_rfl) (fun _ _ _ h => h) (by rfl) ?_ (by assumption) ?_; rotate_left
      · intro W' hSw; have y := LB.out W' hSw; go_simp; (try with_reducible rfl)
      try simp only [Act.put, List.setIfInBounds_toArray, List.set_cons_zero, List.set_cons_succ, List.getElem_toArray, List.getElem_cons_succ, List.getElem_cons_zero]
      refine yieldH (i := 8) (v := .agg (seC s u b).toArray) rfl (by kernel_rfl) (by kernel_rfl) (by kernel_rfl) (fun _ _ _ h => h) (by rfl) ?_ (by assumption) ?_
      · intro W' hSw; simp only [seC_eq]; generalize hLL : stC s u = LL; go_simp; subst hLL; kernel_rfl
      try simp only [Act.put, List.setIfInBounds_toArray, List.set_cons_zero, List.set_cons_succ, List.getElem_toArray, List.getElem_cons_succ, List.getElem_cons_zero]
      refine yieldH (i := 9) (v := ?_) rfl (by kernel_rfl) (by kernel_rfl) (by kernel_rfl) (fun _ _ _ h => h) (by rfl) ?_ (by assumption) ?_; rotate_left
      · intro W' hSw; go_simp; (try with_reducible rfl)
      try simp only [Act.put, List.setIfInBounds_toArray, List.set_cons_zero, List.set_cons_succ, List.getElem_toArray, List.getElem_cons_succ, List.getElem_cons_zero]
      refine wpAnyH_ready (rs := [10]) (by kernel_rfl) (by simp) ?_
      refine AllReadyH.cons rfl (fun Kc hK => ?_) AllReadyH.nil
      obtain ⟨hth, hstp⟩ := HSTEP.out W1.drew (hb1.block r hlr)
      refine wp_store_mid 97 (.tmp 27) (.tmp 26) rfl r (j * 20) (seC s u b).toArray rfl rfl hth (by kernel_rfl) honeS ?_
      have HP : Hid (PartSe _ r n cs (j + 1)) := hstp
      have hbF : Below w.heap.size w (W1.drew.setCells r (j * 20) (seC s u b)) := Below.setCells r (by omega) _ _ _ (Below.drew hbelW)
      have hXF : Hid ((W1.drew.setCells r (j * 20) (seC s u b)).heap[w.heap.size]? = _) := (setCells_far r _ _ _ _ (by omega)).trans hXW.out
      refine hK.out _ _ ?_ (fun hHeld => ?_)
      · (try dsimp only); exact fun k hk => setCells_far r _ _ _ k hk
      clear hK Kc
      try simp only [Act.put, List.setIfInBounds_toArray, List.set_cons_zero, List.set_cons_succ, List.getElem_toArray, List.getElem_cons_succ, List.getElem_cons_zero]
      refine wpAnyH_done (by kernel_rfl) ?_ _
      go_wp2
      go_roundw
      case rel => exact ⟨j + 1, by omega, by go_num, HP.out, hXF.out, hbF⟩
      case measure => simp [intOf]; omega
    · have hjn : j = n := by omega
      subst hjn
      go_wp2
      go_ret
      obtain ⟨cur, h1, h2, h3⟩ := HW.out
      exact ⟨r, cur, rfl, by omega, (Array.getElem?_eq_some_iff.1 h1).1, h1, h2, fun k hk => ⟨h3 k (by omega) hk, HONE.out k hk⟩, hbel⟩
end Go.Proofs.Ytggdjiijcoklgaa
