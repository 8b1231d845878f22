/- A RIGHT SEGMENT: the program's. Written by mksegk.py. -/
import Derived.Test.YtggdjiijcoklgaaHSegJ
import Derived.Test.YtggdjiijcoklgaaHStnL
namespace Go.Proofs.Ytggdjiijcoklgaa
open Go.RowKit
set_option linter.unusedVariables false
set_option linter.unusedSimpArgs false

/-- stations that are read, as a list of what lies there -/
theorem RowSt.seats {w : World} {v : Value} {ss : List Stn} (h : RowSt w v ss) (us : List Bool) (hu : us.length = ss.length) (h0 : 0 < ss.length) :
    ∃ (g c : Nat) (cs : List (Stn × Vs × Bool)), v = .slice (some ⟨g, 0, none⟩) ss.length c ∧ g < w.heap.size ∧ cs.length = ss.length ∧ cs.map (·.1.ad) = ss.map Stn.ad ∧
      (∀ k (hk : k < cs.length), w.rangeAt g (k * 19) (stC cs[k].1 cs[k].2.1) ∧ cs[k].2.1.ok) ∧ (∀ k (hk : k < cs.length) (hk' : k < us.length), cs[k].2.2 = us[k]) ∧ (∀ k (hk : k < cs.length) (hk' : k < ss.length), cs[k].1 = ss[k]) := by
  obtain ⟨p, c, rfl, h⟩ := h
  obtain ⟨g, u0, rfl, hl, _⟩ := h 0 h0
  have H : ∀ k, ∃ u : Vs, ∀ (hk : k < ss.length), w.rangeAt g (k * 19) (stC ss[k] u) ∧ u.ok := fun k => by
    by_cases hk : k < ss.length
    · obtain ⟨g', u, e, _, q, r1, r2, r3, r4⟩ := h k hk
      cases e
      refine ⟨u, fun _ => ⟨q, ?_, ?_, ?_, ?_⟩⟩
      · obtain ⟨a, b, e, _⟩ := r1; exact ⟨a, _, b, e⟩
      · obtain ⟨a, b, e, _⟩ := r2; exact ⟨a, _, b, e⟩
      · obtain ⟨a, b, e, _⟩ := r3; exact ⟨a, _, b, e⟩
      · obtain ⟨a, b, e, _⟩ := r4; exact ⟨a, _, b, e⟩
    · exact ⟨u0, fun hh => absurd hh hk⟩
  obtain ⟨f, hf⟩ := Classical.axiomOfChoice H
  refine ⟨g, c, (List.range ss.length).map fun k => (ss.getD k (newS 0 0), f k, us.getD k false), rfl, hl, by simp, ?_, fun k hk => ?_, fun k hk hk' => ?_, fun k hk hk' => ?_⟩
  · apply List.ext_getElem
    · simp
    · intro k h1 h2
      have hk : k < ss.length := by simpa using h2
      simp only [List.getElem_map, List.getElem_range]
      rw [getD_at ss _ hk]
  · have hk' : k < ss.length := by simpa using hk
    simp only [List.getElem_map, List.getElem_range]
    rw [getD_at ss _ hk']
    exact hf k hk'
  · simp only [List.getElem_map, List.getElem_range]
    exact getD_at us false hk'
  · simp only [List.getElem_map, List.getElem_range]
    exact getD_at ss _ hk'
theorem Seg.right_of {s : Seg} (h1 : 1 ≤ s.ss.length) (h2 : s.ss.length ≤ 4) (h3 : s.us.length = s.ss.length) (h4 : notesB s.ns = true) (h5 : s.ss.all Stn.right = true) : s.right = riseQ (s.ss.map Stn.ad) := by
  unfold Seg.right
  rw [decide_eq_true h1, decide_eq_true h2, decide_eq_true h3, h4, h5]
  rfl
set_option maxRecDepth 100000 in
set_option maxHeartbeats 3200000 in
theorem segmentRight_any (s : Seg) (v1 v2 v3 : Value) (w : World) (ht : s.tot ≤ 1048576) (h : RowSeg w v1 v2 v3 s) :
    Calls Try.prog 19 #[.agg #[v1, v2, v3]] w fun e w' => e = .returned (.bool s.right) ∧ Below w.heap.size w w' := by
  have p1 := ssum_pos s.ss
  have p3 := nsum_pos s.ns
  have hb0 : s.ss.length ≤ 1048576 ∧ s.us.length ≤ 1048576 ∧ s.ns.length ≤ 1048576 ∧ ssum s.ss ≤ 1048576 ∧ nsum s.ns ≤ 1048576 := by unfold Seg.tot at ht; omega
  obtain ⟨b1, b2, b3, b4, b5⟩ := hb0
  have HG : Hid (∀ W, Below w.heap.size w W → Calls Try.prog 62 #[v3] W fun e w' => e = .returned (.bool (notesB s.ns)) ∧ Below W.heap.size W w') := fun W hW => gotRight_any v3 s.ns W b3 (fun n hn => by have := nsum_each hn; omega) (h.got.below hW)
  have HT : Hid (∀ x ∈ s.ss, x.tot ≤ 1048576) := fun x hx => by have := ssum_each hx; omega
  have HS : Hid (∀ W, Below w.heap.size w W → RowSt W v1 s.ss) := fun W hW => h.st.below hW
  have HU : Hid (∀ W, Below w.heap.size w W → RowBo W v2 s.us) := fun W hW => h.up.below hW
  obtain ⟨⟨q1, c1, rfl, _⟩, ⟨q2, c2, rfl, _⟩, ⟨q3, c3, rfl, _⟩⟩ := h
  have hA := all_alloc w (.cells #[.slice q1 s.ss.length c1, .slice q2 s.us.length c2, .slice q3 s.ns.length c3] 54)
  have hX : Hid _ := heap_alloc_new w (.cells #[.slice q1 s.ss.length c1, .slice q2 s.us.length c2, .slice q3 s.ns.length c3] 54)
  clear p1 p3 ht b4 b5
  by_cases h1 : 1 ≤ s.ss.length
  case neg =>
    have hV : s.right = false := by unfold Seg.right; rw [decide_eq_false h1, Bool.false_and]
    rw [hV]
    have h1' : (s.ss.length : Int) < 1 := by omega
    clear HG HT HS HU hV
    go_enter Try.func19, Try.ntmps19
    go_upto_region 1 with fail
    generalize w.alloc (.cells #[.slice q1 s.ss.length c1, .slice q2 s.us.length c2, .slice q3 s.ns.length c3] 54) = A at hA hX ⊢
    have x0 := cellW hX.out 0 _ rfl A (Below.refl _ _)
    have x1 := cellW hX.out 1 _ rfl A (Below.refl _ _)
    have x2 := cellW hX.out 2 _ rfl A (Below.refl _ _)
    go_wp2
    go_ret
    exact ⟨rfl, hA⟩
  have h1' : ¬ (s.ss.length : Int) < 1 := by omega
  by_cases h2 : s.ss.length ≤ 4
  case neg =>
    have hV : s.right = false := by unfold Seg.right; rw [decide_eq_false h2, Bool.false_and, Bool.and_false]
    rw [hV]
    have h2' : (4 : Int) < (s.ss.length : Int) := by omega
    clear HG HT HS HU hV
    go_enter Try.func19, Try.ntmps19
    go_upto_region 1 with fail
    generalize w.alloc (.cells #[.slice q1 s.ss.length c1, .slice q2 s.us.length c2, .slice q3 s.ns.length c3] 54) = A at hA hX ⊢
    have x0 := cellW hX.out 0 _ rfl A (Below.refl _ _)
    have x1 := cellW hX.out 1 _ rfl A (Below.refl _ _)
    have x2 := cellW hX.out 2 _ rfl A (Below.refl _ _)
    go_wp2
    go_ret
    exact ⟨rfl, hA⟩
  have h2' : ¬ (4 : Int) < (s.ss.length : Int) := by omega
  by_cases h3 : s.us.length = s.ss.length
  case neg =>
    have hV : s.right = false := by unfold Seg.right; rw [decide_eq_false h3]; simp
    rw [hV]
    have h3' : ((s.us.length : Int) != (s.ss.length : Int)) = true := by simp; omega
    clear HG HT HS HU hV
    go_enter Try.func19, Try.ntmps19
    go_upto_region 1 with fail
    generalize w.alloc (.cells #[.slice q1 s.ss.length c1, .slice q2 s.us.length c2, .slice q3 s.ns.length c3] 54) = A at hA hX ⊢
    have x0 := cellW hX.out 0 _ rfl A (Below.refl _ _)
    have x1 := cellW hX.out 1 _ rfl A (Below.refl _ _)
    have x2 := cellW hX.out 2 _ rfl A (Below.refl _ _)
    go_wp2
    go_ret
    exact ⟨rfl, hA⟩
  have h3' : ((s.us.length : Int) != (s.ss.length : Int)) = false := by simp; omega
  have H3 : Hid (s.us.length = s.ss.length) := h3
  clear h3
  cases h4 : notesB s.ns with
  | false =>
    rw [h4] at HG
    have hV : s.right = false := by unfold Seg.right; rw [h4]; simp
    rw [hV]
    clear HT HS HU hV
    go_enter Try.func19, Try.ntmps19
    go_upto_region 1 with fail
    generalize w.alloc (.cells #[.slice q1 s.ss.length c1, .slice q2 s.us.length c2, .slice q3 s.ns.length c3] 54) = A at hA hX ⊢
    have x0 := cellW hX.out 0 _ rfl A (Below.refl _ _)
    have x1 := cellW hX.out 1 _ rfl A (Below.refl _ _)
    have x2 := cellW hX.out 2 _ rfl A (Below.refl _ _)
    go_wp2_with (go_at_call 62; refine (HG.out _ hA).mono ?_; rintro e w1 ⟨rfl, hb1⟩)
    go_ret
    exact ⟨rfl, keepB hA (Nat.le_refl _) hb1⟩
  | true =>
    rw [h4] at HG
    have HV1 : Hid (s.ss.all Stn.right = false → s.right = false) := fun h => by unfold Seg.right; rw [h]; simp
    have HV2 : Hid (s.ss.all Stn.right = true → s.right = riseQ (s.ss.map Stn.ad)) := fun h => Seg.right_of h1 h2 H3.out h4 h
    obtain ⟨V, hV⟩ : ∃ V, s.right = V := ⟨_, rfl⟩
    rw [hV] at HV1 HV2 ⊢
    clear hV h4
    go_enter Try.func19, Try.ntmps19
    go_upto_region 1 with fail
    generalize w.alloc (.cells #[.slice q1 s.ss.length c1, .slice q2 s.us.length c2, .slice q3 s.ns.length c3] 54) = A at hA hX ⊢
    have x0 := cellW hX.out 0 _ rfl
    have x1 := cellW hX.out 1 _ rfl A (Below.refl _ _)
    have x2 := cellW hX.out 2 _ rfl A (Below.refl _ _)
    have x0' := x0 A (Below.refl _ _)
    have X0 : Hid _ := x0
    clear x0
    go_upto_region 4 with (go_at_call 62; refine (HG.out _ hA).mono ?_; rintro e w1 ⟨rfl, hb1⟩)
    have hX1 : Hid _ := blk hX.out hb1
    have hA1 := keepB hA (Nat.le_refl _) hb1
    have x0w := X0.out w1 hb1
    clear x1 x2 x0' X0 h3' hX hA hb1
    go_wp2
    go_loopw [31] (fun i wr => ∃ k : Nat, k ≤ s.ss.length ∧ i = .int .i64 k ∧ Hid ((s.ss.take k).all Stn.right = true) ∧ Hid (wr.heap[w.heap.size]? = some (.cells #[.slice q1 s.ss.length c1, .slice q2 s.us.length c2, .slice q3 s.ns.length c3] 54 (0, 0))) ∧ Below w.heap.size w wr) (fun i _ => s.ss.length - (intOf i).toNat)
    case atStart => exact ⟨0, Nat.zero_le _, rfl, (by simp : (s.ss.take 0).all Stn.right = true), hX1.out, hA1⟩
    case round =>
      obtain ⟨k, hk, rfl, HA, HX, hbel⟩ := hrel
      by_cases hlt : k < s.ss.length
      · obtain ⟨g, d, u, e1, q1, r1, r2, r3, r4⟩ := (HS.out wr hbel).at k hlt
        cases e1
        have htot := HT.out s.ss[k] (List.getElem_mem hlt)
        have HC : Hid (∀ W, Below wr.heap.size wr W → Calls Try.prog 42 #[.agg (stC s.ss[k] u).toArray] W fun x w' => x = .returned (.bool s.ss[k].right) ∧ Below W.heap.size W w') := fun W hW =>
          stationRight_any s.ss[k] u.a u.b u.c u.d W (by unfold Stn.tot at htot; omega) (by unfold Stn.tot at htot; omega) (by unfold Stn.tot at htot; omega) (fun g hg => by have := wsum_each hg; unfold Stn.tot at htot; omega) (by unfold Stn.tot at htot; omega) (fun b hb => by have := bsum_each hb; unfold Stn.tot at htot; omega) (r1.below hW) (r2.below hW) (r3.below hW) (r4.below hW)
        have HRG : Hid (wr.rangeAt g (k * 19) (stC s.ss[k] u)) := q1 wr (Below.refl _ _)
        have HN : Hid (s.ss[k].right = false → V = false) := fun h => HV1.out (allSeg_no hlt h)
        have HY : Hid (s.ss[k].right = true → (s.ss.take (k + 1)).all Stn.right = true) := fun h => allSeg_more hlt HA.out h
        have hone : (stC s.ss[k] u).toArray.all (·.oneCell') = true := by
          refine stC_one ⟨?_, ?_, ?_, ?_⟩
          · obtain ⟨a, b, e, _⟩ := r1; exact ⟨a, _, b, e⟩
          · obtain ⟨a, b, e, _⟩ := r2; exact ⟨a, _, b, e⟩
          · obtain ⟨a, b, e, _⟩ := r3; exact ⟨a, _, b, e⟩
          · obtain ⟨a, b, e, _⟩ := r4; exact ⟨a, _, b, e⟩
        clear htot q1 r1 r2 r3 r4
        generalize s.ss[k] = x at HC HRG HN HY hone
        generalize x.right = R at HC HN HY
        have hload : Hid True := trivial
        go_upto_region 7 with (first
          | (have _ := hload; refine wpList_load_mid rfl 33 (.tmp 33) rfl g (k * 19) rfl (stC x u) _ HRG.out Try.underlying33 rfl (by kernel_rfl) ?_; clear hload)
          | (refine wpList_store_row rfl 33 (.tmp 5) (.tmp 34) rfl wr.heap.size (stC x u).toArray rfl rfl _ _ (heap_alloc_new wr _) (by kernel_rfl) rfl hone ?_))
        have hS1 : Hid _ := setRow_heap _ wr.heap.size _ (stC x u).toArray _ _ (heap_alloc_new wr (.cells #[.int .i64 0, .int .i64 0, .int .i64 0, .int .i64 0, .int .i64 0, .int .i64 0, .int .i64 0, .int .i64 0, .int .i64 0, .int .i64 0, .int .i64 0, .int .i64 0, .int .i64 0, .int .i64 0, .int .i64 0, .slice none 0 0, .slice none 0 0, .slice none 0 0, .slice none 0 0] 33))
        have hb1 : Below wr.heap.size wr ((wr.alloc (.cells #[.int .i64 0, .int .i64 0, .int .i64 0, .int .i64 0, .int .i64 0, .int .i64 0, .int .i64 0, .int .i64 0, .int .i64 0, .int .i64 0, .int .i64 0, .int .i64 0, .int .i64 0, .int .i64 0, .int .i64 0, .slice none 0 0, .slice none 0 0, .slice none 0 0, .slice none 0 0] 33)).setRow wr.heap.size (stC x u).toArray) := setRow_fresh _ _ _
        generalize (wr.alloc (.cells #[.int .i64 0, .int .i64 0, .int .i64 0, .int .i64 0, .int .i64 0, .int .i64 0, .int .i64 0, .int .i64 0, .int .i64 0, .int .i64 0, .int .i64 0, .int .i64 0, .int .i64 0, .int .i64 0, .int .i64 0, .slice none 0 0, .slice none 0 0, .slice none 0 0, .slice none 0 0] 33)).setRow wr.heap.size (stC x u).toArray = W1 at hS1 hb1 ⊢
        cases R with
        | false =>
          go_wp2_with (first
            | (refine wpList_load_rowG (by rfl) 33 (.tmp 5) rfl wr.heap.size rfl _ _ _ _ hS1.out Try.underlying33 rfl (by kernel_rfl) ?_)
            | (go_at_call 42; refine (HC.out _ hb1).mono ?_; rintro e w2 ⟨rfl, hb2⟩; clear hS1))
          go_ret
          exact ⟨ret_bool (HN.out (by first | rfl | trivial)).symm, keepB hbel (Nat.le_refl _) (keepB hb1 (Nat.le_refl _) hb2)⟩
        | true =>
          go_wp2_with (first
            | (refine wpList_load_rowG (by rfl) 33 (.tmp 5) rfl wr.heap.size rfl _ _ _ _ hS1.out Try.underlying33 rfl (by kernel_rfl) ?_)
            | (go_at_call 42; refine (HC.out _ hb1).mono ?_; rintro e w2 ⟨rfl, hb2⟩; clear hS1))
          go_roundw
          case rel => exact ⟨k + 1, by omega, by go_num, HY.out (by first | rfl | trivial), blk HX.out (keepB hb1 (Nat.le_refl _) hb2), keepB hbel (Nat.le_refl _) (keepB hb1 (Nat.le_refl _) hb2)⟩
          case measure => simp [intOf]; omega
      · have hkk : k = s.ss.length := by omega
        subst hkk
        have e1 := HA.out
        rw [List.take_length] at e1
        have hV := HV2.out e1
        obtain ⟨g, d, cs, e2, hg, hcl, hmap, hcs, hcu, _⟩ := (HS.out wr hbel).seats s.us H3.out h1
        cases e2
        obtain ⟨p', d', e3, hup⟩ := HU.out wr hbel
        obtain ⟨gb, e4, hgb, _⟩ := hup 0 (by rw [H3.out]; exact h1)
        cases e4
        cases e3
        have HSE : Hid (Calls Try.prog 63 #[.agg #[.slice (some ⟨g, 0, none⟩) s.ss.length c1, .slice (some ⟨gb, 0, none⟩) s.us.length c2, .slice q3 s.ns.length c3]] wr fun e w' => ∃ r cur, e = .returned (.slice (some ⟨r, 0, none⟩) s.ss.length s.ss.length) ∧ wr.heap.size ≤ r ∧ r < w'.heap.size ∧
            w'.heap[r]? = some (.cells cur 97 (0, 0)) ∧ cur.size = s.ss.length * 20 ∧ (∀ k (hk : k < cs.length), w'.rangeAt r (k * 20) (seC cs[k].1 cs[k].2.1 cs[k].2.2) ∧ (seC cs[k].1 cs[k].2.1 cs[k].2.2).toArray.all (·.oneCell') = true) ∧ Below wr.heap.size wr w') := by
          rw [H3.out]
          refine seatsOf_any g c1 cs gb c2 _ s.ss.length hcl wr (by omega) h1 hg hgb hcs (fun k hk => ?_)
          have hk2 : k < s.us.length := by rw [H3.out, ← hcl]; exact hk
          obtain ⟨gb', e5, _, hq⟩ := hup k hk2
          cases e5
          rw [hcu k hk hk2]
          exact hq
        have HRI : Hid (∀ (r : Nat) (W : World), r < W.heap.size → (∀ k (hk : k < cs.length), W.rangeAt r (k * 20) (seC cs[k].1 cs[k].2.1 cs[k].2.2) ∧ (seC cs[k].1 cs[k].2.1 cs[k].2.2).toArray.all (·.oneCell') = true) → Calls Try.prog 64 #[.slice (some ⟨r, 0, none⟩) s.ss.length s.ss.length] W fun e w' => e = .returned (.bool V) ∧ Below W.heap.size W w') := fun r W hr hq => by
          have := rises_any r s.ss.length cs W (by omega) hr hq
          rw [hcl, hmap, ← hV] at this
          exact this
        have y0 := cellW HX.out 0 _ rfl wr (Below.refl _ _)
        have y1 := cellW HX.out 1 _ rfl wr (Below.refl _ _)
        have y2 := cellW HX.out 2 _ rfl wr (Below.refl _ _)
        clear hup hgb hcs hcu hmap hg hV e1 HV1 HV2
        go_wp2_with (first
          | (go_at_call 63; refine HSE.out.mono ?_; rintro e w5 ⟨r, cur, rfl, _, hr5, _, _, hq5, hb5⟩; have HQ5 : Hid _ := hq5; clear hq5)
          | (go_at_call 64; refine (HRI.out r w5 hr5 HQ5.out).mono ?_; rintro e w6 ⟨rfl, hb6⟩))
        go_ret
        exact ⟨rfl, keepB hbel (Nat.le_refl _) (keepB hb5 (Nat.le_refl _) hb6)⟩
end Go.Proofs.Ytggdjiijcoklgaa
