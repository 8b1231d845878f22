/- A RIGHT MASTER: the model's. Written by mkmsts.py. -/
import Derived.Test.YtghchcipobcpjaaQtMstV
import Derived.Test.YtghchcipobcpjaaQtMstI
namespace Go.Proofs.Ytghchcipobcpjaa
open Go.RowKit
set_option linter.unusedVariables false
set_option linter.unusedSimpArgs false

theorem seenD_yes {l : List Dn} {k j : Nat} {x : Int} (h : j < k) (hk : k ≤ l.length) (hx : (l[j]'(by omega)).i = x) : (seenD l k).contains x = true := by
  unfold seenD
  rw [List.contains_iff_mem]
  refine List.mem_map.2 ⟨l[j]'(by omega), ?_, hx⟩
  rw [List.mem_take_iff_getElem]
  exact ⟨j, by omega, rfl⟩
theorem seenD_no {l : List Dn} {k : Nat} {x : Int} (hk : k ≤ l.length) (hx : ∀ j (hj : j < k), (l[j]'(by omega)).i ≠ x) : (seenD l k).contains x = false := by
  rw [Bool.eq_false_iff]
  intro h
  unfold seenD at h
  rw [List.contains_iff_mem] at h
  obtain ⟨y, hy, hyx⟩ := List.mem_map.1 h
  rw [List.mem_take_iff_getElem] at hy
  obtain ⟨j, hj, rfl⟩ := hy
  exact hx j (by omega) hyx
set_option maxRecDepth 100000 in
set_option maxHeartbeats 6400000 in
theorem specMasterRight_any (s : Mst) (v1 v2 : Value) (w : World) (ht : s.tot ≤ 1048576) (h : RowMst w v1 v2 s) :
    Calls Try.prog 19 #[.agg #[.int .i64 s.nx, v1, v2]] w fun e w' => e = .returned (.bool s.right) ∧ Below w.heap.size w w' := by
  have q1 := csum_pos Wt.sz s.op
  have q3 := csum_pos Dn.sz s.dn
  have hb0 : s.op.length ≤ 1048576 ∧ s.dn.length ≤ 1048576 ∧ csum Wt.sz s.op ≤ 1048576 ∧ csum Dn.sz s.dn ≤ 1048576 := by unfold Mst.tot at ht; omega
  obtain ⟨b1, b2, b3, b4⟩ := hb0
  have HID : Hid (∀ W : World, Calls Try.prog 43 #[.int .i64 s.nx] W fun e w' => e = .returned (.bool (idB s.nx)) ∧ W = w') := fun W => l09Id_any s.nx W
  have HOP : Hid (idB s.nx = true → ∀ W : World, Below w.heap.size w W → Calls Try.prog 44 #[v1, .int .i64 s.nx] W fun e w' => e = .returned (.bool (openW s.nx s.op)) ∧ Below W.heap.size W w') := fun hi W hW => l09Open_any s.nx s.op v1 W ((idB_iff _).1 hi).1 ((idB_iff _).1 hi).2 b1 (fun x hx => by have := csum_each Wt.sz hx; have e : Wt.sz x = x.t.size := rfl; unfold maxLen; omega) (RowC.below h.o hW)
  have HAT : Hid (∀ (i : Int) (W : World), Below w.heap.size w W → Calls Try.prog 46 #[v1, .int .i64 i] W fun e w' => e = .returned (.int .i64 (atW s.op i)) ∧ W = w') := fun i W hW => l09At_any s.op i v1 W b1 (RowC.below h.o hW)
  have HZ : Hid (∀ x ∈ s.dn, x.a.size ≤ 1048576) := fun x hx => by have := csum_each Dn.sz hx; have e : Dn.sz x = x.a.size := rfl; omega
  have HD : Hid (∀ W, Below w.heap.size w W → RowD W v2 s.dn) := fun W hW => RowC.below h.d hW
  obtain ⟨⟨p1, c1, rfl, _⟩, ⟨p2, c2, rfl, _⟩⟩ := h
  clear q1 q3 ht b3 b4
  have hid := idB_iff s.nx
  obtain ⟨R, hR⟩ : ∃ R, s.right = R := ⟨_, rfl⟩
  have HR0 : Hid (idB s.nx = false → R = false) := fun h => by rw [← hR]; unfold Mst.right; rw [h]; rfl
  have HR1 : Hid (openW s.nx s.op = false → R = false) := fun h => by rw [← hR]; unfold Mst.right; rw [h]; simp
  have HR2 : Hid (¬ s.op.length + s.dn.length ≤ 20 → R = false) := fun h => by rw [← hR]; unfold Mst.right donesB; rw [decide_eq_false h]; simp
  have HR3 : Hid (freshD s.nx s.op [] s.dn = false → R = false) := fun h => by rw [← hR]; unfold Mst.right donesB; rw [h]; simp
  have HR4 : Hid (idB s.nx = true → openW s.nx s.op = true → s.op.length + s.dn.length ≤ 20 → freshD s.nx s.op [] s.dn = true → R = true) := fun h1 h2 h3 h4 => by rw [← hR]; unfold Mst.right donesB; rw [h1, h2, h4, decide_eq_true h3]; rfl
  rw [hR]
  clear hR
  have hA := all_alloc w (.cells #[.int .i64 s.nx, .slice p1 s.op.length c1, .slice p2 s.dn.length c2] 30)
  have hX : Hid _ := heap_alloc_new w (.cells #[.int .i64 s.nx, .slice p1 s.op.length c1, .slice p2 s.dn.length c2] 30)
  have hws : IntKind.i64.wrap ((s.dn.length : Int) + (s.op.length : Int)) = (s.dn.length : Int) + (s.op.length : Int) := by
    have := wrapM (s.dn.length + s.op.length) (by omega)
    simpa using this
  go_enter Try.func19, Try.ntmps19
  go_upto_region 1 with fail
  generalize w.alloc (.cells #[.int .i64 s.nx, .slice p1 s.op.length c1, .slice p2 s.dn.length c2] 30) = A at hA hX ⊢
  have x0 := cellW hX.out 0 _ rfl A (Below.refl _ _)
  have x1 := cellW hX.out 1 _ rfl A (Below.refl _ _)
  have y1 : Hid _ := cellW hX.out 1 _ rfl
  have y2 : Hid _ := cellW hX.out 2 _ rfl
  cases hI : idB s.nx with
  | false =>
    rw [hI] at HID
    obtain rfl := HR0.out hI
    clear HR0 HR1 HR2 HR3 HR4 hid hI
    go_wp2_with (first | (go_at_call 43; refine (HID.out _).mono ?_; rintro e w0 ⟨rfl, rfl⟩))
    go_ret
    exact ⟨rfl, hA⟩
  | true =>
  rw [hI] at HID
  replace HOP : Hid (∀ W : World, Below w.heap.size w W → Calls Try.prog 44 #[.slice p1 s.op.length c1, .int .i64 s.nx] W fun e w' => e = .returned (.bool (openW s.nx s.op)) ∧ Below W.heap.size W w') := HOP.out hI
  obtain ⟨hn1, hn2⟩ := hid.1 hI
  cases hO : openW s.nx s.op with
  | false =>
    rw [hO] at HOP
    obtain rfl := HR1.out hO
    clear HR0 HR1 HR2 HR3 HR4 hid hI hO
    go_wp2_with (first | (go_at_call 43; refine (HID.out _).mono ?_; rintro e w0 ⟨rfl, rfl⟩) | (go_at_call 44; refine (HOP.out _ hA).mono ?_; rintro e w1 ⟨rfl, hb1⟩; have z1 := y1.out w1 hb1; have z2 := y2.out w1 hb1))
    go_ret
    exact ⟨rfl, keepB hA (Nat.le_refl _) hb1⟩
  | true =>
  rw [hO] at HOP
  by_cases h20 : s.op.length + s.dn.length ≤ 20
  case neg =>
    have h20' : (20 : Int) < (s.dn.length : Int) + (s.op.length : Int) := by omega
    obtain rfl := HR2.out h20
    clear HR0 HR1 HR2 HR3 HR4 hid hI hO h20
    go_wp2_with (first | (go_at_call 43; refine (HID.out _).mono ?_; rintro e w0 ⟨rfl, rfl⟩) | (go_at_call 44; refine (HOP.out _ hA).mono ?_; rintro e w1 ⟨rfl, hb1⟩; have z1 := y1.out w1 hb1; have z2 := y2.out w1 hb1))
    go_ret
    exact ⟨rfl, keepB hA (Nat.le_refl _) hb1⟩
  have h20' : ¬ (20 : Int) < (s.dn.length : Int) + (s.op.length : Int) := by omega
  replace HR4 : Hid (freshD s.nx s.op [] s.dn = true → R = true) := HR4.out hI hO h20
  clear HR0 HR1 HR2 hid hI hO h20
  go_upto_region 3 with (first | (go_at_call 43; refine (HID.out _).mono ?_; rintro e w0 ⟨rfl, rfl⟩) | (go_at_call 44; refine (HOP.out _ hA).mono ?_; rintro e w1 ⟨rfl, hb1⟩; have z1 := y1.out w1 hb1; have z2 := y2.out w1 hb1))
  clear x0 x1 y1 y2 h20' HID HOP hws
  have hX1 : Hid _ := blk hX.out hb1
  have hw1 : Below w.heap.size w w1 := keepB hA (Nat.le_refl _) hb1
  clear hX hb1 hA
  have hew : IntKind.i64.wrap (s.nx - 1) = s.nx - 1 := by
    obtain ⟨z, hz⟩ : ∃ z : Nat, s.nx - 1 = (z : Int) := ⟨(s.nx - 1).toNat, by omega⟩
    rw [hz]
    exact wrapM z (by omega)
  go_wp2
  go_loopw [3] (fun i wr => ∃ k : Nat, k ≤ s.dn.length ∧ i = .int .i64 k ∧ Hid (freshD s.nx s.op [] s.dn = freshD s.nx s.op (seenD s.dn k) (s.dn.drop k)) ∧ Below w1.heap.size w1 wr) (fun i _ => s.dn.length - (intOf i).toNat)
  case atStart => exact ⟨0, Nat.zero_le _, rfl, (by rw [seenD_zero]; rfl : freshD s.nx s.op [] s.dn = freshD s.nx s.op (seenD s.dn 0) (s.dn.drop 0)), Below.refl _ _⟩
  case round =>
    obtain ⟨k, hk, rfl, HK, hbel⟩ := hrel
    have hX2 : Hid _ := blk hX1.out hbel
    have a2 := cellW hX2.out 2 _ rfl wr (Below.refl _ _)
    by_cases hlt : k < s.dn.length
    · obtain ⟨g, o, c', e1, q1⟩ := RowC.at (HD.out wr (keepB hw1 (Nat.le_refl _) hbel)) k hlt
      cases e1
      have hz := HZ.out _ (List.getElem_mem hlt)
      have HE : Hid _ := freshD_drop (nx := s.nx) (op := s.op) hlt
      have Q1 : Hid (∀ W, Below wr.heap.size wr W → W.rangeAt g (o + k * 2) [.int .i64 s.dn[k].i, .string s.dn[k].a]) := q1
      clear q1
      have HSY : Hid (∀ j (hj : j < k) (hj' : j < s.dn.length), s.dn[j].i = s.dn[k].i → (seenD s.dn k).contains s.dn[k].i = true) := fun j hj hj' h => seenD_yes hj hk h
      have HSN : Hid ((∀ j (hj : j < k) (hj' : j < s.dn.length), s.dn[j].i ≠ s.dn[k].i) → (seenD s.dn k).contains s.dn[k].i = false) := fun h => seenD_no hk (fun j hj => h j hj (by omega))
      have HI : Hid (∀ W, Calls Try.prog 45 #[.int .i64 s.dn[k].i, .int .i64 1, .int .i64 (s.nx - 1)] W fun e w' => e = .returned (.bool (decide (1 ≤ s.dn[k].i) && decide (s.dn[k].i ≤ s.nx - 1))) ∧ W = w') := fun W => l02Is_any _ _ _ W
      generalize s.dn[k] = d at HE Q1 HI hz HSY HSN
      generalize (seenD s.dn k).contains d.i = T at HE HSY HSN
      have hwr : Below w.heap.size w wr := keepB hw1 (Nat.le_refl _) hbel
      have hbV := all_alloc wr (.cells #[.int .i64 d.i, .string d.a] 69)
      have HC : Hid (∀ W, Below w.heap.size w W → Calls Try.prog 46 #[.slice p1 s.op.length c1, .int .i64 d.i] W fun e w' => e = .returned (.int .i64 (atW s.op d.i)) ∧ W = w') := fun W hW => HAT.out d.i W hW
      have hat := atW_opB s.op d.i
      generalize atW s.op d.i = AT at HC hat
      have hload : Hid True := trivial
      have z1 := cellW hX2.out 1 _ rfl (wr.alloc (.cells #[.int .i64 d.i, .string d.a] 69)) hbV
      have z0 := cellW hX2.out 0 _ rfl (wr.alloc (.cells #[.int .i64 d.i, .string d.a] 69)) hbV
      by_cases hI : 1 ≤ d.i ∧ d.i ≤ s.nx - 1
      case neg =>
        have eI : (decide (1 ≤ d.i) && decide (d.i ≤ s.nx - 1)) = false := by
          rw [Bool.eq_false_iff]; intro hh; rw [Bool.and_eq_true, decide_eq_true_eq, decide_eq_true_eq] at hh; exact hI hh
        rw [eI] at HI
        obtain rfl := HR3.out (by
          rw [HK.out, HE.out]
          by_cases h1 : 1 ≤ d.i
          · rw [decide_eq_false (by omega : ¬ d.i < s.nx)]; simp
          · rw [decide_eq_false h1]; simp)
        clear HK HE eI hI hat HSY HSN
        go_wp2_with (first | (have _ := hload; refine wpList_load_mid rfl 69 (.tmp 38) rfl g (o + k * 2) rfl _ _ (Q1.out wr (Below.refl _ _)) Try.underlying69 rfl (by kernel_rfl) ?_; clear hload) | (go_at_call 45; refine (HI.out _).mono ?_; rintro e9 w9 ⟨rfl, rfl⟩))
        go_ret
        exact ⟨rfl, keepB hwr (Nat.le_refl _) hbV⟩
      have eI : (decide (1 ≤ d.i) && decide (d.i ≤ s.nx - 1)) = true := by rw [decide_eq_true hI.1, decide_eq_true hI.2]; rfl
      rw [eI] at HI
      have h1 := hI.1
      have h2 : d.i < s.nx := by omega
      clear eI hI
      cases hB : opB s.op d.i with
      | true =>
        have hat0 : 0 ≤ AT := by rw [hB] at hat; exact of_decide_eq_true hat
        obtain rfl := HR3.out (by rw [HK.out, HE.out, hB]; simp)
        clear HK HE hat hB HSY HSN
        go_wp2_with (first | (have _ := hload; refine wpList_load_mid rfl 69 (.tmp 38) rfl g (o + k * 2) rfl _ _ (Q1.out wr (Below.refl _ _)) Try.underlying69 rfl (by kernel_rfl) ?_; clear hload) | (go_at_call 45; refine (HI.out _).mono ?_; rintro e9 w9 ⟨rfl, rfl⟩) | (go_at_call 46; refine (HC.out _ (keepB hwr (Nat.le_refl _) hbV)).mono ?_; rintro e8 w8 ⟨rfl, rfl⟩))
        go_ret
        exact ⟨rfl, keepB hwr (Nat.le_refl _) hbV⟩
      | false =>
      have hat0 : ¬ 0 ≤ AT := by rw [hB] at hat; exact of_decide_eq_false hat
      clear hat
      by_cases h3 : d.a.size ≤ 40
      case neg =>
        have n3 : 40 < (d.a.size : Int) := by omega
        obtain rfl := HR3.out (by rw [HK.out, HE.out, decide_eq_false h3]; simp)
        clear HK HE h3 hB HSY HSN
        go_wp2_with (first | (have _ := hload; refine wpList_load_mid rfl 69 (.tmp 38) rfl g (o + k * 2) rfl _ _ (Q1.out wr (Below.refl _ _)) Try.underlying69 rfl (by kernel_rfl) ?_; clear hload) | (go_at_call 45; refine (HI.out _).mono ?_; rintro e9 w9 ⟨rfl, rfl⟩) | (go_at_call 46; refine (HC.out _ (keepB hwr (Nat.le_refl _) hbV)).mono ?_; rintro e8 w8 ⟨rfl, rfl⟩))
        go_ret
        exact ⟨rfl, keepB hwr (Nat.le_refl _) hbV⟩
      have n3 : ¬ 40 < (d.a.size : Int) := by omega
      have HF : Hid (T = true → R = false) := fun h => HR3.out (by rw [HK.out, HE.out, h]; rfl)
      have HK2 : Hid (T = false → freshD s.nx s.op [] s.dn = freshD s.nx s.op (seenD s.dn (k + 1)) (s.dn.drop (k + 1))) := fun h => by rw [HK.out, HE.out, h, hB, decide_eq_true h1, decide_eq_true h2, decide_eq_true h3]; rfl
      clear HK HE h1 h2 h3 hB
      go_upto_region 9 with (first | (have _ := hload; refine wpList_load_mid rfl 69 (.tmp 38) rfl g (o + k * 2) rfl _ _ (Q1.out wr (Below.refl _ _)) Try.underlying69 rfl (by kernel_rfl) ?_; clear hload) | (go_at_call 45; refine (HI.out _).mono ?_; rintro e9 w9 ⟨rfl, rfl⟩) | (go_at_call 46; refine (HC.out _ (keepB hwr (Nat.le_refl _) hbV)).mono ?_; rintro e8 w8 ⟨rfl, rfl⟩))
      have hV : Hid _ := heap_alloc_new wr (.cells #[.int .i64 d.i, .string d.a] 69)
      have hX3 : Hid _ := blk hX2.out hbV
      have hwV : Below w.heap.size w (wr.alloc (.cells #[.int .i64 d.i, .string d.a] 69)) := keepB hwr (Nat.le_refl _) hbV
      clear z0 z1 a2 hat0 n3 HC HI Q1 hX2
      generalize wr.alloc (.cells #[.int .i64 d.i, .string d.a] 69) = V at hbV hV hX3 hwV ⊢
      have hw1V : Below w1.heap.size w1 V := keepB hbel (Nat.le_refl _) hbV
      clear hbV
      generalize wr.heap.size = J at hV ⊢
      clear hwr hbel
      go_wp2
      go_loopw [5] (fun i wr => ∃ j : Nat, j ≤ k ∧ i = .int .i64 j ∧ Hid (∀ m (hm : m < j) (hm' : m < s.dn.length), s.dn[m].i ≠ d.i) ∧ Below V.heap.size V wr) (fun i _ => k - (intOf i).toNat)
      case atStart => exact ⟨0, Nat.zero_le _, rfl, (fun m hm => absurd hm (by omega) : ∀ m (hm : m < 0) (hm' : m < s.dn.length), s.dn[m].i ≠ d.i), Below.refl _ _⟩
      case round =>
        obtain ⟨j, hj, rfl, HB, hbV2⟩ := hrel
        by_cases hjk : j < k
        · have hjl : j < s.dn.length := by omega
          obtain ⟨g', o', c', e2, q2⟩ := RowC.at (HD.out wr (keepB hwV (Nat.le_refl _) hbV2)) j hjl
          cases e2
          have pj : ∀ W, Below wr.heap.size wr W → W.cell? ⟨g, o + j * 2, none⟩ = some (.int .i64 s.dn[j].i) := fun W hW => by simpa using rcRange_cells (q2 W hW) 0 _ rfl
          clear q2
          have b0 : ∀ W, Below wr.heap.size wr W → W.cell? ⟨J, 0, none⟩ = some (.int .i64 d.i) := fun W hW => cellW hV.out 0 _ rfl W (keepB hbV2 (Nat.le_refl _) hW)
          have a2 : ∀ W, Below wr.heap.size wr W → W.cell? ⟨w.heap.size, 2, none⟩ = some (.slice (some ⟨g, o, none⟩) s.dn.length c2) := fun W hW => cellW hX3.out 2 _ rfl W (keepB hbV2 (Nat.le_refl _) hW)
          have hR0 : Below wr.heap.size wr wr.drew := Below.drew (Below.refl _ _)
          have HY : Hid (s.dn[j].i = d.i → R = false) := fun h => HF.out (HSY.out j hjk hjl h)
          have HN : Hid (s.dn[j].i ≠ d.i → ∀ m (hm : m < j + 1) (hm' : m < s.dn.length), s.dn[m].i ≠ d.i) := fun h m hm hm' => by
            by_cases h1 : m < j
            · exact HB.out m h1 hm'
            · obtain rfl : m = j := by omega
              exact h
          generalize s.dn[j].i = di at pj HY HN
          go_upto_region 12 with fail
          by_cases he : di = d.i
          · have hb : (di == d.i) = true := by simpa using he
            obtain rfl := HY.out he
            clear he HY HN HF HSY HSN HK2
            refine wp_region_held_drew (S := (fun w' => Below wr.heap.size wr w')) (by kernel_rfl) ?_ (fun hHeld => ?_)
            · (try dsimp only); exact hR0
            first
              | (refine skipH (i := 0) rfl (by kernel_rfl) (by kernel_rfl) (by kernel_rfl) (fun _ _ _ h => h) (by rfl) (by assumption) ?_; try simp only [Act.put, List.setIfInBounds_toArray, List.set_cons_zero, List.set_cons_succ, List.getElem_toArray, List.getElem_cons_succ, List.getElem_cons_zero])
              | (refine yieldH (i := 0) (v := ?_) rfl (by kernel_rfl) (by kernel_rfl) (by kernel_rfl) (fun _ _ _ h => h) (by rfl) ?_ (by assumption) ?_; rotate_left; (intro w hSw; (try dsimp only at hSw); go_simp; (try with_reducible rfl)); try simp only [Act.put, List.setIfInBounds_toArray, List.set_cons_zero, List.set_cons_succ, List.getElem_toArray, List.getElem_cons_succ, List.getElem_cons_zero])
              | fail
            first
              | (refine skipH (i := 1) rfl (by kernel_rfl) (by kernel_rfl) (by kernel_rfl) (fun _ _ _ h => h) (by rfl) (by assumption) ?_; try simp only [Act.put, List.setIfInBounds_toArray, List.set_cons_zero, List.set_cons_succ, List.getElem_toArray, List.getElem_cons_succ, List.getElem_cons_zero])
              | (refine yieldH (i := 1) (v := ?_) rfl (by kernel_rfl) (by kernel_rfl) (by kernel_rfl) (fun _ _ _ h => h) (by rfl) ?_ (by assumption) ?_; rotate_left; (intro w hSw; (try dsimp only at hSw); go_simp; (try with_reducible rfl)); try simp only [Act.put, List.setIfInBounds_toArray, List.set_cons_zero, List.set_cons_succ, List.getElem_toArray, List.getElem_cons_succ, List.getElem_cons_zero])
              | fail
            first
              | (refine skipH (i := 2) rfl (by kernel_rfl) (by kernel_rfl) (by kernel_rfl) (fun _ _ _ h => h) (by rfl) (by assumption) ?_; try simp only [Act.put, List.setIfInBounds_toArray, List.set_cons_zero, List.set_cons_succ, List.getElem_toArray, List.getElem_cons_succ, List.getElem_cons_zero])
              | (refine yieldH (i := 2) (v := ?_) rfl (by kernel_rfl) (by kernel_rfl) (by kernel_rfl) (fun _ _ _ h => h) (by rfl) ?_ (by assumption) ?_; rotate_left; (intro w hSw; (try dsimp only at hSw); go_simp; (try with_reducible rfl)); try simp only [Act.put, List.setIfInBounds_toArray, List.set_cons_zero, List.set_cons_succ, List.getElem_toArray, List.getElem_cons_succ, List.getElem_cons_zero])
              | fail
            first
              | (refine skipH (i := 3) rfl (by kernel_rfl) (by kernel_rfl) (by kernel_rfl) (fun _ _ _ h => h) (by rfl) (by assumption) ?_; try simp only [Act.put, List.setIfInBounds_toArray, List.set_cons_zero, List.set_cons_succ, List.getElem_toArray, List.getElem_cons_succ, List.getElem_cons_zero])
              | (refine yieldH (i := 3) (v := ?_) rfl (by kernel_rfl) (by kernel_rfl) (by kernel_rfl) (fun _ _ _ h => h) (by rfl) ?_ (by assumption) ?_; rotate_left; (intro w hSw; (try dsimp only at hSw); go_simp; (try with_reducible rfl)); try simp only [Act.put, List.setIfInBounds_toArray, List.set_cons_zero, List.set_cons_succ, List.getElem_toArray, List.getElem_cons_succ, List.getElem_cons_zero])
              | fail
            first
              | (refine skipH (i := 4) rfl (by kernel_rfl) (by kernel_rfl) (by kernel_rfl) (fun _ _ _ h => h) (by rfl) (by assumption) ?_; try simp only [Act.put, List.setIfInBounds_toArray, List.set_cons_zero, List.set_cons_succ, List.getElem_toArray, List.getElem_cons_succ, List.getElem_cons_zero])
              | (refine yieldH (i := 4) (v := ?_) rfl (by kernel_rfl) (by kernel_rfl) (by kernel_rfl) (fun _ _ _ h => h) (by rfl) ?_ (by assumption) ?_; rotate_left; (intro w hSw; (try dsimp only at hSw); go_simp; (try with_reducible rfl)); try simp only [Act.put, List.setIfInBounds_toArray, List.set_cons_zero, List.set_cons_succ, List.getElem_toArray, List.getElem_cons_succ, List.getElem_cons_zero])
              | fail
            first
              | (refine skipH (i := 5) rfl (by kernel_rfl) (by kernel_rfl) (by kernel_rfl) (fun _ _ _ h => h) (by rfl) (by assumption) ?_; try simp only [Act.put, List.setIfInBounds_toArray, List.set_cons_zero, List.set_cons_succ, List.getElem_toArray, List.getElem_cons_succ, List.getElem_cons_zero])
              | (refine yieldH (i := 5) (v := ?_) rfl (by kernel_rfl) (by kernel_rfl) (by kernel_rfl) (fun _ _ _ h => h) (by rfl) ?_ (by assumption) ?_; rotate_left; (intro w hSw; (try dsimp only at hSw); go_simp; (try with_reducible rfl)); try simp only [Act.put, List.setIfInBounds_toArray, List.set_cons_zero, List.set_cons_succ, List.getElem_toArray, List.getElem_cons_succ, List.getElem_cons_zero])
              | fail
            first
              | (refine skipH (i := 6) rfl (by kernel_rfl) (by kernel_rfl) (by kernel_rfl) (fun _ _ _ h => h) (by rfl) (by assumption) ?_; try simp only [Act.put, List.setIfInBounds_toArray, List.set_cons_zero, List.set_cons_succ, List.getElem_toArray, List.getElem_cons_succ, List.getElem_cons_zero])
              | (refine yieldH (i := 6) (v := ?_) rfl (by kernel_rfl) (by kernel_rfl) (by kernel_rfl) (fun _ _ _ h => h) (by rfl) ?_ (by assumption) ?_; rotate_left; (intro w hSw; (try dsimp only at hSw); go_simp; (try with_reducible rfl)); try simp only [Act.put, List.setIfInBounds_toArray, List.set_cons_zero, List.set_cons_succ, List.getElem_toArray, List.getElem_cons_succ, List.getElem_cons_zero])
              | fail
            first
              | (refine skipH (i := 7) rfl (by kernel_rfl) (by kernel_rfl) (by kernel_rfl) (fun _ _ _ h => h) (by rfl) (by assumption) ?_; try simp only [Act.put, List.setIfInBounds_toArray, List.set_cons_zero, List.set_cons_succ, List.getElem_toArray, List.getElem_cons_succ, List.getElem_cons_zero])
              | (refine yieldH (i := 7) (v := ?_) rfl (by kernel_rfl) (by kernel_rfl) (by kernel_rfl) (fun _ _ _ h => h) (by rfl) ?_ (by assumption) ?_; rotate_left; (intro w hSw; (try dsimp only at hSw); go_simp; (try with_reducible rfl)); try simp only [Act.put, List.setIfInBounds_toArray, List.set_cons_zero, List.set_cons_succ, List.getElem_toArray, List.getElem_cons_succ, List.getElem_cons_zero])
              | fail
            first
              | (refine skipH (i := 8) rfl (by kernel_rfl) (by kernel_rfl) (by kernel_rfl) (fun _ _ _ h => h) (by rfl) (by assumption) ?_; try simp only [Act.put, List.setIfInBounds_toArray, List.set_cons_zero, List.set_cons_succ, List.getElem_toArray, List.getElem_cons_succ, List.getElem_cons_zero])
              | (refine yieldH (i := 8) (v := ?_) rfl (by kernel_rfl) (by kernel_rfl) (by kernel_rfl) (fun _ _ _ h => h) (by rfl) ?_ (by assumption) ?_; rotate_left; (intro w hSw; (try dsimp only at hSw); go_simp; (try with_reducible rfl)); try simp only [Act.put, List.setIfInBounds_toArray, List.set_cons_zero, List.set_cons_succ, List.getElem_toArray, List.getElem_cons_succ, List.getElem_cons_zero])
              | fail
            refine wpAnyH_done (by kernel_rfl) ?_ _
            go_wp2
            go_ret
            exact ⟨rfl, keepB hwV (Nat.le_refl _) (keepB hbV2 (Nat.le_refl _) hR0)⟩
          · have hb : (di == d.i) = false := by simpa using he
            have HN2 : Hid (∀ m (hm : m < j + 1) (hm' : m < s.dn.length), s.dn[m].i ≠ d.i) := HN.out he
            clear he HY HN
            refine wp_region_held_drew (S := (fun w' => Below wr.heap.size wr w')) (by kernel_rfl) ?_ (fun hHeld => ?_)
            · (try dsimp only); exact hR0
            first
              | (refine skipH (i := 0) rfl (by kernel_rfl) (by kernel_rfl) (by kernel_rfl) (fun _ _ _ h => h) (by rfl) (by assumption) ?_; try simp only [Act.put, List.setIfInBounds_toArray, List.set_cons_zero, List.set_cons_succ, List.getElem_toArray, List.getElem_cons_succ, List.getElem_cons_zero])
              | (refine yieldH (i := 0) (v := ?_) rfl (by kernel_rfl) (by kernel_rfl) (by kernel_rfl) (fun _ _ _ h => h) (by rfl) ?_ (by assumption) ?_; rotate_left; (intro w hSw; (try dsimp only at hSw); go_simp; (try with_reducible rfl)); try simp only [Act.put, List.setIfInBounds_toArray, List.set_cons_zero, List.set_cons_succ, List.getElem_toArray, List.getElem_cons_succ, List.getElem_cons_zero])
              | fail
            first
              | (refine skipH (i := 1) rfl (by kernel_rfl) (by kernel_rfl) (by kernel_rfl) (fun _ _ _ h => h) (by rfl) (by assumption) ?_; try simp only [Act.put, List.setIfInBounds_toArray, List.set_cons_zero, List.set_cons_succ, List.getElem_toArray, List.getElem_cons_succ, List.getElem_cons_zero])
              | (refine yieldH (i := 1) (v := ?_) rfl (by kernel_rfl) (by kernel_rfl) (by kernel_rfl) (fun _ _ _ h => h) (by rfl) ?_ (by assumption) ?_; rotate_left; (intro w hSw; (try dsimp only at hSw); go_simp; (try with_reducible rfl)); try simp only [Act.put, List.setIfInBounds_toArray, List.set_cons_zero, List.set_cons_succ, List.getElem_toArray, List.getElem_cons_succ, List.getElem_cons_zero])
              | fail
            first
              | (refine skipH (i := 2) rfl (by kernel_rfl) (by kernel_rfl) (by kernel_rfl) (fun _ _ _ h => h) (by rfl) (by assumption) ?_; try simp only [Act.put, List.setIfInBounds_toArray, List.set_cons_zero, List.set_cons_succ, List.getElem_toArray, List.getElem_cons_succ, List.getElem_cons_zero])
              | (refine yieldH (i := 2) (v := ?_) rfl (by kernel_rfl) (by kernel_rfl) (by kernel_rfl) (fun _ _ _ h => h) (by rfl) ?_ (by assumption) ?_; rotate_left; (intro w hSw; (try dsimp only at hSw); go_simp; (try with_reducible rfl)); try simp only [Act.put, List.setIfInBounds_toArray, List.set_cons_zero, List.set_cons_succ, List.getElem_toArray, List.getElem_cons_succ, List.getElem_cons_zero])
              | fail
            first
              | (refine skipH (i := 3) rfl (by kernel_rfl) (by kernel_rfl) (by kernel_rfl) (fun _ _ _ h => h) (by rfl) (by assumption) ?_; try simp only [Act.put, List.setIfInBounds_toArray, List.set_cons_zero, List.set_cons_succ, List.getElem_toArray, List.getElem_cons_succ, List.getElem_cons_zero])
              | (refine yieldH (i := 3) (v := ?_) rfl (by kernel_rfl) (by kernel_rfl) (by kernel_rfl) (fun _ _ _ h => h) (by rfl) ?_ (by assumption) ?_; rotate_left; (intro w hSw; (try dsimp only at hSw); go_simp; (try with_reducible rfl)); try simp only [Act.put, List.setIfInBounds_toArray, List.set_cons_zero, List.set_cons_succ, List.getElem_toArray, List.getElem_cons_succ, List.getElem_cons_zero])
              | fail
            first
              | (refine skipH (i := 4) rfl (by kernel_rfl) (by kernel_rfl) (by kernel_rfl) (fun _ _ _ h => h) (by rfl) (by assumption) ?_; try simp only [Act.put, List.setIfInBounds_toArray, List.set_cons_zero, List.set_cons_succ, List.getElem_toArray, List.getElem_cons_succ, List.getElem_cons_zero])
              | (refine yieldH (i := 4) (v := ?_) rfl (by kernel_rfl) (by kernel_rfl) (by kernel_rfl) (fun _ _ _ h => h) (by rfl) ?_ (by assumption) ?_; rotate_left; (intro w hSw; (try dsimp only at hSw); go_simp; (try with_reducible rfl)); try simp only [Act.put, List.setIfInBounds_toArray, List.set_cons_zero, List.set_cons_succ, List.getElem_toArray, List.getElem_cons_succ, List.getElem_cons_zero])
              | fail
            first
              | (refine skipH (i := 5) rfl (by kernel_rfl) (by kernel_rfl) (by kernel_rfl) (fun _ _ _ h => h) (by rfl) (by assumption) ?_; try simp only [Act.put, List.setIfInBounds_toArray, List.set_cons_zero, List.set_cons_succ, List.getElem_toArray, List.getElem_cons_succ, List.getElem_cons_zero])
              | (refine yieldH (i := 5) (v := ?_) rfl (by kernel_rfl) (by kernel_rfl) (by kernel_rfl) (fun _ _ _ h => h) (by rfl) ?_ (by assumption) ?_; rotate_left; (intro w hSw; (try dsimp only at hSw); go_simp; (try with_reducible rfl)); try simp only [Act.put, List.setIfInBounds_toArray, List.set_cons_zero, List.set_cons_succ, List.getElem_toArray, List.getElem_cons_succ, List.getElem_cons_zero])
              | fail
            first
              | (refine skipH (i := 6) rfl (by kernel_rfl) (by kernel_rfl) (by kernel_rfl) (fun _ _ _ h => h) (by rfl) (by assumption) ?_; try simp only [Act.put, List.setIfInBounds_toArray, List.set_cons_zero, List.set_cons_succ, List.getElem_toArray, List.getElem_cons_succ, List.getElem_cons_zero])
              | (refine yieldH (i := 6) (v := ?_) rfl (by kernel_rfl) (by kernel_rfl) (by kernel_rfl) (fun _ _ _ h => h) (by rfl) ?_ (by assumption) ?_; rotate_left; (intro w hSw; (try dsimp only at hSw); go_simp; (try with_reducible rfl)); try simp only [Act.put, List.setIfInBounds_toArray, List.set_cons_zero, List.set_cons_succ, List.getElem_toArray, List.getElem_cons_succ, List.getElem_cons_zero])
              | fail
            first
              | (refine skipH (i := 7) rfl (by kernel_rfl) (by kernel_rfl) (by kernel_rfl) (fun _ _ _ h => h) (by rfl) (by assumption) ?_; try simp only [Act.put, List.setIfInBounds_toArray, List.set_cons_zero, List.set_cons_succ, List.getElem_toArray, List.getElem_cons_succ, List.getElem_cons_zero])
              | (refine yieldH (i := 7) (v := ?_) rfl (by kernel_rfl) (by kernel_rfl) (by kernel_rfl) (fun _ _ _ h => h) (by rfl) ?_ (by assumption) ?_; rotate_left; (intro w hSw; (try dsimp only at hSw); go_simp; (try with_reducible rfl)); try simp only [Act.put, List.setIfInBounds_toArray, List.set_cons_zero, List.set_cons_succ, List.getElem_toArray, List.getElem_cons_succ, List.getElem_cons_zero])
              | fail
            first
              | (refine skipH (i := 8) rfl (by kernel_rfl) (by kernel_rfl) (by kernel_rfl) (fun _ _ _ h => h) (by rfl) (by assumption) ?_; try simp only [Act.put, List.setIfInBounds_toArray, List.set_cons_zero, List.set_cons_succ, List.getElem_toArray, List.getElem_cons_succ, List.getElem_cons_zero])
              | (refine yieldH (i := 8) (v := ?_) rfl (by kernel_rfl) (by kernel_rfl) (by kernel_rfl) (fun _ _ _ h => h) (by rfl) ?_ (by assumption) ?_; rotate_left; (intro w hSw; (try dsimp only at hSw); go_simp; (try with_reducible rfl)); try simp only [Act.put, List.setIfInBounds_toArray, List.set_cons_zero, List.set_cons_succ, List.getElem_toArray, List.getElem_cons_succ, List.getElem_cons_zero])
              | fail
            refine wpAnyH_done (by kernel_rfl) ?_ _
            go_wp2
            go_roundw
            case rel => exact ⟨j + 1, by omega, by go_num, HN2.out, keepB hbV2 (Nat.le_refl _) hR0⟩
            case measure => simp [intOf] <;> omega
        · have HT : Hid (freshD s.nx s.op [] s.dn = freshD s.nx s.op (seenD s.dn (k + 1)) (s.dn.drop (k + 1))) := HK2.out (HSN.out (fun m hm hm' => HB.out m (by omega) hm'))
          clear HF HSY HSN HK2 HB
          go_wp2
          go_roundw
          case rel => exact ⟨k + 1, by omega, by go_num, HT.out, keepB hw1V (Nat.le_refl _) hbV2⟩
          case measure => simp [intOf] <;> omega
    · have hkk : k = s.dn.length := by omega
      obtain rfl := HR4.out (by rw [HK.out, hkk, List.drop_length]; rfl)
      clear hkk
      go_wp2
      go_ret
      exact ⟨rfl, keepB hw1 (Nat.le_refl _) hbel⟩
end Go.Proofs.Ytghchcipobcpjaa
