/- WHO HOLDS: the program's and the model's. Written by mksegh.py. -/
import Derived.Test.YtggdjiijcoklgaaHSegS
import Derived.Test.YtggdjiijcoklgaaHOutS
namespace Go.Proofs.Ytggdjiijcoklgaa
open Go.RowKit
set_option linter.unusedVariables false
set_option linter.unusedSimpArgs false

def hAt (s : Seg) (k : Nat) : List Int := if s.us.getD k false = true ∧ (s.ss.getD k (newS 0 0)).st = 1 then [(s.ss.getD k (newS 0 0)).ad] else []
def holdK (s : Seg) (k : Nat) : List Int := (List.range k).flatMap (hAt s)
def Seg.holders (s : Seg) : List Int := if s.right then holdK s s.ss.length else []
theorem holdK_succ (s : Seg) (k : Nat) : holdK s (k + 1) = holdK s k ++ hAt s k := by unfold holdK; rw [List.range_succ, List.flatMap_append]; simp
theorem hAt_len (s : Seg) (k : Nat) : (hAt s k).length ≤ 1 := by unfold hAt; split <;> simp
theorem holdK_len (s : Seg) : ∀ k, (holdK s k).length ≤ k
  | 0 => by simp [holdK]
  | k + 1 => by
    have h1 := holdK_len s k
    have h2 := hAt_len s k
    rw [holdK_succ, List.length_append]
    omega
theorem holders_len (s : Seg) : s.holders.length ≤ 4 := by
  unfold Seg.holders
  split
  · rename_i h
    have := holdK_len s s.ss.length
    unfold Seg.right at h
    simp only [Bool.and_eq_true] at h
    have := of_decide_eq_true h.2.1
    omega
  · simp
theorem hAt_at (s : Seg) (k : Nat) (h1 : k < s.us.length) (h2 : k < s.ss.length) : hAt s k = if s.us[k] = true ∧ s.ss[k].st = 1 then [s.ss[k].ad] else [] := by
  unfold hAt
  rw [getD_at _ _ h1, getD_at _ _ h2]
theorem right_lens {s : Seg} (h : s.right = true) : 1 ≤ s.ss.length ∧ s.ss.length ≤ 4 ∧ s.us.length = s.ss.length := by
  unfold Seg.right at h
  simp only [Bool.and_eq_true] at h
  exact ⟨of_decide_eq_true h.1, of_decide_eq_true h.2.1, of_decide_eq_true h.2.2.1⟩
set_option maxRecDepth 100000 in
set_option maxHeartbeats 3200000 in
theorem holders_any (s : Seg) (v1 v2 v3 : Value) (w : World) (ht : s.tot ≤ 1048576) (h : RowSeg w v1 v2 v3 s) :
    Calls Try.prog 30 #[.agg #[v1, v2, v3]] w fun e w' => ∃ v, e = .returned v ∧ OwnI w' w.heap.size v s.holders ∧ Below w.heap.size w w' := by
  obtain ⟨i0, hi, hz0, hz1, hz2⟩ := info_parts info64
  have HC : Hid (∀ W, Below w.heap.size w W → Calls Try.prog 19 #[.agg #[v1, v2, v3]] W fun e w' => e = .returned (.bool s.right) ∧ Below W.heap.size W w') := fun W hW => segmentRight_any s v1 v2 v3 W ht (h.below hW)
  have HS : Hid (∀ W, Below w.heap.size w W → RowSt W v1 s.ss) := fun W hW => h.st.below hW
  have HU : Hid (∀ W, Below w.heap.size w W → RowBo W v2 s.us) := fun W hW => h.up.below hW
  obtain ⟨⟨q1, c1, rfl, _⟩, ⟨q2, c2, rfl, _⟩, ⟨q3, c3, rfl, _⟩⟩ := h
  have hA := all_alloc w (.cells #[.slice q1 s.ss.length c1, .slice q2 s.us.length c2, .slice q3 s.ns.length c3] 54)
  have hX : Hid _ := heap_alloc_new w (.cells #[.slice q1 s.ss.length c1, .slice q2 s.us.length c2, .slice q3 s.ns.length c3] 54)
  clear ht
  cases hr : s.right with
  | false =>
    rw [hr] at HC
    have hh : s.holders = [] := by unfold Seg.holders; rw [hr]; rfl
    rw [hh]
    clear HS HU hh hr
    go_enter Try.func30, Try.ntmps30
    go_upto_region 1 with fail
    generalize w.alloc (.cells #[.slice q1 s.ss.length c1, .slice q2 s.us.length c2, .slice q3 s.ns.length c3] 54) = A at hA hX ⊢
    go_wp2_with (first
      | (refine wpList_load_rowG (by rfl) 54 (.tmp 1) rfl w.heap.size rfl _ _ _ _ hX.out Try.underlying54 rfl (by kernel_rfl) ?_)
      | (go_at_call 19; refine (HC.out _ hA).mono ?_; rintro e w1 ⟨rfl, hb1⟩))
    go_ret
    exact ⟨_, rfl, OwnI.nil _ _, keepB hA (Nat.le_refl _) hb1⟩
  | true =>
    rw [hr] at HC
    obtain ⟨hl1, hl4, hlu⟩ := right_lens hr
    have hh : s.holders = holdK s s.ss.length := by unfold Seg.holders; rw [hr]; rfl
    rw [hh]
    have HLU : Hid (s.us.length = s.ss.length) := hlu
    clear hh hr hlu
    go_enter Try.func30, Try.ntmps30
    go_upto_region 1 with fail
    generalize w.alloc (.cells #[.slice q1 s.ss.length c1, .slice q2 s.us.length c2, .slice q3 s.ns.length c3] 54) = A at hA hX ⊢
    go_upto_region 4 with (first
      | (refine wpList_load_rowG (by rfl) 54 (.tmp 1) rfl w.heap.size rfl _ _ _ _ hX.out Try.underlying54 rfl (by kernel_rfl) ?_)
      | (go_at_call 19; refine (HC.out _ hA).mono ?_; rintro e w1 ⟨rfl, hb1⟩))
    have hX1 : Hid _ := blk hX.out hb1
    have hA1 := keepB hA (Nat.le_refl _) hb1
    have x0 := cellW hX1.out 0 _ rfl w1 (Below.refl _ _)
    have HO1 : Hid (OwnI w1 (w.heap.size + 1) (.slice none 0 0) (holdK s 0)) := OwnI.nil _ _
    go_wp2
    go_loopw [3, 12] (fun x i wr => ∃ k : Nat, k ≤ s.ss.length ∧ i = .int .i64 k ∧ Hid (OwnI wr (w.heap.size + 1) x (holdK s k)) ∧ Hid (wr.heap[w.heap.size]? = some (.cells #[.slice q1 s.ss.length c1, .slice q2 s.us.length c2, .slice q3 s.ns.length c3] 54 (0, 0))) ∧ Below w.heap.size w wr) (fun _ i _ => s.ss.length - (intOf i).toNat)
    case atStart => exact ⟨0, Nat.zero_le _, rfl, HO1.out, hX1.out, hA1⟩
    case round =>
      obtain ⟨k, hk, rfl, HW, HX, hbel⟩ := hrel
      obtain ⟨pv, cv, hv⟩ := HW.out.shape
      subst hv
      by_cases hlt : k < s.ss.length
      · have hlk := holdK_len s k
        obtain ⟨g, d, u, e1, qs, r1, r2, r3, r4⟩ := (HS.out wr hbel).at k hlt
        have hku : k < s.us.length := by rw [HLU.out]; exact hlt
        obtain ⟨gb, db, e2, qb⟩ := (HU.out wr hbel).at k hku
        cases e1
        have HSU : Hid _ := holdK_succ s k
        rw [hAt_at s k hku hlt] at HSU
        have hone : (stC s.ss[k] u).toArray.all (·.oneCell') = true := by
          refine stC_one ⟨?_, ?_, ?_, ?_⟩
          · obtain ⟨a, b, e, _⟩ := r1; exact ⟨a, _, b, e⟩
          · obtain ⟨a, b, e, _⟩ := r2; exact ⟨a, _, b, e⟩
          · obtain ⟨a, b, e, _⟩ := r3; exact ⟨a, _, b, e⟩
          · obtain ⟨a, b, e, _⟩ := r4; exact ⟨a, _, b, e⟩
        have HRG : Hid (∀ W, Below wr.heap.size wr W → W.rangeAt g (k * 19) (stC s.ss[k] u)) := qs
        have HQB : Hid (∀ W, Below wr.heap.size wr W → W.cell? ⟨gb, k, none⟩ = some (.bool s.us[k])) := qb
        have hub : (k : Int) < (s.us.length : Int) := by rw [HLU.out]; omega
        have e3 : (Value.slice q2 s.us.length c2) = .slice (some ⟨gb, 0, none⟩) s.us.length db := e2
        cases e3
        clear r1 r2 r3 r4 qs qb e2
        generalize hxx : s.ss[k] = x at HRG HSU hone
        generalize s.us[k] = b at HQB HSU
        clear hxx
        generalize holdK s k = L at HW HSU hlk
        have hload : Hid True := trivial
        go_upto_region 7 with (first
          | (have _ := hload; refine wpList_load_mid rfl 33 (.tmp 15) rfl g (k * 19) rfl (stC x u) _ (HRG.out wr (Below.refl _ _)) Try.underlying33 rfl (by kernel_rfl) ?_; clear hload)
          | (refine wpList_store_row rfl 33 (.tmp 5) (.tmp 16) rfl wr.heap.size (stC x u).toArray rfl rfl _ _ (heap_alloc_new wr _) (by kernel_rfl) rfl hone ?_))
        have hS1 : Hid _ := setRow_heap _ wr.heap.size _ (stC x u).toArray _ _ (heap_alloc_new wr (.cells #[.int .i64 0, .int .i64 0, .int .i64 0, .int .i64 0, .int .i64 0, .int .i64 0, .int .i64 0, .int .i64 0, .int .i64 0, .int .i64 0, .int .i64 0, .int .i64 0, .int .i64 0, .int .i64 0, .int .i64 0, .slice none 0 0, .slice none 0 0, .slice none 0 0, .slice none 0 0] 33))
        have hb1' : Below wr.heap.size wr ((wr.alloc (.cells #[.int .i64 0, .int .i64 0, .int .i64 0, .int .i64 0, .int .i64 0, .int .i64 0, .int .i64 0, .int .i64 0, .int .i64 0, .int .i64 0, .int .i64 0, .int .i64 0, .int .i64 0, .int .i64 0, .int .i64 0, .slice none 0 0, .slice none 0 0, .slice none 0 0, .slice none 0 0] 33)).setRow wr.heap.size (stC x u).toArray) := setRow_fresh _ _ _
        generalize (wr.alloc (.cells #[.int .i64 0, .int .i64 0, .int .i64 0, .int .i64 0, .int .i64 0, .int .i64 0, .int .i64 0, .int .i64 0, .int .i64 0, .int .i64 0, .int .i64 0, .int .i64 0, .int .i64 0, .int .i64 0, .int .i64 0, .slice none 0 0, .slice none 0 0, .slice none 0 0, .slice none 0 0] 33)).setRow wr.heap.size (stC x u).toArray = W1 at hS1 hb1' ⊢
        have HOW : Hid (OwnI W1 (w.heap.size + 1) (.slice pv L.length cv) L) := HW.out.below hb1'
        have HXW : Hid _ := blk HX.out hb1'
        have hbelW := keepB hbel (Nat.le_refl _) hb1'
        have x1 := cellW HXW.out 1 _ rfl W1 (Below.refl _ _)
        have yb := HQB.out W1 hb1'
        have s2 := cellW hS1.out 2 (.int .i64 x.st) rfl W1 (Below.refl _ _)
        have s0 := cellW hS1.out 0 (.int .i64 x.ad) rfl W1 (Below.refl _ _)
        have hlx0 : w.heap.size < W1.heap.size := (Array.getElem?_eq_some_iff.1 HXW.out).1
        clear HW HX
        cases b with
        | false =>
          go_wp2
          go_roundw
          case rel => exact ⟨k + 1, by omega, by go_num, (show OwnI _ _ _ _ by rw [HSU.out, if_neg (by simp), List.append_nil]; exact HOW.out), HXW.out, hbelW⟩
          case measure => simp [intOf]; omega
        | true =>
          by_cases hst : x.st = 1
          · have hst' : (x.st == 1) = true := by simpa using hst
            go_wp2_with (at_builtin; refine wpList_append_own _ rfl (.tmp 27) (.tmp 30) 24 rfl (w.heap.size + 1) 2 i0 (.int .i64 0) 1 8 Try.underlying24 hi hz0 hz1 hz2 rfl (by decide) _ _ _ rfl (World.ownsRow.alloc HOW.out _) ⟨W1.heap.size, 0, none⟩ 1 1 [_] rfl rfl (cells_newG _ _ _ _ rfl) (by intro x hx; simp at hx; subst hx; rfl) (by unfold maxLen; omega) (by omega) (by simp; omega) ?_; intro v' w3 hown' hgrow _)
            go_roundw
            case rel =>
              have hzW := hbelW.size
              have hbl : Below w.heap.size w w3 := (hbelW.alloc (by omega) _).grown hgrow (by simp; omega) (fun k e => by have := (World.ownsRow.lt HOW.out k e).1; omega)
              refine ⟨k + 1, by omega, by go_num, (show OwnI _ _ _ _ from ?_), ?_, hbl⟩
              · rw [HSU.out, if_pos ⟨rfl, hst⟩]
                exact OwnI.of hown' (by rw [List.length_append]; rfl) (by rw [List.map_append]; rfl)
              · have hlx : w.heap.size < W1.heap.size := (Array.getElem?_eq_some_iff.1 HXW.out).1
                rw [hgrow.block w.heap.size (by simp; omega) (fun e => by have := (World.ownsRow.lt HOW.out _ e.symm).1; omega)]
                exact blk HXW.out (all_alloc _ _)
            case measure => simp [intOf]; omega
          · have hst' : (x.st == 1) = false := by simpa using hst
            go_wp2
            go_roundw
            case rel => exact ⟨k + 1, by omega, by go_num, (show OwnI _ _ _ _ by rw [HSU.out, if_neg (by simp [hst]), List.append_nil]; exact HOW.out), HXW.out, hbelW⟩
            case measure => simp [intOf]; omega
      · have hkk : k = s.ss.length := by omega
        have x0 := cellW HX.out 0 _ rfl wr (Below.refl _ _)
        have HF : Hid (OwnI wr w.heap.size (.slice pv (holdK s k).length cv) (holdK s s.ss.length)) := (by have := HW.out; rw [← hkk]; exact OwnI.leT this (by omega) : OwnI _ _ _ _)
        go_wp2
        go_ret
        exact ⟨_, rfl, HF.out, hbel⟩
set_option maxRecDepth 100000 in
set_option maxHeartbeats 3200000 in
theorem specHolders_any (s : Seg) (v1 v2 v3 : Value) (w : World) (ht : s.tot ≤ 1048576) (h : RowSeg w v1 v2 v3 s) :
    Calls Try.prog 29 #[.agg #[v1, v2, v3]] w fun e w' => ∃ v, e = .returned v ∧ OwnI w' w.heap.size v s.holders ∧ Below w.heap.size w w' := by
  obtain ⟨i0, hi, hz0, hz1, hz2⟩ := info_parts info64
  have HC : Hid (∀ W, Below w.heap.size w W → Calls Try.prog 17 #[.agg #[v1, v2, v3]] W fun e w' => e = .returned (.bool s.right) ∧ Below W.heap.size W w') := fun W hW => specSegmentRight_any s v1 v2 v3 W ht (h.below hW)
  have HS : Hid (∀ W, Below w.heap.size w W → RowSt W v1 s.ss) := fun W hW => h.st.below hW
  have HU : Hid (∀ W, Below w.heap.size w W → RowBo W v2 s.us) := fun W hW => h.up.below hW
  obtain ⟨⟨q1, c1, rfl, _⟩, ⟨q2, c2, rfl, _⟩, ⟨q3, c3, rfl, _⟩⟩ := h
  have hA := all_alloc w (.cells #[.slice q1 s.ss.length c1, .slice q2 s.us.length c2, .slice q3 s.ns.length c3] 54)
  have hX : Hid _ := heap_alloc_new w (.cells #[.slice q1 s.ss.length c1, .slice q2 s.us.length c2, .slice q3 s.ns.length c3] 54)
  clear ht
  cases hr : s.right with
  | false =>
    rw [hr] at HC
    have hh : s.holders = [] := by unfold Seg.holders; rw [hr]; rfl
    rw [hh]
    clear HS HU hh hr
    go_enter Try.func29, Try.ntmps29
    go_upto_region 1 with fail
    generalize w.alloc (.cells #[.slice q1 s.ss.length c1, .slice q2 s.us.length c2, .slice q3 s.ns.length c3] 54) = A at hA hX ⊢
    go_upto_region 2 with fail
    have hE : Hid _ := own_madeI A (w.heap.size + 1) (Array.getElem?_eq_some_iff.1 hX.out).1
    have hbE := all_alloc A (.cells #[] 2)
    have zE : A.heap.size < (A.alloc (.cells #[] 2)).heap.size := by simp
    obtain ⟨ga, ega⟩ : ∃ ga, A.heap.size = ga := ⟨_, rfl⟩
    rw [ega] at hE
    simp only [ega]
    replace hA := keepB hA (Nat.le_refl _) hbE
    replace hX : Hid _ := blk hX.out hbE
    generalize A.alloc (.cells #[] 2) = AE at hE hA hX ⊢
    go_wp2_with (first
      | (refine wpList_load_rowG (by rfl) 54 (.tmp 1) rfl w.heap.size rfl _ _ _ _ hX.out Try.underlying54 rfl (by kernel_rfl) ?_)
      | (go_at_call 17; refine (HC.out _ hA).mono ?_; rintro e w1 ⟨rfl, hb1⟩))
    go_ret
    exact ⟨_, rfl, OwnI.leT (OwnI.below hE.out hb1) (by omega), keepB hA (Nat.le_refl _) hb1⟩
  | true =>
    rw [hr] at HC
    obtain ⟨hl1, hl4, hlu⟩ := right_lens hr
    have hh : s.holders = holdK s s.ss.length := by unfold Seg.holders; rw [hr]; rfl
    rw [hh]
    have HLU : Hid (s.us.length = s.ss.length) := hlu
    clear hh hr hlu
    go_enter Try.func29, Try.ntmps29
    go_upto_region 1 with fail
    generalize w.alloc (.cells #[.slice q1 s.ss.length c1, .slice q2 s.us.length c2, .slice q3 s.ns.length c3] 54) = A at hA hX ⊢
    go_upto_region 2 with fail
    have hE : Hid _ := own_madeI A (w.heap.size + 1) (Array.getElem?_eq_some_iff.1 hX.out).1
    have hbE := all_alloc A (.cells #[] 2)
    have zE : A.heap.size < (A.alloc (.cells #[] 2)).heap.size := by simp
    obtain ⟨ga, ega⟩ : ∃ ga, A.heap.size = ga := ⟨_, rfl⟩
    rw [ega] at hE
    simp only [ega]
    replace hA := keepB hA (Nat.le_refl _) hbE
    replace hX : Hid _ := blk hX.out hbE
    generalize A.alloc (.cells #[] 2) = AE at hE hA hX ⊢
    go_upto_region 4 with (first
      | (refine wpList_load_rowG (by rfl) 54 (.tmp 1) rfl w.heap.size rfl _ _ _ _ hX.out Try.underlying54 rfl (by kernel_rfl) ?_)
      | (go_at_call 17; refine (HC.out _ hA).mono ?_; rintro e w1 ⟨rfl, hb1⟩))
    have hX1 : Hid _ := blk hX.out hb1
    have hA1 := keepB hA (Nat.le_refl _) hb1
    have x0 := cellW hX1.out 0 _ rfl w1 (Below.refl _ _)
    have HO1 : Hid (OwnI w1 (w.heap.size + 1) (.slice (some ⟨ga, 0, none⟩) 0 0) (holdK s 0)) := OwnI.below hE.out hb1
    go_wp2
    go_loopw [3, 4] (fun x i wr => ∃ k : Nat, k ≤ s.ss.length ∧ i = .int .i64 k ∧ Hid (OwnI wr (w.heap.size + 1) x (holdK s k)) ∧ Hid (wr.heap[w.heap.size]? = some (.cells #[.slice q1 s.ss.length c1, .slice q2 s.us.length c2, .slice q3 s.ns.length c3] 54 (0, 0))) ∧ Below w.heap.size w wr) (fun _ i _ => s.ss.length - (intOf i).toNat)
    case atStart => exact ⟨0, Nat.zero_le _, rfl, HO1.out, hX1.out, hA1⟩
    case round =>
      obtain ⟨k, hk, rfl, HW, HX, hbel⟩ := hrel
      obtain ⟨pv, cv, hv⟩ := HW.out.shape
      subst hv
      by_cases hlt : k < s.ss.length
      · have hlk := holdK_len s k
        obtain ⟨g, d, u, e1, qs, r1, r2, r3, r4⟩ := (HS.out wr hbel).at k hlt
        have hku : k < s.us.length := by rw [HLU.out]; exact hlt
        obtain ⟨gb, db, e2, qb⟩ := (HU.out wr hbel).at k hku
        cases e1
        have HSU : Hid _ := holdK_succ s k
        rw [hAt_at s k hku hlt] at HSU
        have hone : (stC s.ss[k] u).toArray.all (·.oneCell') = true := by
          refine stC_one ⟨?_, ?_, ?_, ?_⟩
          · obtain ⟨a, b, e, _⟩ := r1; exact ⟨a, _, b, e⟩
          · obtain ⟨a, b, e, _⟩ := r2; exact ⟨a, _, b, e⟩
          · obtain ⟨a, b, e, _⟩ := r3; exact ⟨a, _, b, e⟩
          · obtain ⟨a, b, e, _⟩ := r4; exact ⟨a, _, b, e⟩
        have HRG : Hid (∀ W, Below wr.heap.size wr W → W.rangeAt g (k * 19) (stC s.ss[k] u)) := qs
        have HQB : Hid (∀ W, Below wr.heap.size wr W → W.cell? ⟨gb, k, none⟩ = some (.bool s.us[k])) := qb
        have hub : (k : Int) < (s.us.length : Int) := by rw [HLU.out]; omega
        have e3 : (Value.slice q2 s.us.length c2) = .slice (some ⟨gb, 0, none⟩) s.us.length db := e2
        cases e3
        clear r1 r2 r3 r4 qs qb e2
        generalize hxx : s.ss[k] = x at HRG HSU hone
        generalize s.us[k] = b at HQB HSU
        clear hxx
        generalize holdK s k = L at HW HSU hlk
        have HOW : Hid (OwnI wr (w.heap.size + 1) (.slice pv L.length cv) L) := HW.out
        have HXW : Hid _ := HX.out
        have hbelW := hbel
        have x0 := cellW HXW.out 0 _ rfl wr (Below.refl _ _)
        have x1 := cellW HXW.out 1 _ rfl wr (Below.refl _ _)
        have yb := HQB.out wr (Below.refl _ _)
        have s2 : wr.cell? ⟨g, k * 19 + 2, none⟩ = some (.int .i64 x.st) := HRG.out wr (Below.refl _ _) 2 _ rfl
        have s0 : wr.cell? ⟨g, k * 19, none⟩ = some (.int .i64 x.ad) := by simpa using HRG.out wr (Below.refl _ _) 0 _ rfl
        have hlx0 : w.heap.size < wr.heap.size := (Array.getElem?_eq_some_iff.1 HXW.out).1
        clear HW HX
        cases b with
        | false =>
          go_wp2
          go_roundw
          case rel => exact ⟨k + 1, by omega, by go_num, (show OwnI _ _ _ _ by rw [HSU.out, if_neg (by simp), List.append_nil]; exact HOW.out), HXW.out, hbelW⟩
          case measure => simp [intOf]; omega
        | true =>
          by_cases hst : x.st = 1
          · have hst' : (x.st == 1) = true := by simpa using hst
            go_wp2_with (at_builtin; refine wpList_append_own _ rfl (.tmp 31) (.tmp 38) 24 rfl (w.heap.size + 1) 2 i0 (.int .i64 0) 1 8 Try.underlying24 hi hz0 hz1 hz2 rfl (by decide) _ _ _ rfl (World.ownsRow.alloc HOW.out _) ⟨wr.heap.size, 0, none⟩ 1 1 [_] rfl rfl (cells_newG _ _ _ _ rfl) (by intro x hx; simp at hx; subst hx; rfl) (by unfold maxLen; omega) (by omega) (by simp; omega) ?_; intro v' w3 hown' hgrow _)
            go_roundw
            case rel =>
              have hzW := hbelW.size
              have hbl : Below w.heap.size w w3 := (hbelW.alloc (by omega) _).grown hgrow (by simp; omega) (fun k e => by have := (World.ownsRow.lt HOW.out k e).1; omega)
              refine ⟨k + 1, by omega, by go_num, (show OwnI _ _ _ _ from ?_), ?_, hbl⟩
              · rw [HSU.out, if_pos ⟨rfl, hst⟩]
                exact OwnI.of hown' (by rw [List.length_append]; rfl) (by rw [List.map_append]; rfl)
              · have hlx : w.heap.size < wr.heap.size := (Array.getElem?_eq_some_iff.1 HXW.out).1
                rw [hgrow.block w.heap.size (by simp; omega) (fun e => by have := (World.ownsRow.lt HOW.out _ e.symm).1; omega)]
                exact blk HXW.out (all_alloc _ _)
            case measure => simp [intOf]; omega
          · have hst' : (x.st == 1) = false := by simpa using hst
            go_wp2
            go_roundw
            case rel => exact ⟨k + 1, by omega, by go_num, (show OwnI _ _ _ _ by rw [HSU.out, if_neg (by simp [hst]), List.append_nil]; exact HOW.out), HXW.out, hbelW⟩
            case measure => simp [intOf]; omega
      · have hkk : k = s.ss.length := by omega
        have x0 := cellW HX.out 0 _ rfl wr (Below.refl _ _)
        have HF : Hid (OwnI wr w.heap.size (.slice pv (holdK s k).length cv) (holdK s s.ss.length)) := (by have := HW.out; rw [← hkk]; exact OwnI.leT this (by omega) : OwnI _ _ _ _)
        go_wp2
        go_ret
        exact ⟨_, rfl, HF.out, hbel⟩
end Go.Proofs.Ytggdjiijcoklgaa
