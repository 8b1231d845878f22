/- A NEW SEGMENT is small. -/
import Derived.Test.YtklpaleghanhhaaQdSegY
import Derived.Test.YtklpaleghanhhaaQdSegA
namespace Go.Proofs.Ytklpaleghanhhaa
open Go.RowKit
set_option linter.unusedVariables false
set_option linter.unusedSimpArgs false

theorem tot_newS (a b : Int) : (newS a b).tot = 0 := rfl
theorem cnt_newS (a b : Int) : (newS a b).cnt = 0 := rfl
theorem ssum_new (zs : List Int) : ssum (zs.map fun a => newS a 0) = 0 := by
  induction zs with
  | nil => rfl
  | cons a l ih =>
    unfold ssum at ih ⊢
    rw [List.map_cons, List.map_cons, List.sum_cons, ih, tot_newS]
    rfl
theorem snSeg_small (zs : List Int) : (snSeg zs).tot ≤ 1048576 ∧ 1 + (snSeg zs).cnt ≤ 4900000 := by
  unfold snSeg
  by_cases h : snCode zs = 0
  · rw [if_pos h]
    have hl : zs.length ≤ 4 := by
      unfold snCode at h
      by_cases h4 : 400 < zs.length
      · rw [if_pos h4] at h; cases h
      · rw [if_neg h4] at h
        by_cases hn : newOK zs = true
        · unfold newOK at hn
          simp only [Bool.and_eq_true, decide_eq_true_eq] at hn
          exact hn.2.1
        · rw [if_neg hn] at h; cases h
    have ht : (segNew zs).tot = 2 * (zs.length : Int) := by
      unfold Seg.tot segNew
      show (((zs.map fun a => newS a 0).length : Int) + ssum (zs.map fun a => newS a 0) + ((zs.map fun _ => true).length : Int) + ((([] : List Nt).length : Int) + nsum [])) = _
      rw [ssum_new, List.length_map, List.length_map]
      show _ + 0 + _ + (0 + 0) = _
      omega
    have hm := (msum_le (segNew zs).ss).2
    rw [show (segNew zs).ss = zs.map fun a => newS a 0 from rfl, ssum_new, List.length_map] at hm
    have hc : (segNew zs).cnt ≤ 16 * (zs.length : Int) := by
      unfold Seg.cnt
      rw [show (segNew zs).ss = zs.map fun a => newS a 0 from rfl, show (segNew zs).us = zs.map fun _ => true from rfl, List.length_map, show (segNew zs).ns = [] from rfl, List.length_nil]
      omega
    rw [ht]
    omega
  · rw [if_neg h]
    exact ⟨of_decide_eq_true rfl, of_decide_eq_true rfl⟩
end Go.Proofs.Ytklpaleghanhhaa
/- THE DESK's SEGMENT, the program's and the model's. Written by mkdsk.py. -/
namespace Go.Proofs.Ytklpaleghanhhaa
open Go.RowKit
set_option linter.unusedVariables false
set_option linter.unusedSimpArgs false

theorem row_123 {w : World} {g : Nat} {fz : Nat × Nat} (h : w.heap[g]? = some (.cells #[.int .i64 1, .int .i64 2, .int .i64 3] 2 fz)) : RowI w (.slice (some ⟨g, 0, none⟩) 3 3) [1, 2, 3] :=
  ⟨some ⟨g, 0, none⟩, 3, rfl, fun k hk => ⟨g, rfl, (Array.getElem?_eq_some_iff.1 h).1, by
    match k, hk with
    | 0, hk => simp [World.cell?, h]
    | 1, hk => simp [World.cell?, h]
    | 2, hk => simp [World.cell?, h]⟩⟩
set_option maxRecDepth 100000 in
set_option maxHeartbeats 1600000 in
theorem deskSegment_any (w : World) : Calls Try.prog 21 #[] w fun e w' => ∃ v1 v2 v3, e = .returned (.agg #[v1, v2, v3]) ∧ OwnSegB w' w.heap.size w'.heap.size v1 v2 v3 (snSeg [1, 2, 3]) ∧ Below w.heap.size w w' := by
  have hX : Hid _ := heap_alloc_new w (.cells #[.slice none 0 0, .slice none 0 0, .slice none 0 0] 47)
  have hA := all_alloc w (.cells #[.slice none 0 0, .slice none 0 0, .slice none 0 0] 47)
  have HI : Hid (∀ (W : World) (x : Value), RowI W x [1, 2, 3] → Calls Try.prog 56 #[x] W fun e w' => ∃ v1 v2, e = .returned (.agg #[v1, v2, .slice none 0 0, .slice none 0 0, .int .i64 (snCode [1, 2, 3])]) ∧ OwnSegB w' W.heap.size w'.heap.size v1 v2 (.slice none 0 0) (snSeg [1, 2, 3]) ∧ Below W.heap.size W w') := fun W x h => segmentNew_any x [1, 2, 3] W (by decide) h
  generalize snSeg [1, 2, 3] = S at HI ⊢
  generalize snCode [1, 2, 3] = C at HI
  have hfld : ∀ (a b c d e : Value) (W : World), (Instr.field 91 (.agg #[a, b, c, d, e]) 0).run Try.prog W = .ok (.agg #[a, b, c]) W := by
    intro a b c d e W
    kernel_rfl
  go_enter Try.func21, Try.ntmps21
  go_upto_region 1 with fail
  generalize w.alloc (.cells #[.slice none 0 0, .slice none 0 0, .slice none 0 0] 47) = A at hX hA ⊢
  have hb1 := all_alloc A (.cells #[.int .i64 1, .int .i64 2, .int .i64 3] 2)
  have hrow : Hid _ := row_123 (heap_alloc_new A (.cells #[.int .i64 1, .int .i64 2, .int .i64 3] 2))
  have hz : w.heap.size < A.heap.size := (Array.getElem?_eq_some_iff.1 hX.out).1
  replace hX : Hid _ := blk hX.out hb1
  have hA1 : Below w.heap.size w (A.alloc (.cells #[.int .i64 1, .int .i64 2, .int .i64 3] 2)) := keepB hA (Nat.le_refl _) hb1
  go_wp2_with (first
    | (go_at_call 56; refine (HI.out _ _ hrow.out).mono ?_; rintro e w3 ⟨v1, v2, rfl, own3, hb3⟩; obtain ⟨⟨p1, c1, rfl, _⟩, ⟨p2, c2, rfl, _⟩, _⟩ := own3.row; replace hX : Hid _ := blk hX.out hb3)
    | (refine wpList_store_row rfl 47 (.tmp 0) (.tmp 3) rfl w.heap.size #[.slice p1 S.ss.length c1, .slice p2 S.us.length c2, .slice none 0 0] rfl rfl _ _ hX.out (by kernel_rfl) rfl (by simp [Value.oneCell']) ?_))
  go_wp2
  have hA3 : Below w.heap.size w w3 := keepB hA1 (Nat.le_refl _) hb3
  have hYf := setRow_heap _ w.heap.size _ #[.slice p1 S.ss.length c1, .slice p2 S.us.length c2, .slice none 0 0] _ _ hX.out
  have hAf : Below w.heap.size w _ := Below.setRow hA3 (g := w.heap.size) (Nat.le_refl _) #[.slice p1 S.ss.length c1, .slice p2 S.us.length c2, .slice none 0 0]
  have hzA := hb1.size
  have hsm : Same w3 (w3.setRow w.heap.size #[.slice p1 S.ss.length c1, .slice p2 S.us.length c2, .slice none 0 0]) (A.alloc (.cells #[.int .i64 1, .int .i64 2, .int .i64 3] 2)).heap.size w3.heap.size := fun k h1 h2 => setRow_other w3 w.heap.size k _ (by omega)
  have hsz : (w3.setRow w.heap.size #[.slice p1 S.ss.length c1, .slice p2 S.us.length c2, .slice none 0 0]).heap.size = w3.heap.size := setRow_size _ _ _
  have own4 := own3.same hsm (by omega)
  exact bodyPost_ret (v := .agg #[.slice p1 S.ss.length c1, .slice p2 S.us.length c2, .slice none 0 0]) (results_cell_row Try.results21 _ _ w.heap.size _ _ _ _ rfl hYf Try.underlying47 rfl (by kernel_rfl)) rfl ⟨_, _, _, rfl, own4.widen (by omega) (by omega) (Nat.le_refl _), hAf⟩
set_option maxRecDepth 100000 in
set_option maxHeartbeats 1600000 in
theorem specDeskSegment_any (w : World) : Calls Try.prog 20 #[] w fun e w' => ∃ v1 v2 v3, e = .returned (.agg #[v1, v2, v3]) ∧ OwnSegB w' w.heap.size w'.heap.size v1 v2 v3 (snSeg [1, 2, 3]) ∧ Below w.heap.size w w' := by
  have hX : Hid _ := heap_alloc_new w (.cells #[.slice none 0 0, .slice none 0 0, .slice none 0 0] 47)
  have hA := all_alloc w (.cells #[.slice none 0 0, .slice none 0 0, .slice none 0 0] 47)
  have HI : Hid (∀ (W : World) (x : Value), RowI W x [1, 2, 3] → Calls Try.prog 55 #[x] W fun e w' => ∃ v1 v2, e = .returned (.agg #[v1, v2, .slice none 0 0, .slice none 0 0, .int .i64 (snCode [1, 2, 3])]) ∧ OwnSegB w' W.heap.size w'.heap.size v1 v2 (.slice none 0 0) (snSeg [1, 2, 3]) ∧ Below W.heap.size W w') := fun W x h => specSegmentNew_any x [1, 2, 3] W (by decide) h
  generalize snSeg [1, 2, 3] = S at HI ⊢
  generalize snCode [1, 2, 3] = C at HI
  have hfld : ∀ (a b c d e : Value) (W : World), (Instr.field 91 (.agg #[a, b, c, d, e]) 0).run Try.prog W = .ok (.agg #[a, b, c]) W := by
    intro a b c d e W
    kernel_rfl
  go_enter Try.func20, Try.ntmps20
  go_upto_region 1 with fail
  generalize w.alloc (.cells #[.slice none 0 0, .slice none 0 0, .slice none 0 0] 47) = A at hX hA ⊢
  have hb1 := all_alloc A (.cells #[.int .i64 1, .int .i64 2, .int .i64 3] 2)
  have hrow : Hid _ := row_123 (heap_alloc_new A (.cells #[.int .i64 1, .int .i64 2, .int .i64 3] 2))
  have hz : w.heap.size < A.heap.size := (Array.getElem?_eq_some_iff.1 hX.out).1
  replace hX : Hid _ := blk hX.out hb1
  have hA1 : Below w.heap.size w (A.alloc (.cells #[.int .i64 1, .int .i64 2, .int .i64 3] 2)) := keepB hA (Nat.le_refl _) hb1
  go_wp2_with (first
    | (go_at_call 55; refine (HI.out _ _ hrow.out).mono ?_; rintro e w3 ⟨v1, v2, rfl, own3, hb3⟩; obtain ⟨⟨p1, c1, rfl, _⟩, ⟨p2, c2, rfl, _⟩, _⟩ := own3.row; replace hX : Hid _ := blk hX.out hb3)
    | (refine wpList_store_row rfl 47 (.tmp 0) (.tmp 3) rfl w.heap.size #[.slice p1 S.ss.length c1, .slice p2 S.us.length c2, .slice none 0 0] rfl rfl _ _ hX.out (by kernel_rfl) rfl (by simp [Value.oneCell']) ?_))
  go_wp2
  have hA3 : Below w.heap.size w w3 := keepB hA1 (Nat.le_refl _) hb3
  have hYf := setRow_heap _ w.heap.size _ #[.slice p1 S.ss.length c1, .slice p2 S.us.length c2, .slice none 0 0] _ _ hX.out
  have hAf : Below w.heap.size w _ := Below.setRow hA3 (g := w.heap.size) (Nat.le_refl _) #[.slice p1 S.ss.length c1, .slice p2 S.us.length c2, .slice none 0 0]
  have hzA := hb1.size
  have hsm : Same w3 (w3.setRow w.heap.size #[.slice p1 S.ss.length c1, .slice p2 S.us.length c2, .slice none 0 0]) (A.alloc (.cells #[.int .i64 1, .int .i64 2, .int .i64 3] 2)).heap.size w3.heap.size := fun k h1 h2 => setRow_other w3 w.heap.size k _ (by omega)
  have hsz : (w3.setRow w.heap.size #[.slice p1 S.ss.length c1, .slice p2 S.us.length c2, .slice none 0 0]).heap.size = w3.heap.size := setRow_size _ _ _
  have own4 := own3.same hsm (by omega)
  exact bodyPost_ret (v := .agg #[.slice p1 S.ss.length c1, .slice p2 S.us.length c2, .slice none 0 0]) (results_cell_row Try.results20 _ _ w.heap.size _ _ _ _ rfl hYf Try.underlying47 rfl (by kernel_rfl)) rfl ⟨_, _, _, rfl, own4.widen (by omega) (by omega) (Nat.le_refl _), hAf⟩
end Go.Proofs.Ytklpaleghanhhaa
