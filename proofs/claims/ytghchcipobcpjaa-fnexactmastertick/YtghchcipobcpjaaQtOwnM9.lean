/- A MASTER COPIED, the program's. Written by mkown.py. -/
import Derived.Test.YtghchcipobcpjaaQtRecP
namespace Go.Proofs.Ytghchcipobcpjaa
open Go.RowKit
set_option linter.unusedVariables false
set_option linter.unusedSimpArgs false

/-- a master at work, that has its memory for itself: its box, what is open above it, what is done below it -/
structure OwnAt (w : World) (base M : Nat) (va vd : Value) (s : Mst) : Prop where
  le : base ≤ M
  box : w.heap[M]? = some (.cells #[va, .int .i64 s.nx, vd] 60 (0, 0))
  op : OwnKW w (M + 1) va s.op
  dn : OwnKD w base vd s.dn
  lt : ∀ b, vd.ownBlock = some b → b < M
set_option maxRecDepth 100000 in
set_option maxHeartbeats 6400000 in
theorem ownMaster_any (s : Mst) (v1 v2 : Value) (w : World) (hl1 : s.op.length ≤ 1048576) (hl2 : s.dn.length ≤ 1048576) (hz1 : ∀ x ∈ s.op, x.t.size ≤ 1048576) (hz2 : ∀ x ∈ s.dn, x.a.size ≤ 1048576) (h : RowMst w v1 v2 s) :
    Calls Try.prog 27 #[.agg #[.int .i64 s.nx, v1, v2]] w fun e w' => ∃ M va vd, e = .returned (.pointer (some ⟨M, 0, none⟩)) ∧ OwnAt w' w.heap.size M va vd s ∧ Below w.heap.size w w' := by
  obtain ⟨i0, T⟩ := tyW
  have HT : Hid _ := T
  have HW : Hid (∀ W, Below w.heap.size w W → RowW W v1 s.op) := fun W hW => RowC.below h.o hW
  have HCD : Hid (∀ W, Below w.heap.size w W → Calls Try.prog 55 #[v2] W fun e w' => ∃ v', e = .returned v' ∧ OwnKD w' W.heap.size v' s.dn ∧ Below W.heap.size W w') := fun W hW => copyDones_any s.dn v2 W hl2 hz2 (RowC.below h.d hW)
  have HZ : Hid (∀ x ∈ s.op, x.t.size ≤ 1048576) := hz1
  obtain ⟨⟨p1, c1, rfl, _⟩, ⟨p2, c2, rfl, _⟩⟩ := h
  clear T hz1 hz2
  have hA := all_alloc w (.cells #[.int .i64 s.nx, .slice p1 s.op.length c1, .slice p2 s.dn.length c2] 30)
  have hX : Hid _ := heap_alloc_new w (.cells #[.int .i64 s.nx, .slice p1 s.op.length c1, .slice p2 s.dn.length c2] 30)
  go_enter Try.func27, Try.ntmps27
  go_upto_region 1 with fail
  generalize w.alloc (.cells #[.int .i64 s.nx, .slice p1 s.op.length c1, .slice p2 s.dn.length c2] 30) = A at hA hX ⊢
  have hXD : Hid _ := blk hX.out (Below.drew (Below.refl A.heap.size A))
  have hAD : Below w.heap.size w A.drew := keepB hA (Nat.le_refl _) (Below.drew (Below.refl _ _))
  refine wp_region_held_drew (S := (fun w' => w'.heap[w.heap.size]? = some (.cells #[.int .i64 s.nx, .slice p1 s.op.length c1, .slice p2 s.dn.length c2] 30 (0, 0)))) (by kernel_rfl) ?_ (fun hHeld => ?_)
  · (try dsimp only); exact hXD.out
  clear hX hA
  generalize A.drew = D at hXD hAD hHeld ⊢
  first
    | (refine skipH (i := 0) rfl (by kernel_rfl) (by kernel_rfl) (by kernel_rfl) (fun _ _ _ h => h) (by rfl) (by assumption) ?_; try simp only [Act.put, List.setIfInBounds_toArray, List.set_cons_zero, List.set_cons_succ, List.getElem_toArray, List.getElem_cons_succ, List.getElem_cons_zero])
    | (refine yieldH (i := 0) (v := ?_) rfl (by kernel_rfl) (by kernel_rfl) (by kernel_rfl) (fun _ _ _ h => h) (by rfl) ?_ (by assumption) ?_; rotate_left; (intro w hSw; (try dsimp only at hSw); go_simp; (try with_reducible rfl)); try simp only [Act.put, List.setIfInBounds_toArray, List.set_cons_zero, List.set_cons_succ, List.getElem_toArray, List.getElem_cons_succ, List.getElem_cons_zero])
    | fail
  refine yieldH (i := 1) (v := .int .i64 s.nx) rfl (by kernel_rfl) (by kernel_rfl) (by kernel_rfl) (fun _ _ _ h => h) (by rfl) ?_ (by assumption) ?_
  · intro w hSw; (try dsimp only at hSw); have y := cellW hSw 0 _ rfl w (Below.refl _ _); go_simp
  try simp only [Act.put, List.setIfInBounds_toArray, List.set_cons_zero, List.set_cons_succ, List.getElem_toArray, List.getElem_cons_succ, List.getElem_cons_zero]
  first
    | (refine skipH (i := 2) rfl (by kernel_rfl) (by kernel_rfl) (by kernel_rfl) (fun _ _ _ h => h) (by rfl) (by assumption) ?_; try simp only [Act.put, List.setIfInBounds_toArray, List.set_cons_zero, List.set_cons_succ, List.getElem_toArray, List.getElem_cons_succ, List.getElem_cons_zero])
    | (refine yieldH (i := 2) (v := ?_) rfl (by kernel_rfl) (by kernel_rfl) (by kernel_rfl) (fun _ _ _ h => h) (by rfl) ?_ (by assumption) ?_; rotate_left; (intro w hSw; (try dsimp only at hSw); go_simp; (try with_reducible rfl)); try simp only [Act.put, List.setIfInBounds_toArray, List.set_cons_zero, List.set_cons_succ, List.getElem_toArray, List.getElem_cons_succ, List.getElem_cons_zero])
    | fail
  refine yieldH (i := 3) (v := .slice p2 s.dn.length c2) rfl (by kernel_rfl) (by kernel_rfl) (by kernel_rfl) (fun _ _ _ h => h) (by rfl) ?_ (by assumption) ?_
  · intro w hSw; (try dsimp only at hSw); have y := cellW hSw 2 _ rfl w (Below.refl _ _); go_simp
  try simp only [Act.put, List.setIfInBounds_toArray, List.set_cons_zero, List.set_cons_succ, List.getElem_toArray, List.getElem_cons_succ, List.getElem_cons_zero]
  refine wpAnyH_ready (rs := [4]) (by kernel_rfl) (by simp) ?_
  refine AllReadyH.cons rfl (fun K hK => ?_) AllReadyH.nil
  go_simp
  go_at_call 55; refine (HCD.out _ hAD).mono ?_; rintro e5 w5 ⟨vd, rfl, ownD, hb5⟩; obtain ⟨pd, cd, rfl⟩ := OwnK.shape ownD
  (try dsimp only)
  refine hK.out _ _ ?_ (fun hHeld => ?_)
  · (try dsimp only); exact blk hXD.out hb5
  clear hK K
  try simp only [Act.put, List.setIfInBounds_toArray, List.set_cons_zero, List.set_cons_succ, List.getElem_toArray, List.getElem_cons_succ, List.getElem_cons_zero]
  have hltD : ∀ b, (Value.slice pd s.dn.length cd).ownBlock = some b → w.heap.size ≤ b ∧ b < w5.heap.size := fun b hb => by have := OwnK.lt ownD b hb; have := hAD.size; omega
  have HD : Hid (OwnKD w5 w.heap.size (.slice pd s.dn.length cd) s.dn) := OwnK.low ownD hAD.size
  replace hXD : Hid _ := blk hXD.out hb5
  replace hAD : Below w.heap.size w w5 := keepB hAD (Nat.le_refl _) hb5
  clear ownD hb5
  first
    | (refine skipH (i := 5) rfl (by kernel_rfl) (by kernel_rfl) (by kernel_rfl) (fun _ _ _ h => h) (by rfl) (by assumption) ?_; try simp only [Act.put, List.setIfInBounds_toArray, List.set_cons_zero, List.set_cons_succ, List.getElem_toArray, List.getElem_cons_succ, List.getElem_cons_zero])
    | (refine yieldH (i := 5) (v := ?_) rfl (by kernel_rfl) (by kernel_rfl) (by kernel_rfl) (fun _ _ _ h => h) (by rfl) ?_ (by assumption) ?_; rotate_left; (intro w hSw; (try dsimp only at hSw); go_simp; (try with_reducible rfl)); try simp only [Act.put, List.setIfInBounds_toArray, List.set_cons_zero, List.set_cons_succ, List.getElem_toArray, List.getElem_cons_succ, List.getElem_cons_zero])
    | fail
  refine wpAnyH_ready (rs := [6]) (by kernel_rfl) (by simp) ?_
  refine AllReadyH.cons rfl (fun K hK => ?_) AllReadyH.nil
  go_simp
  (try dsimp only)
  refine hK.out _ _ ?_ (fun hHeld => ?_)
  · (try dsimp only); exact blk hXD.out (all_alloc w5 (.cells #[.slice none 0 0, .int .i64 s.nx, .slice pd s.dn.length cd] 60))
  clear hK K
  try simp only [Act.put, List.setIfInBounds_toArray, List.set_cons_zero, List.set_cons_succ, List.getElem_toArray, List.getElem_cons_succ, List.getElem_cons_zero]
  have hb6 := all_alloc w5 (.cells #[.slice none 0 0, .int .i64 s.nx, .slice pd s.dn.length cd] 60)
  have hM0 : Hid _ := heap_alloc_new w5 (.cells #[.slice none 0 0, .int .i64 s.nx, .slice pd s.dn.length cd] 60)
  replace HD : Hid (OwnKD (w5.alloc (.cells #[.slice none 0 0, .int .i64 s.nx, .slice pd s.dn.length cd] 60)) w.heap.size (.slice pd s.dn.length cd) s.dn) := OwnK.below HD.out hb6
  replace hXD : Hid _ := blk hXD.out hb6
  replace hAD : Below w.heap.size w (w5.alloc (.cells #[.slice none 0 0, .int .i64 s.nx, .slice pd s.dn.length cd] 60)) := keepB hAD (Nat.le_refl _) hb6
  clear hb6
  first
    | (refine skipH (i := 7) rfl (by kernel_rfl) (by kernel_rfl) (by kernel_rfl) (fun _ _ _ h => h) (by rfl) (by assumption) ?_; try simp only [Act.put, List.setIfInBounds_toArray, List.set_cons_zero, List.set_cons_succ, List.getElem_toArray, List.getElem_cons_succ, List.getElem_cons_zero])
    | (refine yieldH (i := 7) (v := ?_) rfl (by kernel_rfl) (by kernel_rfl) (by kernel_rfl) (fun _ _ _ h => h) (by rfl) ?_ (by assumption) ?_; rotate_left; (intro w hSw; (try dsimp only at hSw); go_simp; (try with_reducible rfl)); try simp only [Act.put, List.setIfInBounds_toArray, List.set_cons_zero, List.set_cons_succ, List.getElem_toArray, List.getElem_cons_succ, List.getElem_cons_zero])
    | fail
  refine wpAnyH_done (by kernel_rfl) ?_ _
  clear hHeld
  have hMw : w.heap.size < w5.heap.size := by
    have h1 := hltD
    have h2 := (Array.getElem?_eq_some_iff.1 hXD.out).1
    simp at h2
    rcases Nat.lt_or_ge w.heap.size w5.heap.size with h | h
    · exact h
    · exfalso
      have h3 : w5.heap.size = w.heap.size := by omega
      have h4 := hXD.out
      have h5 := hM0.out
      rw [h3] at h5
      rw [h5] at h4
      cases h4
  generalize w5.alloc (.cells #[.slice none 0 0, .int .i64 s.nx, .slice pd s.dn.length cd] 60) = B at hM0 HD hXD hAD ⊢
  obtain ⟨M, hM⟩ : ∃ M, w5.heap.size = M := ⟨_, rfl⟩
  rw [hM] at hM0 hltD hMw ⊢
  clear hM
  have x1 := cellW hXD.out 1 _ rfl B (Below.refl _ _)
  go_wp2
  have HO0 : Hid (OwnAt B w.heap.size M (.slice none 0 0) (.slice pd s.dn.length cd) ⟨s.nx, [], s.dn⟩) := (⟨by omega, hM0.out, OwnK.nil _ _ _ _ _, HD.out, fun b hb => (hltD b hb).2⟩ : OwnAt B w.heap.size M (.slice none 0 0) (.slice pd s.dn.length cd) ⟨s.nx, [], s.dn⟩)
  clear hM0 HD x1 hXD
  go_loopw [16] (fun i wr => ∃ (k : Nat) (va : Value), k ≤ s.op.length ∧ i = .int .i64 k ∧ Hid (OwnAt wr w.heap.size M va (.slice pd s.dn.length cd) ⟨s.nx, s.op.take k, s.dn⟩) ∧ Below w.heap.size w wr) (fun i _ => s.op.length - (intOf i).toNat)
  case atStart => exact ⟨0, _, Nat.zero_le _, rfl, HO0.out, hAD⟩
  case round =>
    clear HO0 hAD
    obtain ⟨k, va, hk, rfl, HO, hbel⟩ := hrel
    by_cases hlt : k < s.op.length
    · obtain ⟨g, o, c', e1, q1⟩ := RowC.at (HW.out wr hbel) k hlt
      cases e1
      have hzz := HZ.out _ (List.getElem_mem hlt)
      have HTK : Hid (s.op.take (k + 1) = s.op.take k ++ [s.op[k]]) := List.take_succ_eq_append_getElem hlt
      have Q1 : Hid (∀ W, Below wr.heap.size wr W → W.rangeAt g (o + k * 4) [.int .i64 s.op[k].i, .string s.op[k].t, .int .i64 s.op[k].r, .int .i64 s.op[k].g]) := q1
      clear q1
      generalize s.op[k] = d at hzz HTK Q1
      obtain ⟨pa, ca, rfl⟩ := OwnK.shape HO.out.op
      have elk : (s.op.take k).length = k := by rw [List.length_take]; omega
      dsimp only at HO
      rw [elk] at HO
      have hltO : ∀ b, (Value.slice pa k ca).ownBlock = some b → M + 1 ≤ b ∧ b < wr.heap.size := OwnK.lt HO.out.op
      have hMw2 : M < wr.heap.size := (Array.getElem?_eq_some_iff.1 HO.out.box).1
      have HOP : Hid (OwnKW wr (M + 1) (.slice pa k ca) (s.op.take k)) := HO.out.op
      have HOD : Hid (OwnKD wr w.heap.size (.slice pd s.dn.length cd) s.dn) := HO.out.dn
      have HOB : Hid _ := HO.out.box
      clear HO
      have hload : Hid True := trivial
      have hbV := all_alloc wr (.cells #[.int .i64 d.i, .string d.t, .int .i64 d.r, .int .i64 d.g] 50)
      have hV0 : Hid _ := heap_alloc_new wr (.cells #[.int .i64 d.i, .string d.t, .int .i64 d.r, .int .i64 d.g] 50)
      go_upto_region 5 with (first
        | (have _ := hload; refine wpList_load_mid rfl 50 (.tmp 18) rfl g (o + k * 4) rfl _ _ (Q1.out wr (Below.refl _ _)) Try.underlying50 rfl (by kernel_rfl) ?_; clear hload))
      replace HOP : Hid (OwnKW (wr.alloc (.cells #[.int .i64 d.i, .string d.t, .int .i64 d.r, .int .i64 d.g] 50)) (M + 1) (.slice pa k ca) (s.op.take k)) := OwnK.below HOP.out hbV
      replace HOD : Hid (OwnKD (wr.alloc (.cells #[.int .i64 d.i, .string d.t, .int .i64 d.r, .int .i64 d.g] 50)) w.heap.size (.slice pd s.dn.length cd) s.dn) := OwnK.below HOD.out hbV
      replace HOB : Hid _ := blk HOB.out hbV
      have hwV : Below w.heap.size w (wr.alloc (.cells #[.int .i64 d.i, .string d.t, .int .i64 d.r, .int .i64 d.g] 50)) := keepB hbel (Nat.le_refl _) hbV
      clear Q1 hbV
      generalize wr.alloc (.cells #[.int .i64 d.i, .string d.t, .int .i64 d.r, .int .i64 d.g] 50) = V at hV0 HOP HOD HOB hwV ⊢
      obtain ⟨J, hJ⟩ : ∃ J, wr.heap.size = J := ⟨_, rfl⟩
      rw [hJ] at hV0 hltO hMw2 ⊢
      clear hJ
      have y1 := cellW hV0.out 1 _ rfl V (Below.refl _ _)
      go_upto_region 6 with (go_at_call 56; refine (copyText_any d.t _ (by omega)).mono ?_; rintro e5 w5 ⟨rfl, hb5⟩; have hV5 : Hid _ := blk hV0.out hb5; have z1 := cellW hV5.out 1 _ rfl w5 (Below.refl _ _); have f1 := frozenW hV5.out 1 w5 (Below.refl _ _))
      clear y1 z1 f1
      have hVn : Hid ((w5.setCell ⟨J, 1, none⟩ (.string d.t)).heap[J]? = some (.cells #[.int .i64 d.i, .string d.t, .int .i64 d.r, .int .i64 d.g] 50 (0, 0))) := blk_set hV5.out 1 (.string d.t)
      have HOPn : Hid (OwnKW (w5.setCell ⟨J, 1, none⟩ (.string d.t)) (M + 1) (.slice pa k ca) (s.op.take k)) := OwnK.far (OwnK.below HOP.out hb5) (a := ⟨J, 1, none⟩) (fun b hb => by have := hltO b hb; simp only; omega) (.string d.t)
      have HODn : Hid (OwnKD (w5.setCell ⟨J, 1, none⟩ (.string d.t)) w.heap.size (.slice pd s.dn.length cd) s.dn) := OwnK.far (OwnK.below HOD.out hb5) (a := ⟨J, 1, none⟩) (fun b hb => by have := hltD b hb; simp only; omega) (.string d.t)
      have HOBn : Hid _ := blk_far (a := ⟨J, 1, none⟩) (blk HOB.out hb5) (by simp only; omega) (.string d.t)
      have hwn : Below w.heap.size w (w5.setCell ⟨J, 1, none⟩ (.string d.t)) := (keepB hwV (Nat.le_refl _) hb5).setCell (by simp only; omega) _
      clear hV0 hV5 HOP HOD HOB hwV hb5
      generalize w5.setCell ⟨J, 1, none⟩ (.string d.t) = U at hVn HOPn HODn HOBn hwn ⊢
      refine wp_region_held_drew (S := (fun w' => w'.heap[J]? = some (.cells #[.int .i64 d.i, .string d.t, .int .i64 d.r, .int .i64 d.g] 50 (0, 0)))) (by kernel_rfl) ?_ (fun hHeld => ?_)
      · (try dsimp only); exact blk hVn.out (Below.drew (Below.refl _ _))
      have hd := Below.drew (Below.refl U.heap.size U)
      have hV0 : Hid _ := blk hVn.out hd
      have HOP : Hid (OwnKW U.drew (M + 1) (.slice pa k ca) (s.op.take k)) := OwnK.below HOPn.out hd
      have HOD : Hid (OwnKD U.drew w.heap.size (.slice pd s.dn.length cd) s.dn) := OwnK.below HODn.out hd
      have HOB : Hid _ := blk HOBn.out hd
      have hwV : Below w.heap.size w U.drew := keepB hwn (Nat.le_refl _) hd
      clear hVn HOPn HODn HOBn hwn hd
      generalize U.drew = D at hV0 HOP HOD HOB hwV hHeld ⊢
      first
        | (refine skipH (i := 0) rfl (by kernel_rfl) (by kernel_rfl) (by kernel_rfl) (fun _ _ _ h => h) (by rfl) (by assumption) ?_; try simp only [Act.put, List.setIfInBounds_toArray, List.set_cons_zero, List.set_cons_succ, List.getElem_toArray, List.getElem_cons_succ, List.getElem_cons_zero])
        | (refine yieldH (i := 0) (v := ?_) rfl (by kernel_rfl) (by kernel_rfl) (by kernel_rfl) (fun _ _ _ h => h) (by rfl) ?_ (by assumption) ?_; rotate_left; (intro w hSw; (try dsimp only at hSw); go_simp; (try with_reducible rfl)); try simp only [Act.put, List.setIfInBounds_toArray, List.set_cons_zero, List.set_cons_succ, List.getElem_toArray, List.getElem_cons_succ, List.getElem_cons_zero])
        | fail
      first
        | (refine skipH (i := 1) rfl (by kernel_rfl) (by kernel_rfl) (by kernel_rfl) (fun _ _ _ h => h) (by rfl) (by assumption) ?_; try simp only [Act.put, List.setIfInBounds_toArray, List.set_cons_zero, List.set_cons_succ, List.getElem_toArray, List.getElem_cons_succ, List.getElem_cons_zero])
        | (refine yieldH (i := 1) (v := ?_) rfl (by kernel_rfl) (by kernel_rfl) (by kernel_rfl) (fun _ _ _ h => h) (by rfl) ?_ (by assumption) ?_; rotate_left; (intro w hSw; (try dsimp only at hSw); go_simp; (try with_reducible rfl)); try simp only [Act.put, List.setIfInBounds_toArray, List.set_cons_zero, List.set_cons_succ, List.getElem_toArray, List.getElem_cons_succ, List.getElem_cons_zero])
        | fail
      first
        | (refine skipH (i := 2) rfl (by kernel_rfl) (by kernel_rfl) (by kernel_rfl) (fun _ _ _ h => h) (by rfl) (by assumption) ?_; try simp only [Act.put, List.setIfInBounds_toArray, List.set_cons_zero, List.set_cons_succ, List.getElem_toArray, List.getElem_cons_succ, List.getElem_cons_zero])
        | (refine yieldH (i := 2) (v := ?_) rfl (by kernel_rfl) (by kernel_rfl) (by kernel_rfl) (fun _ _ _ h => h) (by rfl) ?_ (by assumption) ?_; rotate_left; (intro w hSw; (try dsimp only at hSw); go_simp; (try with_reducible rfl)); try simp only [Act.put, List.setIfInBounds_toArray, List.set_cons_zero, List.set_cons_succ, List.getElem_toArray, List.getElem_cons_succ, List.getElem_cons_zero])
        | fail
      first
        | (refine skipH (i := 3) rfl (by kernel_rfl) (by kernel_rfl) (by kernel_rfl) (fun _ _ _ h => h) (by rfl) (by assumption) ?_; try simp only [Act.put, List.setIfInBounds_toArray, List.set_cons_zero, List.set_cons_succ, List.getElem_toArray, List.getElem_cons_succ, List.getElem_cons_zero])
        | (refine yieldH (i := 3) (v := ?_) rfl (by kernel_rfl) (by kernel_rfl) (by kernel_rfl) (fun _ _ _ h => h) (by rfl) ?_ (by assumption) ?_; rotate_left; (intro w hSw; (try dsimp only at hSw); go_simp; (try with_reducible rfl)); try simp only [Act.put, List.setIfInBounds_toArray, List.set_cons_zero, List.set_cons_succ, List.getElem_toArray, List.getElem_cons_succ, List.getElem_cons_zero])
        | fail
      first
        | (refine skipH (i := 4) rfl (by kernel_rfl) (by kernel_rfl) (by kernel_rfl) (fun _ _ _ h => h) (by rfl) (by assumption) ?_; try simp only [Act.put, List.setIfInBounds_toArray, List.set_cons_zero, List.set_cons_succ, List.getElem_toArray, List.getElem_cons_succ, List.getElem_cons_zero])
        | (refine yieldH (i := 4) (v := ?_) rfl (by kernel_rfl) (by kernel_rfl) (by kernel_rfl) (fun _ _ _ h => h) (by rfl) ?_ (by assumption) ?_; rotate_left; (intro w hSw; (try dsimp only at hSw); go_simp; (try with_reducible rfl)); try simp only [Act.put, List.setIfInBounds_toArray, List.set_cons_zero, List.set_cons_succ, List.getElem_toArray, List.getElem_cons_succ, List.getElem_cons_zero])
        | fail
      refine yieldH (i := 6) (v := .agg #[.int .i64 d.i, .string d.t, .int .i64 d.r, .int .i64 d.g]) rfl (by kernel_rfl) (by kernel_rfl) (by kernel_rfl) (fun _ _ _ h => h) (by rfl) ?_ (by assumption) ?_
      · intro w hSw; (try dsimp only at hSw); have y0 := cellW hSw 0 _ rfl w (Below.refl _ _); have y1 := cellW hSw 1 _ rfl w (Below.refl _ _); have y2 := cellW hSw 2 _ rfl w (Below.refl _ _); have y3 := cellW hSw 3 _ rfl w (Below.refl _ _); go_simp
      try simp only [Act.put, List.setIfInBounds_toArray, List.set_cons_zero, List.set_cons_succ, List.getElem_toArray, List.getElem_cons_succ, List.getElem_cons_zero]
      refine wpAnyH_ready (rs := [5, 7]) (by kernel_rfl) (by simp) ?_
      refine (AllReadyH.cons rfl (fun K hK => ?_) (AllReadyH.cons rfl (fun K hK => ?_) AllReadyH.nil))
      · have b0 := cellW HOB.out 0 _ rfl D (Below.refl _ _)
        go_simp
        (try dsimp only)
        refine hK.out _ _ ?_ (fun hHeld => ?_)
        · (try dsimp only); exact hV0.out
        clear hK K
        try simp only [Act.put, List.setIfInBounds_toArray, List.set_cons_zero, List.set_cons_succ, List.getElem_toArray, List.getElem_cons_succ, List.getElem_cons_zero]
        clear b0
        refine wpAnyH_ready (rs := [7]) (by kernel_rfl) (by simp) ?_
        refine AllReadyH.cons rfl (fun K hK => ?_) AllReadyH.nil
        go_simp
        (try dsimp only)
        refine hK.out _ _ ?_ (fun hHeld => ?_)
        · (try dsimp only); exact blk hV0.out (all_alloc D (.cells #[.int .i64 d.i, .string d.t, .int .i64 d.r, .int .i64 d.g] 50))
        clear hK K
        try simp only [Act.put, List.setIfInBounds_toArray, List.set_cons_zero, List.set_cons_succ, List.getElem_toArray, List.getElem_cons_succ, List.getElem_cons_zero]
        have hb6 := all_alloc D (.cells #[.int .i64 d.i, .string d.t, .int .i64 d.r, .int .i64 d.g] 50)
        have hN : Hid _ := heap_alloc_new D (.cells #[.int .i64 d.i, .string d.t, .int .i64 d.r, .int .i64 d.g] 50)
        replace HOP : Hid (OwnKW (D.alloc (.cells #[.int .i64 d.i, .string d.t, .int .i64 d.r, .int .i64 d.g] 50)) (M + 1) (.slice pa k ca) (s.op.take k)) := OwnK.below HOP.out hb6
        replace HOD : Hid (OwnKD (D.alloc (.cells #[.int .i64 d.i, .string d.t, .int .i64 d.r, .int .i64 d.g] 50)) w.heap.size (.slice pd s.dn.length cd) s.dn) := OwnK.below HOD.out hb6
        replace HOB : Hid _ := blk HOB.out hb6
        replace hwV : Below w.heap.size w (D.alloc (.cells #[.int .i64 d.i, .string d.t, .int .i64 d.r, .int .i64 d.g] 50)) := keepB hwV (Nat.le_refl _) hb6
        replace hV0 : Hid _ := blk hV0.out hb6
        generalize D.alloc (.cells #[.int .i64 d.i, .string d.t, .int .i64 d.r, .int .i64 d.g] 50) = w6 at hN HOP HOD HOB hwV hV0 hHeld ⊢
        clear hb6
        obtain ⟨N, hNe⟩ : ∃ N, D.heap.size = N := ⟨_, rfl⟩
        rw [hNe] at hN ⊢
        clear hNe
        have hJ6 : J < w6.heap.size := (Array.getElem?_eq_some_iff.1 hV0.out).1
        have hM6 : M < w6.heap.size := (Array.getElem?_eq_some_iff.1 HOB.out).1
        obtain ⟨v', w7, hrun, hO7, hg7, hv7⟩ := app_recK HT.out wtC_len wtC_one w6 27 (M + 1) (.slice pa k ca) (.slice (some ⟨N, 0, none⟩) 1 1) (s.op.take k) [d] HOP.out (row_oneW hN.out) (by omega) (by simp) (by omega)
        obtain ⟨pv, cv, hv'⟩ := OwnK.shape hO7
        rw [show (s.op.take k ++ [d]).length = k + 1 by rw [List.length_append, elk]; rfl] at hv'
        subst hv'
        refine wpAnyH_ready (rs := [8]) (by kernel_rfl) (by simp) ?_
        refine AllReadyH.cons rfl (fun K hK => ?_) AllReadyH.nil
        unfold Oper.wp; simp [Region.wanted, execOp, resolve, invoke, builtin, Act.eval, hrun, Result.andThen]
        (try dsimp only)
        refine hK.out _ _ ?_ (fun hHeld => ?_)
        · (try dsimp only); exact (hg7.block J hJ6 (fun e => by have := (hltO J e.symm).2; omega)).trans hV0.out
        clear hK K
        try simp only [Act.put, List.setIfInBounds_toArray, List.set_cons_zero, List.set_cons_succ, List.getElem_toArray, List.getElem_cons_succ, List.getElem_cons_zero]
        have hV7 : Hid _ := (hg7.block J hJ6 (fun e => by have := (hltO J e.symm).2; omega)).trans hV0.out
        have HOB7 : Hid _ := (hg7.block M hM6 (fun e => by have := (hltO M e.symm).1; omega)).trans HOB.out
        have HOD7 : Hid (OwnKD w7 w.heap.size (.slice pd s.dn.length cd) s.dn) := OwnK.grown HOD.out hg7 (fun a b ha hb => by have := hltO a ha; have := hltD b hb; omega)
        have hlt7 := OwnK.lt hO7
        have z0 := cellW HOB7.out 0 _ rfl w7 (Below.refl _ _)
        have f0 := frozenW HOB7.out 0 w7 (Below.refl _ _)
        first
          | (refine skipH (i := 9) rfl (by kernel_rfl) (by kernel_rfl) (by kernel_rfl) (fun _ _ _ h => h) (by rfl) (by assumption) ?_; try simp only [Act.put, List.setIfInBounds_toArray, List.set_cons_zero, List.set_cons_succ, List.getElem_toArray, List.getElem_cons_succ, List.getElem_cons_zero])
          | (refine yieldH (i := 9) (v := ?_) rfl (by kernel_rfl) (by kernel_rfl) (by kernel_rfl) (fun _ _ _ h => h) (by rfl) ?_ (by assumption) ?_; rotate_left; (intro w hSw; (try dsimp only at hSw); go_simp; (try with_reducible rfl)); try simp only [Act.put, List.setIfInBounds_toArray, List.set_cons_zero, List.set_cons_succ, List.getElem_toArray, List.getElem_cons_succ, List.getElem_cons_zero])
          | fail
        first
          | (refine skipH (i := 10) rfl (by kernel_rfl) (by kernel_rfl) (by kernel_rfl) (fun _ _ _ h => h) (by rfl) (by assumption) ?_; try simp only [Act.put, List.setIfInBounds_toArray, List.set_cons_zero, List.set_cons_succ, List.getElem_toArray, List.getElem_cons_succ, List.getElem_cons_zero])
          | (refine yieldH (i := 10) (v := ?_) rfl (by kernel_rfl) (by kernel_rfl) (by kernel_rfl) (fun _ _ _ h => h) (by rfl) ?_ (by assumption) ?_; rotate_left; (intro w hSw; (try dsimp only at hSw); go_simp; (try with_reducible rfl)); try simp only [Act.put, List.setIfInBounds_toArray, List.set_cons_zero, List.set_cons_succ, List.getElem_toArray, List.getElem_cons_succ, List.getElem_cons_zero])
          | fail
        first
          | (refine skipH (i := 11) rfl (by kernel_rfl) (by kernel_rfl) (by kernel_rfl) (fun _ _ _ h => h) (by rfl) (by assumption) ?_; try simp only [Act.put, List.setIfInBounds_toArray, List.set_cons_zero, List.set_cons_succ, List.getElem_toArray, List.getElem_cons_succ, List.getElem_cons_zero])
          | (refine yieldH (i := 11) (v := ?_) rfl (by kernel_rfl) (by kernel_rfl) (by kernel_rfl) (fun _ _ _ h => h) (by rfl) ?_ (by assumption) ?_; rotate_left; (intro w hSw; (try dsimp only at hSw); go_simp; (try with_reducible rfl)); try simp only [Act.put, List.setIfInBounds_toArray, List.set_cons_zero, List.set_cons_succ, List.getElem_toArray, List.getElem_cons_succ, List.getElem_cons_zero])
          | fail
        refine wpAnyH_ready (rs := [12]) (by kernel_rfl) (by simp) ?_
        refine AllReadyH.cons rfl (fun K hK => ?_) AllReadyH.nil
        go_simp
        (try dsimp only)
        refine hK.out _ _ ?_ (fun hHeld => ?_)
        · (try dsimp only); exact blk_far (a := ⟨M, 0, none⟩) hV7.out (by simp only; omega) (.slice pv (k + 1) cv)
        clear hK K
        try simp only [Act.put, List.setIfInBounds_toArray, List.set_cons_zero, List.set_cons_succ, List.getElem_toArray, List.getElem_cons_succ, List.getElem_cons_zero]
        refine wpAnyH_done (by kernel_rfl) ?_ _
        go_wp2
        go_roundw
        case rel => exact ⟨k + 1, _, by omega, by go_num, (show OwnAt _ _ _ _ _ _ from ⟨by omega, blk_set HOB7.out 0 (.slice pv (k + 1) cv), by dsimp only; rw [HTK.out]; exact OwnK.far hO7 (a := ⟨M, 0, none⟩) (fun b hb => by have := hlt7 b hb; simp only; omega) (.slice pv (k + 1) cv), OwnK.far HOD7.out (a := ⟨M, 0, none⟩) (fun b hb => by have := hltD b hb; simp only; omega) (.slice pv (k + 1) cv), fun b hb => (hltD b hb).2⟩), (hwV.grown hg7 hwV.size (fun j hj => by have := hltO j hj; omega)).setCell (by simp only; omega) _⟩
        case measure => simp [intOf] <;> omega
      · go_simp
        (try dsimp only)
        refine hK.out _ _ ?_ (fun hHeld => ?_)
        · (try dsimp only); exact blk hV0.out (all_alloc D (.cells #[.int .i64 d.i, .string d.t, .int .i64 d.r, .int .i64 d.g] 50))
        clear hK K
        try simp only [Act.put, List.setIfInBounds_toArray, List.set_cons_zero, List.set_cons_succ, List.getElem_toArray, List.getElem_cons_succ, List.getElem_cons_zero]
        have hb6 := all_alloc D (.cells #[.int .i64 d.i, .string d.t, .int .i64 d.r, .int .i64 d.g] 50)
        have hN : Hid _ := heap_alloc_new D (.cells #[.int .i64 d.i, .string d.t, .int .i64 d.r, .int .i64 d.g] 50)
        replace HOP : Hid (OwnKW (D.alloc (.cells #[.int .i64 d.i, .string d.t, .int .i64 d.r, .int .i64 d.g] 50)) (M + 1) (.slice pa k ca) (s.op.take k)) := OwnK.below HOP.out hb6
        replace HOD : Hid (OwnKD (D.alloc (.cells #[.int .i64 d.i, .string d.t, .int .i64 d.r, .int .i64 d.g] 50)) w.heap.size (.slice pd s.dn.length cd) s.dn) := OwnK.below HOD.out hb6
        replace HOB : Hid _ := blk HOB.out hb6
        replace hwV : Below w.heap.size w (D.alloc (.cells #[.int .i64 d.i, .string d.t, .int .i64 d.r, .int .i64 d.g] 50)) := keepB hwV (Nat.le_refl _) hb6
        replace hV0 : Hid _ := blk hV0.out hb6
        generalize D.alloc (.cells #[.int .i64 d.i, .string d.t, .int .i64 d.r, .int .i64 d.g] 50) = w6 at hN HOP HOD HOB hwV hV0 hHeld ⊢
        clear hb6
        obtain ⟨N, hNe⟩ : ∃ N, D.heap.size = N := ⟨_, rfl⟩
        rw [hNe] at hN ⊢
        clear hNe
        refine wpAnyH_ready (rs := [5]) (by kernel_rfl) (by simp) ?_
        refine AllReadyH.cons rfl (fun K hK => ?_) AllReadyH.nil
        have b0 := cellW HOB.out 0 _ rfl w6 (Below.refl _ _)
        go_simp
        (try dsimp only)
        refine hK.out _ _ ?_ (fun hHeld => ?_)
        · (try dsimp only); exact hV0.out
        clear hK K
        try simp only [Act.put, List.setIfInBounds_toArray, List.set_cons_zero, List.set_cons_succ, List.getElem_toArray, List.getElem_cons_succ, List.getElem_cons_zero]
        clear b0
        have hJ6 : J < w6.heap.size := (Array.getElem?_eq_some_iff.1 hV0.out).1
        have hM6 : M < w6.heap.size := (Array.getElem?_eq_some_iff.1 HOB.out).1
        obtain ⟨v', w7, hrun, hO7, hg7, hv7⟩ := app_recK HT.out wtC_len wtC_one w6 27 (M + 1) (.slice pa k ca) (.slice (some ⟨N, 0, none⟩) 1 1) (s.op.take k) [d] HOP.out (row_oneW hN.out) (by omega) (by simp) (by omega)
        obtain ⟨pv, cv, hv'⟩ := OwnK.shape hO7
        rw [show (s.op.take k ++ [d]).length = k + 1 by rw [List.length_append, elk]; rfl] at hv'
        subst hv'
        refine wpAnyH_ready (rs := [8]) (by kernel_rfl) (by simp) ?_
        refine AllReadyH.cons rfl (fun K hK => ?_) AllReadyH.nil
        unfold Oper.wp; simp [Region.wanted, execOp, resolve, invoke, builtin, Act.eval, hrun, Result.andThen]
        (try dsimp only)
        refine hK.out _ _ ?_ (fun hHeld => ?_)
        · (try dsimp only); exact (hg7.block J hJ6 (fun e => by have := (hltO J e.symm).2; omega)).trans hV0.out
        clear hK K
        try simp only [Act.put, List.setIfInBounds_toArray, List.set_cons_zero, List.set_cons_succ, List.getElem_toArray, List.getElem_cons_succ, List.getElem_cons_zero]
        have hV7 : Hid _ := (hg7.block J hJ6 (fun e => by have := (hltO J e.symm).2; omega)).trans hV0.out
        have HOB7 : Hid _ := (hg7.block M hM6 (fun e => by have := (hltO M e.symm).1; omega)).trans HOB.out
        have HOD7 : Hid (OwnKD w7 w.heap.size (.slice pd s.dn.length cd) s.dn) := OwnK.grown HOD.out hg7 (fun a b ha hb => by have := hltO a ha; have := hltD b hb; omega)
        have hlt7 := OwnK.lt hO7
        have z0 := cellW HOB7.out 0 _ rfl w7 (Below.refl _ _)
        have f0 := frozenW HOB7.out 0 w7 (Below.refl _ _)
        first
          | (refine skipH (i := 9) rfl (by kernel_rfl) (by kernel_rfl) (by kernel_rfl) (fun _ _ _ h => h) (by rfl) (by assumption) ?_; try simp only [Act.put, List.setIfInBounds_toArray, List.set_cons_zero, List.set_cons_succ, List.getElem_toArray, List.getElem_cons_succ, List.getElem_cons_zero])
          | (refine yieldH (i := 9) (v := ?_) rfl (by kernel_rfl) (by kernel_rfl) (by kernel_rfl) (fun _ _ _ h => h) (by rfl) ?_ (by assumption) ?_; rotate_left; (intro w hSw; (try dsimp only at hSw); go_simp; (try with_reducible rfl)); try simp only [Act.put, List.setIfInBounds_toArray, List.set_cons_zero, List.set_cons_succ, List.getElem_toArray, List.getElem_cons_succ, List.getElem_cons_zero])
          | fail
        first
          | (refine skipH (i := 10) rfl (by kernel_rfl) (by kernel_rfl) (by kernel_rfl) (fun _ _ _ h => h) (by rfl) (by assumption) ?_; try simp only [Act.put, List.setIfInBounds_toArray, List.set_cons_zero, List.set_cons_succ, List.getElem_toArray, List.getElem_cons_succ, List.getElem_cons_zero])
          | (refine yieldH (i := 10) (v := ?_) rfl (by kernel_rfl) (by kernel_rfl) (by kernel_rfl) (fun _ _ _ h => h) (by rfl) ?_ (by assumption) ?_; rotate_left; (intro w hSw; (try dsimp only at hSw); go_simp; (try with_reducible rfl)); try simp only [Act.put, List.setIfInBounds_toArray, List.set_cons_zero, List.set_cons_succ, List.getElem_toArray, List.getElem_cons_succ, List.getElem_cons_zero])
          | fail
        first
          | (refine skipH (i := 11) rfl (by kernel_rfl) (by kernel_rfl) (by kernel_rfl) (fun _ _ _ h => h) (by rfl) (by assumption) ?_; try simp only [Act.put, List.setIfInBounds_toArray, List.set_cons_zero, List.set_cons_succ, List.getElem_toArray, List.getElem_cons_succ, List.getElem_cons_zero])
          | (refine yieldH (i := 11) (v := ?_) rfl (by kernel_rfl) (by kernel_rfl) (by kernel_rfl) (fun _ _ _ h => h) (by rfl) ?_ (by assumption) ?_; rotate_left; (intro w hSw; (try dsimp only at hSw); go_simp; (try with_reducible rfl)); try simp only [Act.put, List.setIfInBounds_toArray, List.set_cons_zero, List.set_cons_succ, List.getElem_toArray, List.getElem_cons_succ, List.getElem_cons_zero])
          | fail
        refine wpAnyH_ready (rs := [12]) (by kernel_rfl) (by simp) ?_
        refine AllReadyH.cons rfl (fun K hK => ?_) AllReadyH.nil
        go_simp
        (try dsimp only)
        refine hK.out _ _ ?_ (fun hHeld => ?_)
        · (try dsimp only); exact blk_far (a := ⟨M, 0, none⟩) hV7.out (by simp only; omega) (.slice pv (k + 1) cv)
        clear hK K
        try simp only [Act.put, List.setIfInBounds_toArray, List.set_cons_zero, List.set_cons_succ, List.getElem_toArray, List.getElem_cons_succ, List.getElem_cons_zero]
        refine wpAnyH_done (by kernel_rfl) ?_ _
        go_wp2
        go_roundw
        case rel => exact ⟨k + 1, _, by omega, by go_num, (show OwnAt _ _ _ _ _ _ from ⟨by omega, blk_set HOB7.out 0 (.slice pv (k + 1) cv), by dsimp only; rw [HTK.out]; exact OwnK.far hO7 (a := ⟨M, 0, none⟩) (fun b hb => by have := hlt7 b hb; simp only; omega) (.slice pv (k + 1) cv), OwnK.far HOD7.out (a := ⟨M, 0, none⟩) (fun b hb => by have := hltD b hb; simp only; omega) (.slice pv (k + 1) cv), fun b hb => (hltD b hb).2⟩), (hwV.grown hg7 hwV.size (fun j hj => by have := hltO j hj; omega)).setCell (by simp only; omega) _⟩
        case measure => simp [intOf] <;> omega
    · have hkk : Hid (k = s.op.length) := (by omega : k = s.op.length)
      go_wp2
      go_ret
      exact ⟨M, va, _, rfl, (by have := HO.out; rw [hkk.out, List.take_length] at this; exact this), hbel⟩
end Go.Proofs.Ytghchcipobcpjaa
