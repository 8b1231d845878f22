/- ANSWERS COPIED, the program's. Written by mkrecp.py. -/
import Derived.Test.YtghchcipobcpjaaQtJoin2
import Derived.Test.YtghchcipobcpjaaQtTail
import Derived.Test.YtghchcipobcpjaaQtMstL
namespace Go.Proofs.Ytghchcipobcpjaa
open Go.RowKit
set_option linter.unusedVariables false
set_option linter.unusedSimpArgs false

theorem tyD : ∃ i, RecTy 2 24 69 28 i (.agg #[.int .i64 0, .string ⟨#[]⟩]) := by
  obtain ⟨i0, hi, hz0, hz1, hz2⟩ := info_parts infoD
  exact ⟨i0, Try.underlying28, hi, hz0, hz1, hz2, rfl, by decide, by decide⟩
theorem tyW : ∃ i, RecTy 4 40 50 27 i (.agg #[.int .i64 0, .string ⟨#[]⟩, .int .i64 0, .int .i64 0]) := by
  obtain ⟨i0, hi, hz0, hz1, hz2⟩ := info_parts infoW
  exact ⟨i0, Try.underlying27, hi, hz0, hz1, hz2, rfl, by decide, by decide⟩
theorem dnC_one (x : Dn) : ∀ u ∈ dnC x, u.oneCell' = true := by intro u hu; simp [dnC] at hu; rcases hu with rfl | rfl <;> rfl
theorem wtC_one (x : Wt) : ∀ u ∈ wtC x, u.oneCell' = true := by intro u hu; simp [wtC] at hu; rcases hu with rfl | rfl | rfl | rfl <;> rfl
abbrev OwnKD (w : World) (base : Nat) (v : Value) (l : List Dn) : Prop := OwnK 2 69 dnC w base v l
abbrev OwnKW (w : World) (base : Nat) (v : Value) (l : List Wt) : Prop := OwnK 4 50 wtC w base v l
/-- one record that lies in a row of its own -/
theorem row_oneD {w : World} {g : Nat} {x : Dn} {fz : Nat × Nat} (h : w.heap[g]? = some (.cells #[.int .i64 x.i, .string x.a] 69 fz)) : RowD w (.slice (some ⟨g, 0, none⟩) 1 1) [x] :=
  ⟨some ⟨g, 0, none⟩, 1, rfl, fun k hk => ⟨g, 0, rfl, (Array.getElem?_eq_some_iff.1 h).1, fun j v hv => by
    obtain rfl : k = 0 := by simpa using hk
    match j, hv with
    | 0, hv => cases hv; simp [World.cell?, h]
    | 1, hv => cases hv; simp [World.cell?, h]
    | j + 2, hv => simp [dnC] at hv⟩⟩
theorem row_oneW {w : World} {g : Nat} {x : Wt} {fz : Nat × Nat} (h : w.heap[g]? = some (.cells #[.int .i64 x.i, .string x.t, .int .i64 x.r, .int .i64 x.g] 50 fz)) : RowW w (.slice (some ⟨g, 0, none⟩) 1 1) [x] :=
  ⟨some ⟨g, 0, none⟩, 1, rfl, fun k hk => ⟨g, 0, rfl, (Array.getElem?_eq_some_iff.1 h).1, fun j v hv => by
    obtain rfl : k = 0 := by simpa using hk
    match j, hv with
    | 0, hv => cases hv; simp [World.cell?, h]
    | 1, hv => cases hv; simp [World.cell?, h]
    | 2, hv => cases hv; simp [World.cell?, h]
    | 3, hv => cases hv; simp [World.cell?, h]
    | j + 4, hv => simp [wtC] at hv⟩⟩
set_option maxRecDepth 100000 in
set_option maxHeartbeats 3200000 in
theorem copyDones_any (l : List Dn) (v : Value) (w : World) (hl : l.length ≤ 1048576) (hz : ∀ x ∈ l, x.a.size ≤ 1048576) (hr : RowD w v l) :
    Calls Try.prog 55 #[v] w fun e w' => ∃ v', e = .returned v' ∧ OwnKD w' w.heap.size v' l ∧ Below w.heap.size w w' := by
  obtain ⟨i0, T⟩ := tyD
  have HT : Hid _ := T
  have HR : Hid (∀ W, Below w.heap.size w W → RowD W v l) := fun W hW => RowC.below hr hW
  have HZ : Hid (∀ x ∈ l, x.a.size ≤ 1048576) := hz
  obtain ⟨p, c, rfl, _⟩ := hr
  clear T hz
  go_enter Try.func55, Try.ntmps55
  go_wp2
  go_loopw [3, 8] (fun v i wr => ∃ k : Nat, k ≤ l.length ∧ i = .int .i64 k ∧ Hid (OwnKD wr w.heap.size v (l.take k)) ∧ Below w.heap.size w wr) (fun _ i _ => l.length - (intOf i).toNat)
  case atStart => exact ⟨0, Nat.zero_le _, rfl, (OwnK.nil _ _ _ _ _ : OwnKD w w.heap.size (.slice none 0 0) []), Below.refl _ _⟩
  case round =>
    obtain ⟨k, hk, rfl, HO, hbel⟩ := hrel
    by_cases hlt : k < l.length
    · obtain ⟨g, o, c', e1, q1⟩ := RowC.at (HR.out wr hbel) k hlt
      cases e1
      have hzz := HZ.out _ (List.getElem_mem hlt)
      have HTK : Hid (l.take (k + 1) = l.take k ++ [l[k]]) := List.take_succ_eq_append_getElem hlt
      have Q1 : Hid (∀ W, Below wr.heap.size wr W → W.rangeAt g (o + k * 2) [.int .i64 l[k].i, .string l[k].a]) := q1
      clear q1
      generalize l[k] = d at hzz HTK Q1
      have hkl : (l.take k).length ≤ 1048576 := by rw [List.length_take]; omega
      obtain ⟨pa, ca, rfl⟩ := OwnK.shape HO.out
      have elk : (l.take k).length = k := by rw [List.length_take]; omega
      rw [elk] at HO ⊢
      have hltO := OwnK.lt HO.out
      have hload : Hid True := trivial
      have hbV := all_alloc wr (.cells #[.int .i64 d.i, .string d.a] 69)
      have hV0 : Hid _ := heap_alloc_new wr (.cells #[.int .i64 d.i, .string d.a] 69)
      go_upto_region 5 with (first
        | (have _ := hload; refine wpList_load_mid rfl 69 (.tmp 10) rfl g (o + k * 2) rfl _ _ (Q1.out wr (Below.refl _ _)) Try.underlying69 rfl (by kernel_rfl) ?_; clear hload))
      have HOV : Hid (OwnKD (wr.alloc (.cells #[.int .i64 d.i, .string d.a] 69)) w.heap.size (.slice pa k ca) (l.take k)) := OwnK.below HO.out hbV
      have hwV : Below w.heap.size w (wr.alloc (.cells #[.int .i64 d.i, .string d.a] 69)) := keepB hbel (Nat.le_refl _) hbV
      clear Q1 HO hbV
      generalize wr.alloc (.cells #[.int .i64 d.i, .string d.a] 69) = V at hV0 HOV hwV ⊢
      obtain ⟨J, hJ⟩ : ∃ J, wr.heap.size = J := ⟨_, rfl⟩
      rw [hJ] at hV0 hltO ⊢
      clear hJ
      have hJV : J < V.heap.size := (Array.getElem?_eq_some_iff.1 hV0.out).1
      refine wp_region_held_drew (S := (fun w' => w'.heap[J]? = some (.cells #[.int .i64 d.i, .string d.a] 69 (0, 0)))) (by kernel_rfl) ?_ (fun hHeld => ?_)
      · (try dsimp only); exact blk hV0.out (Below.drew (Below.refl _ _))
      replace HOV : Hid (OwnKD V.drew w.heap.size (.slice pa k ca) (l.take k)) := OwnK.below HOV.out (Below.drew (Below.refl _ _))
      replace hwV : Below w.heap.size w V.drew := keepB hwV (Nat.le_refl _) (Below.drew (Below.refl _ _))
      replace hV0 : Hid _ := blk hV0.out (Below.drew (Below.refl V.heap.size V))
      replace hJV : J < V.drew.heap.size := hJV
      generalize V.drew = D at hV0 HOV hwV hJV hHeld ⊢
      first
        | (refine skipH (i := 0) rfl (by kernel_rfl) (by kernel_rfl) (by kernel_rfl) (fun _ _ _ h => h) (by rfl) (by assumption) ?_; try simp only [Act.put, List.setIfInBounds_toArray, List.set_cons_zero, List.set_cons_succ, List.getElem_toArray, List.getElem_cons_succ, List.getElem_cons_zero])
        | (refine yieldH (i := 0) (v := ?_) rfl (by kernel_rfl) (by kernel_rfl) (by kernel_rfl) (fun _ _ _ h => h) (by rfl) ?_ (by assumption) ?_; rotate_left; (intro w hSw; (try dsimp only at hSw); go_simp; (try with_reducible rfl)); try simp only [Act.put, List.setIfInBounds_toArray, List.set_cons_zero, List.set_cons_succ, List.getElem_toArray, List.getElem_cons_succ, List.getElem_cons_zero])
        | fail
      first
        | (refine skipH (i := 1) rfl (by kernel_rfl) (by kernel_rfl) (by kernel_rfl) (fun _ _ _ h => h) (by rfl) (by assumption) ?_; try simp only [Act.put, List.setIfInBounds_toArray, List.set_cons_zero, List.set_cons_succ, List.getElem_toArray, List.getElem_cons_succ, List.getElem_cons_zero])
        | (refine yieldH (i := 1) (v := ?_) rfl (by kernel_rfl) (by kernel_rfl) (by kernel_rfl) (fun _ _ _ h => h) (by rfl) ?_ (by assumption) ?_; rotate_left; (intro w hSw; (try dsimp only at hSw); go_simp; (try with_reducible rfl)); try simp only [Act.put, List.setIfInBounds_toArray, List.set_cons_zero, List.set_cons_succ, List.getElem_toArray, List.getElem_cons_succ, List.getElem_cons_zero])
        | fail
      refine yieldH (i := 2) (v := .int .i64 d.i) rfl (by kernel_rfl) (by kernel_rfl) (by kernel_rfl) (fun _ _ _ h => h) (by rfl) ?_ (by assumption) ?_
      · intro w hSw; (try dsimp only at hSw); have y := cellW hSw 0 _ rfl w (Below.refl _ _); go_simp
      try simp only [Act.put, List.setIfInBounds_toArray, List.set_cons_zero, List.set_cons_succ, List.getElem_toArray, List.getElem_cons_succ, List.getElem_cons_zero]
      first
        | (refine skipH (i := 3) rfl (by kernel_rfl) (by kernel_rfl) (by kernel_rfl) (fun _ _ _ h => h) (by rfl) (by assumption) ?_; try simp only [Act.put, List.setIfInBounds_toArray, List.set_cons_zero, List.set_cons_succ, List.getElem_toArray, List.getElem_cons_succ, List.getElem_cons_zero])
        | (refine yieldH (i := 3) (v := ?_) rfl (by kernel_rfl) (by kernel_rfl) (by kernel_rfl) (fun _ _ _ h => h) (by rfl) ?_ (by assumption) ?_; rotate_left; (intro w hSw; (try dsimp only at hSw); go_simp; (try with_reducible rfl)); try simp only [Act.put, List.setIfInBounds_toArray, List.set_cons_zero, List.set_cons_succ, List.getElem_toArray, List.getElem_cons_succ, List.getElem_cons_zero])
        | fail
      refine yieldH (i := 4) (v := .string d.a) rfl (by kernel_rfl) (by kernel_rfl) (by kernel_rfl) (fun _ _ _ h => h) (by rfl) ?_ (by assumption) ?_
      · intro w hSw; (try dsimp only at hSw); have y := cellW hSw 1 _ rfl w (Below.refl _ _); go_simp
      try simp only [Act.put, List.setIfInBounds_toArray, List.set_cons_zero, List.set_cons_succ, List.getElem_toArray, List.getElem_cons_succ, List.getElem_cons_zero]
      refine wpAnyH_ready (rs := [5]) (by kernel_rfl) (by simp) ?_
      refine AllReadyH.cons rfl (fun K hK => ?_) AllReadyH.nil
      go_simp
      go_at_call 56; refine (copyText_any d.a _ (by omega)).mono ?_; rintro e5 w5 ⟨rfl, hb5⟩
      (try dsimp only)
      refine hK.out _ _ ?_ (fun hHeld => ?_)
      · (try dsimp only); exact blk hV0.out hb5
      clear hK K
      try simp only [Act.put, List.setIfInBounds_toArray, List.set_cons_zero, List.set_cons_succ, List.getElem_toArray, List.getElem_cons_succ, List.getElem_cons_zero]
      replace HOV : Hid (OwnKD w5 w.heap.size (.slice pa k ca) (l.take k)) := OwnK.below HOV.out hb5
      replace hwV : Below w.heap.size w w5 := keepB hwV (Nat.le_refl _) hb5
      replace hV0 : Hid _ := blk hV0.out hb5
      have hJ5 : J < w5.heap.size := by have := hb5.size; omega
      clear hb5 hJV
      first
        | (refine skipH (i := 6) rfl (by kernel_rfl) (by kernel_rfl) (by kernel_rfl) (fun _ _ _ h => h) (by rfl) (by assumption) ?_; try simp only [Act.put, List.setIfInBounds_toArray, List.set_cons_zero, List.set_cons_succ, List.getElem_toArray, List.getElem_cons_succ, List.getElem_cons_zero])
        | (refine yieldH (i := 6) (v := ?_) rfl (by kernel_rfl) (by kernel_rfl) (by kernel_rfl) (fun _ _ _ h => h) (by rfl) ?_ (by assumption) ?_; rotate_left; (intro w hSw; (try dsimp only at hSw); go_simp; (try with_reducible rfl)); try simp only [Act.put, List.setIfInBounds_toArray, List.set_cons_zero, List.set_cons_succ, List.getElem_toArray, List.getElem_cons_succ, List.getElem_cons_zero])
        | fail
      refine wpAnyH_ready (rs := [7]) (by kernel_rfl) (by simp) ?_
      refine AllReadyH.cons rfl (fun K hK => ?_) AllReadyH.nil
      go_simp
      (try dsimp only)
      refine hK.out _ _ ?_ (fun hHeld => ?_)
      · (try dsimp only); exact blk hV0.out (all_alloc w5 (.cells #[.int .i64 d.i, .string d.a] 69))
      clear hK K
      try simp only [Act.put, List.setIfInBounds_toArray, List.set_cons_zero, List.set_cons_succ, List.getElem_toArray, List.getElem_cons_succ, List.getElem_cons_zero]
      have hb6 := all_alloc w5 (.cells #[.int .i64 d.i, .string d.a] 69)
      have hN : Hid _ := heap_alloc_new w5 (.cells #[.int .i64 d.i, .string d.a] 69)
      replace HOV : Hid (OwnKD (w5.alloc (.cells #[.int .i64 d.i, .string d.a] 69)) w.heap.size (.slice pa k ca) (l.take k)) := OwnK.below HOV.out hb6
      replace hwV : Below w.heap.size w (w5.alloc (.cells #[.int .i64 d.i, .string d.a] 69)) := keepB hwV (Nat.le_refl _) hb6
      replace hV0 : Hid _ := blk hV0.out hb6
      have hJ6 : J < (w5.alloc (.cells #[.int .i64 d.i, .string d.a] 69)).heap.size := by have := hb6.size; omega
      generalize w5.alloc (.cells #[.int .i64 d.i, .string d.a] 69) = w6 at hN HOV hwV hV0 hJ6 hHeld ⊢
      clear hb6
      obtain ⟨v', w7, hrun, hO7, hg7, hv7⟩ := app_recK HT.out dnC_len dnC_one w6 28 w.heap.size (.slice pa k ca) (.slice (some ⟨w5.heap.size, 0, none⟩) 1 1) (l.take k) [d] HOV.out (row_oneD hN.out) (by omega) (by simp) hwV.size
      refine wpAnyH_ready (rs := [8]) (by kernel_rfl) (by simp) ?_
      refine AllReadyH.cons rfl (fun K hK => ?_) AllReadyH.nil
      unfold Oper.wp; simp [Region.wanted, execOp, resolve, invoke, builtin, Act.eval, hrun, Result.andThen]
      (try dsimp only)
      refine hK.out _ _ ?_ (fun hHeld => ?_)
      · (try dsimp only); exact (hg7.block J hJ6 (fun e => by have := (hltO J e.symm).2; omega)).trans hV0.out
      clear hK K
      try simp only [Act.put, List.setIfInBounds_toArray, List.set_cons_zero, List.set_cons_succ, List.getElem_toArray, List.getElem_cons_succ, List.getElem_cons_zero]
      first
        | (refine skipH (i := 9) rfl (by kernel_rfl) (by kernel_rfl) (by kernel_rfl) (fun _ _ _ h => h) (by rfl) (by assumption) ?_; try simp only [Act.put, List.setIfInBounds_toArray, List.set_cons_zero, List.set_cons_succ, List.getElem_toArray, List.getElem_cons_succ, List.getElem_cons_zero])
        | (refine yieldH (i := 9) (v := ?_) rfl (by kernel_rfl) (by kernel_rfl) (by kernel_rfl) (fun _ _ _ h => h) (by rfl) ?_ (by assumption) ?_; rotate_left; (intro w hSw; (try dsimp only at hSw); go_simp; (try with_reducible rfl)); try simp only [Act.put, List.setIfInBounds_toArray, List.set_cons_zero, List.set_cons_succ, List.getElem_toArray, List.getElem_cons_succ, List.getElem_cons_zero])
        | fail
      refine wpAnyH_done (by kernel_rfl) ?_ _
      go_wp2
      go_roundw
      case rel => exact ⟨k + 1, by omega, by go_num, (show OwnKD _ _ _ _ by rw [HTK.out]; exact hO7), hwV.grown hg7 hwV.size (fun j hj => (hltO j hj).1)⟩
      case measure => simp [intOf] <;> omega
    · have hkk : Hid (k = l.length) := (by omega : k = l.length)
      go_wp2
      go_ret
      exact ⟨_, rfl, (by have := HO.out; rw [hkk.out, List.take_length] at this; exact this), hbel⟩
end Go.Proofs.Ytghchcipobcpjaa
