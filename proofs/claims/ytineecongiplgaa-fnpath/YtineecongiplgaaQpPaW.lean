/- THE PATH THAT BYTES ARE, rune by rune: the program's readPath. -/
import Derived.Test.YtineecongiplgaaQpPathS
import Derived.Test.YtineecongiplgaaQpPaC
import Derived.Test.YtineecongiplgaaQpPathP
import Derived.Test.YtineecongiplgaaQpDrawPQ
import Derived.Lib.OthersKept
namespace Go.Proofs.Ytineecongiplgaa
open Go.RowKit
set_option linter.unusedVariables false
set_option linter.unusedSimpArgs false

theorem wrapr (r : Nat) (h : r ≤ 2147483647) : IntKind.i64.wrap (r : Int) = (r : Int) := by
  have e : (r : Int) % 2 ^ 64 = r := Int.emod_eq_of_lt (by omega) (by omega)
  simp only [IntKind.wrap, IntKind.bits, IntKind.signed, e]
  rw [if_neg]
  simp; omega
theorem OwnI.iter {w : World} {b : Nat} {v : Value} {zs : List Int} (h : OwnI w b v zs) {k : Nat} (hk : k < b) (s : ByteArray) (pos : Nat) : OwnI (w.iterAt k s pos) b v zs := by
  refine ⟨h.1, h.2.imp id ?_⟩
  rintro ⟨g, cap, cur, e1, e2, e3, e4⟩
  exact ⟨g, cap, cur, e1, e2, (Go.Lib.iterAt_other w k g s pos (by omega)).trans e3, e4⟩
theorem iterPos_of {w : World} {k : Nat} {s : ByteArray} {pos : Nat} (h : w.heap[k]? = some (.stringIter s pos)) : w.iterPos k = pos := by
  unfold World.iterPos
  rw [h]
set_option maxRecDepth 100000 in
set_option maxHeartbeats 3200000 in
theorem readPath_any (s : ByteArray) (w : World) (hz : s.size ≤ 8000) :
    Calls Try.prog 49 #[.string s] w fun e w' => ∃ v1 v2, e = .returned (.agg #[v1, v2]) ∧ OwnT w' w.heap.size v1 v2 (rdAll s) ∧ Below w.heap.size w w' := by
  have hR0 : Hid _ := blk (blk (heap_alloc_new w (.cells #[.slice none 0 0, .slice none 0 0] 26)) (all_alloc _ (.cells #[.slice none 0 0, .slice none 0 0] 26))) (all_alloc _ (.stringIter s 0))
  have hP0 : Hid _ := blk (heap_alloc_new (w.alloc (.cells #[.slice none 0 0, .slice none 0 0] 26)) (.cells #[.slice none 0 0, .slice none 0 0] 26)) (all_alloc _ (.stringIter s 0))
  have hI0 : Hid _ := heap_alloc_new ((w.alloc (.cells #[.slice none 0 0, .slice none 0 0] 26)).alloc (.cells #[.slice none 0 0, .slice none 0 0] 26)) (.stringIter s 0)
  have hB0 : Hid (Below w.heap.size w (((w.alloc (.cells #[.slice none 0 0, .slice none 0 0] 26)).alloc (.cells #[.slice none 0 0, .slice none 0 0] 26)).alloc (.stringIter s 0))) := keepB (keepB (all_alloc w _) (Nat.le_refl _) (all_alloc _ _)) (Nat.le_refl _) (all_alloc _ _)
  have e1 : (w.alloc (.cells #[.slice none 0 0, .slice none 0 0] 26)).heap.size = w.heap.size + 1 := by simp
  have e2 : ((w.alloc (.cells #[.slice none 0 0, .slice none 0 0] 26)).alloc (.cells #[.slice none 0 0, .slice none 0 0] 26)).heap.size = w.heap.size + 1 + 1 := by simp
  rw [e1] at hP0
  rw [e2] at hI0
  have HRD : Hid (rdP s s.size 0 zeroT = rdAll s) := (rfl : rdP s s.size 0 zeroT = rdAll s)
  generalize rdAll s = TF at HRD ⊢
  go_enter Try.func49, Try.ntmps49
  go_wp2
  clear e1 e2
  go_loopw [4] (fun x wr => ∃ (pos b : Nat) (t : Tb) (v1 v2 : Value), Hid (rdP s b pos t = TF) ∧ s.size ≤ pos + b ∧ t.cs.length + t.rs.length ≤ pos ∧ Hid (wr.heap[w.heap.size]? = some (.cells #[.slice none 0 0, .slice none 0 0] 26 (0, 0))) ∧ Hid (wr.heap[w.heap.size + 1]? = some (.cells #[v1, v2] 26 (0, 0))) ∧ Hid (wr.heap[w.heap.size + 1 + 1]? = some (.stringIter s pos)) ∧ Hid (OwnT wr (w.heap.size + 1 + 1 + 1) v1 v2 t) ∧ Hid (Below w.heap.size w wr)) (fun _ wr => s.size - wr.iterPos (w.heap.size + 1 + 1))
  case atStart => exact ⟨0, s.size, zeroT, _, _, HRD, by omega, by simp [zeroT], hR0, hP0, hI0, (⟨OwnI.nil _ _, OwnI.nil _ _, fun a b h => by cases h⟩ : OwnT _ _ _ _ _), hB0⟩
  case round =>
    obtain ⟨pos, b, t, v1, v2, HT, hb, hlen, HR, HP, HI, HO, HB⟩ := hrel
    by_cases hp : pos < s.size
    · have hnx : ∀ ty, (Instr.next (.pointer (some ⟨w.heap.size + 1 + 1, 0, none⟩)) true ty).run Try.prog wr = _ := fun ty => Go.Lib.run_next_any_at wr (w.heap.size + 1 + 1) s pos ty HI.out hp
      have hwd := widthP s pos hp
      have hrm := decode_le s pos
      obtain ⟨b, rfl⟩ : ∃ b', b = b' + 1 := ⟨b - 1, by omega⟩
      have HT2 : Hid (rdP s b (pos + (Utf8.decode s pos).2) (stepR t pos (Utf8.decode s pos).1) = TF) := (rdP_step s b pos t hp).symm.trans HT.out
      have hlen2 := stepR_len t pos (Utf8.decode s pos).1
      generalize (Utf8.decode s pos).1 = r at hnx hrm HT2 hlen2
      generalize (Utf8.decode s pos).2 = wd at hnx hwd HT2
      replace hlen2 : (stepR t pos r).cs.length + (stepR t pos r).rs.length ≤ pos + wd := by omega
      have hR1 : Hid _ := (Go.Lib.iterAt_other wr (w.heap.size + 1 + 1) w.heap.size s (pos + wd) (by omega)).trans HR.out
      have hP1 : Hid _ := (Go.Lib.iterAt_other wr (w.heap.size + 1 + 1) (w.heap.size + 1) s (pos + wd) (by omega)).trans HP.out
      have hI1 : Hid _ := Go.Lib.iterAt_heap wr (w.heap.size + 1 + 1) s pos (pos + wd) HI.out
      have hO1 : Hid (OwnT _ _ v1 v2 t) := ⟨OwnI.iter HO.out.c (k := w.heap.size + 1 + 1) (Nat.lt_succ_self _) s (pos + wd), OwnI.iter HO.out.r (Nat.lt_succ_self _) s (pos + wd), HO.out.ne⟩
      have hB1 : Hid (Below w.heap.size w _) := Go.Lib.below_iterAt HB.out (k := w.heap.size + 1 + 1) (by omega) s (pos + wd)
      have hs1 : w.heap.size + 1 + 1 < (wr.iterAt (w.heap.size + 1 + 1) s (pos + wd)).heap.size := (Array.getElem?_eq_some_iff.1 hI1.out).1
      generalize wr.iterAt (w.heap.size + 1 + 1) s (pos + wd) = W1 at hnx hR1 hP1 hI1 hO1 hB1 hs1
      have hwr := wrapr r hrm
      have hcl : t.cs.length ≤ 100000 ∧ t.rs.length ≤ 100000 := by omega
      obtain ⟨hcl1, hcl2⟩ := hcl
      clear HT HR HP HO HB
      by_cases hr0 : r = 0
      · subst hr0
        have e0 : (((0 : Nat) : Int) == 0) = true := rfl
        have hst : stepR t pos 0 = t := rfl
        rw [hst] at HT2 hlen2
        clear hst hwr hrm
        go_wp2
        go_roundw
        case rel => exact ⟨pos + wd, b, t, v1, v2, HT2, by omega, hlen2, hR1, hP1, hI1, hO1, hB1⟩
        case measure => rw [iterPos_of HI.out, iterPos_of hI1.out]; omega
      · have e0 : ((r : Int) == 0) = false := by simp; omega
        by_cases h5 : pos < 5
        · have h5' : (pos : Int) < 5 := by omega
          have hst : stepR t pos r = ⟨t.cs ++ [(r : Int)], t.rs⟩ := by unfold stepR; rw [if_neg hr0, if_pos h5]
          rw [hst] at HT2 hlen2
          clear hst hr0 h5
          have hob := all_alloc W1 (.cells #[.int .i64 r] 2)
          have hcell : (W1.alloc (.cells #[.int .i64 r] 2)).cell? ⟨W1.heap.size, 0, none⟩ = some (.int .i64 r) := cellW (heap_alloc_new W1 (.cells #[.int .i64 r] 2)) 0 _ rfl _ (Below.refl _ _)
          obtain ⟨v', w2, hrun, hown, hgr, hloc⟩ := app_oneK (W1.alloc (.cells #[.int .i64 r] 2)) 23 (w.heap.size + 1 + 1 + 1) v1 t.cs (hO1.out.c.below hob) W1.heap.size r hcell (by omega) (by have := hob.size; omega)
          obtain ⟨p', n', c', rfl⟩ : ∃ p n c, v' = .slice p n c := by obtain ⟨p, c, e⟩ := hown.shape; exact ⟨p, _, c, e⟩
          have hlt := OwnI.lt (hO1.out.c.below hob)
          have hlo := OwnI.lt (hO1.out.r.below hob)
          have hne := hO1.out.ne
          have b1 := hob.size
          have hR2 : Hid _ := (hgr.block (w.heap.size) (by omega) (fun e => by have := hlt _ e.symm; omega)).trans (blk hR1.out hob)
          have hP2 : Hid _ := (hgr.block (w.heap.size + 1) (by omega) (fun e => by have := hlt _ e.symm; omega)).trans (blk hP1.out hob)
          have hI2 : Hid _ := (hgr.block (w.heap.size + 1 + 1) (by omega) (fun e => by have := hlt _ e.symm; omega)).trans (blk hI1.out hob)
          have hB2 : Hid (Below w.heap.size w w2) := (keepB hB1.out (Nat.le_refl _) hob).grown hgr (by have := hB1.out.size; omega) (fun k e => by have := hlt _ e; omega)
          have hO2 : Hid (OwnT w2 (w.heap.size + 1 + 1 + 1) (.slice p' n' c') v2 ⟨t.cs ++ [(r : Int)], t.rs⟩) := ⟨hown, OwnI.grownT (hO1.out.r.below hob) hgr hne, (fun a b ha hb => by rcases hloc with h | h; exact hne a b (h ▸ ha) hb; rw [h] at ha; cases ha; have := hlo _ hb; omega)⟩
          have hP3 : Hid (_ = some (Obj.cells #[.slice p' n' c', v2] 26 (0, 0))) := blk_set hP2.out 0 (.slice p' n' c')
          have hR3 : Hid _ := blk_far (a := ⟨w.heap.size + 1, 0, none⟩) hR2.out (by simp only; omega) (.slice p' n' c')
          have hI3 : Hid _ := blk_far (a := ⟨w.heap.size + 1, 0, none⟩) hI2.out (by simp only; omega) (.slice p' n' c')
          have hO3 : Hid (OwnT _ _ _ _ _) := OwnT.farT (a := ⟨w.heap.size + 1, 0, none⟩) hO2.out (by simp only; omega) (.slice p' n' c')
          have hB3 : Hid (Below w.heap.size w _) := Below.setCell (p := ⟨w.heap.size + 1, 0, none⟩) hB2.out (by simp only; omega) (.slice p' n' c')
          have y0 := cellW hP1.out 0 _ rfl W1 (Below.refl _ _)
          have y1 := cellW hP1.out 1 _ rfl W1 (Below.refl _ _)
          have yb0 := cellW (blk hP1.out hob) 0 _ rfl _ (Below.refl _ _)
          have yb1 := cellW (blk hP1.out hob) 1 _ rfl _ (Below.refl _ _)
          have z0 := cellW hP2.out 0 _ rfl w2 (Below.refl _ _)
          have z1 := cellW hP2.out 1 _ rfl w2 (Below.refl _ _)
          have f0 := frozenW hP2.out 0 w2 (Below.refl _ _)
          have f1 := frozenW hP2.out 1 w2 (Below.refl _ _)
          clear hO1 hR1 hP1 hI1 hB1 hO2 hR2 hP2 hI2 hB2 hown hgr hloc hlt hlo hne b1 hob
          go_wp2_with (at_builtin; refine wpList_plain rfl fun K hK => ?_; unfold Oper.wp; simp [execOp, resolve, invoke, builtin, Act.eval, hrun, Result.andThen]; refine hK _ _ ?_)
          go_roundw
          case rel => exact ⟨pos + wd, b, _, _, _, HT2, by omega, hlen2, hR3, hP3, hI3, hO3, hB3⟩
          case measure => rw [iterPos_of HI.out, iterPos_of hI3.out]; omega
        · have h5' : ¬ (pos : Int) < 5 := by omega
          have hst : stepR t pos r = ⟨t.cs, t.rs ++ [(r : Int)]⟩ := by unfold stepR; rw [if_neg hr0, if_neg h5]
          rw [hst] at HT2 hlen2
          clear hst hr0 h5
          have hob := all_alloc W1 (.cells #[.int .i64 r] 2)
          have hcell : (W1.alloc (.cells #[.int .i64 r] 2)).cell? ⟨W1.heap.size, 0, none⟩ = some (.int .i64 r) := cellW (heap_alloc_new W1 (.cells #[.int .i64 r] 2)) 0 _ rfl _ (Below.refl _ _)
          obtain ⟨v', w2, hrun, hown, hgr, hloc⟩ := app_oneK (W1.alloc (.cells #[.int .i64 r] 2)) 23 (w.heap.size + 1 + 1 + 1) v2 t.rs (hO1.out.r.below hob) W1.heap.size r hcell (by omega) (by have := hob.size; omega)
          obtain ⟨p', n', c', rfl⟩ : ∃ p n c, v' = .slice p n c := by obtain ⟨p, c, e⟩ := hown.shape; exact ⟨p, _, c, e⟩
          have hlt := OwnI.lt (hO1.out.r.below hob)
          have hlo := OwnI.lt (hO1.out.c.below hob)
          have hne := hO1.out.ne
          have b1 := hob.size
          have hR2 : Hid _ := (hgr.block (w.heap.size) (by omega) (fun e => by have := hlt _ e.symm; omega)).trans (blk hR1.out hob)
          have hP2 : Hid _ := (hgr.block (w.heap.size + 1) (by omega) (fun e => by have := hlt _ e.symm; omega)).trans (blk hP1.out hob)
          have hI2 : Hid _ := (hgr.block (w.heap.size + 1 + 1) (by omega) (fun e => by have := hlt _ e.symm; omega)).trans (blk hI1.out hob)
          have hB2 : Hid (Below w.heap.size w w2) := (keepB hB1.out (Nat.le_refl _) hob).grown hgr (by have := hB1.out.size; omega) (fun k e => by have := hlt _ e; omega)
          have hO2 : Hid (OwnT w2 (w.heap.size + 1 + 1 + 1) v1 (.slice p' n' c') ⟨t.cs, t.rs ++ [(r : Int)]⟩) := ⟨OwnI.grownT (hO1.out.c.below hob) hgr (fun a b ha hb e => hne b a hb ha e.symm), hown, (fun a b ha hb => by rcases hloc with h | h; exact hne a b ha (h ▸ hb); rw [h] at hb; cases hb; have := hlo _ ha; omega)⟩
          have hP3 : Hid (_ = some (Obj.cells #[v1, .slice p' n' c'] 26 (0, 0))) := blk_set hP2.out 1 (.slice p' n' c')
          have hR3 : Hid _ := blk_far (a := ⟨w.heap.size + 1, 1, none⟩) hR2.out (by simp only; omega) (.slice p' n' c')
          have hI3 : Hid _ := blk_far (a := ⟨w.heap.size + 1, 1, none⟩) hI2.out (by simp only; omega) (.slice p' n' c')
          have hO3 : Hid (OwnT _ _ _ _ _) := OwnT.farT (a := ⟨w.heap.size + 1, 1, none⟩) hO2.out (by simp only; omega) (.slice p' n' c')
          have hB3 : Hid (Below w.heap.size w _) := Below.setCell (p := ⟨w.heap.size + 1, 1, none⟩) hB2.out (by simp only; omega) (.slice p' n' c')
          have y0 := cellW hP1.out 0 _ rfl W1 (Below.refl _ _)
          have y1 := cellW hP1.out 1 _ rfl W1 (Below.refl _ _)
          have yb0 := cellW (blk hP1.out hob) 0 _ rfl _ (Below.refl _ _)
          have yb1 := cellW (blk hP1.out hob) 1 _ rfl _ (Below.refl _ _)
          have z0 := cellW hP2.out 0 _ rfl w2 (Below.refl _ _)
          have z1 := cellW hP2.out 1 _ rfl w2 (Below.refl _ _)
          have f0 := frozenW hP2.out 0 w2 (Below.refl _ _)
          have f1 := frozenW hP2.out 1 w2 (Below.refl _ _)
          clear hO1 hR1 hP1 hI1 hB1 hO2 hR2 hP2 hI2 hB2 hown hgr hloc hlt hlo hne b1 hob
          go_wp2_with (at_builtin; refine wpList_plain rfl fun K hK => ?_; unfold Oper.wp; simp [execOp, resolve, invoke, builtin, Act.eval, hrun, Result.andThen]; refine hK _ _ ?_)
          go_roundw
          case rel => exact ⟨pos + wd, b, _, _, _, HT2, by omega, hlen2, hR3, hP3, hI3, hO3, hB3⟩
          case measure => rw [iterPos_of HI.out, iterPos_of hI3.out]; omega
    · have hnx : ∀ ty, (Instr.next (.pointer (some ⟨w.heap.size + 1 + 1, 0, none⟩)) true ty).run Try.prog wr = _ := fun ty => Go.Lib.run_next_end_at wr (w.heap.size + 1 + 1) s pos ty HI.out hp
      have eT : t = TF := by rw [← HT.out, rdP_end _ _ _ _ hp]
      subst eT
      obtain ⟨p1, c1, rfl⟩ := HO.out.c.shape
      obtain ⟨p2, c2, rfl⟩ := HO.out.r.shape
      have y0 := cellW HP.out 0 _ rfl wr (Below.refl _ _)
      have y1 := cellW HP.out 1 _ rfl wr (Below.refl _ _)
      have z0 := cellW HR.out 0 _ rfl wr (Below.refl _ _)
      have z1 := cellW HR.out 1 _ rfl wr (Below.refl _ _)
      have f0 := frozenW HR.out 0 wr (Below.refl _ _)
      have f1 := frozenW HR.out 1 wr (Below.refl _ _)
      have hsz := HB.out.size
      clear HT HRD hb hlen
      go_wp2
      exact bodyPost_ret (v := .agg #[.slice p1 t.cs.length c1, .slice p2 t.rs.length c2]) (by simp [results, Try.results49, go_sem, z0, z1]; try rfl) rfl ⟨_, _, rfl, OwnT.leT (OwnT.farT (OwnT.farT HO.out (by simp only; omega) _) (by simp only; omega) _) (by omega), (HB.out.setCell (by simp only; omega) _).setCell (by simp only; omega) _⟩
end Go.Proofs.Ytineecongiplgaa
