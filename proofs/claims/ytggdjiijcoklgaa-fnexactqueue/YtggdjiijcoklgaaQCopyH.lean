/- THE WALKS of the program's texts put together: joinTexts answers the texts of a row, one behind the other, and copyText the same text; nothing that was there turns. -/
import Derived.Test.YtggdjiijcoklgaaProg
import Derived.Test.YtggdjiijcoklgaaQKeep
import Derived.Test.YtggdjiijcoklgaaQMarksQ
import Derived.Test.YtggdjiijcoklgaaQStnY
import Derived.Test.YtggdjiijcoklgaaQTail
import Derived.WalkKit
import Derived.WalkSpells
import Derived.Outline
import Derived.Deep.RegionHeld3
import Derived.Deep.DeepCutAuto
namespace Go.Proofs.Ytggdjiijcoklgaa
open Go.RowKit
set_option linter.unusedVariables false

theorem info5 : (Try.prog.info? 5).map (fun i => (i.zero, i.size, i.bytes)) = some (some (.int .u8 0), 1, 1) := by kernel_rfl
theorem size5 : (Try.prog.info? 5).map (·.size) = some 1 := by kernel_rfl

/-- texts one behind the other -/
def joinT (ss : List ByteArray) : ByteArray := ss.foldl (· ++ ·) ByteArray.empty
theorem joinT_snoc (ss : List ByteArray) (s : ByteArray) : joinT (ss ++ [s]) = joinT ss ++ s := by simp [joinT, List.foldl_append]
theorem joinT_size_snoc (ss : List ByteArray) (s : ByteArray) : (joinT (ss ++ [s])).size = (joinT ss).size + s.size := by rw [joinT_snoc, ByteArray.size_append]
theorem take_more (ss : List ByteArray) (k : Nat) (h : k < ss.length) : ss.take (k + 1) = ss.take k ++ [ss[k]] := by
  rw [List.take_succ_eq_append_getElem h]
theorem joinT_le (ss : List ByteArray) (hz : ∀ s ∈ ss, s.size ≤ 1000000) : ∀ k, k ≤ ss.length → (joinT (ss.take k)).size ≤ 1000000 * k := by
  intro k
  induction k with
  | zero => intro _; simp [joinT]
  | succ k ih =>
    intro hk
    rw [take_more ss k hk, joinT_size_snoc]
    have := ih (by omega)
    have := hz ss[k] (List.getElem_mem _)
    omega
theorem joinT_mono (ss : List ByteArray) (k : Nat) (h : k ≤ ss.length) : (joinT (ss.take k)).size ≤ (joinT ss).size := by
  have key : ∀ (m : List ByteArray) (l : List ByteArray), (joinT l).size ≤ (joinT (l ++ m)).size := by
    intro m
    induction m with
    | nil => intro l; simp
    | cons c m ih =>
      intro l
      have h1 := ih (l ++ [c])
      rw [joinT_size_snoc, List.append_assoc] at h1
      exact Nat.le_trans (Nat.le_add_right _ _) h1
  have := key (ss.drop k) (ss.take k)
  rwa [List.take_append_drop] at this
theorem splice_more (cur : List Value) (a b : ByteArray) (off : Nat) (ho : a.size = off) (h : cur.take off = cellsB a) (hl : off + b.size ≤ cur.length) : (splice cur off (cellsB b)).take (off + b.size) = cellsB (a ++ b) := by
  rw [cellsB_append]
  simp only [splice]
  rw [h]
  have e : (cellsB a ++ cellsB b).length = off + b.size := by rw [List.length_append, cellsB_length, cellsB_length, ho]
  rw [← e, ← List.append_assoc]
  exact List.take_left
theorem row_str {w : World} {g : Nat} {ss : List ByteArray} {t : TypeId} {fz : Nat × Nat} (hg : w.heap[g]? = some (.cells (ss.map Value.string).toArray t fz)) (k : Nat) (hk : k < ss.length) : w.cell? ⟨g, k, none⟩ = some (.string ss[k]) := by
  simp [World.cell?, hg, hk]

theorem copy_cells (cur : List Value) (a : ByteArray) (h : cur.length = a.size) : (splice cur 0 (cellsB a)).take a.size = cellsB a := by
  have ha := cellsB_length a
  simp only [splice, List.take_zero, List.nil_append, Nat.zero_add]
  rw [ha, List.drop_of_length_le (by omega), List.append_nil]
  exact List.take_of_length_le (by omega)
set_option maxHeartbeats 800000 in
theorem copyText_any (a : ByteArray) (w : World) (ha : a.size ≤ 1073741824) :
    Calls Try.prog 45 #[.string a] w fun e w' => e = .returned (.string a) ∧ Below w.heap.size w w' := by
  obtain ⟨i0, hi, hz0, hz1, hz2⟩ := info_parts info5
  have hmax : a.size ≤ maxLen := by unfold maxLen; omega
  go_enter Try.func45, Try.ntmps45
  go_wp2_with (first
    | (at_make; refine wpList_make_full _ rfl (.tmp 5) (.tmp 5) 121 rfl w.heap.size 5 i0 (.int .u8 0) 1 Try.underlying121 hi hz0 hz1 .i64 .i64 _ _ a.size rfl rfl (by omega) (by omega) (by rw [hz2]; omega) hmax (Nat.le_refl _) ?_; intro w1 hown1 hgrow1; have hB1 := (Below.refl w.heap.size w).grown hgrow1 (Nat.le_refl _) (fun k e => by cases e); obtain ⟨cur, HG1, hcl, _⟩ := own_block hown1; clear hown1 hgrow1)
    | (refine wpList_copy_str rfl (.tmp 7) (.tmp 8) 121 9 rfl 5 Try.underlying121 size5 _ _ _ a rfl rfl (by omega) w.heap.size 0 cur 5 HG1.out (fun _ => rfl) (by omega) w.heap.size w hB1 (Nat.le_refl _) ?_; intro w2 HG2 hB2; have hcv := Lib.run_convert_whole (P := Try.prog) w2 121 5 9 Try.underlying121 Try.underlying5 Try.underlying9 w.heap.size 0 a (bytes_of_cells a HG2.out (copy_cells cur a hcl)) a.size))
  go_ret
  exact ⟨rfl, hB2⟩
end Go.Proofs.Ytggdjiijcoklgaa
/- COPIES of texts, and of what others told all: the program's. Written by mkcpg.py. -/
namespace Go.Proofs.Ytggdjiijcoklgaa
open Go.RowKit
set_option linter.unusedVariables false
set_option linter.unusedSimpArgs false

theorem OwnG.lt {w : World} {base : Nat} {v : Value} {gs : List (Int × List Int)} (h : OwnG w base v gs) : ∀ k, v.ownBlock = some k → base ≤ k ∧ k < w.heap.size := by
  obtain ⟨ps, _, hr, _⟩ := h
  exact hr.lt
set_option maxRecDepth 100000 in
set_option maxHeartbeats 1600000 in
theorem copyTexts_any (v : Value) (ss : List ByteArray) (w : World) (hl : ss.length ≤ 1000) (hz : ∀ b ∈ ss, b.size ≤ 1000) (hr : RowS w v ss) :
    Calls Try.prog 96 #[v] w fun e w' => ∃ v', e = .returned v' ∧ OwnT4 w' w.heap.size v' ss ∧ Below w.heap.size w w' := by
  obtain ⟨i0, hi, hz0, hz1, hz2⟩ := info_parts infoT4
  have HR : Hid (∀ W, Below w.heap.size w W → RowS W v ss) := fun W hW => hr.below hW
  obtain ⟨p, c, rfl, _⟩ := hr
  have HZ : Hid _ := hz
  clear hz
  go_enter Try.func96, Try.ntmps96
  go_wp2
  go_loopw [3, 8] (fun x i wr => ∃ k : Nat, k ≤ ss.length ∧ i = .int .i64 k ∧ Hid (OwnT4 wr w.heap.size x (ss.take k)) ∧ Below w.heap.size w wr) (fun _ i _ => ss.length - (intOf i).toNat)
  case atStart => exact ⟨0, Nat.zero_le _, rfl, World.ownsRow_nil _ _ _ _, Below.refl _ _⟩
  case round =>
    obtain ⟨k, hk, rfl, HW, hbel⟩ := hrel
    obtain ⟨pv, cv, hv⟩ := HW.out.shape
    have hlk : (ss.take k).length = k := by rw [List.length_take]; omega
    rw [hlk] at hv
    subst hv
    by_cases hlt : k < ss.length
    · obtain ⟨p', c', e', hrow⟩ := HR.out wr hbel
      cases e'
      obtain ⟨g, rfl, l1, q1⟩ := hrow k hlt
      clear hrow
      have hzk := HZ.out ss[k] (List.getElem_mem hlt)
      have HTK : Hid (ss.take (k + 1) = ss.take k ++ [ss[k]]) := List.take_succ_eq_append_getElem hlt
      generalize ss[k] = z at q1 HTK hzk
      have HC : Hid (∀ W : World, Calls Try.prog 45 #[.string z] W fun e w' => e = .returned (.string z) ∧ Below W.heap.size W w') := fun W => copyText_any z W (by omega)
      go_wp2_with (first
        | (go_at_call 45; refine (HC.out _).mono ?_; rintro e w2 ⟨rfl, hb2⟩; have HOW : Hid (OwnT4 w2 w.heap.size (.slice pv k cv) (ss.take k)) := HW.out.below hb2; have hbel2 := keepB hbel (Nat.le_refl _) hb2; have hsz := hbel2.size)
        | (at_builtin; refine wpList_append_own _ rfl (.tmp 12) (.tmp 15) 26 rfl w.heap.size 9 i0 (.string ⟨#[]⟩) 1 16 Try.underlying26 hi hz0 hz1 hz2 rfl (by decide) _ _ _ rfl (World.ownsRow.alloc HOW.out _) ⟨w2.heap.size, 0, none⟩ 1 1 [_] rfl rfl (cells_newG _ _ _ _ rfl) (by intro x hx; simp at hx; subst hx; rfl) (by unfold maxLen; omega) (by omega) (by simp; omega) ?_; intro v' w3 hown' hgrow _))
      go_roundw
      case rel =>
        have hbl : Below w.heap.size w w3 := (hbel2.alloc (by omega) _).grown hgrow (by simp; omega) (fun k e => (World.ownsRow.lt HOW.out k e).1)
        refine ⟨k + 1, by omega, by go_num, (show OwnT4 _ _ _ _ from ?_), hbl⟩
        rw [HTK.out]
        unfold OwnT4
        rw [List.length_append, List.map_append]
        exact hown'
      case measure => simp [intOf]; omega
    · obtain rfl : k = ss.length := by omega
      have HF : Hid (OwnT4 wr w.heap.size (.slice pv ss.length cv) ss) := (by have := HW.out; rwa [List.take_length] at this : OwnT4 wr w.heap.size (.slice pv ss.length cv) ss)
      go_wp2
      go_ret
      exact ⟨_, rfl, HF.out, hbel⟩
set_option maxRecDepth 100000 in
set_option maxHeartbeats 3200000 in
theorem copyGlobs_any (B : Nat) (v : Value) (gs : List (Int × List Int)) (w : World) (hl : gs.length ≤ 1000) (hlw : ∀ g ∈ gs, g.2.length ≤ 1000) (h : OwnG w B v gs) :
    Calls Try.prog 95 #[v] w fun e w' => ∃ v', e = .returned v' ∧ OwnG w' w.heap.size v' gs ∧ Below w.heap.size w w' := by
  have HG : Hid (∀ W, Below w.heap.size w W → ∀ k (hk : k < gs.length), ∃ g c u, v = .slice (some ⟨g, 0, none⟩) gs.length c ∧ W.cell? ⟨g, k * 2, none⟩ = some (.int .i64 gs[k].1) ∧ W.cell? ⟨g, k * 2 + 1, none⟩ = some u ∧ OwnI W B u gs[k].2) := fun W hW => ownG_cells (h.below hW)
  obtain ⟨p, c, rfl⟩ := h.shape
  clear h
  have HLW : Hid _ := hlw
  clear hlw
  go_enter Try.func95, Try.ntmps95
  go_wp2
  go_loopw [3, 8] (fun x i wr => ∃ k : Nat, k ≤ gs.length ∧ i = .int .i64 k ∧ Hid (OwnG wr w.heap.size x (gs.take k)) ∧ Below w.heap.size w wr) (fun _ i _ => gs.length - (intOf i).toNat)
  case atStart => exact ⟨0, Nat.zero_le _, rfl, (show OwnG _ _ _ _ from ⟨[], rfl, World.ownsRow_nil _ _ _ _, fun k h => by simp at h, fun i j a h => by simp at h, fun i a h => by simp at h⟩), Below.refl _ _⟩
  case round =>
    obtain ⟨k, hk, rfl, HW, hbel⟩ := hrel
    obtain ⟨pv, cv, hv⟩ := HW.out.shape
    have hlk : (gs.take k).length = k := by rw [List.length_take]; omega
    rw [hlk] at hv
    subst hv
    by_cases hlt : k < gs.length
    · obtain ⟨g, c', u, e', q1, q2, hou⟩ := HG.out wr hbel k hlt
      cases e'
      have hwd := HLW.out gs[k] (List.getElem_mem hlt)
      have HTK : Hid (gs.take (k + 1) = gs.take k ++ [(gs[k].1, gs[k].2)]) := List.take_succ_eq_append_getElem hlt
      have HO : Hid (∀ W, Below wr.heap.size wr W → Calls Try.prog 94 #[u] W fun e w' => ∃ v', e = .returned v' ∧ OwnI w' W.heap.size v' gs[k].2 ∧ Below W.heap.size W w') := fun W hW => copyNums_any B u gs[k].2 W (by omega) (hou.below hW)
      obtain ⟨pu, cu, rfl⟩ := hou.shape
      clear hou
      generalize gs[k].1 = z at q1 HTK
      generalize gs[k].2 = ws at q2 HTK HO hwd
      generalize hnw : ws.length = nw at q2 HO hwd
      go_upto_region 5 with fail
      have hbox : Below wr.heap.size wr (wr.alloc (.cells #[.int .i64 z, .slice pu nw cu] 118)) := all_alloc _ _
      have hY : Hid _ := heap_alloc_new wr (.cells #[.int .i64 z, .slice pu nw cu] 118)
      have hzb : (wr.alloc (.cells #[.int .i64 z, .slice pu nw cu] 118)).heap.size = wr.heap.size + 1 := by simp
      generalize wr.alloc (.cells #[.int .i64 z, .slice pu nw cu] 118) = Wb at hbox hY hzb ⊢
      have y0 := cellW hY.out 0 _ rfl
      have y1 := cellW hY.out 1 _ rfl
      have hR : Below Wb.heap.size Wb Wb.drew := Below.drew (Below.refl _ _)
      have hRw := keepB hbox (Nat.le_refl _) hR
      have HWd : Hid (OwnG Wb.drew w.heap.size (.slice pv k cv) (gs.take k)) := HW.out.below hRw
      have hvlt : ∀ b, (Value.slice pv k cv).ownBlock = some b → b < wr.heap.size := fun b e => (HW.out.lt b e).2
      have hsw := hbel.size
      refine wp_region_held_drew (S := fun w' => w'.cell? ⟨wr.heap.size, 0, none⟩ = some (.int .i64 z) ∧ w'.cell? ⟨wr.heap.size, 1, none⟩ = some (.slice pu nw cu)) (by kernel_rfl) ?_ (fun hHeld => ?_)
      · (try dsimp only); exact ⟨y0 _ hR, y1 _ hR⟩
      first
        | (refine yieldH (i := 0) (v := ?_) rfl (by kernel_rfl) (by kernel_rfl) (by kernel_rfl) (fun _ _ _ h => h) (by rfl) ?_ (by assumption) ?_; rotate_left; (intro w hSw; (try dsimp only at hSw); obtain ⟨hS1, hS2⟩ := hSw; go_simp; (try with_reducible rfl)); try simp only [Act.put, List.setIfInBounds_toArray, List.set_cons_zero, List.set_cons_succ, List.getElem_toArray, List.getElem_cons_succ, List.getElem_cons_zero])
        | fail
      first
        | (refine yieldH (i := 1) (v := ?_) rfl (by kernel_rfl) (by kernel_rfl) (by kernel_rfl) (fun _ _ _ h => h) (by rfl) ?_ (by assumption) ?_; rotate_left; (intro w hSw; (try dsimp only at hSw); obtain ⟨hS1, hS2⟩ := hSw; go_simp; (try with_reducible rfl)); try simp only [Act.put, List.setIfInBounds_toArray, List.set_cons_zero, List.set_cons_succ, List.getElem_toArray, List.getElem_cons_succ, List.getElem_cons_zero])
        | fail
      first
        | (refine yieldH (i := 2) (v := ?_) rfl (by kernel_rfl) (by kernel_rfl) (by kernel_rfl) (fun _ _ _ h => h) (by rfl) ?_ (by assumption) ?_; rotate_left; (intro w hSw; (try dsimp only at hSw); obtain ⟨hS1, hS2⟩ := hSw; go_simp; (try with_reducible rfl)); try simp only [Act.put, List.setIfInBounds_toArray, List.set_cons_zero, List.set_cons_succ, List.getElem_toArray, List.getElem_cons_succ, List.getElem_cons_zero])
        | fail
      first
        | (refine yieldH (i := 3) (v := ?_) rfl (by kernel_rfl) (by kernel_rfl) (by kernel_rfl) (fun _ _ _ h => h) (by rfl) ?_ (by assumption) ?_; rotate_left; (intro w hSw; (try dsimp only at hSw); obtain ⟨hS1, hS2⟩ := hSw; go_simp; (try with_reducible rfl)); try simp only [Act.put, List.setIfInBounds_toArray, List.set_cons_zero, List.set_cons_succ, List.getElem_toArray, List.getElem_cons_succ, List.getElem_cons_zero])
        | fail
      first
        | (refine yieldH (i := 4) (v := ?_) rfl (by kernel_rfl) (by kernel_rfl) (by kernel_rfl) (fun _ _ _ h => h) (by rfl) ?_ (by assumption) ?_; rotate_left; (intro w hSw; (try dsimp only at hSw); obtain ⟨hS1, hS2⟩ := hSw; go_simp; (try with_reducible rfl)); try simp only [Act.put, List.setIfInBounds_toArray, List.set_cons_zero, List.set_cons_succ, List.getElem_toArray, List.getElem_cons_succ, List.getElem_cons_zero])
        | fail
      refine wpAnyH_ready (rs := [5]) (by kernel_rfl) (by simp) ?_
      refine AllReadyH.cons rfl (fun K hK => ?_) AllReadyH.nil
      go_simp
      go_at_call 94; refine (HO.out _ hRw).mono ?_; rintro e w2 ⟨u', rfl, own2, hb2⟩
      obtain ⟨pu2, cu2, rfl⟩ := own2.shape
      rw [hnw]
      dsimp only
      refine hK.out _ _ ?_ (fun hHeld => ?_)
      · (try dsimp only); exact ⟨y0 _ (keepB hR (Nat.le_refl _) hb2), y1 _ (keepB hR (Nat.le_refl _) hb2)⟩
      clear hK K
      try simp only [Act.put, List.setIfInBounds_toArray, List.set_cons_zero, List.set_cons_succ, List.getElem_toArray, List.getElem_cons_succ, List.getElem_cons_zero]
      first
        | (refine yieldH (i := 6) (v := ?_) rfl (by kernel_rfl) (by kernel_rfl) (by kernel_rfl) (fun _ _ _ h => h) (by rfl) ?_ (by assumption) ?_; rotate_left; (intro w hSw; (try dsimp only at hSw); obtain ⟨hS1, hS2⟩ := hSw; go_simp; (try with_reducible rfl)); try simp only [Act.put, List.setIfInBounds_toArray, List.set_cons_zero, List.set_cons_succ, List.getElem_toArray, List.getElem_cons_succ, List.getElem_cons_zero])
        | fail
      have hwW := keepB hR (Nat.le_refl _) hb2
      have hb3 := all_alloc w2 (.cells #[.int .i64 z, .slice pu2 nw cu2] 118)
      have hL : Hid _ := heap_alloc_new w2 (.cells #[.int .i64 z, .slice pu2 nw cu2] 118)
      have hb23 := keepB hb2 (Nat.le_refl _) hb3
      refine wpAnyH_ready (rs := [7]) (by kernel_rfl) (by simp) ?_
      refine AllReadyH.cons rfl (fun K hK => ?_) AllReadyH.nil
      go_simp
      refine hK.out _ _ ?_ (fun hHeld => ?_)
      · (try dsimp only); exact ⟨y0 _ (keepB hwW (Nat.le_refl _) hb3), y1 _ (keepB hwW (Nat.le_refl _) hb3)⟩
      clear hK K
      try simp only [Act.put, List.setIfInBounds_toArray, List.set_cons_zero, List.set_cons_succ, List.getElem_toArray, List.getElem_cons_succ, List.getElem_cons_zero]
      obtain ⟨v4, w4, hrun, hG4, hgr4⟩ := app_glob (w0 := Wb.drew) (w2.alloc (.cells #[.int .i64 z, .slice pu2 nw cu2] 118)) 31 w.heap.size (.slice pv k cv) (gs.take k) HWd.out hb23 (by show w.heap.size ≤ Wb.heap.size; omega) w2.heap.size z (.slice pu2 nw cu2) ws (cellW hL.out 0 _ rfl _ (Below.refl _ _)) (cellW hL.out 1 _ rfl _ (Below.refl _ _)) rfl (by have h9 := own2; rw [hnw] at h9; exact h9.below hb3) (by rw [hlk]; omega)
      have HG4 : Hid (OwnG w4 w.heap.size v4 (gs.take k ++ [(z, ws)])) := hG4
      obtain ⟨p4, c4, e4⟩ := hG4.shape
      rw [List.length_append, hlk] at e4
      subst e4
      have S4 : w4.cell? ⟨wr.heap.size, 0, none⟩ = some (.int .i64 z) ∧ w4.cell? ⟨wr.heap.size, 1, none⟩ = some (.slice pu nw cu) := ⟨hgr4.cell (y0 _ (keepB hwW (Nat.le_refl _) hb3)) (fun e => by have := hvlt _ e.symm; simp only at this; omega), hgr4.cell (y1 _ (keepB hwW (Nat.le_refl _) hb3)) (fun e => by have := hvlt _ e.symm; simp only at this; omega)⟩
      have hB4 : Below w.heap.size w w4 := (keepB (keepB hbel (Nat.le_refl _) hRw) (Nat.le_refl _) hb23).grown hgr4 (Nat.le_trans hsw (Nat.le_trans hRw.size hb23.size)) (fun b e => (HWd.out.lt b e).1)
      clear hG4 hgr4
      refine wpAnyH_ready (rs := [8]) (by kernel_rfl) (by simp) ?_
      refine AllReadyH.cons rfl (fun K hK => ?_) AllReadyH.nil
      unfold Oper.wp
      simp [execOp, resolve, invoke, builtin, Act.eval, hrun, Result.andThen]
      refine hK.out _ _ ?_ (fun hHeld => ?_)
      · (try dsimp only); exact S4
      clear hK K
      try simp only [Act.put, List.setIfInBounds_toArray, List.set_cons_zero, List.set_cons_succ, List.getElem_toArray, List.getElem_cons_succ, List.getElem_cons_zero]
      first
        | (refine yieldH (i := 9) (v := ?_) rfl (by kernel_rfl) (by kernel_rfl) (by kernel_rfl) (fun _ _ _ h => h) (by rfl) ?_ (by assumption) ?_; rotate_left; (intro w hSw; (try dsimp only at hSw); obtain ⟨hS1, hS2⟩ := hSw; go_simp; (try with_reducible rfl)); try simp only [Act.put, List.setIfInBounds_toArray, List.set_cons_zero, List.set_cons_succ, List.getElem_toArray, List.getElem_cons_succ, List.getElem_cons_zero])
        | fail
      refine wpAnyH_done (by kernel_rfl) ?_ _
      go_wp2
      go_roundw
      case rel => exact ⟨k + 1, by omega, by go_num, (show OwnG _ _ _ _ by rw [HTK.out]; exact HG4.out), hB4⟩
      case measure => simp [intOf]; omega
    · obtain rfl : k = gs.length := by omega
      have HF : Hid (OwnG wr w.heap.size (.slice pv gs.length cv) gs) := (by have := HW.out; rwa [List.take_length] at this : OwnG wr w.heap.size (.slice pv gs.length cv) gs)
      go_wp2
      go_ret
      exact ⟨_, rfl, HF.out, hbel⟩
end Go.Proofs.Ytggdjiijcoklgaa
