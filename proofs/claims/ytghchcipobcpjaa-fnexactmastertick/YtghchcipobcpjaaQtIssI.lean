/- A QUESTION ISSUED: the program's. Written by mkissi.py. -/
import Derived.Test.YtghchcipobcpjaaQtIssP
import Derived.Test.YtghchcipobcpjaaQtMoL
namespace Go.Proofs.Ytghchcipobcpjaa
open Go.RowKit
set_option linter.unusedVariables false
set_option linter.unusedSimpArgs false

def moIll (c : Int) : Mo := ⟨⟨0, [], []⟩, [], 0, c⟩
def issueM (s : Mst) (ask : ByteArray) : Mo :=
  if 8000 < ask.size then moIll 2 else if s.right = true ∧ bodyB ask = true then (if fullB s = true then moIll 9 else ⟨⟨s.nx + 1, s.op ++ [⟨s.nx, ask, 1, 0⟩], s.dn⟩, [letB s.nx ask], s.nx, 0⟩) else moIll 1
theorem OwnMo.nil {w : World} {b : Nat} (c : Int) (h : b ≤ w.heap.size) : OwnMo w b w.heap.size (.slice none 0 0) (.slice none 0 0) (.slice none 0 0) (moIll c) :=
  ⟨Nat.le_refl _, b, b, b, b, b, b, ⟨Nat.le_refl _, Nat.le_refl _, Nat.le_refl _⟩, ⟨h, h, h⟩, ⟨h, .inl ⟨rfl, rfl⟩⟩, ⟨h, .inl ⟨rfl, rfl⟩⟩, ⟨⟨by simp [moIll], .inl ⟨rfl, rfl⟩⟩, fun k e => by cases e⟩, .inl (Nat.le_refl _), .inl (Nat.le_refl _), .inl (Nat.le_refl _)⟩
theorem right_len {s : Mst} (h : s.right = true) : s.op.length ≤ 3 ∧ s.dn.length ≤ 20 ∧ 1 ≤ s.nx ∧ s.nx ≤ 1000000 := by
  unfold Mst.right openW donesB at h
  simp only [Bool.and_eq_true, decide_eq_true_eq] at h
  have := (idB_iff _).1 h.1
  omega
set_option maxRecDepth 100000 in
set_option maxHeartbeats 6400000 in
theorem issue_any (s : Mst) (v1 v2 : Value) (ask : ByteArray) (w : World) (ht : s.tot ≤ 1048576) (hwf : ∀ x ∈ s.dn, (Lit.int .i64 x.i).wf = true) (hask : ask.size ≤ maxLen) (h : RowMst w v1 v2 s) :
    Calls Try.prog 8 #[.agg #[.int .i64 s.nx, v1, v2], .string ask] w fun e w' => ∃ u1 u2 u3, e = .returned (.agg #[.int .i64 (issueM s ask).m.nx, u1, u2, u3, .int .i64 (issueM s ask).id, .int .i64 (issueM s ask).co]) ∧ OwnMo w' w.heap.size w'.heap.size u1 u2 u3 (issueM s ask) ∧ Below w.heap.size w w' := by
  have q1 := csum_pos Wt.sz s.op
  have q3 := csum_pos Dn.sz s.dn
  have hb0 : s.op.length ≤ 1048576 ∧ s.dn.length ≤ 1048576 ∧ csum Wt.sz s.op ≤ 1048576 ∧ csum Dn.sz s.dn ≤ 1048576 := by unfold Mst.tot at ht; omega
  obtain ⟨b1, b2, b3, b4⟩ := hb0
  have HR : Hid (∀ W, Below w.heap.size w W → Calls Try.prog 25 #[.agg #[.int .i64 s.nx, v1, v2]] W fun e w' => e = .returned (.bool s.right) ∧ Below W.heap.size W w') := fun W hW => masterRight_any s v1 v2 W ht hwf (h.below hW)
  have HF : Hid (∀ W, Calls Try.prog 26 #[.string ask] W fun e w' => e = .returned (.bool (bodyB ask)) ∧ W = w') := fun W => letterFits_any ask W hask
  have HOM : Hid (∀ W, Below w.heap.size w W → Calls Try.prog 27 #[.agg #[.int .i64 s.nx, v1, v2]] W fun e w' => ∃ M va vd, e = .returned (.pointer (some ⟨M, 0, none⟩)) ∧ OwnAt w' W.heap.size M va vd s ∧ Below W.heap.size W w') := fun W hW => ownMaster_any s v1 v2 W b1 b2 (fun x hx => by have := csum_each Wt.sz hx; have e : Wt.sz x = x.t.size := rfl; omega) (fun x hx => by have := csum_each Dn.sz hx; have e : Dn.sz x = x.a.size := rfl; omega) (h.below hW)
  have HFU : Hid (∀ (W : World) (base M : Nat) (va vd : Value), OwnAt W base M va vd s → Calls Try.prog 28 #[.pointer (some ⟨M, 0, none⟩)] W fun e w' => e = .returned (.bool (fullB s)) ∧ Below W.heap.size W w') := fun W base M va vd h => isFull_any s base M va vd W b1 b2 h
  have hrl : s.right = true → s.op.length ≤ 3 ∧ s.dn.length ≤ 20 ∧ 1 ≤ s.nx ∧ s.nx ≤ 1000000 := right_len
  obtain ⟨⟨p1, c1, rfl, _⟩, ⟨p2, c2, rfl, _⟩⟩ := h
  clear q1 q3 ht hwf b1 b2 b3 b4
  have hm := hask
  unfold maxLen at hm
  have hX0 : Hid _ := blk (heap_alloc_new w (.cells #[.int .i64 s.nx, .slice p1 s.op.length c1, .slice p2 s.dn.length c2] 30)) (all_alloc _ (.cells #[.int .i64 0, .slice none 0 0, .slice none 0 0, .slice none 0 0, .int .i64 0, .int .i64 0] 33))
  have hY0 : Hid _ := heap_alloc_new (w.alloc (.cells #[.int .i64 s.nx, .slice p1 s.op.length c1, .slice p2 s.dn.length c2] 30)) (.cells #[.int .i64 0, .slice none 0 0, .slice none 0 0, .slice none 0 0, .int .i64 0, .int .i64 0] 33)
  have hA0 : Below w.heap.size w ((w.alloc (.cells #[.int .i64 s.nx, .slice p1 s.op.length c1, .slice p2 s.dn.length c2] 30)).alloc (.cells #[.int .i64 0, .slice none 0 0, .slice none 0 0, .slice none 0 0, .int .i64 0, .int .i64 0] 33)) := keepB (all_alloc w _) (Nat.le_refl _) (all_alloc _ _)
  have e2 : ((w.alloc (.cells #[.int .i64 s.nx, .slice p1 s.op.length c1, .slice p2 s.dn.length c2] 30)).alloc (.cells #[.int .i64 0, .slice none 0 0, .slice none 0 0, .slice none 0 0, .int .i64 0, .int .i64 0] 33)).heap.size = w.heap.size + 1 + 1 := by simp
  rw [show (w.alloc (.cells #[.int .i64 s.nx, .slice p1 s.op.length c1, .slice p2 s.dn.length c2] 30)).heap.size = w.heap.size + 1 by simp] at hY0
  unfold issueM
  by_cases h8 : 8000 < ask.size
  · rw [if_pos h8]
    go_enter Try.func8, Try.ntmps8
    go_upto_region 1 with fail
    have hX := hX0
    have hY := hY0
    have hA := hA0
    generalize (w.alloc (.cells #[.int .i64 s.nx, .slice p1 s.op.length c1, .slice p2 s.dn.length c2] 30)).alloc (.cells #[.int .i64 0, .slice none 0 0, .slice none 0 0, .slice none 0 0, .int .i64 0, .int .i64 0] 33) = A at hX hY hA e2 ⊢
    clear hX0 hY0 hA0
    have g2 : w.heap.size + 1 + 1 ≤ A.heap.size := by omega
    clear e2
    go_wp2_with (first | (refine wpList_store_row rfl 33 (.tmp 4) (.tmp 10) rfl (w.heap.size + 1) #[.int .i64 0, .slice none 0 0, .slice none 0 0, .slice none 0 0, .int .i64 0, .int .i64 2] rfl rfl _ _ hY.out (by kernel_rfl) rfl (by simp [Value.oneCell']) ?_))
    go_wp2
    have hYf := setRow_heap _ (w.heap.size + 1) _ #[.int .i64 0, .slice none 0 0, .slice none 0 0, .slice none 0 0, .int .i64 0, .int .i64 2] _ _ hY.out
    have hAf : Below w.heap.size w (A.setRow (w.heap.size + 1) #[.int .i64 0, .slice none 0 0, .slice none 0 0, .slice none 0 0, .int .i64 0, .int .i64 2]) := rcBelow_setRow hA (by omega) _
    exact bodyPost_ret (v := .agg #[.int .i64 0, .slice none 0 0, .slice none 0 0, .slice none 0 0, .int .i64 0, .int .i64 2]) (results_cell_row Try.results8 _ _ (w.heap.size + 1) _ _ _ _ rfl hYf Try.underlying33 rfl (by kernel_rfl)) rfl ⟨_, _, _, rfl, OwnMo.nil 2 hAf.size, hAf⟩
  rw [if_neg h8]
  cases hr : s.right with
  | false =>
    rw [if_neg (fun h => by cases h.1)]
    rw [hr] at HR
    go_enter Try.func8, Try.ntmps8
    go_upto_region 1 with fail
    have hX := hX0
    have hY := hY0
    have hA := hA0
    generalize (w.alloc (.cells #[.int .i64 s.nx, .slice p1 s.op.length c1, .slice p2 s.dn.length c2] 30)).alloc (.cells #[.int .i64 0, .slice none 0 0, .slice none 0 0, .slice none 0 0, .int .i64 0, .int .i64 0] 33) = A at hX hY hA e2 ⊢
    clear hX0 hY0 hA0
    have g2 : w.heap.size + 1 + 1 ≤ A.heap.size := by omega
    clear e2
    have x0 := cellW hX.out 0 _ rfl A (Below.refl _ _)
    have x1 := cellW hX.out 1 _ rfl A (Below.refl _ _)
    have x2 := cellW hX.out 2 _ rfl A (Below.refl _ _)
    go_upto_region 4 with (first | (go_at_call 25; refine (HR.out _ hA).mono ?_; rintro e w1 ⟨rfl, hb1⟩))
    replace hY : Hid _ := blk hY.out hb1
    replace hA : Below w.heap.size w w1 := keepB hA (Nat.le_refl _) hb1
    go_wp2_with (first | (refine wpList_store_row rfl 33 (.tmp 4) (.tmp 19) rfl (w.heap.size + 1) #[.int .i64 0, .slice none 0 0, .slice none 0 0, .slice none 0 0, .int .i64 0, .int .i64 1] rfl rfl _ _ hY.out (by kernel_rfl) rfl (by simp [Value.oneCell']) ?_))
    go_wp2
    have hYf := setRow_heap _ (w.heap.size + 1) _ #[.int .i64 0, .slice none 0 0, .slice none 0 0, .slice none 0 0, .int .i64 0, .int .i64 1] _ _ hY.out
    have hAf : Below w.heap.size w (w1.setRow (w.heap.size + 1) #[.int .i64 0, .slice none 0 0, .slice none 0 0, .slice none 0 0, .int .i64 0, .int .i64 1]) := rcBelow_setRow hA (by omega) _
    exact bodyPost_ret (v := .agg #[.int .i64 0, .slice none 0 0, .slice none 0 0, .slice none 0 0, .int .i64 0, .int .i64 1]) (results_cell_row Try.results8 _ _ (w.heap.size + 1) _ _ _ _ rfl hYf Try.underlying33 rfl (by kernel_rfl)) rfl ⟨_, _, _, rfl, OwnMo.nil 1 hAf.size, hAf⟩
  | true =>
  rw [hr] at HR
  cases hB : bodyB ask with
  | false =>
    rw [if_neg (fun h => by cases h.2)]
    rw [hB] at HF
    go_enter Try.func8, Try.ntmps8
    go_upto_region 1 with fail
    have hX := hX0
    have hY := hY0
    have hA := hA0
    generalize (w.alloc (.cells #[.int .i64 s.nx, .slice p1 s.op.length c1, .slice p2 s.dn.length c2] 30)).alloc (.cells #[.int .i64 0, .slice none 0 0, .slice none 0 0, .slice none 0 0, .int .i64 0, .int .i64 0] 33) = A at hX hY hA e2 ⊢
    clear hX0 hY0 hA0
    have g2 : w.heap.size + 1 + 1 ≤ A.heap.size := by omega
    clear e2
    have x0 := cellW hX.out 0 _ rfl A (Below.refl _ _)
    have x1 := cellW hX.out 1 _ rfl A (Below.refl _ _)
    have x2 := cellW hX.out 2 _ rfl A (Below.refl _ _)
    go_upto_region 4 with (first | (go_at_call 25; refine (HR.out _ hA).mono ?_; rintro e w1 ⟨rfl, hb1⟩) | (go_at_call 26; refine (HF.out _).mono ?_; rintro e w2 ⟨rfl, rfl⟩))
    replace hY : Hid _ := blk hY.out hb1
    replace hA : Below w.heap.size w w1 := keepB hA (Nat.le_refl _) hb1
    go_wp2_with (first | (refine wpList_store_row rfl 33 (.tmp 4) (.tmp 19) rfl (w.heap.size + 1) #[.int .i64 0, .slice none 0 0, .slice none 0 0, .slice none 0 0, .int .i64 0, .int .i64 1] rfl rfl _ _ hY.out (by kernel_rfl) rfl (by simp [Value.oneCell']) ?_))
    go_wp2
    have hYf := setRow_heap _ (w.heap.size + 1) _ #[.int .i64 0, .slice none 0 0, .slice none 0 0, .slice none 0 0, .int .i64 0, .int .i64 1] _ _ hY.out
    have hAf : Below w.heap.size w (w1.setRow (w.heap.size + 1) #[.int .i64 0, .slice none 0 0, .slice none 0 0, .slice none 0 0, .int .i64 0, .int .i64 1]) := rcBelow_setRow hA (by omega) _
    exact bodyPost_ret (v := .agg #[.int .i64 0, .slice none 0 0, .slice none 0 0, .slice none 0 0, .int .i64 0, .int .i64 1]) (results_cell_row Try.results8 _ _ (w.heap.size + 1) _ _ _ _ rfl hYf Try.underlying33 rfl (by kernel_rfl)) rfl ⟨_, _, _, rfl, OwnMo.nil 1 hAf.size, hAf⟩
  | true =>
  rw [if_pos ⟨rfl, rfl⟩]
  rw [hB] at HF
  obtain ⟨hl1, hl2, hn1, hn2⟩ := hrl hr
  have hsz := ((bodyB_iff _).1 hB).2
  cases hfu : fullB s with
  | true =>
    rw [if_pos rfl]
    rw [hfu] at HFU
    go_enter Try.func8, Try.ntmps8
    go_upto_region 1 with fail
    have hX := hX0
    have hY := hY0
    have hA := hA0
    generalize (w.alloc (.cells #[.int .i64 s.nx, .slice p1 s.op.length c1, .slice p2 s.dn.length c2] 30)).alloc (.cells #[.int .i64 0, .slice none 0 0, .slice none 0 0, .slice none 0 0, .int .i64 0, .int .i64 0] 33) = A at hX hY hA e2 ⊢
    clear hX0 hY0 hA0
    have g2 : w.heap.size + 1 + 1 ≤ A.heap.size := by omega
    clear e2
    have x0 := cellW hX.out 0 _ rfl A (Below.refl _ _)
    have x1 := cellW hX.out 1 _ rfl A (Below.refl _ _)
    have x2 := cellW hX.out 2 _ rfl A (Below.refl _ _)
    go_upto_region 7 with (first
      | (go_at_call 25; refine (HR.out _ hA).mono ?_; rintro e w1 ⟨rfl, hb1⟩; have x0' := cellW hX.out 0 _ rfl w1 hb1; have x1' := cellW hX.out 1 _ rfl w1 hb1; have x2' := cellW hX.out 2 _ rfl w1 hb1)
      | (go_at_call 26; refine (HF.out _).mono ?_; rintro e w2 ⟨rfl, rfl⟩)
      | (go_at_call 27; refine (HOM.out _ (keepB hA (Nat.le_refl _) hb1)).mono ?_; rintro e w3 ⟨M, va, vd, rfl, own3, hb3⟩)
      | (go_at_call 28; refine (HFU.out _ _ _ _ _ own3).mono ?_; rintro e w4 ⟨rfl, hb44⟩))
    have hb4 : Below A.heap.size A w4 := keepB (keepB hb1 (Nat.le_refl _) hb3) (Nat.le_refl _) hb44
    clear x0 x1 x2 x0' x1' x2'
    replace hY : Hid _ := blk hY.out hb4
    replace hA : Below w.heap.size w w4 := keepB hA (Nat.le_refl _) hb4
    go_wp2_with (first | (refine wpList_store_row rfl 33 (.tmp 4) (.tmp 24) rfl (w.heap.size + 1) #[.int .i64 0, .slice none 0 0, .slice none 0 0, .slice none 0 0, .int .i64 0, .int .i64 9] rfl rfl _ _ hY.out (by kernel_rfl) rfl (by simp [Value.oneCell']) ?_))
    go_wp2
    have hYf := setRow_heap _ (w.heap.size + 1) _ #[.int .i64 0, .slice none 0 0, .slice none 0 0, .slice none 0 0, .int .i64 0, .int .i64 9] _ _ hY.out
    have hAf : Below w.heap.size w (w4.setRow (w.heap.size + 1) #[.int .i64 0, .slice none 0 0, .slice none 0 0, .slice none 0 0, .int .i64 0, .int .i64 9]) := rcBelow_setRow hA (by omega) _
    exact bodyPost_ret (v := .agg #[.int .i64 0, .slice none 0 0, .slice none 0 0, .slice none 0 0, .int .i64 0, .int .i64 9]) (results_cell_row Try.results8 _ _ (w.heap.size + 1) _ _ _ _ rfl hYf Try.underlying33 rfl (by kernel_rfl)) rfl ⟨_, _, _, rfl, OwnMo.nil 9 hAf.size, hAf⟩
  | false =>
    rw [if_neg (by decide)]
    rw [hfu] at HFU
    have hn3 : s.nx < 1000000 := by
      rcases Int.lt_or_le s.nx 1000000 with h | h
      · exact h
      · unfold fullB at hfu
        rw [decide_eq_true h] at hfu
        simp at hfu
    have HBG : Hid (∀ (W : World) (base M : Nat) (va vd : Value), base ≤ W.heap.size → OwnAt W base M va vd s → Calls Try.prog 29 #[.pointer (some ⟨M, 0, none⟩), .int .i64 s.nx, .string ask] W fun e w' => e = .returned (.string (letB s.nx ask)) ∧ (∃ va', OwnAt w' base M va' vd ⟨s.nx, s.op ++ [⟨s.nx, ask, 1, 0⟩], s.dn⟩) ∧ Below base W w') := fun W base M va vd hbs h => begin_any s s.nx ask base M va vd W (by omega) (by omega) hbs h
    have HHO : Hid (∀ (W : World) (base M : Nat) (va vd : Value), OwnAt W base M va vd ⟨s.nx + 1, s.op ++ [⟨s.nx, ask, 1, 0⟩], s.dn⟩ → Calls Try.prog 30 #[.pointer (some ⟨M, 0, none⟩)] W fun e w' => e = .returned (.agg #[.int .i64 (s.nx + 1), va, vd]) ∧ Below W.heap.size W w') := fun W base M va vd h => handOut_any _ base M va vd W h
    have hwn : IntKind.i64.wrap (s.nx + 1) = s.nx + 1 := by
      obtain ⟨z, hz⟩ : ∃ z : Nat, s.nx + 1 = (z : Int) := ⟨(s.nx + 1).toNat, by omega⟩
      rw [hz]
      exact wrapM z (by omega)
    generalize letB s.nx ask = LB at HBG ⊢
    go_enter Try.func8, Try.ntmps8
    go_upto_region 1 with fail
    have hX := hX0
    have hY := hY0
    have hA := hA0
    generalize (w.alloc (.cells #[.int .i64 s.nx, .slice p1 s.op.length c1, .slice p2 s.dn.length c2] 30)).alloc (.cells #[.int .i64 0, .slice none 0 0, .slice none 0 0, .slice none 0 0, .int .i64 0, .int .i64 0] 33) = A at hX hY hA e2 ⊢
    clear hX0 hY0 hA0
    have g2 : w.heap.size + 1 + 1 ≤ A.heap.size := by omega
    clear e2
    have x0 := cellW hX.out 0 _ rfl A (Below.refl _ _)
    have x1 := cellW hX.out 1 _ rfl A (Below.refl _ _)
    have x2 := cellW hX.out 2 _ rfl A (Below.refl _ _)
    go_upto_region 7 with (first
      | (go_at_call 25; refine (HR.out _ hA).mono ?_; rintro e w1 ⟨rfl, hb1⟩; have x0' := cellW hX.out 0 _ rfl w1 hb1; have x1' := cellW hX.out 1 _ rfl w1 hb1; have x2' := cellW hX.out 2 _ rfl w1 hb1)
      | (go_at_call 26; refine (HF.out _).mono ?_; rintro e w2 ⟨rfl, rfl⟩)
      | (go_at_call 27; refine (HOM.out _ (keepB hA (Nat.le_refl _) hb1)).mono ?_; rintro e w3 ⟨M, va, vd, rfl, own3, hb3⟩)
      | (go_at_call 28; refine (HFU.out _ _ _ _ _ own3).mono ?_; rintro e w4 ⟨rfl, hb44⟩))
    have hb4 : Below A.heap.size A w4 := keepB (keepB hb1 (Nat.le_refl _) hb3) (Nat.le_refl _) hb44
    clear x0 x1 x2 x0' x1' x2'
    have hA1 : Below w.heap.size w w1 := keepB hA (Nat.le_refl _) hb1
    replace hY : Hid _ := blk hY.out hb4
    replace hX : Hid _ := blk hX.out hb4
    replace hA : Below w.heap.size w w4 := keepB hA (Nat.le_refl _) hb4
    have hgw : w.heap.size + 1 + 1 ≤ w1.heap.size := by have := hb1.size; omega
    have ho4 : Hid (OwnAt w4 w1.heap.size M va vd s) := own3.below hb44
    have hz4 : w1.heap.size ≤ w4.heap.size := Nat.le_trans hb3.size hb44.size
    clear own3 hb44 hb3 hb4
    obtain ⟨B, hB1⟩ : ∃ B, w1.heap.size = B := ⟨_, rfl⟩
    rw [hB1] at ho4 hz4 hgw
    clear hB1 hb1
    go_upto_region 8 with fail
    have hd := Below.drew (Below.refl w4.heap.size w4)
    refine wp_region_held_drew (S := (fun w' => w'.heap[w.heap.size]? = some (.cells #[.int .i64 s.nx, .slice p1 s.op.length c1, .slice p2 s.dn.length c2] 30 (0, 0)))) (by kernel_rfl) ?_ (fun hHeld => ?_)
    · (try dsimp only); exact blk hX.out hd
    replace hX : Hid _ := blk hX.out hd
    replace hY : Hid _ := blk hY.out hd
    replace hA : Below w.heap.size w w4.drew := keepB hA (Nat.le_refl _) hd
    replace ho4 : Hid (OwnAt w4.drew B M va vd s) := ho4.out.below hd
    replace hz4 : B ≤ w4.drew.heap.size := hz4
    clear hd
    generalize w4.drew = D at hX hY hA ho4 hz4 hHeld ⊢
    first
      | (refine skipH (i := 0) rfl (by kernel_rfl) (by kernel_rfl) (by kernel_rfl) (fun _ _ _ h => h) (by rfl) (by assumption) ?_; try simp only [Act.put, List.setIfInBounds_toArray, List.set_cons_zero, List.set_cons_succ, List.getElem_toArray, List.getElem_cons_succ, List.getElem_cons_zero])
      | (refine yieldH (i := 0) (v := ?_) rfl (by kernel_rfl) (by kernel_rfl) (by kernel_rfl) (fun _ _ _ h => h) (by rfl) ?_ (by assumption) ?_; rotate_left; (intro w hSw; (try dsimp only at hSw); go_simp; (try with_reducible rfl)); try simp only [Act.put, List.setIfInBounds_toArray, List.set_cons_zero, List.set_cons_succ, List.getElem_toArray, List.getElem_cons_succ, List.getElem_cons_zero])
      | fail
    first
      | (refine skipH (i := 1) rfl (by kernel_rfl) (by kernel_rfl) (by kernel_rfl) (fun _ _ _ h => h) (by rfl) (by assumption) ?_; try simp only [Act.put, List.setIfInBounds_toArray, List.set_cons_zero, List.set_cons_succ, List.getElem_toArray, List.getElem_cons_succ, List.getElem_cons_zero])
      | (refine yieldH (i := 1) (v := ?_) rfl (by kernel_rfl) (by kernel_rfl) (by kernel_rfl) (fun _ _ _ h => h) (by rfl) ?_ (by assumption) ?_; rotate_left; (intro w hSw; (try dsimp only at hSw); go_simp; (try with_reducible rfl)); try simp only [Act.put, List.setIfInBounds_toArray, List.set_cons_zero, List.set_cons_succ, List.getElem_toArray, List.getElem_cons_succ, List.getElem_cons_zero])
      | fail
    first
      | (refine skipH (i := 2) rfl (by kernel_rfl) (by kernel_rfl) (by kernel_rfl) (fun _ _ _ h => h) (by rfl) (by assumption) ?_; try simp only [Act.put, List.setIfInBounds_toArray, List.set_cons_zero, List.set_cons_succ, List.getElem_toArray, List.getElem_cons_succ, List.getElem_cons_zero])
      | (refine yieldH (i := 2) (v := ?_) rfl (by kernel_rfl) (by kernel_rfl) (by kernel_rfl) (fun _ _ _ h => h) (by rfl) ?_ (by assumption) ?_; rotate_left; (intro w hSw; (try dsimp only at hSw); go_simp; (try with_reducible rfl)); try simp only [Act.put, List.setIfInBounds_toArray, List.set_cons_zero, List.set_cons_succ, List.getElem_toArray, List.getElem_cons_succ, List.getElem_cons_zero])
      | fail
    first
      | (refine skipH (i := 3) rfl (by kernel_rfl) (by kernel_rfl) (by kernel_rfl) (fun _ _ _ h => h) (by rfl) (by assumption) ?_; try simp only [Act.put, List.setIfInBounds_toArray, List.set_cons_zero, List.set_cons_succ, List.getElem_toArray, List.getElem_cons_succ, List.getElem_cons_zero])
      | (refine yieldH (i := 3) (v := ?_) rfl (by kernel_rfl) (by kernel_rfl) (by kernel_rfl) (fun _ _ _ h => h) (by rfl) ?_ (by assumption) ?_; rotate_left; (intro w hSw; (try dsimp only at hSw); go_simp; (try with_reducible rfl)); try simp only [Act.put, List.setIfInBounds_toArray, List.set_cons_zero, List.set_cons_succ, List.getElem_toArray, List.getElem_cons_succ, List.getElem_cons_zero])
      | fail
    refine yieldH (i := 4) (v := .int .i64 s.nx) rfl (by kernel_rfl) (by kernel_rfl) (by kernel_rfl) (fun _ _ _ h => h) (by rfl) ?_ (by assumption) ?_
    · intro w hSw; (try dsimp only at hSw); have y := cellW hSw 0 _ rfl w (Below.refl _ _); go_simp
    try simp only [Act.put, List.setIfInBounds_toArray, List.set_cons_zero, List.set_cons_succ, List.getElem_toArray, List.getElem_cons_succ, List.getElem_cons_zero]
    first
      | (refine skipH (i := 5) rfl (by kernel_rfl) (by kernel_rfl) (by kernel_rfl) (fun _ _ _ h => h) (by rfl) (by assumption) ?_; try simp only [Act.put, List.setIfInBounds_toArray, List.set_cons_zero, List.set_cons_succ, List.getElem_toArray, List.getElem_cons_succ, List.getElem_cons_zero])
      | (refine yieldH (i := 5) (v := ?_) rfl (by kernel_rfl) (by kernel_rfl) (by kernel_rfl) (fun _ _ _ h => h) (by rfl) ?_ (by assumption) ?_; rotate_left; (intro w hSw; (try dsimp only at hSw); go_simp; (try with_reducible rfl)); try simp only [Act.put, List.setIfInBounds_toArray, List.set_cons_zero, List.set_cons_succ, List.getElem_toArray, List.getElem_cons_succ, List.getElem_cons_zero])
      | fail
    refine wpAnyH_ready (rs := [6]) (by kernel_rfl) (by simp) ?_
    refine AllReadyH.cons rfl (fun K hK => ?_) AllReadyH.nil
    go_simp
    go_at_call 29; refine (HBG.out _ _ _ _ _ hz4 ho4.out).mono ?_; rintro e w5 ⟨rfl, ho5, hb5⟩
    (try dsimp only)
    refine hK.out _ _ ?_ (fun hHeld => ?_)
    · (try dsimp only); exact (hb5.block w.heap.size (by omega)).trans hX.out
    clear hK K
    try simp only [Act.put, List.setIfInBounds_toArray, List.set_cons_zero, List.set_cons_succ, List.getElem_toArray, List.getElem_cons_succ, List.getElem_cons_zero]
    replace hX : Hid _ := (hb5.block w.heap.size (by omega)).trans hX.out
    replace hY : Hid _ := (hb5.block (w.heap.size + 1) (by omega)).trans hY.out
    replace hA : Below w.heap.size w w5 := hA.trans (hb5.mono (by omega))
    first
      | (refine skipH (i := 7) rfl (by kernel_rfl) (by kernel_rfl) (by kernel_rfl) (fun _ _ _ h => h) (by rfl) (by assumption) ?_; try simp only [Act.put, List.setIfInBounds_toArray, List.set_cons_zero, List.set_cons_succ, List.getElem_toArray, List.getElem_cons_succ, List.getElem_cons_zero])
      | (refine yieldH (i := 7) (v := ?_) rfl (by kernel_rfl) (by kernel_rfl) (by kernel_rfl) (fun _ _ _ h => h) (by rfl) ?_ (by assumption) ?_; rotate_left; (intro w hSw; (try dsimp only at hSw); go_simp; (try with_reducible rfl)); try simp only [Act.put, List.setIfInBounds_toArray, List.set_cons_zero, List.set_cons_succ, List.getElem_toArray, List.getElem_cons_succ, List.getElem_cons_zero])
      | fail
    refine wpAnyH_done (by kernel_rfl) ?_ _
    clear hHeld
    obtain ⟨va', ho5⟩ := ho5
    obtain ⟨pa, ca, rfl⟩ := OwnK.shape ho5.op
    obtain ⟨pd, cd, rfl⟩ := OwnK.shape ho5.dn
    dsimp only at ho5
    rw [show (s.op ++ [(⟨s.nx, ask, 1, 0⟩ : Wt)]).length = s.op.length + 1 by rw [List.length_append]; rfl] at ho5
    have m1 := cellW ho5.box 1 _ rfl w5 (Below.refl _ _)
    have mf := frozenW ho5.box 1 w5 (Below.refl _ _)
    go_upto_region 10 with fail
    have hltO := OwnK.lt ho5.op
    have hltD := OwnK.lt ho5.dn
    have ho6 : Hid (OwnAt (w5.setCell ⟨M, 1, none⟩ (.int .i64 (s.nx + 1))) B M (.slice pa (s.op.length + 1) ca) (.slice pd s.dn.length cd) ⟨s.nx + 1, s.op ++ [⟨s.nx, ask, 1, 0⟩], s.dn⟩) := (⟨ho5.le, blk_set ho5.box 1 (.int .i64 (s.nx + 1)), OwnK.far ho5.op (a := ⟨M, 1, none⟩) (fun b hb => by have := hltO b hb; simp only; omega) (.int .i64 (s.nx + 1)), OwnK.far ho5.dn (a := ⟨M, 1, none⟩) (fun b hb => by have := ho5.lt b hb; simp only; omega) (.int .i64 (s.nx + 1)), ho5.lt⟩ : OwnAt (w5.setCell ⟨M, 1, none⟩ (.int .i64 (s.nx + 1))) B M (.slice pa (s.op.length + 1) ca) (.slice pd s.dn.length cd) ⟨s.nx + 1, s.op ++ [⟨s.nx, ask, 1, 0⟩], s.dn⟩)
    have hle := ho5.le
    have hX6 : Hid _ := blk_far (a := ⟨M, 1, none⟩) hX.out (by simp only; omega) (.int .i64 (s.nx + 1))
    have hY6 : Hid _ := blk_far (a := ⟨M, 1, none⟩) hY.out (by simp only; omega) (.int .i64 (s.nx + 1))
    have hA6 : Below w.heap.size w (w5.setCell ⟨M, 1, none⟩ (.int .i64 (s.nx + 1))) := hA.setCell (by simp only; omega) _
    have hlt6 : ∀ b, (Value.slice pa (s.op.length + 1) ca).ownBlock = some b → M + 1 ≤ b ∧ b < (w5.setCell ⟨M, 1, none⟩ (.int .i64 (s.nx + 1))).heap.size := OwnK.lt ho6.out.op
    have hdl := ho5.lt
    clear ho5 m1 mf hX hY hA hltO
    generalize w5.setCell ⟨M, 1, none⟩ (.int .i64 (s.nx + 1)) = U at ho6 hX6 hY6 hA6 hlt6 ⊢
    have hd := Below.drew (Below.refl U.heap.size U)
    refine wp_region_held_drew (S := (fun w' => w'.heap[w.heap.size]? = some (.cells #[.int .i64 s.nx, .slice p1 s.op.length c1, .slice p2 s.dn.length c2] 30 (0, 0)))) (by kernel_rfl) ?_ (fun hHeld => ?_)
    · (try dsimp only); exact blk hX6.out hd
    have hX : Hid _ := blk hX6.out hd
    have hY : Hid _ := blk hY6.out hd
    have hA : Below w.heap.size w U.drew := keepB hA6 (Nat.le_refl _) hd
    have ho : Hid (OwnAt U.drew B M (.slice pa (s.op.length + 1) ca) (.slice pd s.dn.length cd) ⟨s.nx + 1, s.op ++ [⟨s.nx, ask, 1, 0⟩], s.dn⟩) := ho6.out.below hd
    replace hlt6 : ∀ b, (Value.slice pa (s.op.length + 1) ca).ownBlock = some b → M + 1 ≤ b ∧ b < U.drew.heap.size := hlt6
    clear ho6 hX6 hY6 hA6 hd
    generalize U.drew = D9 at hX hY hA ho hlt6 hHeld ⊢
    first
      | (refine skipH (i := 0) rfl (by kernel_rfl) (by kernel_rfl) (by kernel_rfl) (fun _ _ _ h => h) (by rfl) (by assumption) ?_; try simp only [Act.put, List.setIfInBounds_toArray, List.set_cons_zero, List.set_cons_succ, List.getElem_toArray, List.getElem_cons_succ, List.getElem_cons_zero])
      | (refine yieldH (i := 0) (v := ?_) rfl (by kernel_rfl) (by kernel_rfl) (by kernel_rfl) (fun _ _ _ h => h) (by rfl) ?_ (by assumption) ?_; rotate_left; (intro w hSw; (try dsimp only at hSw); go_simp; (try with_reducible rfl)); try simp only [Act.put, List.setIfInBounds_toArray, List.set_cons_zero, List.set_cons_succ, List.getElem_toArray, List.getElem_cons_succ, List.getElem_cons_zero])
      | fail
    first
      | (refine skipH (i := 2) rfl (by kernel_rfl) (by kernel_rfl) (by kernel_rfl) (fun _ _ _ h => h) (by rfl) (by assumption) ?_; try simp only [Act.put, List.setIfInBounds_toArray, List.set_cons_zero, List.set_cons_succ, List.getElem_toArray, List.getElem_cons_succ, List.getElem_cons_zero])
      | (refine yieldH (i := 2) (v := ?_) rfl (by kernel_rfl) (by kernel_rfl) (by kernel_rfl) (fun _ _ _ h => h) (by rfl) ?_ (by assumption) ?_; rotate_left; (intro w hSw; (try dsimp only at hSw); go_simp; (try with_reducible rfl)); try simp only [Act.put, List.setIfInBounds_toArray, List.set_cons_zero, List.set_cons_succ, List.getElem_toArray, List.getElem_cons_succ, List.getElem_cons_zero])
      | fail
    first
      | (refine skipH (i := 4) rfl (by kernel_rfl) (by kernel_rfl) (by kernel_rfl) (fun _ _ _ h => h) (by rfl) (by assumption) ?_; try simp only [Act.put, List.setIfInBounds_toArray, List.set_cons_zero, List.set_cons_succ, List.getElem_toArray, List.getElem_cons_succ, List.getElem_cons_zero])
      | (refine yieldH (i := 4) (v := ?_) rfl (by kernel_rfl) (by kernel_rfl) (by kernel_rfl) (fun _ _ _ h => h) (by rfl) ?_ (by assumption) ?_; rotate_left; (intro w hSw; (try dsimp only at hSw); go_simp; (try with_reducible rfl)); try simp only [Act.put, List.setIfInBounds_toArray, List.set_cons_zero, List.set_cons_succ, List.getElem_toArray, List.getElem_cons_succ, List.getElem_cons_zero])
      | fail
    refine yieldH (i := 5) (v := .int .i64 s.nx) rfl (by kernel_rfl) (by kernel_rfl) (by kernel_rfl) (fun _ _ _ h => h) (by rfl) ?_ (by assumption) ?_
    · intro w hSw; (try dsimp only at hSw); have y := cellW hSw 0 _ rfl w (Below.refl _ _); go_simp
    try simp only [Act.put, List.setIfInBounds_toArray, List.set_cons_zero, List.set_cons_succ, List.getElem_toArray, List.getElem_cons_succ, List.getElem_cons_zero]
    have hMD : M < D9.heap.size := (Array.getElem?_eq_some_iff.1 ho.out.box).1
    refine wpAnyH_ready (rs := [1, 3]) (by kernel_rfl) (by simp) ?_
    refine (AllReadyH.cons rfl (fun K hK => ?_) (AllReadyH.cons rfl (fun K hK => ?_) AllReadyH.nil))
    · go_simp
      go_at_call 30; refine (HHO.out _ _ _ _ _ ho.out).mono ?_; rintro e6 w6 ⟨rfl, hb6⟩
      (try dsimp only)
      refine hK.out _ _ ?_ (fun hHeld => ?_)
      · (try dsimp only); exact blk hX.out hb6
      clear hK K
      try simp only [Act.put, List.setIfInBounds_toArray, List.set_cons_zero, List.set_cons_succ, List.getElem_toArray, List.getElem_cons_succ, List.getElem_cons_zero]
      replace hX : Hid _ := blk hX.out hb6
      replace hY : Hid _ := blk hY.out hb6
      replace hA : Below w.heap.size w w6 := keepB hA (Nat.le_refl _) hb6
      replace ho : Hid (OwnAt w6 B M (.slice pa (s.op.length + 1) ca) (.slice pd s.dn.length cd) ⟨s.nx + 1, s.op ++ [⟨s.nx, ask, 1, 0⟩], s.dn⟩) := ho.out.below hb6
      have hNz : D9.heap.size ≤ w6.heap.size := hb6.size
      clear hb6
      refine wpAnyH_ready (rs := [3]) (by kernel_rfl) (by simp) ?_
      refine AllReadyH.cons rfl (fun K hK => ?_) AllReadyH.nil
      go_simp
      (try dsimp only)
      refine hK.out _ _ ?_ (fun hHeld => ?_)
      · (try dsimp only); exact blk hX.out (all_alloc w6 (.cells #[.string LB] 9))
      clear hK K
      try simp only [Act.put, List.setIfInBounds_toArray, List.set_cons_zero, List.set_cons_succ, List.getElem_toArray, List.getElem_cons_succ, List.getElem_cons_zero]
      have hb7 := all_alloc w6 (.cells #[.string LB] 9)
      have hS : Hid _ := heap_alloc_new w6 (.cells #[.string LB] 9)
      have hNl : w6.heap.size < (w6.alloc (.cells #[.string LB] 9)).heap.size := by simp
      replace hX : Hid _ := blk hX.out hb7
      replace hY : Hid _ := blk hY.out hb7
      replace hA : Below w.heap.size w (w6.alloc (.cells #[.string LB] 9)) := keepB hA (Nat.le_refl _) hb7
      replace ho : Hid (OwnAt (w6.alloc (.cells #[.string LB] 9)) B M (.slice pa (s.op.length + 1) ca) (.slice pd s.dn.length cd) ⟨s.nx + 1, s.op ++ [⟨s.nx, ask, 1, 0⟩], s.dn⟩) := ho.out.below hb7
      clear hb7
      generalize w6.alloc (.cells #[.string LB] 9) = w7 at hS hNl hX hY hA ho hHeld ⊢
      obtain ⟨N, hNe⟩ : ∃ N, w6.heap.size = N := ⟨_, rfl⟩
      have hNq : D9.heap.size ≤ N := by omega
      rw [hNe] at hS hNl ⊢
      clear hNe
      first
        | (refine skipH (i := 6) rfl (by kernel_rfl) (by kernel_rfl) (by kernel_rfl) (fun _ _ _ h => h) (by rfl) (by assumption) ?_; try simp only [Act.put, List.setIfInBounds_toArray, List.set_cons_zero, List.set_cons_succ, List.getElem_toArray, List.getElem_cons_succ, List.getElem_cons_zero])
        | (refine yieldH (i := 6) (v := ?_) rfl (by kernel_rfl) (by kernel_rfl) (by kernel_rfl) (fun _ _ _ h => h) (by rfl) ?_ (by assumption) ?_; rotate_left; (intro w hSw; (try dsimp only at hSw); go_simp; (try with_reducible rfl)); try simp only [Act.put, List.setIfInBounds_toArray, List.set_cons_zero, List.set_cons_succ, List.getElem_toArray, List.getElem_cons_succ, List.getElem_cons_zero])
        | fail
      have z0 := cellW hY.out 0 _ rfl w7 (Below.refl _ _)
      have f0 := frozenW hY.out 0 w7 (Below.refl _ _)
      have z1 := cellW hY.out 1 _ rfl w7 (Below.refl _ _)
      have f1 := frozenW hY.out 1 w7 (Below.refl _ _)
      have z2 := cellW hY.out 2 _ rfl w7 (Below.refl _ _)
      have f2 := frozenW hY.out 2 w7 (Below.refl _ _)
      have z3 := cellW hY.out 3 _ rfl w7 (Below.refl _ _)
      have f3 := frozenW hY.out 3 w7 (Below.refl _ _)
      have z4 := cellW hY.out 4 _ rfl w7 (Below.refl _ _)
      have f4 := frozenW hY.out 4 w7 (Below.refl _ _)
      have z5 := cellW hY.out 5 _ rfl w7 (Below.refl _ _)
      have f5 := frozenW hY.out 5 w7 (Below.refl _ _)
      have hXn : Hid (((((((w7.setCell ⟨w.heap.size + 1, 0, none⟩ (.int .i64 (s.nx + 1))).setCell ⟨w.heap.size + 1, 1, none⟩ (.slice pa (s.op.length + 1) ca)).setCell ⟨w.heap.size + 1, 2, none⟩ (.slice pd s.dn.length cd)).setCell ⟨w.heap.size + 1, 3, none⟩ (.slice (some ⟨N, 0, none⟩) 1 1)).setCell ⟨w.heap.size + 1, 4, none⟩ (.int .i64 s.nx)).setCell ⟨w.heap.size + 1, 5, none⟩ (.int .i64 0)).heap[w.heap.size]? = some (.cells #[.int .i64 s.nx, .slice p1 s.op.length c1, .slice p2 s.dn.length c2] 30 (0, 0))) := blk_far (a := ⟨w.heap.size + 1, 5, none⟩) (blk_far (a := ⟨w.heap.size + 1, 4, none⟩) (blk_far (a := ⟨w.heap.size + 1, 3, none⟩) (blk_far (a := ⟨w.heap.size + 1, 2, none⟩) (blk_far (a := ⟨w.heap.size + 1, 1, none⟩) (blk_far (a := ⟨w.heap.size + 1, 0, none⟩) (hX.out) (by simp only; omega) (.int .i64 (s.nx + 1))) (by simp only; omega) (.slice pa (s.op.length + 1) ca)) (by simp only; omega) (.slice pd s.dn.length cd)) (by simp only; omega) (.slice (some ⟨N, 0, none⟩) 1 1)) (by simp only; omega) (.int .i64 s.nx)) (by simp only; omega) (.int .i64 0)
      have hYn : Hid (((((((w7.setCell ⟨w.heap.size + 1, 0, none⟩ (.int .i64 (s.nx + 1))).setCell ⟨w.heap.size + 1, 1, none⟩ (.slice pa (s.op.length + 1) ca)).setCell ⟨w.heap.size + 1, 2, none⟩ (.slice pd s.dn.length cd)).setCell ⟨w.heap.size + 1, 3, none⟩ (.slice (some ⟨N, 0, none⟩) 1 1)).setCell ⟨w.heap.size + 1, 4, none⟩ (.int .i64 s.nx)).setCell ⟨w.heap.size + 1, 5, none⟩ (.int .i64 0)).heap[w.heap.size + 1]? = some (.cells #[.int .i64 (s.nx + 1), .slice pa (s.op.length + 1) ca, .slice pd s.dn.length cd, .slice (some ⟨N, 0, none⟩) 1 1, .int .i64 s.nx, .int .i64 0] 33 (0, 0))) := blk_set (blk_set (blk_set (blk_set (blk_set (blk_set (hY.out) 0 (.int .i64 (s.nx + 1))) 1 (.slice pa (s.op.length + 1) ca)) 2 (.slice pd s.dn.length cd)) 3 (.slice (some ⟨N, 0, none⟩) 1 1)) 4 (.int .i64 s.nx)) 5 (.int .i64 0)
      have hSn : Hid (((((((w7.setCell ⟨w.heap.size + 1, 0, none⟩ (.int .i64 (s.nx + 1))).setCell ⟨w.heap.size + 1, 1, none⟩ (.slice pa (s.op.length + 1) ca)).setCell ⟨w.heap.size + 1, 2, none⟩ (.slice pd s.dn.length cd)).setCell ⟨w.heap.size + 1, 3, none⟩ (.slice (some ⟨N, 0, none⟩) 1 1)).setCell ⟨w.heap.size + 1, 4, none⟩ (.int .i64 s.nx)).setCell ⟨w.heap.size + 1, 5, none⟩ (.int .i64 0)).heap[N]? = some (.cells #[.string LB] 9 (0, 0))) := blk_far (a := ⟨w.heap.size + 1, 5, none⟩) (blk_far (a := ⟨w.heap.size + 1, 4, none⟩) (blk_far (a := ⟨w.heap.size + 1, 3, none⟩) (blk_far (a := ⟨w.heap.size + 1, 2, none⟩) (blk_far (a := ⟨w.heap.size + 1, 1, none⟩) (blk_far (a := ⟨w.heap.size + 1, 0, none⟩) (hS.out) (by simp only; omega) (.int .i64 (s.nx + 1))) (by simp only; omega) (.slice pa (s.op.length + 1) ca)) (by simp only; omega) (.slice pd s.dn.length cd)) (by simp only; omega) (.slice (some ⟨N, 0, none⟩) 1 1)) (by simp only; omega) (.int .i64 s.nx)) (by simp only; omega) (.int .i64 0)
      have hAn : Below w.heap.size w ((((((w7.setCell ⟨w.heap.size + 1, 0, none⟩ (.int .i64 (s.nx + 1))).setCell ⟨w.heap.size + 1, 1, none⟩ (.slice pa (s.op.length + 1) ca)).setCell ⟨w.heap.size + 1, 2, none⟩ (.slice pd s.dn.length cd)).setCell ⟨w.heap.size + 1, 3, none⟩ (.slice (some ⟨N, 0, none⟩) 1 1)).setCell ⟨w.heap.size + 1, 4, none⟩ (.int .i64 s.nx)).setCell ⟨w.heap.size + 1, 5, none⟩ (.int .i64 0)) := ((((((hA).setCell (by simp only; omega) _).setCell (by simp only; omega) _).setCell (by simp only; omega) _).setCell (by simp only; omega) _).setCell (by simp only; omega) _).setCell (by simp only; omega) _
      have hOPn : OwnKW ((((((w7.setCell ⟨w.heap.size + 1, 0, none⟩ (.int .i64 (s.nx + 1))).setCell ⟨w.heap.size + 1, 1, none⟩ (.slice pa (s.op.length + 1) ca)).setCell ⟨w.heap.size + 1, 2, none⟩ (.slice pd s.dn.length cd)).setCell ⟨w.heap.size + 1, 3, none⟩ (.slice (some ⟨N, 0, none⟩) 1 1)).setCell ⟨w.heap.size + 1, 4, none⟩ (.int .i64 s.nx)).setCell ⟨w.heap.size + 1, 5, none⟩ (.int .i64 0)) (M + 1) (.slice pa (s.op.length + 1) ca) (s.op ++ [⟨s.nx, ask, 1, 0⟩]) := OwnK.far (OwnK.far (OwnK.far (OwnK.far (OwnK.far (OwnK.far (ho.out.op) (a := ⟨w.heap.size + 1, 0, none⟩) (fun b hb => by have := hlt6 b hb; simp only; omega) (.int .i64 (s.nx + 1))) (a := ⟨w.heap.size + 1, 1, none⟩) (fun b hb => by have := hlt6 b hb; simp only; omega) (.slice pa (s.op.length + 1) ca)) (a := ⟨w.heap.size + 1, 2, none⟩) (fun b hb => by have := hlt6 b hb; simp only; omega) (.slice pd s.dn.length cd)) (a := ⟨w.heap.size + 1, 3, none⟩) (fun b hb => by have := hlt6 b hb; simp only; omega) (.slice (some ⟨N, 0, none⟩) 1 1)) (a := ⟨w.heap.size + 1, 4, none⟩) (fun b hb => by have := hlt6 b hb; simp only; omega) (.int .i64 s.nx)) (a := ⟨w.heap.size + 1, 5, none⟩) (fun b hb => by have := hlt6 b hb; simp only; omega) (.int .i64 0)
      have hODn : OwnKD ((((((w7.setCell ⟨w.heap.size + 1, 0, none⟩ (.int .i64 (s.nx + 1))).setCell ⟨w.heap.size + 1, 1, none⟩ (.slice pa (s.op.length + 1) ca)).setCell ⟨w.heap.size + 1, 2, none⟩ (.slice pd s.dn.length cd)).setCell ⟨w.heap.size + 1, 3, none⟩ (.slice (some ⟨N, 0, none⟩) 1 1)).setCell ⟨w.heap.size + 1, 4, none⟩ (.int .i64 s.nx)).setCell ⟨w.heap.size + 1, 5, none⟩ (.int .i64 0)) B (.slice pd s.dn.length cd) s.dn := OwnK.far (OwnK.far (OwnK.far (OwnK.far (OwnK.far (OwnK.far (ho.out.dn) (a := ⟨w.heap.size + 1, 0, none⟩) (fun b hb => by have := hltD b hb; simp only; omega) (.int .i64 (s.nx + 1))) (a := ⟨w.heap.size + 1, 1, none⟩) (fun b hb => by have := hltD b hb; simp only; omega) (.slice pa (s.op.length + 1) ca)) (a := ⟨w.heap.size + 1, 2, none⟩) (fun b hb => by have := hltD b hb; simp only; omega) (.slice pd s.dn.length cd)) (a := ⟨w.heap.size + 1, 3, none⟩) (fun b hb => by have := hltD b hb; simp only; omega) (.slice (some ⟨N, 0, none⟩) 1 1)) (a := ⟨w.heap.size + 1, 4, none⟩) (fun b hb => by have := hltD b hb; simp only; omega) (.int .i64 s.nx)) (a := ⟨w.heap.size + 1, 5, none⟩) (fun b hb => by have := hltD b hb; simp only; omega) (.int .i64 0)
      have hzn : ((((((w7.setCell ⟨w.heap.size + 1, 0, none⟩ (.int .i64 (s.nx + 1))).setCell ⟨w.heap.size + 1, 1, none⟩ (.slice pa (s.op.length + 1) ca)).setCell ⟨w.heap.size + 1, 2, none⟩ (.slice pd s.dn.length cd)).setCell ⟨w.heap.size + 1, 3, none⟩ (.slice (some ⟨N, 0, none⟩) 1 1)).setCell ⟨w.heap.size + 1, 4, none⟩ (.int .i64 s.nx)).setCell ⟨w.heap.size + 1, 5, none⟩ (.int .i64 0)).heap.size = w7.heap.size := by simp [World.setCell]
      refine wpAnyH_ready (rs := [7]) (by kernel_rfl) (by simp) ?_
      refine AllReadyH.cons rfl (fun K hK => ?_) AllReadyH.nil
      go_simp
      (try dsimp only)
      refine hK.out _ _ ?_ (fun hHeld => ?_)
      · (try dsimp only); exact hXn.out
      clear hK K
      try simp only [Act.put, List.setIfInBounds_toArray, List.set_cons_zero, List.set_cons_succ, List.getElem_toArray, List.getElem_cons_succ, List.getElem_cons_zero]
      refine wpAnyH_done (by kernel_rfl) ?_ _
      clear z0 z1 z2 z3 z4 z5 f0 f1 f2 f3 f4 f5 hHeld
      generalize ((((((w7.setCell ⟨w.heap.size + 1, 0, none⟩ (.int .i64 (s.nx + 1))).setCell ⟨w.heap.size + 1, 1, none⟩ (.slice pa (s.op.length + 1) ca)).setCell ⟨w.heap.size + 1, 2, none⟩ (.slice pd s.dn.length cd)).setCell ⟨w.heap.size + 1, 3, none⟩ (.slice (some ⟨N, 0, none⟩) 1 1)).setCell ⟨w.heap.size + 1, 4, none⟩ (.int .i64 s.nx)).setCell ⟨w.heap.size + 1, 5, none⟩ (.int .i64 0)) = w9 at hXn hYn hSn hAn hOPn hODn hzn ⊢
      go_wp2
      have hSe : OwnSB w9 N (N + 1) (.slice (some ⟨N, 0, none⟩) 1 1) [LB] := ⟨⟨by simp, .inr ⟨N, 1, #[.string LB], rfl, Nat.le_refl _, hSn.out, Nat.le_refl _, by decide, by simp, by simp⟩⟩, fun k e => by cases e; exact Nat.lt_succ_self _⟩
      exact bodyPost_ret (v := .agg #[.int .i64 (s.nx + 1), .slice pa (s.op.length + 1) ca, .slice pd s.dn.length cd, .slice (some ⟨N, 0, none⟩) 1 1, .int .i64 s.nx, .int .i64 0]) (results_cell_row Try.results8 _ _ (w.heap.size + 1) _ _ _ _ rfl hYn.out Try.underlying33 rfl (by kernel_rfl)) rfl ⟨_, _, _, rfl, ⟨Nat.le_refl _, M + 1, N, B, M, N, N + 1, by omega, by omega, OwnK.c wtC_len hOPn (fun b hb => by have := hlt6 b hb; omega) (by omega), OwnK.c dnC_len hODn hdl (by omega), hSe, by omega, by omega, by omega⟩, hAn⟩
    · go_simp
      (try dsimp only)
      refine hK.out _ _ ?_ (fun hHeld => ?_)
      · (try dsimp only); exact blk hX.out (all_alloc D9 (.cells #[.string LB] 9))
      clear hK K
      try simp only [Act.put, List.setIfInBounds_toArray, List.set_cons_zero, List.set_cons_succ, List.getElem_toArray, List.getElem_cons_succ, List.getElem_cons_zero]
      have hb7 := all_alloc D9 (.cells #[.string LB] 9)
      have hS : Hid _ := heap_alloc_new D9 (.cells #[.string LB] 9)
      have hNl : D9.heap.size < (D9.alloc (.cells #[.string LB] 9)).heap.size := by simp
      replace hX : Hid _ := blk hX.out hb7
      replace hY : Hid _ := blk hY.out hb7
      replace hA : Below w.heap.size w (D9.alloc (.cells #[.string LB] 9)) := keepB hA (Nat.le_refl _) hb7
      replace ho : Hid (OwnAt (D9.alloc (.cells #[.string LB] 9)) B M (.slice pa (s.op.length + 1) ca) (.slice pd s.dn.length cd) ⟨s.nx + 1, s.op ++ [⟨s.nx, ask, 1, 0⟩], s.dn⟩) := ho.out.below hb7
      clear hb7
      generalize D9.alloc (.cells #[.string LB] 9) = w7 at hS hNl hX hY hA ho hHeld ⊢
      have hNz : D9.heap.size ≤ D9.heap.size := Nat.le_refl _
      obtain ⟨N, hNe⟩ : ∃ N, D9.heap.size = N := ⟨_, rfl⟩
      have hNq : D9.heap.size ≤ N := by omega
      rw [hNe] at hS hNl ⊢
      clear hNe
      refine wpAnyH_ready (rs := [1]) (by kernel_rfl) (by simp) ?_
      refine AllReadyH.cons rfl (fun K hK => ?_) AllReadyH.nil
      go_simp
      go_at_call 30; refine (HHO.out _ _ _ _ _ ho.out).mono ?_; rintro e6 w6 ⟨rfl, hb6⟩
      (try dsimp only)
      refine hK.out _ _ ?_ (fun hHeld => ?_)
      · (try dsimp only); exact blk hX.out hb6
      clear hK K
      try simp only [Act.put, List.setIfInBounds_toArray, List.set_cons_zero, List.set_cons_succ, List.getElem_toArray, List.getElem_cons_succ, List.getElem_cons_zero]
      replace hX : Hid _ := blk hX.out hb6
      replace hY : Hid _ := blk hY.out hb6
      replace hA : Below w.heap.size w w6 := keepB hA (Nat.le_refl _) hb6
      replace ho : Hid (OwnAt w6 B M (.slice pa (s.op.length + 1) ca) (.slice pd s.dn.length cd) ⟨s.nx + 1, s.op ++ [⟨s.nx, ask, 1, 0⟩], s.dn⟩) := ho.out.below hb6
      replace hS : Hid _ := blk hS.out hb6
      replace hNl : N < w6.heap.size := by have := hb6.size; omega
      clear hb6
      first
        | (refine skipH (i := 6) rfl (by kernel_rfl) (by kernel_rfl) (by kernel_rfl) (fun _ _ _ h => h) (by rfl) (by assumption) ?_; try simp only [Act.put, List.setIfInBounds_toArray, List.set_cons_zero, List.set_cons_succ, List.getElem_toArray, List.getElem_cons_succ, List.getElem_cons_zero])
        | (refine yieldH (i := 6) (v := ?_) rfl (by kernel_rfl) (by kernel_rfl) (by kernel_rfl) (fun _ _ _ h => h) (by rfl) ?_ (by assumption) ?_; rotate_left; (intro w hSw; (try dsimp only at hSw); go_simp; (try with_reducible rfl)); try simp only [Act.put, List.setIfInBounds_toArray, List.set_cons_zero, List.set_cons_succ, List.getElem_toArray, List.getElem_cons_succ, List.getElem_cons_zero])
        | fail
      have z0 := cellW hY.out 0 _ rfl w6 (Below.refl _ _)
      have f0 := frozenW hY.out 0 w6 (Below.refl _ _)
      have z1 := cellW hY.out 1 _ rfl w6 (Below.refl _ _)
      have f1 := frozenW hY.out 1 w6 (Below.refl _ _)
      have z2 := cellW hY.out 2 _ rfl w6 (Below.refl _ _)
      have f2 := frozenW hY.out 2 w6 (Below.refl _ _)
      have z3 := cellW hY.out 3 _ rfl w6 (Below.refl _ _)
      have f3 := frozenW hY.out 3 w6 (Below.refl _ _)
      have z4 := cellW hY.out 4 _ rfl w6 (Below.refl _ _)
      have f4 := frozenW hY.out 4 w6 (Below.refl _ _)
      have z5 := cellW hY.out 5 _ rfl w6 (Below.refl _ _)
      have f5 := frozenW hY.out 5 w6 (Below.refl _ _)
      have hXn : Hid (((((((w6.setCell ⟨w.heap.size + 1, 0, none⟩ (.int .i64 (s.nx + 1))).setCell ⟨w.heap.size + 1, 1, none⟩ (.slice pa (s.op.length + 1) ca)).setCell ⟨w.heap.size + 1, 2, none⟩ (.slice pd s.dn.length cd)).setCell ⟨w.heap.size + 1, 3, none⟩ (.slice (some ⟨N, 0, none⟩) 1 1)).setCell ⟨w.heap.size + 1, 4, none⟩ (.int .i64 s.nx)).setCell ⟨w.heap.size + 1, 5, none⟩ (.int .i64 0)).heap[w.heap.size]? = some (.cells #[.int .i64 s.nx, .slice p1 s.op.length c1, .slice p2 s.dn.length c2] 30 (0, 0))) := blk_far (a := ⟨w.heap.size + 1, 5, none⟩) (blk_far (a := ⟨w.heap.size + 1, 4, none⟩) (blk_far (a := ⟨w.heap.size + 1, 3, none⟩) (blk_far (a := ⟨w.heap.size + 1, 2, none⟩) (blk_far (a := ⟨w.heap.size + 1, 1, none⟩) (blk_far (a := ⟨w.heap.size + 1, 0, none⟩) (hX.out) (by simp only; omega) (.int .i64 (s.nx + 1))) (by simp only; omega) (.slice pa (s.op.length + 1) ca)) (by simp only; omega) (.slice pd s.dn.length cd)) (by simp only; omega) (.slice (some ⟨N, 0, none⟩) 1 1)) (by simp only; omega) (.int .i64 s.nx)) (by simp only; omega) (.int .i64 0)
      have hYn : Hid (((((((w6.setCell ⟨w.heap.size + 1, 0, none⟩ (.int .i64 (s.nx + 1))).setCell ⟨w.heap.size + 1, 1, none⟩ (.slice pa (s.op.length + 1) ca)).setCell ⟨w.heap.size + 1, 2, none⟩ (.slice pd s.dn.length cd)).setCell ⟨w.heap.size + 1, 3, none⟩ (.slice (some ⟨N, 0, none⟩) 1 1)).setCell ⟨w.heap.size + 1, 4, none⟩ (.int .i64 s.nx)).setCell ⟨w.heap.size + 1, 5, none⟩ (.int .i64 0)).heap[w.heap.size + 1]? = some (.cells #[.int .i64 (s.nx + 1), .slice pa (s.op.length + 1) ca, .slice pd s.dn.length cd, .slice (some ⟨N, 0, none⟩) 1 1, .int .i64 s.nx, .int .i64 0] 33 (0, 0))) := blk_set (blk_set (blk_set (blk_set (blk_set (blk_set (hY.out) 0 (.int .i64 (s.nx + 1))) 1 (.slice pa (s.op.length + 1) ca)) 2 (.slice pd s.dn.length cd)) 3 (.slice (some ⟨N, 0, none⟩) 1 1)) 4 (.int .i64 s.nx)) 5 (.int .i64 0)
      have hSn : Hid (((((((w6.setCell ⟨w.heap.size + 1, 0, none⟩ (.int .i64 (s.nx + 1))).setCell ⟨w.heap.size + 1, 1, none⟩ (.slice pa (s.op.length + 1) ca)).setCell ⟨w.heap.size + 1, 2, none⟩ (.slice pd s.dn.length cd)).setCell ⟨w.heap.size + 1, 3, none⟩ (.slice (some ⟨N, 0, none⟩) 1 1)).setCell ⟨w.heap.size + 1, 4, none⟩ (.int .i64 s.nx)).setCell ⟨w.heap.size + 1, 5, none⟩ (.int .i64 0)).heap[N]? = some (.cells #[.string LB] 9 (0, 0))) := blk_far (a := ⟨w.heap.size + 1, 5, none⟩) (blk_far (a := ⟨w.heap.size + 1, 4, none⟩) (blk_far (a := ⟨w.heap.size + 1, 3, none⟩) (blk_far (a := ⟨w.heap.size + 1, 2, none⟩) (blk_far (a := ⟨w.heap.size + 1, 1, none⟩) (blk_far (a := ⟨w.heap.size + 1, 0, none⟩) (hS.out) (by simp only; omega) (.int .i64 (s.nx + 1))) (by simp only; omega) (.slice pa (s.op.length + 1) ca)) (by simp only; omega) (.slice pd s.dn.length cd)) (by simp only; omega) (.slice (some ⟨N, 0, none⟩) 1 1)) (by simp only; omega) (.int .i64 s.nx)) (by simp only; omega) (.int .i64 0)
      have hAn : Below w.heap.size w ((((((w6.setCell ⟨w.heap.size + 1, 0, none⟩ (.int .i64 (s.nx + 1))).setCell ⟨w.heap.size + 1, 1, none⟩ (.slice pa (s.op.length + 1) ca)).setCell ⟨w.heap.size + 1, 2, none⟩ (.slice pd s.dn.length cd)).setCell ⟨w.heap.size + 1, 3, none⟩ (.slice (some ⟨N, 0, none⟩) 1 1)).setCell ⟨w.heap.size + 1, 4, none⟩ (.int .i64 s.nx)).setCell ⟨w.heap.size + 1, 5, none⟩ (.int .i64 0)) := ((((((hA).setCell (by simp only; omega) _).setCell (by simp only; omega) _).setCell (by simp only; omega) _).setCell (by simp only; omega) _).setCell (by simp only; omega) _).setCell (by simp only; omega) _
      have hOPn : OwnKW ((((((w6.setCell ⟨w.heap.size + 1, 0, none⟩ (.int .i64 (s.nx + 1))).setCell ⟨w.heap.size + 1, 1, none⟩ (.slice pa (s.op.length + 1) ca)).setCell ⟨w.heap.size + 1, 2, none⟩ (.slice pd s.dn.length cd)).setCell ⟨w.heap.size + 1, 3, none⟩ (.slice (some ⟨N, 0, none⟩) 1 1)).setCell ⟨w.heap.size + 1, 4, none⟩ (.int .i64 s.nx)).setCell ⟨w.heap.size + 1, 5, none⟩ (.int .i64 0)) (M + 1) (.slice pa (s.op.length + 1) ca) (s.op ++ [⟨s.nx, ask, 1, 0⟩]) := OwnK.far (OwnK.far (OwnK.far (OwnK.far (OwnK.far (OwnK.far (ho.out.op) (a := ⟨w.heap.size + 1, 0, none⟩) (fun b hb => by have := hlt6 b hb; simp only; omega) (.int .i64 (s.nx + 1))) (a := ⟨w.heap.size + 1, 1, none⟩) (fun b hb => by have := hlt6 b hb; simp only; omega) (.slice pa (s.op.length + 1) ca)) (a := ⟨w.heap.size + 1, 2, none⟩) (fun b hb => by have := hlt6 b hb; simp only; omega) (.slice pd s.dn.length cd)) (a := ⟨w.heap.size + 1, 3, none⟩) (fun b hb => by have := hlt6 b hb; simp only; omega) (.slice (some ⟨N, 0, none⟩) 1 1)) (a := ⟨w.heap.size + 1, 4, none⟩) (fun b hb => by have := hlt6 b hb; simp only; omega) (.int .i64 s.nx)) (a := ⟨w.heap.size + 1, 5, none⟩) (fun b hb => by have := hlt6 b hb; simp only; omega) (.int .i64 0)
      have hODn : OwnKD ((((((w6.setCell ⟨w.heap.size + 1, 0, none⟩ (.int .i64 (s.nx + 1))).setCell ⟨w.heap.size + 1, 1, none⟩ (.slice pa (s.op.length + 1) ca)).setCell ⟨w.heap.size + 1, 2, none⟩ (.slice pd s.dn.length cd)).setCell ⟨w.heap.size + 1, 3, none⟩ (.slice (some ⟨N, 0, none⟩) 1 1)).setCell ⟨w.heap.size + 1, 4, none⟩ (.int .i64 s.nx)).setCell ⟨w.heap.size + 1, 5, none⟩ (.int .i64 0)) B (.slice pd s.dn.length cd) s.dn := OwnK.far (OwnK.far (OwnK.far (OwnK.far (OwnK.far (OwnK.far (ho.out.dn) (a := ⟨w.heap.size + 1, 0, none⟩) (fun b hb => by have := hltD b hb; simp only; omega) (.int .i64 (s.nx + 1))) (a := ⟨w.heap.size + 1, 1, none⟩) (fun b hb => by have := hltD b hb; simp only; omega) (.slice pa (s.op.length + 1) ca)) (a := ⟨w.heap.size + 1, 2, none⟩) (fun b hb => by have := hltD b hb; simp only; omega) (.slice pd s.dn.length cd)) (a := ⟨w.heap.size + 1, 3, none⟩) (fun b hb => by have := hltD b hb; simp only; omega) (.slice (some ⟨N, 0, none⟩) 1 1)) (a := ⟨w.heap.size + 1, 4, none⟩) (fun b hb => by have := hltD b hb; simp only; omega) (.int .i64 s.nx)) (a := ⟨w.heap.size + 1, 5, none⟩) (fun b hb => by have := hltD b hb; simp only; omega) (.int .i64 0)
      have hzn : ((((((w6.setCell ⟨w.heap.size + 1, 0, none⟩ (.int .i64 (s.nx + 1))).setCell ⟨w.heap.size + 1, 1, none⟩ (.slice pa (s.op.length + 1) ca)).setCell ⟨w.heap.size + 1, 2, none⟩ (.slice pd s.dn.length cd)).setCell ⟨w.heap.size + 1, 3, none⟩ (.slice (some ⟨N, 0, none⟩) 1 1)).setCell ⟨w.heap.size + 1, 4, none⟩ (.int .i64 s.nx)).setCell ⟨w.heap.size + 1, 5, none⟩ (.int .i64 0)).heap.size = w6.heap.size := by simp [World.setCell]
      refine wpAnyH_ready (rs := [7]) (by kernel_rfl) (by simp) ?_
      refine AllReadyH.cons rfl (fun K hK => ?_) AllReadyH.nil
      go_simp
      (try dsimp only)
      refine hK.out _ _ ?_ (fun hHeld => ?_)
      · (try dsimp only); exact hXn.out
      clear hK K
      try simp only [Act.put, List.setIfInBounds_toArray, List.set_cons_zero, List.set_cons_succ, List.getElem_toArray, List.getElem_cons_succ, List.getElem_cons_zero]
      refine wpAnyH_done (by kernel_rfl) ?_ _
      clear z0 z1 z2 z3 z4 z5 f0 f1 f2 f3 f4 f5 hHeld
      generalize ((((((w6.setCell ⟨w.heap.size + 1, 0, none⟩ (.int .i64 (s.nx + 1))).setCell ⟨w.heap.size + 1, 1, none⟩ (.slice pa (s.op.length + 1) ca)).setCell ⟨w.heap.size + 1, 2, none⟩ (.slice pd s.dn.length cd)).setCell ⟨w.heap.size + 1, 3, none⟩ (.slice (some ⟨N, 0, none⟩) 1 1)).setCell ⟨w.heap.size + 1, 4, none⟩ (.int .i64 s.nx)).setCell ⟨w.heap.size + 1, 5, none⟩ (.int .i64 0)) = w9 at hXn hYn hSn hAn hOPn hODn hzn ⊢
      go_wp2
      have hSe : OwnSB w9 N (N + 1) (.slice (some ⟨N, 0, none⟩) 1 1) [LB] := ⟨⟨by simp, .inr ⟨N, 1, #[.string LB], rfl, Nat.le_refl _, hSn.out, Nat.le_refl _, by decide, by simp, by simp⟩⟩, fun k e => by cases e; exact Nat.lt_succ_self _⟩
      exact bodyPost_ret (v := .agg #[.int .i64 (s.nx + 1), .slice pa (s.op.length + 1) ca, .slice pd s.dn.length cd, .slice (some ⟨N, 0, none⟩) 1 1, .int .i64 s.nx, .int .i64 0]) (results_cell_row Try.results8 _ _ (w.heap.size + 1) _ _ _ _ rfl hYn.out Try.underlying33 rfl (by kernel_rfl)) rfl ⟨_, _, _, rfl, ⟨Nat.le_refl _, M + 1, N, B, M, N, N + 1, by omega, by omega, OwnK.c wtC_len hOPn (fun b hb => by have := hlt6 b hb; omega) (by omega), OwnK.c dnC_len hODn hdl (by omega), hSe, by omega, by omega, by omega⟩, hAn⟩
end Go.Proofs.Ytghchcipobcpjaa
