/- PATHS that came in: opened; counted, copied, held against another, marked, still marked, as tables are. -/
import Derived.Test.YtimocipgikefoabTabL
namespace Go.Proofs.Ytimocipgikefoab
open Go.RowKit Go.ChangeShapes Go.WideShapes Go.ChangeAt
set_option linter.unusedVariables false
set_option linter.unusedSimpArgs false

theorem cellsIp : Try.prog.cellsOf 2 = 1 := by kernel_rfl
theorem cellsRp : Try.prog.cellsOf 22 = 1 := by kernel_rfl
theorem cellsPa : Try.prog.cellsOf 24 = 2 := by kernel_rfl
set_option maxRecDepth 100000 in
theorem open_rowP {H : Type} {enc : TypeId × Value → H} {W : World} {base : Nat} {held : Bool} {c : Value} {y : _} {n : Nat} (h : DataW.trod enc Try.prog W base (fun _ => true) held n 22 [c] = some y) :
    ∃ (zs : List Int) (p : Option Addr) (k : Nat), c = .slice p zs.length k ∧ InI W p zs := by
  obtain ⟨a, len, cap, ys, e7, hrow⟩ : ∃ a len cap zs, c = .slice a len cap ∧ IsRowN .i64 W a len cap zs := by
    rcases open_ints Try.underlying22 Try.underlying2 cellsIp h with ⟨hcs, _⟩ | ⟨x, l, c, zs, hcs, _, hl, hm, hz, _, hcell, hwz⟩
    · simp at hcs
      exact ⟨none, 0, 0, [], hcs, .inl ⟨rfl, rfl, rfl, rfl⟩⟩
    · simp at hcs
      exact ⟨some x, l, c, zs, hcs, .inr ⟨_, rfl, hl, hm, by simpa using hz, hcell, hwz⟩⟩
  subst e7
  obtain ⟨ws, rfl, hini, _⟩ := hrow.ini
  exact ⟨ws, a, cap, rfl, hini⟩
set_option maxRecDepth 100000 in
theorem open_path {H : Type} {enc : TypeId × Value → H} {W : World} {base b0 : Nat} {held : Bool} {r : Reach} {v : Value} {d : DataW H} {pl : List MemPlace}
    (hv : Value.okWide Try.prog W r b0 24 v) (h : DataW.Trod enc Try.prog W base (fun _ => true) held 24 v d pl) :
    ∃ (t : Tb) (p1 p2 : Option Addr) (c1 c2 : Nat), v = .agg #[.slice p1 t.cs.length c1, .slice p2 t.rs.length c2] ∧ InI W p1 t.cs ∧ InI W p2 t.rs := by
  obtain ⟨cs, rfl, hsz⟩ := okWide_struct Try.underlying24 hv
  obtain ⟨c0, c1, rfl⟩ := array2t (hsz.trans cellsPa)
  obtain ⟨fuel, hf⟩ := h
  obtain ⟨xs, n, _, _, hl, hlen, hfl⟩ := DataW.trod_struct Try.underlying24 hf
  obtain ⟨y0, y1, rfl⟩ := list2t hlen
  have h0 : DataW.trod enc Try.prog W base (fun _ => true) held n 22 [c0] = some y0 := by have := hfl 0 _ rfl; simpa [Value.cells, cellsRp] using this
  have h1 : DataW.trod enc Try.prog W base (fun _ => true) held n 22 [c1] = some y1 := by have := hfl 1 _ rfl; simpa [Value.cells, cellsRp] using this
  obtain ⟨z0, p0, k0, rfl, i0⟩ := open_rowP h0
  obtain ⟨z1, p1, k1, rfl, i1⟩ := open_rowP h1
  exact ⟨⟨z0, z1⟩, p0, p1, k0, k1, rfl, i0, i1⟩
set_option maxRecDepth 100000 in
theorem szPath_any (t : Tb) (p1 p2 : Option Addr) (c1 c2 : Nat) (w : World) (hn1 : t.cs.length ≤ 9223372036854775807) (hn2 : t.rs.length ≤ 9223372036854775807) :
    Calls Try.prog 5 #[.agg #[.slice p1 t.cs.length c1, .slice p2 t.rs.length c2], .int .i64 1048576] w fun x w' => x = .returned (.int .i64 (leftT t)) ∧ Below w.heap.size w w' := by
  unfold leftT
  generalize t.cs.length = n1 at *
  generalize t.rs.length = n2 at *
  have H1 : Hid (∀ W : World, Calls Try.prog 15 #[.slice p1 n1 c1, .int .i64 1048576] W fun x w' => x = .returned (.int .i64 (if (n1 : Int) ≤ 1048576 then 1048576 - (n1 : Int) else -1)) ∧ W = w') := fun W => szInt64S_from 1048576 (by omega) p1 n1 c1 W hn1
  by_cases h : n1 ≤ 1048576
  · have H2 : Hid (∀ W : World, Calls Try.prog 15 #[.slice p2 n2 c2, .int .i64 (1048576 - (n1 : Int))] W fun x w' => x = .returned (.int .i64 (if (n2 : Int) ≤ 1048576 - (n1 : Int) then 1048576 - (n1 : Int) - (n2 : Int) else -1)) ∧ W = w') := fun W => szInt64S_from (1048576 - (n1 : Int)) (by omega) p2 n2 c2 W hn2
    rw [if_pos (show (n1 : Int) ≤ 1048576 by omega)] at H1
    have h1 : ¬ (1048576 : Int) - (n1 : Int) < 0 := by omega
    by_cases h2 : n1 + n2 ≤ 1048576
    · rw [if_pos (show (n2 : Int) ≤ 1048576 - (n1 : Int) by omega)] at H2
      rw [if_pos h2]
      have h3 : ¬ (1048576 : Int) - (n1 : Int) - (n2 : Int) < 0 := by omega
      go_enter Try.func5, Try.ntmps5
      go_wp2_with (first
        | (have _ := hD; go_at_call 15; refine (H2.out _).mono ?_; rintro e w1 ⟨rfl, rfl⟩)
        | (go_at_call 15; refine (H1.out _).mono ?_; rintro e w1 ⟨rfl, rfl⟩; have hD : Hid True := trivial))
      go_ret
      exact ⟨rfl, all_alloc _ _⟩
    · rw [if_neg (show ¬ (n2 : Int) ≤ 1048576 - (n1 : Int) by omega)] at H2
      rw [if_neg h2]
      go_enter Try.func5, Try.ntmps5
      go_wp2_with (first
        | (have _ := hD; go_at_call 15; refine (H2.out _).mono ?_; rintro e w1 ⟨rfl, rfl⟩)
        | (go_at_call 15; refine (H1.out _).mono ?_; rintro e w1 ⟨rfl, rfl⟩; have hD : Hid True := trivial))
      go_ret
      exact ⟨rfl, all_alloc _ _⟩
  · rw [if_neg (show ¬ (n1 : Int) ≤ 1048576 by omega)] at H1
    rw [if_neg (by omega)]
    go_enter Try.func5, Try.ntmps5
    go_wp2_with (go_at_call 15; refine (H1.out _).mono ?_; rintro e w1 ⟨rfl, rfl⟩)
    go_ret
    exact ⟨rfl, all_alloc _ _⟩
set_option maxRecDepth 100000 in
set_option maxHeartbeats 800000 in
theorem eqPath_same (t : Tb) (a1 a2 b1 b2 : Value) (w : World) (hl1 : t.cs.length ≤ 10000000) (hl2 : t.rs.length ≤ 10000000) (h1 : RowI w a1 t.cs) (h2 : RowI w a2 t.rs) (h3 : RowI w b1 t.cs) (h4 : RowI w b2 t.rs) :
    Calls Try.prog 9 #[.agg #[a1, a2], .agg #[b1, b2]] w fun x w' => x = .returned (.bool true) ∧ Below w.heap.size w w' := by
  have H1 : Hid (∀ W, Below w.heap.size w W → Calls Try.prog 22 #[a1, b1] W fun e w' => e = .returned (.bool true) ∧ Below W.heap.size W w') := fun W hW => eqInt64S_same a1 b1 t.cs W hl1 (h1.below hW) (h3.below hW)
  have H2 : Hid (∀ W, Below w.heap.size w W → Calls Try.prog 22 #[a2, b2] W fun e w' => e = .returned (.bool true) ∧ Below W.heap.size W w') := fun W hW => eqInt64S_same a2 b2 t.rs W hl2 (h2.below hW) (h4.below hW)
  obtain ⟨p1, c1, rfl, _⟩ := h1
  obtain ⟨p2, c2, rfl, _⟩ := h2
  obtain ⟨p3, c3, rfl, _⟩ := h3
  obtain ⟨p4, c4, rfl, _⟩ := h4
  have hA0 : Hid (Below w.heap.size w _) := keepB (all_alloc w (.cells #[.slice p1 t.cs.length c1, .slice p2 t.rs.length c2] 27)) (Nat.le_refl _) (all_alloc _ (.cells #[.slice p3 t.cs.length c3, .slice p4 t.rs.length c4] 27))
  have hX : Hid _ := blk (heap_alloc_new w (.cells #[.slice p1 t.cs.length c1, .slice p2 t.rs.length c2] 27)) (all_alloc _ (.cells #[.slice p3 t.cs.length c3, .slice p4 t.rs.length c4] 27))
  have hY : Hid _ := heap_alloc_new (w.alloc (.cells #[.slice p1 t.cs.length c1, .slice p2 t.rs.length c2] 27)) (.cells #[.slice p3 t.cs.length c3, .slice p4 t.rs.length c4] 27)
  rw [show (w.alloc (.cells #[.slice p1 t.cs.length c1, .slice p2 t.rs.length c2] 27)).heap.size = w.heap.size + 1 by simp] at hY
  go_enter Try.func9, Try.ntmps9
  go_wp2_with (first
    | (have _ := hD; go_at_call 22; refine (H2.out _ (keepB hA0.out (Nat.le_refl _) hb1)).mono ?_; rintro e w2 ⟨rfl, hb2⟩)
    | (go_at_call 22; refine (H1.out _ hA0.out).mono ?_; rintro e w1 ⟨rfl, hb1⟩; have hD : Hid True := trivial; have x1 := cellW hX.out 1 _ rfl w1 hb1; have y1 := cellW hY.out 1 _ rfl w1 hb1))
  go_ret
  exact ⟨rfl, keepB (keepB hA0.out (Nat.le_refl _) hb1) (Nat.le_refl _) hb2⟩
set_option maxRecDepth 100000 in
set_option maxHeartbeats 1600000 in
theorem toPath_any (t : Tb) (p1 p2 : Option Addr) (c1 c2 : Nat) (w : World) (hl1 : t.cs.length ≤ 1048576) (hl2 : t.rs.length ≤ 1048576) (hin1 : InI w p1 t.cs) (hin2 : InI w p2 t.rs) :
    Calls Try.prog 7 #[.agg #[.slice p1 t.cs.length c1, .slice p2 t.rs.length c2]] w fun x w' => ∃ v1 v2, x = .returned (.agg #[v1, v2]) ∧ OwnT w' w.heap.size v1 v2 t ∧ Below w.heap.size w w' := by
  have H1 : Hid (∀ W, Below w.heap.size w W → Calls Try.prog 18 #[.slice p1 t.cs.length c1] W fun e w' => ∃ v, e = .returned v ∧ OwnI w' W.heap.size v t.cs ∧ Below W.heap.size W w') := fun W hW => toInt64S_any p1 c1 t.cs W hl1 (hin1.below hW)
  have H2 : Hid (∀ W, Below w.heap.size w W → Calls Try.prog 18 #[.slice p2 t.rs.length c2] W fun e w' => ∃ v, e = .returned v ∧ OwnI w' W.heap.size v t.rs ∧ Below W.heap.size W w') := fun W hW => toInt64S_any p2 c2 t.rs W hl2 (hin2.below hW)
  clear hin1 hin2
  go_enter Try.func7, Try.ntmps7
  go_upto_region 2 with fail
  have hX : Hid _ := blk (blk (heap_alloc_new w (.cells #[.slice p1 t.cs.length c1, .slice p2 t.rs.length c2] 24)) (all_alloc _ (.cells #[.slice none 0 0, .slice none 0 0] 27))) (all_alloc _ (.cells #[.slice none 0 0, .slice none 0 0] 27))
  have hY : Hid _ := blk (heap_alloc_new (w.alloc (.cells #[.slice p1 t.cs.length c1, .slice p2 t.rs.length c2] 24)) (.cells #[.slice none 0 0, .slice none 0 0] 27)) (all_alloc _ (.cells #[.slice none 0 0, .slice none 0 0] 27))
  have hZ : Hid _ := heap_alloc_new ((w.alloc (.cells #[.slice p1 t.cs.length c1, .slice p2 t.rs.length c2] 24)).alloc (.cells #[.slice none 0 0, .slice none 0 0] 27)) (.cells #[.slice none 0 0, .slice none 0 0] 27)
  have hA0 : Below w.heap.size w (((w.alloc (.cells #[.slice p1 t.cs.length c1, .slice p2 t.rs.length c2] 24)).alloc (.cells #[.slice none 0 0, .slice none 0 0] 27)).alloc (.cells #[.slice none 0 0, .slice none 0 0] 27)) := keepB (keepB (all_alloc w _) (Nat.le_refl _) (all_alloc _ _)) (Nat.le_refl _) (all_alloc _ _)
  have e1 : (w.alloc (.cells #[.slice p1 t.cs.length c1, .slice p2 t.rs.length c2] 24)).heap.size = w.heap.size + 1 := by simp
  have e2 : ((w.alloc (.cells #[.slice p1 t.cs.length c1, .slice p2 t.rs.length c2] 24)).alloc (.cells #[.slice none 0 0, .slice none 0 0] 27)).heap.size = w.heap.size + 1 + 1 := by simp
  have e3 : (((w.alloc (.cells #[.slice p1 t.cs.length c1, .slice p2 t.rs.length c2] 24)).alloc (.cells #[.slice none 0 0, .slice none 0 0] 27)).alloc (.cells #[.slice none 0 0, .slice none 0 0] 27)).heap.size = w.heap.size + 1 + 1 + 1 := by simp
  rw [e1] at hY
  rw [e2] at hZ
  generalize ((w.alloc (.cells #[.slice p1 t.cs.length c1, .slice p2 t.rs.length c2] 24)).alloc (.cells #[.slice none 0 0, .slice none 0 0] 27)).alloc (.cells #[.slice none 0 0, .slice none 0 0] 27) = A at hX hY hZ hA0 e3 ⊢
  clear e1 e2
  have x0 := cellW hX.out 0 _ rfl A (Below.refl _ _)
  go_upto_region 3 with (go_at_call 18; refine (H1.out _ hA0).mono ?_; rintro e w2 ⟨v, rfl, own1, hb2⟩; obtain ⟨pv, cv, rfl⟩ := own1.shape; have hZ2 : Hid _ := blk hZ.out hb2; have z0 := cellW hZ2.out 0 _ rfl w2 (Below.refl _ _); have f0 := frozenW hZ2.out 0 w2 (Below.refl _ _))
  have hlt1 := OwnI.lt own1
  have hs2 : A.heap.size ≤ w2.heap.size := hb2.size
  have hX3 : Hid _ := blk_far (a := ⟨w.heap.size + 1 + 1, 0, none⟩) (blk hX.out hb2) (by simp only; omega) (.slice pv t.cs.length cv)
  have hY3 : Hid _ := blk_far (a := ⟨w.heap.size + 1 + 1, 0, none⟩) (blk hY.out hb2) (by simp only; omega) (.slice pv t.cs.length cv)
  have hZ3 : Hid (_ = some (Obj.cells #[.slice pv t.cs.length cv, .slice none 0 0] _ _)) := blk_set hZ2.out 0 (.slice pv t.cs.length cv)
  have own3 : Hid (OwnI _ _ _ t.cs) := OwnI.farT own1 (a := ⟨w.heap.size + 1 + 1, 0, none⟩) (by simp only; omega) (.slice pv t.cs.length cv)
  have hB3 : Below w.heap.size w (w2.setCell ⟨w.heap.size + 1 + 1, 0, none⟩ (.slice pv t.cs.length cv)) := (keepB hA0 (Nat.le_refl _) hb2).setCell (by simp only; omega) _
  have e4 : (w2.setCell ⟨w.heap.size + 1 + 1, 0, none⟩ (.slice pv t.cs.length cv)).heap.size = w2.heap.size := by simp [World.setCell]
  generalize w2.setCell ⟨w.heap.size + 1 + 1, 0, none⟩ (.slice pv t.cs.length cv) = w3 at hX3 hY3 hZ3 own3 hB3 e4 ⊢
  rw [← e4] at hlt1
  have hs3 : A.heap.size ≤ w3.heap.size := by omega
  clear own1 hZ2 z0 f0 x0 hX hY hZ hA0 hb2 e4 hs2
  have x1 := cellW hX3.out 1 _ rfl w3 (Below.refl _ _)
  go_wp2_with (go_at_call 18; refine (H2.out _ hB3).mono ?_; rintro e w4 ⟨v', rfl, own2, hb4⟩; obtain ⟨pu, cu, rfl⟩ := own2.shape; have hY4 : Hid _ := blk hY3.out hb4; have hZ4 : Hid _ := blk hZ3.out hb4; have z0 := cellW hZ4.out 0 _ rfl w4 (Below.refl _ _); have z1 := cellW hZ4.out 1 _ rfl w4 (Below.refl _ _); have f1 := frozenW hZ4.out 1 w4 (Below.refl _ _); have y0 := cellW hY4.out 0 _ rfl w4 (Below.refl _ _); have y1 := cellW hY4.out 1 _ rfl w4 (Below.refl _ _); have g0 := frozenW hY4.out 0 w4 (Below.refl _ _); have g1 := frozenW hY4.out 1 w4 (Below.refl _ _))
  have hB4 : Below w.heap.size w w4 := keepB hB3 (Nat.le_refl _) hb4
  have hT : OwnT w4 A.heap.size (.slice pv t.cs.length cv) (.slice pu t.rs.length cu) t := OwnT.mk2 (own3.out.below hb4) own2 hs3 (fun k hk => (hlt1 k hk).2)
  exact bodyPost_ret (v := .agg #[.slice pv t.cs.length cv, .slice pu t.rs.length cu]) (by simp [results, Try.results7, go_sem, y0, y1]) rfl ⟨_, _, rfl, OwnT.leT (OwnT.farT (OwnT.farT (OwnT.farT hT (by simp only; omega) _) (by simp only; omega) _) (by simp only; omega) _) (by omega), (Below.setCell (Below.setCell (Below.setCell hB4 (by simp only; omega) _) (by simp only; omega) _) (by simp only; omega) _)⟩
set_option maxRecDepth 100000 in
set_option maxHeartbeats 800000 in
theorem markPath_any (t : Tb) (base : Nat) (v1 v2 : Value) (w : World) (hl1 : t.cs.length ≤ 2000000) (hl2 : t.rs.length ≤ 2000000) (h : OwnT w base v1 v2 t) :
    Calls Try.prog 25 #[.agg #[v1, v2], .int .i64 1] w fun e w' => e = .returned (.int .i64 (1 + (t.cs.length : Int) + (t.rs.length : Int))) ∧ OwnT w' base v1 v2 (markT t.cs.length t.rs.length) ∧ Grown2 w w' v1.ownBlock v2.ownBlock := by
  have H1 : Hid (∀ W, Below w.heap.size w W → Calls Try.prog 30 #[v1, .int .i64 1] W fun e w' => e = .returned (.int .i64 (1 + (t.cs.length : Int))) ∧ OwnI w' base v1 (countK 1 t.cs.length) ∧ W.grownBy w' v1.ownBlock) := fun W hW => markInt64S_from 1 (by omega) base v1 t.cs W hl1 (h.c.below hW)
  have H2 : Hid (∀ W, OwnI W base v2 t.rs → Calls Try.prog 30 #[v2, .int .i64 (1 + (t.cs.length : Int))] W fun e w' => e = .returned (.int .i64 (1 + (t.cs.length : Int) + (t.rs.length : Int))) ∧ OwnI w' base v2 (countK (1 + (t.cs.length : Int)) t.rs.length) ∧ W.grownBy w' v2.ownBlock) := fun W hW => markInt64S_from (1 + (t.cs.length : Int)) (by omega) base v2 t.rs W hl2 hW
  obtain ⟨p1, c1, rfl⟩ := h.c.shape
  obtain ⟨p2, c2, rfl⟩ := h.r.shape
  have hA0 : Hid (Below w.heap.size w _) := all_alloc w (.cells #[.slice p1 t.cs.length c1, .slice p2 t.rs.length c2] 27)
  have hX : Hid _ := heap_alloc_new w (.cells #[.slice p1 t.cs.length c1, .slice p2 t.rs.length c2] 27)
  have hne1 : Hid _ := OwnI.lt h.c
  have HO : Hid _ := h
  clear h
  go_enter Try.func25, Try.ntmps25
  go_wp2_with (first
    | (have _ := hD; go_at_call 30; refine (H2.out _ (OwnI.grownT (HO.out.r.below hA0.out) g1 HO.out.ne)).mono ?_; rintro e w2 ⟨rfl, m2, g2⟩)
    | (go_at_call 30; refine (H1.out _ hA0.out).mono ?_; rintro e w1 ⟨rfl, m1, g1⟩; have hD : Hid True := trivial; have hX1 : Hid _ := (g1.block w.heap.size (by simp) (by intro e; have := (hne1.out _ e.symm).2; omega)).trans hX.out; have x1 := cellW hX1.out 1 _ rfl w1 (Below.refl _ _)))
  go_ret
  exact ⟨rfl, ⟨by unfold markT; exact OwnI.grownT m1 g2 (fun a b ha hb e => HO.out.ne b a hb ha e.symm), by unfold markT; exact m2, HO.out.ne⟩, Grown2.of (grown_afterT hA0.out g1) g2⟩
set_option maxRecDepth 100000 in
set_option maxHeartbeats 800000 in
theorem heldPath_any (n1 n2 : Nat) (base : Nat) (v1 v2 : Value) (w : World) (hl1 : n1 ≤ 2000000) (hl2 : n2 ≤ 2000000) (h : OwnT w base v1 v2 (markT n1 n2)) :
    Calls Try.prog 26 #[.agg #[v1, v2], .int .i64 1] w fun e w' => e = .returned (.int .i64 (1 + (n1 : Int) + (n2 : Int))) ∧ Below w.heap.size w w' := by
  have H1 : Hid (∀ W, Below w.heap.size w W → Calls Try.prog 31 #[v1, .int .i64 1] W fun e w' => e = .returned (.int .i64 (1 + (n1 : Int))) ∧ Below W.heap.size W w') := fun W hW => heldInt64S_from 1 (by omega) base v1 n1 W hl1 (h.c.below hW)
  have H2 : Hid (∀ W, Below w.heap.size w W → Calls Try.prog 31 #[v2, .int .i64 (1 + (n1 : Int))] W fun e w' => e = .returned (.int .i64 (1 + (n1 : Int) + (n2 : Int))) ∧ Below W.heap.size W w') := fun W hW => heldInt64S_from (1 + (n1 : Int)) (by omega) base v2 n2 W hl2 (h.r.below hW)
  obtain ⟨p1, c1, hv1⟩ := h.c.shape
  obtain ⟨p2, c2, hv2⟩ := h.r.shape
  rw [show (markT n1 n2).cs.length = n1 from countK_length _ _] at hv1
  rw [show (markT n1 n2).rs.length = n2 from countK_length _ _] at hv2
  subst hv1
  subst hv2
  have hA0 : Hid (Below w.heap.size w _) := all_alloc w (.cells #[.slice p1 n1 c1, .slice p2 n2 c2] 27)
  have hX : Hid _ := heap_alloc_new w (.cells #[.slice p1 n1 c1, .slice p2 n2 c2] 27)
  have h0 : ¬ (1 : Int) + (n1 : Int) < 0 := by omega
  have h0' : ¬ (1 : Int) + (n1 : Int) + (n2 : Int) < 0 := by omega
  clear h
  go_enter Try.func26, Try.ntmps26
  go_wp2_with (first
    | (have _ := hD; go_at_call 31; refine (H2.out _ (keepB hA0.out (Nat.le_refl _) hb1)).mono ?_; rintro e w2 ⟨rfl, hb2⟩)
    | (go_at_call 31; refine (H1.out _ hA0.out).mono ?_; rintro e w1 ⟨rfl, hb1⟩; have hD : Hid True := trivial; have x1 := cellW hX.out 1 _ rfl w1 hb1))
  go_ret
  exact ⟨rfl, keepB (keepB hA0.out (Nat.le_refl _) hb1) (Nat.le_refl _) hb2⟩
set_option maxRecDepth 100000 in
set_option maxHeartbeats 800000 in
theorem eqPathOut_same (t : Tb) (a1 a2 b1 b2 : Value) (tt c : Int) (w : World) (hl1 : t.cs.length ≤ 10000000) (hl2 : t.rs.length ≤ 10000000) (h1 : RowI w a1 t.cs) (h2 : RowI w a2 t.rs) (h3 : RowI w b1 t.cs) (h4 : RowI w b2 t.rs) :
    Calls Try.prog 12 #[.agg #[a1, a2, .int .i64 tt, .int .i64 c], .agg #[b1, b2, .int .i64 tt, .int .i64 c]] w fun x w' => x = .returned (.bool true) ∧ Below w.heap.size w w' := by
  have H1 : Hid (∀ W, Below w.heap.size w W → Calls Try.prog 9 #[.agg #[a1, a2], .agg #[b1, b2]] W fun e w' => e = .returned (.bool true) ∧ Below W.heap.size W w') := fun W hW => eqPath_same t a1 a2 b1 b2 W hl1 hl2 (h1.below hW) (h2.below hW) (h3.below hW) (h4.below hW)
  obtain ⟨p1, c1, rfl, _⟩ := h1
  obtain ⟨p2, c2, rfl, _⟩ := h2
  obtain ⟨p3, c3, rfl, _⟩ := h3
  obtain ⟨p4, c4, rfl, _⟩ := h4
  have hA0 : Hid (Below w.heap.size w _) := keepB (all_alloc w (.cells #[.slice p1 t.cs.length c1, .slice p2 t.rs.length c2, .int .i64 tt, .int .i64 c] 32)) (Nat.le_refl _) (all_alloc _ (.cells #[.slice p3 t.cs.length c3, .slice p4 t.rs.length c4, .int .i64 tt, .int .i64 c] 32))
  have hX : Hid _ := blk (heap_alloc_new w (.cells #[.slice p1 t.cs.length c1, .slice p2 t.rs.length c2, .int .i64 tt, .int .i64 c] 32)) (all_alloc _ (.cells #[.slice p3 t.cs.length c3, .slice p4 t.rs.length c4, .int .i64 tt, .int .i64 c] 32))
  have hY : Hid _ := heap_alloc_new (w.alloc (.cells #[.slice p1 t.cs.length c1, .slice p2 t.rs.length c2, .int .i64 tt, .int .i64 c] 32)) (.cells #[.slice p3 t.cs.length c3, .slice p4 t.rs.length c4, .int .i64 tt, .int .i64 c] 32)
  rw [show (w.alloc (.cells #[.slice p1 t.cs.length c1, .slice p2 t.rs.length c2, .int .i64 tt, .int .i64 c] 32)).heap.size = w.heap.size + 1 by simp] at hY
  have e1 : (tt != tt) = false := by simp
  have e2 : (c != c) = false := by simp
  go_enter Try.func12, Try.ntmps12
  go_wp2_with (first
    | (go_at_call 9; refine (H1.out _ hA0.out).mono ?_; rintro e w1 ⟨rfl, hb1⟩; have x2 := cellW hX.out 2 _ rfl w1 hb1; have x3 := cellW hX.out 3 _ rfl w1 hb1; have y2 := cellW hY.out 2 _ rfl w1 hb1; have y3 := cellW hY.out 3 _ rfl w1 hb1))
  go_ret
  exact ⟨rfl, keepB hA0.out (Nat.le_refl _) hb1⟩
set_option maxRecDepth 100000 in
set_option maxHeartbeats 800000 in
theorem markPathOut_any (t : Tb) (tt c : Int) (base : Nat) (v1 v2 : Value) (w : World) (hl1 : t.cs.length ≤ 2000000) (hl2 : t.rs.length ≤ 2000000) (h : OwnT w base v1 v2 t) :
    Calls Try.prog 13 #[.agg #[v1, v2, .int .i64 tt, .int .i64 c], .int .i64 1] w fun e w' => e = .returned (.int .i64 (1 + (t.cs.length : Int) + (t.rs.length : Int))) ∧ OwnT w' base v1 v2 (markT t.cs.length t.rs.length) ∧ Grown2 w w' v1.ownBlock v2.ownBlock := by
  have H1 : Hid (∀ W, Below w.heap.size w W → Calls Try.prog 25 #[.agg #[v1, v2], .int .i64 1] W fun e w' => e = .returned (.int .i64 (1 + (t.cs.length : Int) + (t.rs.length : Int))) ∧ OwnT w' base v1 v2 (markT t.cs.length t.rs.length) ∧ Grown2 W w' v1.ownBlock v2.ownBlock) := fun W hW => markPath_any t base v1 v2 W hl1 hl2 (h.below hW)
  obtain ⟨p1, c1, rfl⟩ := h.c.shape
  obtain ⟨p2, c2, rfl⟩ := h.r.shape
  have hA0 : Hid (Below w.heap.size w _) := all_alloc w (.cells #[.slice p1 t.cs.length c1, .slice p2 t.rs.length c2, .int .i64 tt, .int .i64 c] 32)
  clear h
  go_enter Try.func13, Try.ntmps13
  go_wp2_with (go_at_call 25; refine (H1.out _ hA0.out).mono ?_; rintro e w1 ⟨rfl, m1, g1⟩)
  go_ret
  exact ⟨rfl, m1, ⟨g1.os.trans hA0.out.os, g1.tape.trans hA0.out.tape, g1.output.trans hA0.out.output, Nat.le_trans hA0.out.size g1.size, fun i hi h1 h2 => (g1.block i (Nat.lt_of_lt_of_le hi hA0.out.size) h1 h2).trans (hA0.out.block i hi)⟩⟩
set_option maxRecDepth 100000 in
set_option maxHeartbeats 800000 in
theorem heldPathOut_any (n1 n2 : Nat) (tt c : Int) (base : Nat) (v1 v2 : Value) (w : World) (hl1 : n1 ≤ 2000000) (hl2 : n2 ≤ 2000000) (h : OwnT w base v1 v2 (markT n1 n2)) :
    Calls Try.prog 14 #[.agg #[v1, v2, .int .i64 tt, .int .i64 c], .int .i64 1] w fun e w' => e = .returned (.int .i64 (1 + (n1 : Int) + (n2 : Int))) ∧ Below w.heap.size w w' := by
  have H1 : Hid (∀ W, Below w.heap.size w W → Calls Try.prog 26 #[.agg #[v1, v2], .int .i64 1] W fun e w' => e = .returned (.int .i64 (1 + (n1 : Int) + (n2 : Int))) ∧ Below W.heap.size W w') := fun W hW => heldPath_any n1 n2 base v1 v2 W hl1 hl2 (h.below hW)
  obtain ⟨p1, c1, hv1⟩ := h.c.shape
  obtain ⟨p2, c2, hv2⟩ := h.r.shape
  rw [show (markT n1 n2).cs.length = n1 from countK_length _ _] at hv1
  rw [show (markT n1 n2).rs.length = n2 from countK_length _ _] at hv2
  subst hv1
  subst hv2
  have hA0 : Hid (Below w.heap.size w _) := all_alloc w (.cells #[.slice p1 n1 c1, .slice p2 n2 c2, .int .i64 tt, .int .i64 c] 32)
  have h0 : ¬ (1 : Int) + (n1 : Int) + (n2 : Int) < 0 := by omega
  clear h
  go_enter Try.func14, Try.ntmps14
  go_wp2_with (go_at_call 26; refine (H1.out _ hA0.out).mono ?_; rintro e w1 ⟨rfl, hb1⟩)
  go_ret
  exact ⟨rfl, keepB hA0.out (Nat.le_refl _) hb1⟩
end Go.Proofs.Ytimocipgikefoab
