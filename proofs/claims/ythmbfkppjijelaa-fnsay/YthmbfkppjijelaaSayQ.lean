/- THE WALK of the program's readSay where nothing is wrong. -/
import Derived.Test.YthmbfkppjijelaaSayP
import Derived.Test.YthmbfkppjijelaaSayTo
import Derived.Deep.RegionHeld3
import Derived.Deep.RegionLaw
import Derived.Deep.RegionWith
import Derived.Deep.DeepCutAuto
namespace Go.Proofs.Ythmbfkppjijelaa
open Go.RowKit
set_option linter.unusedVariables false
set_option linter.unusedSimpArgs false

theorem cellGr {A : World} {g G : Nat} {cs : Array Value} {t : TypeId} (h : A.heap[g]? = some (.cells cs t (0, 0))) (hne : g ≠ G) (o : Nat) (v : Value) (hv : cs[o]? = some v) : ∀ W, A.grownBy W (some G) → W.cell? ⟨g, o, none⟩ = some v := fun W hW => by
  have := (hW.block g (Array.getElem?_eq_some_iff.1 h).1 (by intro e; exact hne (Option.some.inj e))).trans h
  simp only [World.cell?, this]
  simpa using hv
theorem size64 : (Try.prog.info? 2).map (·.size) = some 1 := by kernel_rfl
set_option maxRecDepth 100000 in
set_option maxHeartbeats 3200000 in
theorem readSay_d (s : ByteArray) (w : World) (hs : s.size ≤ 8000) (n0 n1 n2 n3 n4 n5 n6 n7 q q2 : Int) (ws : List Int) (h1 : numsR s 0 8 = some ([n0, n1, n2, n3, n4, n5, n6, n7], q)) (h2 : numsR s q n7.toNat = some (ws, q2)) (h3 : (getT s q2).2.2 = 0) :
    Calls Try.prog 36 #[.string s] w fun e w' => ∃ v, e = .returned (.tuple #[.agg #[.int .i64 n0, .int .i64 n1, .int .i64 n2, .int .i64 n3, .int .i64 n4, .int .i64 n5, .int .i64 n6, v, .string (getT s q2).1], .nilIface]) ∧ OwnI w' w.heap.size v ws ∧ Below w.heap.size w w' := by
  have hq := numsR_at (s := s) (a := 0) (by omega) (by omega) h1
  have H1 : Hid _ := fun W => readNums_some (s := s) (a := 0) (m := 8) h1 W hs (by omega) (by omega)
  have H2 : Hid _ := fun W => readNums_some (s := s) (a := q) (m := n7) h2 W hs (by omega) (by omega)
  have H3 : Hid (∀ W : World, ∃ p, Calls Try.prog 65 #[.string s, .int .i64 q2] W fun e w' => e = .returned (.tuple #[.string (getT s q2).1, .int .i64 p, .nilIface]) ∧ Below W.heap.size W w') := fun W => by
    have := readText_any s q2 W hs
    rw [show getT s q2 = ((getT s q2).1, (getT s q2).2.1, 0) by rw [← h3], tupT_ok] at this
    exact ⟨_, this⟩
  generalize (getT s q2).1 = bd at H3 ⊢
  clear h1 h2 hq h3
  go_enter Try.func36, Try.ntmps36
  go_upto_region 11 with (first
    | (go_at_call 65; obtain ⟨p3, H3'⟩ := H3.out w2; refine H3'.mono ?_; rintro e w3 ⟨rfl, hb3⟩; have hYw3 : Hid _ := blk hYw2.out hb3)
    | (have _ := hYw1; go_at_call 64; refine (H2.out _).mono ?_; rintro e w2 ⟨v2, rfl, ho2, hb2⟩; have hYw2 : Hid _ := blk hYw1.out hb2; obtain ⟨p2, cap2, rfl⟩ := ho2.shape)
    | (go_at_call 64; refine (H1.out _).mono ?_; rintro e w1 ⟨v1, rfl, ho1, hb1⟩; have hYw1 : Hid _ := blk (heap_alloc_new w (.cells #[.int .i64 0, .int .i64 0, .int .i64 0, .int .i64 0, .int .i64 0, .int .i64 0, .int .i64 0, .slice none 0 0, .string ⟨#[]⟩] 27)) hb1; obtain ⟨g1, cap1, rfl, hcap, hg1, cur, hcur, hcells⟩ := ho1.form (by simp); have e7 := cellW hcur 7 _ (hcells 7 (by simp)) w1 (Below.refl _ _); simp only [List.length_cons, List.length_nil, List.getElem_cons_succ, List.getElem_cons_zero] at e7 hcap))
  have hC : Hid _ := blk (blk (blk hcur hb2) hb3) (all_alloc w3 (.cells #[.int .i64 0, .int .i64 0, .int .i64 0, .int .i64 0] 53))
  have hY : Hid _ := blk hYw3.out (all_alloc w3 (.cells #[.int .i64 0, .int .i64 0, .int .i64 0, .int .i64 0] 53))
  have hX : Hid _ := heap_alloc_new w3 (.cells #[.int .i64 0, .int .i64 0, .int .i64 0, .int .i64 0] 53)
  have hO := ((ho2.below hb3).below (all_alloc w3 (.cells #[.int .i64 0, .int .i64 0, .int .i64 0, .int .i64 0] 53))).le (show w.heap.size ≤ w1.heap.size by have h := hb1.size; simp at h; omega)
  have hA0 := keepB (keepB (keepB (keepB (all_alloc w (.cells #[.int .i64 0, .int .i64 0, .int .i64 0, .int .i64 0, .int .i64 0, .int .i64 0, .int .i64 0, .slice none 0 0, .string ⟨#[]⟩] 27)) (Nat.le_refl _) hb1) (Nat.le_refl _) hb2) (Nat.le_refl _) hb3) (Nat.le_refl _) (all_alloc w3 (.cells #[.int .i64 0, .int .i64 0, .int .i64 0, .int .i64 0] 53))
  have c0 := hcells 0 (by simp)
  have c1 := hcells 1 (by simp)
  have c2 := hcells 2 (by simp)
  have c3 := hcells 3 (by simp)
  have c4 := hcells 4 (by simp)
  have c5 := hcells 5 (by simp)
  have c6 := hcells 6 (by simp)
  simp only [List.getElem_cons_succ, List.getElem_cons_zero] at c0 c1 c2 c3 c4 c5 c6
  have hgl : g1 < w3.heap.size := Nat.lt_of_lt_of_le (Array.getElem?_eq_some_iff.1 hcur).1 (Nat.le_trans hb2.size hb3.size)
  have hGl : w.heap.size < w3.heap.size := (Array.getElem?_eq_some_iff.1 hYw3.out).1
  have hcap7 : (7 : Int) ≤ (cap1 : Int) := by omega
  have hcap3 : ¬ cap1 = 3 := by omega
  have hO3 : Hid (OwnI w3 w1.heap.size (.slice p2 ws.length cap2) ws) := ho2.below hb3
  have hGw : w.heap.size < w1.heap.size := by have h := hb1.size; simp at h; omega
  have hA3 := all_alloc w3 (.cells #[.int .i64 0, .int .i64 0, .int .i64 0, .int .i64 0] 53)
  clear hO e7 hcells ho1 ho2
  generalize w3.alloc (.cells #[.int .i64 0, .int .i64 0, .int .i64 0, .int .i64 0] 53) = A at hC hY hX hA0 hA3 ⊢
  generalize hXn : w3.heap.size = X at hgl hGl hX hA3 ⊢
  obtain ⟨G, hG⟩ : ∃ G, w.heap.size = G := ⟨_, rfl⟩
  rw [hG] at hY hGl hGw ⊢
  have hsl := fun wx => slice4i wx X
  have hsrc : Hid (∀ (W : World), W.heap[g1]? = some (.cells cur 2 (0, 0)) → ∀ j v, [Value.int .i64 n3, .int .i64 n4, .int .i64 n5, .int .i64 n6][j]? = some v → W.cell? ((⟨g1, 3, none⟩ : Addr).add j) = some v) := fun W hW j v hj => by
    have e : (⟨g1, 3, none⟩ : Addr).add j = ⟨g1, 3 + j, none⟩ := by unfold Addr.add; split <;> simp_all
    rw [e]
    simp only [World.cell?, hW]
    match j, hj with
    | 0, hj => simp at hj; subst hj; exact c3
    | 1, hj => simp at hj; subst hj; exact c4
    | 2, hj => simp at hj; subst hj; exact c5
    | 3, hj => simp at hj; subst hj; exact c6
  go_cut [] (fun wx => Hid (wx.heap[X]? = some (.cells #[.int .i64 n3, .int .i64 n4, .int .i64 n5, .int .i64 n6] 53 (0, 0))) ∧ Below X A wx)
  case first =>
    go_region_law (refine step_copy_splice rfl (.tmp 46) (.tmp 48) 25 25 rfl 2 Try.underlying25 size64 _ _ _ _ _ _ rfl rfl X 0 [.int .i64 0, .int .i64 0, .int .i64 0, .int .i64 0] 53 hX.out [.int .i64 n3, .int .i64 n4, .int .i64 n5, .int .i64 n6] (by rfl) (fun _ => ⟨rfl, ⟨g1, 3, none⟩, (by first | rfl | exact if_neg hcap3), hsrc.out _ hC.out⟩) (by simp) (by intro v hv; simp at hv; rcases hv with rfl | rfl | rfl | rfl <;> rfl) X A (Below.drew (Below.refl _ _)) (Nat.le_refl _) ?_; intro w4 hG4 hb4)
    go_wp2
    go_meet
    exact ⟨hG4.out, hb4⟩
  case rest =>
    obtain ⟨hX4, hb4⟩ := hcut
    rename World => w4
    have hC4 : Hid _ := (hb4.block g1 hgl).trans hC.out
    have hY4 : Hid _ := (hb4.block G hGl).trans hY.out
    have hB4 : Below G w w4 := by
      have h1 := hb4.mono (Nat.le_of_lt hGl)
      rw [hG] at hA0
      exact hA0.trans h1
    have hO4 : Hid (OwnI w4 w1.heap.size (.slice p2 ws.length cap2) ws) := by
      have h1 : OwnI w3 w1.heap.size (.slice p2 ws.length cap2) ws := hO3.out
      refine ⟨h1.1, h1.2.imp id ?_⟩
      rintro ⟨g, cap, cr, e1, e2, e3, e4⟩
      have hl := (Array.getElem?_eq_some_iff.1 e3).1
      exact ⟨g, cap, cr, e1, e2, (hb4.block g (by omega)).trans ((hA3.block g (by omega)).trans e3), e4⟩
    have hgG : g1 ≠ G := by simp at hg1; omega
    have d0 := cellGr hC4.out hgG 0 _ c0
    have d1 := cellGr hC4.out hgG 1 _ c1
    have d2 := cellGr hC4.out hgG 2 _ c2
    have hXG : X ≠ G := by omega
    have x0 := cellGr hX4.out hXG 0 _ rfl
    have x1 := cellGr hX4.out hXG 1 _ rfl
    have x2 := cellGr hX4.out hXG 2 _ rfl
    have x3 := cellGr hX4.out hXG 3 _ rfl
    have HSO : Hid (∀ W : World, Calls Try.prog 66 #[.agg #[.int .i64 n3, .int .i64 n4, .int .i64 n5, .int .i64 n6]] W fun e w' => e = .returned (.agg #[.int .i64 n3, .int .i64 n4, .int .i64 n5, .int .i64 n6]) ∧ Below W.heap.size W w') := fun W => stampOf_any n3 n4 n5 n6 W
    have hA3s := hA3.size
    clear hC hY hX hA0 hA3 hO3 hsrc hsl
    have hD : w4.grownBy w4.drew (some G) := ⟨rfl, rfl, rfl, Nat.le_refl _, fun _ _ _ => rfl⟩
    go_upto_region 12 with fail
    go_region_held3 (fun w' => w4.grownBy w' (some G)) (first | with_reducible assumption | with_reducible (refine grown_setI ?_ _ _; refine grown_setI ?_ _ _; refine grown_setI ?_ _ _; refine grown_setI ?_ _ _; refine grown_setI ?_ _ _; refine grown_setI ?_ _ _; refine grown_setI ?_ _ _; refine grown_setI ?_ _ _; refine grown_setI ?_ _ _; exact hS9)) (first
      | (go_at_call 66; refine (HSO.out _).mono ?_; rintro e9 w9 ⟨rfl, hbq⟩; have hB9 : Below w4.heap.size w4 w9 := keepB (Below.drew (Below.refl _ _)) (Nat.le_refl _) hbq; have hS9 : w4.grownBy w9 (some G) := grown_belowI hD hbq; have hY9 : Hid _ := blk hY4.out hB9; have y0 := cellW hY9.out 0 _ rfl w9 (Below.refl _ _); have y1 := cellW hY9.out 1 _ rfl w9 (Below.refl _ _); have y2 := cellW hY9.out 2 _ rfl w9 (Below.refl _ _); have y3 := cellW hY9.out 3 _ rfl w9 (Below.refl _ _); have y4 := cellW hY9.out 4 _ rfl w9 (Below.refl _ _); have y5 := cellW hY9.out 5 _ rfl w9 (Below.refl _ _); have y6 := cellW hY9.out 6 _ rfl w9 (Below.refl _ _); have y7 := cellW hY9.out 7 _ rfl w9 (Below.refl _ _); have y8 := cellW hY9.out 8 _ rfl w9 (Below.refl _ _); have f0 := frozenW hY9.out 0 w9 (Below.refl _ _); have f1 := frozenW hY9.out 1 w9 (Below.refl _ _); have f2 := frozenW hY9.out 2 w9 (Below.refl _ _); have f3 := frozenW hY9.out 3 w9 (Below.refl _ _); have f4 := frozenW hY9.out 4 w9 (Below.refl _ _); have f5 := frozenW hY9.out 5 w9 (Below.refl _ _); have f6 := frozenW hY9.out 6 w9 (Below.refl _ _); have f7 := frozenW hY9.out 7 w9 (Below.refl _ _); have f8 := frozenW hY9.out 8 w9 (Below.refl _ _)))
    have hBw : Below G w w9 := by
      have h1 : G ≤ w4.heap.size := by have h2 := hb4.size; have h3 := hA3s; omega
      exact hB4.trans (hB9.mono h1)
    go_wp2
    exact bodyPost_ret (v := .tuple #[.agg #[.int .i64 n0, .int .i64 n1, .int .i64 n2, .int .i64 n3, .int .i64 n4, .int .i64 n5, .int .i64 n6, .slice p2 ws.length cap2, .string bd], .nilIface]) (by simp [results, Try.results36, go_sem, y0, y1, y2, y3, y4, y5, y6, y7, y8]) rfl ⟨_, rfl, OwnI.le (OwnI.far (OwnI.far (OwnI.far (OwnI.far (OwnI.far (OwnI.far (OwnI.far (OwnI.far (OwnI.far (hO4.out.below hB9) (by simp only; omega) _) (by simp only; omega) _) (by simp only; omega) _) (by simp only; omega) _) (by simp only; omega) _) (by simp only; omega) _) (by simp only; omega) _) (by simp only; omega) _) (by simp only; omega) _) (by omega), by rw [hG]; exact (Below.setCell (Below.setCell (Below.setCell (Below.setCell (Below.setCell (Below.setCell (Below.setCell (Below.setCell (Below.setCell hBw (by simp only; omega) _) (by simp only; omega) _) (by simp only; omega) _) (by simp only; omega) _) (by simp only; omega) _) (by simp only; omega) _) (by simp only; omega) _) (by simp only; omega) _) (by simp only; omega) _)⟩
end Go.Proofs.Ythmbfkppjijelaa
