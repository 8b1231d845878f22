/- A CABLE's SEGMENT: the program's. Written by mksegc.py. -/
import Derived.Test.YtklpaleghanhhaaQdSegJ
import Derived.Test.YtklpaleghanhhaaQdOutS
namespace Go.Proofs.Ytklpaleghanhhaa
open Go.RowKit
set_option linter.unusedVariables false
set_option linter.unusedSimpArgs false

def flatS (cs : List (List Value × Bool)) : List Value := cs.flatMap (·.1)
def flatU (cs : List (List Value × Bool)) : List Value := cs.map fun x => .bool x.2
theorem owns_shape {w : World} {base : Nat} {e : TypeId} {k n : Nat} {v : Value} {xs : List Value} (h : w.ownsRow base e k v n xs) : ∃ p c, v = .slice p n c := by
  rcases h.2 with ⟨rfl, rfl⟩ | ⟨g, cap, cur, rfl, _⟩
  · exact ⟨_, _, rfl⟩
  · exact ⟨_, _, rfl⟩
theorem owns_apart {w : World} {b1 b2 : Nat} {e1 e2 : TypeId} {k1 k2 n1 n2 : Nat} {v u : Value} {xs ys : List Value} (h : w.ownsRow b1 e1 k1 v n1 xs) (h' : w.ownsRow b2 e2 k2 u n2 ys) (he : e1 ≠ e2) : v.ownBlock = none ∨ v.ownBlock ≠ u.ownBlock := by
  rcases h.2 with ⟨rfl, _⟩ | ⟨g, cap, cur, rfl, _, hg, _⟩
  · exact .inl rfl
  · rcases h'.2 with ⟨rfl, _⟩ | ⟨g', cap', cur', rfl, _, hg', _⟩
    · exact .inr (by simp [Value.ownBlock])
    · refine .inr fun e => ?_
      have e3 : g = g' := by simpa [Value.ownBlock] using e
      subst e3
      rw [hg] at hg'
      simp at hg'
      exact he hg'.2
theorem fold_set : ∀ (L : List Value) (i : Nat) (z : Array Value), i + L.length ≤ z.size → List.foldl (fun cs x => cs.setIfInBounds x.snd x.fst) z (L.zipIdx i) = (z.toList.take i ++ L ++ z.toList.drop (i + L.length)).toArray
  | [], i, z, h => by simp
  | v :: L, i, z, h => by
    rw [List.zipIdx_cons, List.foldl_cons]
    simp only
    simp only [List.length_cons] at h
    rw [fold_set L (i + 1) (z.setIfInBounds i v) (by rw [Array.size_setIfInBounds]; omega)]
    congr 1
    have hz : i < z.toList.length := by rw [Array.length_toList]; omega
    have e : (z.setIfInBounds i v).toList = z.toList.take i ++ v :: z.toList.drop (i + 1) := by
      rw [Array.toList_setIfInBounds, List.set_eq_take_append_cons_drop, if_pos hz]
    have hl : (z.toList.take i).length = i := by rw [List.length_take]; omega
    rw [e, List.length_cons]
    have e1 : (z.toList.take i ++ v :: z.toList.drop (i + 1)).take (i + 1) = z.toList.take i ++ [v] := by
      rw [List.take_append, hl, List.take_of_length_le (by omega)]
      simp
    have e2 : (z.toList.take i ++ v :: z.toList.drop (i + 1)).drop (i + 1 + L.length) = z.toList.drop (i + (L.length + 1)) := by
      rw [List.drop_append, hl, List.drop_eq_nil_of_le (by omega), show i + 1 + L.length - i = L.length + 1 by omega]
      simp only [List.nil_append, List.drop_succ_cons, List.drop_drop]
      congr 1
      omega
    rw [e1, e2]
    simp
theorem fold_all (L : List Value) (z : Array Value) (h : L.length = z.size) : List.foldl (fun cs x => cs.setIfInBounds x.snd x.fst) z L.zipIdx = L.toArray := by
  have := fold_set L 0 z (by omega)
  rw [this]
  simp [h]
set_option maxRecDepth 100000 in
set_option maxHeartbeats 3200000 in
theorem segmentOf_any (cb r c : Nat) (cs : List (List Value × Bool)) (n : Nat) (hn : cs.length = n) (pg : Option Addr) (ng cg : Nat) (vs : Value) (w : World) (hl : n ≤ 1000) (hcb : w.heap[cb]? = some (.cells #[.slice (some ⟨r, 0, none⟩) n c, .slice pg ng cg, vs] 143 (0, 0))) (hr : r < w.heap.size)
    (hs : ∀ k (hk : k < cs.length), w.rangeAt r (k * 20) (cs[k].1 ++ [.bool cs[k].2]) ∧ cs[k].1.length = 19 ∧ (∀ u ∈ cs[k].1, u.oneCell' = true)) :
    Calls Try.prog 100 #[.pointer (some ⟨cb, 0, none⟩)] w fun e w' => ∃ v1 v2, e = .returned (.agg #[v1, v2, .slice pg ng cg]) ∧ w'.ownsRow w.heap.size 135 19 v1 n (flatS cs) ∧ w'.ownsRow w.heap.size 4 1 v2 n (flatU cs) ∧ Below w.heap.size w w' := by
  obtain ⟨i0, hi, hz0, hz1, hz2⟩ := info_parts infoSt19
  obtain ⟨j0, hj, hy0, hy1, hy2⟩ := info_parts infoBo
  have hcbl : cb < w.heap.size := (Array.getElem?_eq_some_iff.1 hcb).1
  have HCB : Hid (∀ W, Below w.heap.size w W → W.heap[cb]? = _) := fun W hW => (hW.block cb hcbl).trans hcb
  have HS : Hid (∀ W, Below w.heap.size w W → ∀ k (hk : k < cs.length), W.rangeAt r (k * 20) (cs[k].1 ++ [.bool cs[k].2]) ∧ cs[k].1.length = 19 ∧ (∀ u ∈ cs[k].1, u.oneCell' = true)) := fun W hW k hk => ⟨range_below (hs k hk).1 hr hW, (hs k hk).2⟩
  have hR0 : Hid _ := heap_alloc_new w (.cells #[.slice none 0 0, .slice none 0 0, .slice none 0 0] 47)
  have hA0 := all_alloc w (.cells #[.slice none 0 0, .slice none 0 0, .slice none 0 0] 47)
  have zA0 : (w.alloc (.cells #[.slice none 0 0, .slice none 0 0, .slice none 0 0] 47)).heap.size = w.heap.size + 1 := by simp
  clear hcb hs
  go_enter Try.func100, Try.ntmps100
  go_upto_region 1 with fail
  generalize w.alloc (.cells #[.slice none 0 0, .slice none 0 0, .slice none 0 0] 47) = A at hR0 hA0 zA0 ⊢
  have c1 := cellW (HCB.out A hA0) 1 (.slice pg ng cg) rfl A (Below.refl _ _)
  go_upto_region 2 with fail
  have hS1 : Hid _ := heap_alloc_new A (.cells #[.slice none 0 0, .slice none 0 0, .slice pg ng cg] 47)
  have hb1 := all_alloc A (.cells #[.slice none 0 0, .slice none 0 0, .slice pg ng cg] 47)
  generalize A.alloc (.cells #[.slice none 0 0, .slice none 0 0, .slice pg ng cg] 47) = W1 at hS1 hb1 ⊢
  have hR1 : Hid _ := blk hR0.out hb1
  have hA1 := keepB hA0 (Nat.le_refl _) hb1
  have zS : w.heap.size + 1 < W1.heap.size := by have := (Array.getElem?_eq_some_iff.1 hS1.out).1; omega
  rw [zA0] at *
  clear c1 hR0 hA0 hb1 zA0
  have c0 := cellW (HCB.out W1 hA1) 0 (.slice (some ⟨r, 0, none⟩) n c) rfl W1 (Below.refl _ _)
  go_wp2
  go_loopw [16] (fun i wr => ∃ k : Nat, k ≤ n ∧ i = .int .i64 k ∧ (∃ v1 v2, Hid (wr.heap[w.heap.size + 1]? = some (.cells #[v1, v2, .slice pg ng cg] 47 (0, 0))) ∧ Hid (wr.ownsRow (w.heap.size + 2) 135 19 v1 k (flatS (cs.take k))) ∧ Hid (wr.ownsRow (w.heap.size + 2) 4 1 v2 k (flatU (cs.take k)))) ∧ Hid (wr.heap[w.heap.size]? = some (.cells #[.slice none 0 0, .slice none 0 0, .slice none 0 0] 47 (0, 0))) ∧ Below w.heap.size w wr) (fun i _ => n - (intOf i).toNat)
  case atStart => exact ⟨0, Nat.zero_le _, rfl, ⟨_, _, hS1.out, World.ownsRow_nil _ _ _ _, World.ownsRow_nil _ _ _ _⟩, hR1.out, hA1⟩
  case round =>
    obtain ⟨k, hk, rfl, ⟨v1, v2, HSg, HO1, HO2⟩, HR, hbel⟩ := hrel
    have hzs : w.heap.size + 1 < wr.heap.size := (Array.getElem?_eq_some_iff.1 HSg.out).1
    obtain ⟨a1, d1, rfl⟩ := owns_shape HO1.out
    obtain ⟨a2, d2, rfl⟩ := owns_shape HO2.out
    by_cases hlt : k < n
    · have hlt' : k < cs.length := by omega
      obtain ⟨hrg, hL, hone⟩ := HS.out wr hbel k hlt'
      have HT1 : Hid (flatS (cs.take (k + 1)) = flatS (cs.take k) ++ cs[k].1) := (by unfold flatS; rw [List.take_succ_eq_append_getElem hlt', List.flatMap_append]; simp : _ = _)
      have HT2 : Hid (flatU (cs.take (k + 1)) = flatU (cs.take k) ++ [.bool cs[k].2]) := (by unfold flatU; rw [List.take_succ_eq_append_getElem hlt', List.map_append]; simp : _ = _)
      have HRG : Hid _ := hrg
      have HONE : Hid _ := hone
      have hlt1 := World.ownsRow.lt HO1.out
      clear hrg hone
      generalize cs[k].1 = L at HRG HONE HT1 hL
      generalize cs[k].2 = b at HRG HT2
      have hone20 : (L ++ [Value.bool b]).toArray.all (·.oneCell') = true := all_oneCell_toArray (fun v hv => by
        rcases List.mem_append.1 hv with h | h
        · exact HONE.out v h
        · rw [List.mem_singleton.1 h]; rfl)
      have h20 : (L ++ [Value.bool b]).length = 20 := by rw [List.length_append, hL]; rfl
      generalize hL20 : L ++ [Value.bool b] = L20 at HRG hone20 h20
      have hload : Hid True := trivial
      go_upto_region 5 with (first
        | (have _ := hload; refine wpList_load_mid rfl 145 (.tmp 18) rfl r (k * 20) rfl L20 _ HRG.out Try.underlying145 rfl (by rw [h20]; exact infoSeat) ?_; clear hload)
        | (refine wpList_store_row rfl 145 (.tmp 5) (.tmp 19) rfl wr.heap.size L20.toArray rfl rfl _ _ (heap_alloc_new wr _) (by simp only [List.size_toArray, h20]; exact infoSeat) (by simp only [List.size_toArray, h20]; rfl) hone20 ?_))
      have hB : Hid _ := setRow_heap _ wr.heap.size _ L20.toArray _ _ (heap_alloc_new wr (.cells #[.int .i64 0, .int .i64 0, .int .i64 0, .int .i64 0, .int .i64 0, .int .i64 0, .int .i64 0, .int .i64 0, .int .i64 0, .int .i64 0, .int .i64 0, .int .i64 0, .int .i64 0, .int .i64 0, .int .i64 0, .slice none 0 0, .slice none 0 0, .slice none 0 0, .slice none 0 0, .bool false] 145))
      have hbB : Below wr.heap.size wr ((wr.alloc (.cells #[.int .i64 0, .int .i64 0, .int .i64 0, .int .i64 0, .int .i64 0, .int .i64 0, .int .i64 0, .int .i64 0, .int .i64 0, .int .i64 0, .int .i64 0, .int .i64 0, .int .i64 0, .int .i64 0, .int .i64 0, .slice none 0 0, .slice none 0 0, .slice none 0 0, .slice none 0 0, .bool false] 145)).setRow wr.heap.size L20.toArray) := setRow_fresh _ _ _
      generalize (wr.alloc (.cells #[.int .i64 0, .int .i64 0, .int .i64 0, .int .i64 0, .int .i64 0, .int .i64 0, .int .i64 0, .int .i64 0, .int .i64 0, .int .i64 0, .int .i64 0, .int .i64 0, .int .i64 0, .int .i64 0, .int .i64 0, .slice none 0 0, .slice none 0 0, .slice none 0 0, .slice none 0 0, .bool false] 145)).setRow wr.heap.size L20.toArray = W2 at hB hbB ⊢
      have zB : wr.heap.size < W2.heap.size := (Array.getElem?_eq_some_iff.1 hB.out).1
      have hS2 : Hid _ := blk HSg.out hbB
      have hR2 : Hid _ := blk HR.out hbB
      have O1 : Hid (W2.ownsRow (w.heap.size + 2) 135 19 (.slice a1 k d1) k (flatS (cs.take k))) := owns_below HO1.out hbB
      have O2 : Hid (W2.ownsRow (w.heap.size + 2) 4 1 (.slice a2 k d2) k (flatU (cs.take k))) := owns_below HO2.out hbB
      have hbel2 := keepB hbel (Nat.le_refl _) hbB
      have s0 := cellW hS2.out 0 _ rfl W2 (Below.refl _ _)
      have z2 := hbel2.size
      have hbox : W2.heap[wr.heap.size]? = some (.cells (L ++ [Value.bool b]).toArray 145 (0, 0)) := by rw [hL20]; exact hB.out
      have HBX : Hid _ := hbox
      clear hbox hB HSg HO1 HO2 HR hL20 HRG hone20 h20
      have hfold : List.foldl (fun cs x => cs.setIfInBounds x.snd x.fst) #[.int .i64 0, .int .i64 0, .int .i64 0, .int .i64 0, .int .i64 0, .int .i64 0, .int .i64 0, .int .i64 0, .int .i64 0, .int .i64 0, .int .i64 0, .int .i64 0, .int .i64 0, .int .i64 0, .int .i64 0, .slice none 0 0, .slice none 0 0, .slice none 0 0, .slice none 0 0] L.zipIdx = L.toArray := fold_all L #[.int .i64 0, .int .i64 0, .int .i64 0, .int .i64 0, .int .i64 0, .int .i64 0, .int .i64 0, .int .i64 0, .int .i64 0, .int .i64 0, .int .i64 0, .int .i64 0, .int .i64 0, .int .i64 0, .int .i64 0, .slice none 0 0, .slice none 0 0, .slice none 0 0, .slice none 0 0] (by rw [hL]; rfl)
      go_upto_region 6 with (first
        | (refine wpList_load_mid rfl 135 (.tmp 22) rfl wr.heap.size 0 rfl L _ (range_head (more := [.bool b]) HBX.out) Try.underlying135 rfl (by rw [hL]; kernel_rfl) ?_)
        | (at_builtin; refine wpList_append_own _ rfl (.tmp 21) (.tmp 24) 43 rfl (w.heap.size + 2) 135 i0 (.agg #[.int .i64 0, .int .i64 0, .int .i64 0, .int .i64 0, .int .i64 0, .int .i64 0, .int .i64 0, .int .i64 0, .int .i64 0, .int .i64 0, .int .i64 0, .int .i64 0, .int .i64 0, .int .i64 0, .int .i64 0, .slice none 0 0, .slice none 0 0, .slice none 0 0, .slice none 0 0]) 19 216 Try.underlying43 hi hz0 hz1 hz2 rfl (by decide) _ _ _ rfl (World.ownsRow.alloc O1.out _) ⟨W2.heap.size, 0, none⟩ 1 1 L rfl (by rw [hL]) (cells_newG _ _ _ _ rfl) HONE.out (by unfold maxLen; omega) (by omega) (by simp; omega) ?_; intro v' w3 hown' hgrow _; obtain ⟨b1, e1, rfl⟩ := owns_shape hown'; have P1 : Hid (World.ownsRow _ _ _ _ _ _ _) := hown'; have G1 : Hid (World.grownBy (W2.alloc (.cells L.toArray 135)) w3 (Value.slice a1 k d1).ownBlock) := hgrow; have hS3 : Hid (w3.heap[w.heap.size + 1]? = _) := (hgrow.block (w.heap.size + 1) (by simp; omega) (fun e => by have := (World.ownsRow.lt O1.out _ e.symm).1; omega)).trans (blk hS2.out (all_alloc _ _)); have t0 := cellW hS3.out 0 _ rfl w3 (Below.refl _ _); have f0 := frozenW hS3.out 0 w3 (Below.refl _ _)))
      have zL : (W2.alloc (.cells L.toArray 135)).heap.size = W2.heap.size + 1 := by simp
      have q3 := G1.out.size
      have A1 := World.ownsRow.alloc O1.out (.cells L.toArray 135)
      have A2 := World.ownsRow.alloc O2.out (.cells L.toArray 135)
      have O2a : Hid (World.ownsRow w3 (w.heap.size + 2) 4 1 (.slice a2 k d2) k (flatU (cs.take k))) := World.ownsRow.kept A2 G1.out (owns_apart A2 A1 (by decide))
      have HB3 : Hid (w3.heap[wr.heap.size]? = some (.cells (L ++ [Value.bool b]).toArray 145 (0, 0))) := (G1.out.block wr.heap.size (by omega) (fun e => by have := (hlt1 _ e.symm).2; omega)).trans (blk HBX.out (all_alloc _ _))
      have HR3 : Hid (w3.heap[w.heap.size]? = some (.cells #[.slice none 0 0, .slice none 0 0, .slice none 0 0] 47 (0, 0))) := (G1.out.block w.heap.size (by omega) (fun e => by have := (World.ownsRow.lt O1.out _ e.symm).1; omega)).trans (blk hR2.out (all_alloc _ _))
      have hbel3 : Below w.heap.size w w3 := (hbel2.alloc z2 _).grown G1.out (by omega) (fun q e => by have := (World.ownsRow.lt O1.out q e).1; omega)
      have hS4 : Hid ((w3.setCell ⟨w.heap.size + 1, 0, none⟩ (.slice b1 (k + 1) e1)).heap[w.heap.size + 1]? = some (.cells #[.slice b1 (k + 1) e1, .slice a2 k d2, .slice pg ng cg] 47 (0, 0))) := blk_set hS3.out 0 _
      have HB4 : Hid ((w3.setCell ⟨w.heap.size + 1, 0, none⟩ (.slice b1 (k + 1) e1)).heap[wr.heap.size]? = some (.cells (L ++ [Value.bool b]).toArray 145 (0, 0))) := blk_far HB3.out (by simp only; omega) _
      have HR4 : Hid ((w3.setCell ⟨w.heap.size + 1, 0, none⟩ (.slice b1 (k + 1) e1)).heap[w.heap.size]? = some (.cells #[.slice none 0 0, .slice none 0 0, .slice none 0 0] 47 (0, 0))) := blk_far HR3.out (by simp only; omega) _
      have O1b : Hid (World.ownsRow (w3.setCell ⟨w.heap.size + 1, 0, none⟩ (.slice b1 (k + 1) e1)) (w.heap.size + 2) 135 19 (.slice b1 (k + 1) e1) (k + 1) (flatS (cs.take k) ++ L)) := owns_far P1.out (by simp only; omega) _
      have O2b : Hid (World.ownsRow (w3.setCell ⟨w.heap.size + 1, 0, none⟩ (.slice b1 (k + 1) e1)) (w.heap.size + 2) 4 1 (.slice a2 k d2) k (flatU (cs.take k))) := owns_far O2a.out (by simp only; omega) _
      have hbel4 : Below w.heap.size w (w3.setCell ⟨w.heap.size + 1, 0, none⟩ (.slice b1 (k + 1) e1)) := hbel3.setCell (by simp only; omega) _
      have z4 : w3.heap.size ≤ (w3.setCell ⟨w.heap.size + 1, 0, none⟩ (.slice b1 (k + 1) e1)).heap.size := by simp [World.setCell]
      clear A1 A2 O1 O2 O2a P1 G1 hS2 hS3 hR2 HBX HB3 HR3 hbel3 t0 f0 s0 hfold hlt1
      generalize w3.setCell ⟨w.heap.size + 1, 0, none⟩ (.slice b1 (k + 1) e1) = W4 at hS4 HB4 HR4 O1b O2b hbel4 z4 ⊢
      have s1 := cellW hS4.out 1 (.slice a2 k d2) rfl W4 (Below.refl _ _)
      have y19 := cellW HB4.out 19 (.bool b) (by rw [List.getElem?_toArray, List.getElem?_append_right (by omega), hL]; rfl) W4 (Below.refl _ _)
      go_upto_region 7 with (at_builtin; refine wpList_append_own _ rfl (.tmp 28) (.tmp 31) 44 rfl (w.heap.size + 2) 4 j0 (.bool false) 1 1 Try.underlying44 hj hy0 hy1 hy2 rfl (by decide) _ _ _ rfl (World.ownsRow.alloc O2b.out _) ⟨W4.heap.size, 0, none⟩ 1 1 [_] rfl rfl (cells_newG _ _ _ _ rfl) (by intro x hx; simp at hx; subst hx; rfl) (by unfold maxLen; omega) (by omega) (by simp; omega) ?_; intro v' w5 hown' hgrow _; obtain ⟨b2, e2, rfl⟩ := owns_shape hown'; have P2 : Hid (World.ownsRow _ _ _ _ _ _ _) := hown'; have G2 : Hid (World.grownBy (W4.alloc (.cells #[.bool b] 4)) w5 (Value.slice a2 k d2).ownBlock) := hgrow; have hS5 : Hid (w5.heap[w.heap.size + 1]? = _) := (hgrow.block (w.heap.size + 1) (by simp; omega) (fun e => by have := (World.ownsRow.lt O2b.out _ e.symm).1; omega)).trans (blk hS4.out (all_alloc _ _)); have t1 := cellW hS5.out 1 _ rfl w5 (Below.refl _ _); have f1 := frozenW hS5.out 1 w5 (Below.refl _ _))
      have zM : (W4.alloc (.cells #[.bool b] 4)).heap.size = W4.heap.size + 1 := by simp
      have q5 := G2.out.size
      have B1 := World.ownsRow.alloc O1b.out (.cells #[.bool b] 4)
      have B2 := World.ownsRow.alloc O2b.out (.cells #[.bool b] 4)
      have O1c : Hid (World.ownsRow w5 (w.heap.size + 2) 135 19 (.slice b1 (k + 1) e1) (k + 1) (flatS (cs.take k) ++ L)) := World.ownsRow.kept B1 G2.out (owns_apart B1 B2 (by decide))
      have HR5 : Hid (w5.heap[w.heap.size]? = some (.cells #[.slice none 0 0, .slice none 0 0, .slice none 0 0] 47 (0, 0))) := (G2.out.block w.heap.size (by omega) (fun e => by have := (World.ownsRow.lt O2b.out _ e.symm).1; omega)).trans (blk HR4.out (all_alloc _ _))
      have hbel5 : Below w.heap.size w w5 := (hbel4.alloc (by omega) _).grown G2.out (by omega) (fun q e => by have := (World.ownsRow.lt O2b.out q e).1; omega)
      have hS6 : Hid ((w5.setCell ⟨w.heap.size + 1, 1, none⟩ (.slice b2 (k + 1) e2)).heap[w.heap.size + 1]? = some (.cells #[.slice b1 (k + 1) e1, .slice b2 (k + 1) e2, .slice pg ng cg] 47 (0, 0))) := blk_set hS5.out 1 _
      have HR6 : Hid ((w5.setCell ⟨w.heap.size + 1, 1, none⟩ (.slice b2 (k + 1) e2)).heap[w.heap.size]? = some (.cells #[.slice none 0 0, .slice none 0 0, .slice none 0 0] 47 (0, 0))) := blk_far HR5.out (by simp only; omega) _
      have O1d : Hid (World.ownsRow (w5.setCell ⟨w.heap.size + 1, 1, none⟩ (.slice b2 (k + 1) e2)) (w.heap.size + 2) 135 19 (.slice b1 (k + 1) e1) (k + 1) (flatS (cs.take k) ++ L)) := owns_far O1c.out (by simp only; omega) _
      have O2d : Hid (World.ownsRow (w5.setCell ⟨w.heap.size + 1, 1, none⟩ (.slice b2 (k + 1) e2)) (w.heap.size + 2) 4 1 (.slice b2 (k + 1) e2) (k + 1) (flatU (cs.take k) ++ [.bool b])) := owns_far P2.out (by simp only; omega) _
      have hbel6 : Below w.heap.size w (w5.setCell ⟨w.heap.size + 1, 1, none⟩ (.slice b2 (k + 1) e2)) := hbel5.setCell (by simp only; omega) _
      clear B1 B2 O1b O2b O1c P2 G2 hS4 hS5 HB4 HR4 HR5 hbel4 hbel5 t1 f1 s1 y19
      generalize w5.setCell ⟨w.heap.size + 1, 1, none⟩ (.slice b2 (k + 1) e2) = W6 at hS6 HR6 O1d O2d hbel6 ⊢
      go_wp2
      go_roundw
      case rel => exact ⟨k + 1, by omega, by go_num, ⟨_, _, hS6.out, (show World.ownsRow _ _ _ _ _ _ _ by rw [HT1.out]; exact O1d.out), (show World.ownsRow _ _ _ _ _ _ _ by rw [HT2.out]; exact O2d.out)⟩, HR6.out, hbel6⟩
      case measure => simp [intOf]; omega
    · have hkk : k = n := by omega
      subst hkk
      have F1 : Hid (World.ownsRow wr (w.heap.size + 2) 135 19 (.slice a1 k d1) k (flatS cs)) := (by have := HO1.out; rwa [List.take_of_length_le (by omega)] at this : World.ownsRow _ _ _ _ _ _ _)
      have F2 : Hid (World.ownsRow wr (w.heap.size + 2) 4 1 (.slice a2 k d2) k (flatU cs)) := (by have := HO2.out; rwa [List.take_of_length_le (by omega)] at this : World.ownsRow _ _ _ _ _ _ _)
      clear HO1 HO2
      go_wp2_with (first
        | (refine wpList_load_rowG (by rfl) 47 (.tmp 3) rfl (w.heap.size + 1) rfl _ _ _ _ HSg.out Try.underlying47 rfl (by kernel_rfl) ?_)
        | (refine wpList_store_row rfl 47 (.tmp 2) (.tmp 35) rfl w.heap.size #[.slice a1 k d1, .slice a2 k d2, .slice pg ng cg] rfl rfl _ _ HR.out (by kernel_rfl) rfl (by simp [Value.oneCell']) ?_))
      go_wp2
      have hYf := setRow_heap _ w.heap.size _ #[.slice a1 k d1, .slice a2 k d2, .slice pg ng cg] _ _ HR.out
      have hAf : Below w.heap.size w _ := Below.setRow hbel (g := w.heap.size) (Nat.le_refl _) #[.slice a1 k d1, .slice a2 k d2, .slice pg ng cg]
      have ks : ∀ {e : TypeId} {z n : Nat} {v : Value} {xs : List Value}, wr.ownsRow (w.heap.size + 2) e z v n xs → (wr.setRow w.heap.size #[.slice a1 k d1, .slice a2 k d2, .slice pg ng cg]).ownsRow w.heap.size e z v n xs := fun h => by
        refine ⟨h.1, h.2.imp id ?_⟩
        rintro ⟨g, cap, cur, x1, x2, x3, x4⟩
        exact ⟨g, cap, cur, x1, by omega, (setRow_other wr w.heap.size g _ (by omega)).trans x3, x4⟩
      exact bodyPost_ret (v := .agg #[.slice a1 k d1, .slice a2 k d2, .slice pg ng cg]) (results_cell_row Try.results100 _ _ w.heap.size _ _ _ _ rfl hYf Try.underlying47 rfl (by kernel_rfl)) rfl ⟨_, _, rfl, ks F1.out, ks F2.out, hAf⟩
end Go.Proofs.Ytklpaleghanhhaa
