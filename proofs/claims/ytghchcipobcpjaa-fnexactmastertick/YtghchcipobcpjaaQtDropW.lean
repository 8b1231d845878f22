/- WHAT IS OPEN OF AN ID DROPPED (slices.DeleteFunc), the program's. Written by mkdrop.py. -/
import Derived.Test.YtghchcipobcpjaaQtRecE
import Derived.Test.YtghchcipobcpjaaQtMstI
namespace Go.Proofs.Ytghchcipobcpjaa
open Go.RowKit
set_option linter.unusedVariables false
set_option linter.unusedSimpArgs false

def dropW (l : List Wt) (i : Int) : List Wt := l.filter fun x => x.i != i
theorem take_keep {l : List Wt} {i : Int} {k : Nat} (h : k < l.length) (hx : l[k].i ≠ i) : dropW (l.take (k + 1)) i = dropW (l.take k) i ++ [l[k]] := by
  unfold dropW
  rw [List.take_succ_eq_append_getElem h, List.filter_append]
  simp [hx]
theorem take_drop {l : List Wt} {i : Int} {k : Nat} (h : k < l.length) (hx : l[k].i = i) : dropW (l.take (k + 1)) i = dropW (l.take k) i := by
  unfold dropW
  rw [List.take_succ_eq_append_getElem h, List.filter_append]
  simp [hx]
theorem placeW_is {l : List Wt} {i : Int} (h : placeW l i < l.length) : (l[placeW l i]).i = i ∧ ∀ j (hj : j < placeW l i), (l[j]'(by omega)).i ≠ i := by
  unfold placeW at h ⊢
  exact ⟨by simpa using List.findIdx_getElem (w := h), fun j hj => by simpa using List.not_of_lt_findIdx hj⟩
theorem dropW_none : ∀ {l : List Wt} {i : Int}, (∀ j (hj : j < l.length), l[j].i ≠ i) → dropW l i = l
  | [], _, _ => rfl
  | x :: l, i, h => by
    have h0 : x.i ≠ i := h 0 (by simp)
    have ih := dropW_none (l := l) (i := i) fun j hj => h (j + 1) (by simpa using hj)
    unfold dropW at ih ⊢
    rw [List.filter_cons, if_pos (by simpa using h0), ih]
set_option maxRecDepth 100000 in
theorem drop1_any (x : Wt) (i : Int) (g : Nat) (w : World) (hg : ∀ W, Below w.heap.size w W → W.cell? ⟨g, 0, none⟩ = some (.int .i64 i)) :
    Calls Try.prog 73 #[.agg #[.int .i64 x.i, .string x.t, .int .i64 x.r, .int .i64 x.g], .pointer (some ⟨g, 0, none⟩)] w fun e w' => e = .returned (.bool (x.i == i)) ∧ Below w.heap.size w w' := by
  have hc := hg _ (all_alloc w (.cells #[.int .i64 x.i, .string x.t, .int .i64 x.r, .int .i64 x.g] 50))
  clear hg
  go_enter Try.func73, Try.ntmps73
  go_wp2
  go_ret
  exact ⟨rfl, all_alloc _ _⟩
set_option maxRecDepth 100000 in
set_option maxHeartbeats 1600000 in
theorem indexDrop_any (l : List Wt) (i : Int) (g : Nat) (v : Value) (w : World) (hl : l.length ≤ 1048576) (hg : ∀ W, Below w.heap.size w W → W.cell? ⟨g, 0, none⟩ = some (.int .i64 i)) (hr : RowW w v l) :
    Calls Try.prog 79 #[v, .func (.func 73) #[] #[.pointer (some ⟨g, 0, none⟩)]] w fun e w' => e = .returned (.int .i64 (atW l i)) ∧ Below w.heap.size w w' := by
  have HW : Hid (∀ W, Below w.heap.size w W → RowW W v l) := fun W hW => RowC.below hr hW
  have HG : Hid (∀ W, Below w.heap.size w W → ∀ x : Wt, Calls Try.prog 73 #[.agg #[.int .i64 x.i, .string x.t, .int .i64 x.r, .int .i64 x.g], .pointer (some ⟨g, 0, none⟩)] W fun e w' => e = .returned (.bool (x.i == i)) ∧ Below W.heap.size W w') := fun W hW x => drop1_any x i g W (fun Z hZ => hg Z (keepB hW (Nat.le_refl _) hZ))
  obtain ⟨p, c, rfl, _⟩ := hr
  clear hg
  obtain ⟨R, hR⟩ : ∃ R, Hid (atW l i = R) := ⟨_, (show _ = _ from rfl)⟩
  rw [hR.out]
  go_enter Try.func79, Try.ntmps79
  go_wp2
  go_loopw [8] (fun n wr => ∃ k : Nat, k ≤ l.length ∧ n = .int .i64 k ∧ Hid (∀ j (hj : j < k) (hj' : j < l.length), l[j].i ≠ i) ∧ Below w.heap.size w wr) (fun n _ => l.length - (intOf n).toNat)
  case atStart => exact ⟨0, Nat.zero_le _, rfl, (fun j hj => absurd hj (by omega) : ∀ j (hj : j < 0) (hj' : j < l.length), l[j].i ≠ i), Below.refl _ _⟩
  case round =>
    obtain ⟨k, hk, rfl, HB, hbel⟩ := hrel
    by_cases hlt : k < l.length
    · obtain ⟨g', o, c', e1, q1⟩ := RowC.at (HW.out wr hbel) k hlt
      cases e1
      have Q1 : Hid (∀ W, Below wr.heap.size wr W → W.rangeAt g' (o + k * 4) [.int .i64 l[k].i, .string l[k].t, .int .i64 l[k].r, .int .i64 l[k].g]) := q1
      clear q1
      have HC : Hid (∀ W, W = wr → Calls Try.prog 73 #[.agg #[.int .i64 l[k].i, .string l[k].t, .int .i64 l[k].r, .int .i64 l[k].g], .pointer (some ⟨g, 0, none⟩)] W fun e w' => e = .returned (.bool (l[k].i == i)) ∧ Below W.heap.size W w') := fun W hW => by subst hW; exact HG.out W hbel l[k]
      have HY : Hid (l[k].i = i → R = (k : Int)) := fun h => by rw [← hR.out]; exact atW_at hlt h (fun j hj => HB.out j hj (by omega))
      have HN : Hid (l[k].i ≠ i → ∀ j (hj : j < k + 1) (hj' : j < l.length), l[j].i ≠ i) := fun h j hj hj' => by
        by_cases h1 : j < k
        · exact HB.out j h1 hj'
        · obtain rfl : j = k := by omega
          exact h
      generalize l[k] = d at Q1 HC HY HN
      have hload : Hid True := trivial
      by_cases he : d.i = i
      · have hb : (d.i == i) = true := by simpa using he
        rw [hb] at HC
        obtain rfl := HY.out he
        clear he hb HY HN
        go_wp2_with (first
          | (have _ := hload; refine wpList_load_mid rfl 50 (.tmp 14) rfl g' (o + k * 4) rfl _ _ (Q1.out wr (Below.refl _ _)) Try.underlying50 rfl (by kernel_rfl) ?_; clear hload)
          | (go_at_call 73; refine (HC.out _ rfl).mono ?_; rintro e w2 ⟨rfl, hb2⟩))
        go_ret
        exact ⟨rfl, keepB hbel (Nat.le_refl _) hb2⟩
      · have hb : (d.i == i) = false := by simpa using he
        rw [hb] at HC
        have HN2 : Hid (∀ j (hj : j < k + 1) (hj' : j < l.length), l[j].i ≠ i) := HN.out he
        clear he hb HY HN
        go_wp2_with (first
          | (have _ := hload; refine wpList_load_mid rfl 50 (.tmp 14) rfl g' (o + k * 4) rfl _ _ (Q1.out wr (Below.refl _ _)) Try.underlying50 rfl (by kernel_rfl) ?_; clear hload)
          | (go_at_call 73; refine (HC.out _ rfl).mono ?_; rintro e w2 ⟨rfl, hb2⟩))
        go_roundw
        case rel => exact ⟨k + 1, by omega, by go_num, HN2.out, keepB hbel (Nat.le_refl _) hb2⟩
        case measure => simp [intOf] <;> omega
    · have hkk : k = l.length := by omega
      obtain rfl : R = -1 := by rw [← hR.out]; exact atW_no (fun j hj => HB.out j (by omega) hj)
      clear hkk
      go_wp2
      go_ret
      exact ⟨rfl, hbel⟩
/-- how far it has come: P are kept of the first J -/
structure Kept (l L : List Wt) (i : Int) (P J : Nat) : Prop where
  len : L.length = l.length
  done : L.take P = dropW (l.take J) i
  rest : L.drop J = l.drop J
theorem Kept.at {l L : List Wt} {i : Int} {P J : Nat} (h : Kept l L i P J) (hJ : J < l.length) : L[J]'(by rw [h.len]; exact hJ) = l[J] := by
  have e : (L.drop J)[0]? = (l.drop J)[0]? := by rw [h.rest]
  rw [List.getElem?_drop, List.getElem?_drop, Nat.add_zero, List.getElem?_eq_getElem (by rw [h.len]; exact hJ), List.getElem?_eq_getElem hJ] at e
  exact Option.some.inj e
theorem drop_more {α : Type} {L l : List α} {J : Nat} (h : L.drop J = l.drop J) : L.drop (J + 1) = l.drop (J + 1) := by
  rw [← List.drop_drop, ← List.drop_drop, h]
theorem Kept.skip {l L : List Wt} {i : Int} {P J : Nat} (h : Kept l L i P J) (hJ : J < l.length) (hx : l[J].i = i) : Kept l L i P (J + 1) :=
  ⟨h.len, by rw [take_drop hJ hx]; exact h.done, drop_more h.rest⟩
theorem Kept.keep {l L : List Wt} {i : Int} {P J : Nat} (h : Kept l L i P J) (hPJ : P < J) (hJ : J < l.length) (hx : l[J].i ≠ i) : Kept l (L.set P l[J]) i (P + 1) (J + 1) := by
  have hl := h.len
  refine ⟨by rw [List.length_set]; exact hl, ?_, ?_⟩
  · rw [take_keep hJ hx, ← h.done, List.take_succ_eq_append_getElem (by rw [List.length_set]; omega), List.getElem_set_self, List.take_set_of_le (Nat.le_refl _)]
  · rw [List.drop_set_of_lt (by omega)]
    exact drop_more h.rest
set_option maxRecDepth 100000 in
set_option maxHeartbeats 3200000 in
theorem deleteWait_any (l : List Wt) (i : Int) (g G c base : Nat) (w : World) (hl : l.length ≤ 1000) (hgG : g ≠ G) (hX : w.heap[g]? = some (.cells #[.int .i64 i] 2 (0, 0))) (hp : placeW l i < l.length) (h : OwnKW w base (.slice (some ⟨G, 0, none⟩) l.length c) l) :
    Calls Try.prog 72 #[.slice (some ⟨G, 0, none⟩) l.length c, .func (.func 73) #[] #[.pointer (some ⟨g, 0, none⟩)]] w fun e w' => e = .returned (.slice (some ⟨G, 0, none⟩) (dropW l i).length c) ∧ OwnKW w' base (.slice (some ⟨G, 0, none⟩) (dropW l i).length c) (dropW l i) ∧ OnlyR w w' G (G + 1) := by
  obtain ⟨iW, TW⟩ := tyW
  have hglt := (Array.getElem?_eq_some_iff.1 hX).1
  have hGlt := (OwnK.lt h G rfl).2
  have hrow : RowW w (.slice (some ⟨G, 0, none⟩) l.length c) l := OwnC.row (OwnK.c wtC_len h (fun k e => by cases e; exact hGlt) (Nat.le_refl _))
  have hat : atW l i = (placeW l i : Int) := by unfold atW; rw [if_pos hp]
  obtain ⟨hp1, hp2⟩ := placeW_is hp
  have HIX : Hid (∀ W, W = w → Calls Try.prog 79 #[.slice (some ⟨G, 0, none⟩) l.length c, .func (.func 73) #[] #[.pointer (some ⟨g, 0, none⟩)]] W fun e w' => e = .returned (.int .i64 (placeW l i : Int)) ∧ Below W.heap.size W w') := fun W hW => by subst hW; rw [← hat]; exact indexDrop_any l i g _ W (by omega) (fun Z hZ => cellW hX 0 _ rfl Z hZ) hrow
  have HC : Hid (∀ (W : World) (x : Wt), W.heap[g]? = some (.cells #[.int .i64 i] 2 (0, 0)) → Calls Try.prog 73 #[.agg #[.int .i64 x.i, .string x.t, .int .i64 x.r, .int .i64 x.g], .pointer (some ⟨g, 0, none⟩)] W fun e w' => e = .returned (.bool (x.i == i)) ∧ Below W.heap.size W w') := fun W x hW => drop1_any x i g W (fun Z hZ => cellW hW 0 _ rfl Z hZ)
  have hne1 : ((placeW l i : Int) == -1) = false := beq_eq_false_iff_ne.2 (by omega)
  have HK0 : Hid (Kept l l i (placeW l i) (placeW l i + 1)) := (⟨rfl, by rw [take_drop hp hp1, dropW_none]; intro j hj; rw [List.getElem_take]; exact hp2 j (by rw [List.length_take] at hj; omega), rfl⟩ : Kept l l i (placeW l i) (placeW l i + 1))
  clear hp1 hp2
  generalize placeW l i = P0 at HIX hne1 HK0 hp
  have HX : Hid _ := hX
  have HO0 : Hid (OwnKW w base (.slice (some ⟨G, 0, none⟩) l.length c) l) := h
  have HTW : Hid _ := TW
  obtain ⟨n, hn⟩ : ∃ n, l.length = n := ⟨_, rfl⟩
  rw [hn] at HIX HO0 hp hl ⊢
  have HN : Hid (l.length = n) := hn
  clear hX h TW hat hrow hn
  obtain ⟨D, HD⟩ : ∃ D, Hid (dropW l i = D) := ⟨_, (show _ = _ from rfl)⟩
  rw [HD.out]
  go_enter Try.func72, Try.ntmps72
  go_wp2_with (go_at_call 79; refine (HIX.out _ rfl).mono ?_; rintro e w1 ⟨rfl, hb1⟩)
  go_loopw [5, 6] (fun p j wr => ∃ (P J : Nat) (L : List Wt), p = .int .i64 P ∧ j = .int .i64 J ∧ P < J ∧ J ≤ n ∧ Hid (Kept l L i P J) ∧ Hid (OwnKW wr base (.slice (some ⟨G, 0, none⟩) n c) L) ∧ Hid (OnlyR w wr G (G + 1))) (fun _ j _ => n - (intOf j).toNat)
  case atStart => exact ⟨P0, P0 + 1, l, rfl, by go_num, by omega, by omega, HK0.out, OwnK.below HO0.out hb1, OnlyR.below hb1⟩
  case round =>
    obtain ⟨P, J, L, rfl, rfl, hPJ, hJ, HK, HO, HT⟩ := hrel
    have hbX : Hid (wr.heap[g]? = some (.cells #[.int .i64 i] 2 (0, 0))) := (HT.out.block g hglt (by omega)).trans HX.out
    by_cases hlt : J < n
    · have hJl : J < l.length := by rw [HN.out]; exact hlt
      have hLl : L.length = n := HK.out.len.trans HN.out
      obtain ⟨z1, z2, z3, z4, cur, hcur, hcs, hrg⟩ := OwnK.ranges wtC_len HO.out
      have q := hrg J (by omega)
      rw [HK.out.at hJl] at q
      have HY : Hid (l[J].i = i → Kept l L i P (J + 1)) := fun e => HK.out.skip hJl e
      have HNO : Hid (l[J].i ≠ i → Kept l (L.set P l[J]) i (P + 1) (J + 1)) := fun e => HK.out.keep hPJ hJl e
      have HSET : Hid (∀ W, Below wr.heap.size wr W → W.there G (P * 4) 4 ∧ OwnKW (W.setCells G (P * 4) (wtC l[J])) base (.slice (some ⟨G, 0, none⟩) n c) (L.set P l[J])) := fun W hW => OwnK.setr wtC_len (OwnK.below HO.out hW) P (by omega) l[J]
      have hGr := (OwnK.lt HO.out G rfl).2
      clear hcur hcs hrg cur z1 z2 z3 z4
      generalize l[J] = x at q HY HNO HSET
      have Q1 : Hid (wr.rangeAt G (J * 4) [.int .i64 x.i, .string x.t, .int .i64 x.r, .int .i64 x.g]) := q
      clear q HK hLl hJl
      have hload : Hid True := trivial
      have hPn : P < n := by omega
      go_upto_region 8 with (first
        | (have _ := hload; refine wpList_load_mid rfl 50 (.tmp 24) rfl G (J * 4) rfl _ _ Q1.out Try.underlying50 rfl (by kernel_rfl) ?_; clear hload)
        | (refine wpList_store_row rfl 50 (.tmp 7) (.tmp 25) rfl wr.heap.size #[.int .i64 x.i, .string x.t, .int .i64 x.r, .int .i64 x.g] rfl rfl _ _ (heap_alloc_new wr _) (by kernel_rfl) rfl (by simp [Value.oneCell']) ?_))
      have h7 : Hid _ := setRow_heap _ wr.heap.size _ #[.int .i64 x.i, .string x.t, .int .i64 x.r, .int .i64 x.g] _ _ (heap_alloc_new wr (.cells #[.int .i64 0, .string ⟨#[]⟩, .int .i64 0, .int .i64 0] 50))
      have hb7 : Below wr.heap.size wr ((wr.alloc (.cells #[.int .i64 0, .string ⟨#[]⟩, .int .i64 0, .int .i64 0] 50)).setRow wr.heap.size #[.int .i64 x.i, .string x.t, .int .i64 x.r, .int .i64 x.g]) := rcRow_fresh _ _ _
      generalize ((wr.alloc (.cells #[.int .i64 0, .string ⟨#[]⟩, .int .i64 0, .int .i64 0] 50)).setRow wr.heap.size #[.int .i64 x.i, .string x.t, .int .i64 x.r, .int .i64 x.g]) = A at h7 hb7 ⊢
      have hXA : Hid (A.heap[g]? = some (.cells #[.int .i64 i] 2 (0, 0))) := blk hbX.out hb7
      obtain ⟨N, hN⟩ : ∃ N, wr.heap.size = N := ⟨_, rfl⟩
      rw [hN] at h7 ⊢
      by_cases he : x.i = i
      · have hb : (x.i == i) = true := by simpa using he
        have HC1 : Hid (Calls Try.prog 73 #[.agg #[.int .i64 x.i, .string x.t, .int .i64 x.r, .int .i64 x.g], .pointer (some ⟨g, 0, none⟩)] A fun e w' => e = .returned (.bool true) ∧ Below A.heap.size A w') := by rw [← hb]; exact HC.out A x hXA.out
        have HK1 : Hid (Kept l L i P (J + 1)) := HY.out he
        clear he hb HY HNO hN
        go_wp2_with (first
          | (refine wpList_load_rowG (by first | rfl | (simp only [Region.wanted, yielded]; rfl)) 50 (.tmp 7) rfl N rfl _ _ _ _ h7.out Try.underlying50 rfl (by kernel_rfl) ?_)
          | (go_at_call 73; refine HC1.out.mono ?_; rintro e w8 ⟨rfl, hb8⟩))
        go_roundw
        case rel => refine ⟨P, J + 1, L, rfl, by go_num, by omega, by omega, HK1.out, OwnK.below HO.out (keepB hb7 (Nat.le_refl _) hb8), HT.out.trans (OnlyR.below (keepB hb7 (Nat.le_refl _) hb8))⟩
        case measure => simp [intOf]; omega
      · have hb : (x.i == i) = false := by simpa using he
        have HC1 : Hid (Calls Try.prog 73 #[.agg #[.int .i64 x.i, .string x.t, .int .i64 x.r, .int .i64 x.g], .pointer (some ⟨g, 0, none⟩)] A fun e w' => e = .returned (.bool false) ∧ Below A.heap.size A w') := by rw [← hb]; exact HC.out A x hXA.out
        have HK1 : Hid (Kept l (L.set P x) i (P + 1) (J + 1)) := HNO.out he
        clear he hb HY HNO hN
        go_wp2_with (first
          | (go_at_call 73; refine HC1.out.mono ?_; rintro e w8 ⟨rfl, hb8⟩; obtain ⟨ht8, hs8⟩ := HSET.out w8 (keepB hb7 (Nat.le_refl _) hb8); have HT8 : Hid _ := ht8; have HS8 : Hid (OwnKW (w8.setCells G (P * 4) (wtC x)) base (.slice (some ⟨G, 0, none⟩) n c) (L.set P x)) := hs8; have H78 : Hid _ := blk h7.out hb8; clear ht8 hs8 HC1)
          | (have _ := HC1; refine wpList_load_rowG (by first | rfl | (simp only [Region.wanted, yielded]; rfl)) 50 (.tmp 7) rfl N rfl _ _ _ _ h7.out Try.underlying50 rfl (by kernel_rfl) ?_)
          | (refine wpList_load_rowG (by first | rfl | (simp only [Region.wanted, yielded]; rfl)) 50 (.tmp 7) rfl N rfl _ _ _ _ H78.out Try.underlying50 rfl (by kernel_rfl) ?_; clear H78)
          | (refine wpList_store_mid rfl 50 (.tmp 33) (.tmp 32) rfl G (P * 4) _ rfl rfl HT8.out (by kernel_rfl) (by simp [Value.oneCell']) ?_; clear HT8))
        go_roundw
        case rel => exact ⟨P + 1, J + 1, L.set P x, by go_num, by go_num, by omega, by omega, HK1.out, HS8.out, HT.out.trans (OnlyR.trans (OnlyR.below (keepB hb7 (Nat.le_refl _) hb8)) ⟨(rcBelow_setCells (B := 0) G (Nat.zero_le _) _ _ _ (Below.refl _ _)).os, (rcBelow_setCells (B := 0) G (Nat.zero_le _) _ _ _ (Below.refl _ _)).tape, (rcBelow_setCells (B := 0) G (Nat.zero_le _) _ _ _ (Below.refl _ _)).output, by rw [rcSetCells_size]; exact Nat.le_refl _, fun k hk ho => rcSetCells_far _ _ _ _ _ (by omega)⟩)⟩
        case measure => simp [intOf]; omega
    · obtain rfl : J = n := by omega
      have hfin : dropW l i = L.take P := by
        have := HK.out.done
        rw [← HN.out, List.take_length] at this
        exact this.symm
      have hLl : L.length = J := HK.out.len.trans HN.out
      obtain ⟨z1, hbG, hcm, hlc, cur, hcur, hcs, z2⟩ := OwnK.ranges wtC_len HO.out
      have hcut := OwnK.cut wtC_len HO.out P (by omega)
      have hcl : ∀ ty, (Builtin.clear_ #[27] ty #[.slice (some ⟨G, P * 4, none⟩) (J - P) (c - P)]).run Try.prog wr = .ok (.tuple #[]) (wr.setCells G (P * 4) (Builtin.zeroCells (Value.agg #[.int .i64 0, .string ⟨#[]⟩, .int .i64 0, .int .i64 0]).cells (J - P)).toList) := fun ty => run_clear_rec wr 27 50 ty _ 4 HTW.out.u (zeroRun HTW.out.hi HTW.out.hz) rfl (by simp [Value.cells, Value.oneCell']) G (P * 4) (J - P) (c - P) (by omega) (rcThere hcur _ _ (by omega))
      have HCUT : Hid (∀ vs, OwnKW (wr.setCells G (P * 4) vs) base (.slice (some ⟨G, 0, none⟩) P c) (L.take P)) := hcut
      have hPl : (L.take P).length = P := by rw [List.length_take]; omega
      obtain rfl : D = L.take P := by rw [← HD.out]; exact hfin
      have hcP : ¬ c = P := by omega
      have hPc : P ≤ c := by omega
      have hPJ' : P ≤ J := by omega
      have HPL : Hid ((L.take P).length = P) := hPl
      clear hcut hfin hPl hcur hcs hLl z1 z2 hlc hcm
      generalize (Builtin.zeroCells (Value.agg #[.int .i64 0, .string ⟨#[]⟩, .int .i64 0, .int .i64 0]).cells (J - P)).toList = vs at hcl
      go_wp2
      go_ret
      exact ⟨by rw [HPL.out]; rfl, by rw [HPL.out]; exact HCUT.out vs, HT.out.trans ⟨(rcBelow_setCells (B := 0) G (Nat.zero_le _) _ _ _ (Below.refl _ _)).os, (rcBelow_setCells (B := 0) G (Nat.zero_le _) _ _ _ (Below.refl _ _)).tape, (rcBelow_setCells (B := 0) G (Nat.zero_le _) _ _ _ (Below.refl _ _)).output, by rw [rcSetCells_size]; exact Nat.le_refl _, fun k hk ho => rcSetCells_far _ _ _ _ _ (by omega)⟩⟩
end Go.Proofs.Ytghchcipobcpjaa
