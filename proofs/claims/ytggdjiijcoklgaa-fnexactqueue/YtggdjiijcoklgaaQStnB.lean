/- THE LAW'S OWN COPIES: of what others told all, and of texts. -/
import Derived.Test.YtggdjiijcoklgaaQTail
import Derived.Test.YtggdjiijcoklgaaQTabIn
import Derived.Deep.DeepCutAuto
namespace Go.Proofs.Ytggdjiijcoklgaa
open Go.RowKit
set_option linter.unusedVariables false
set_option linter.unusedSimpArgs false

theorem OwnT4.cell {w : World} {base : Nat} {a : Option Addr} {n cap : Nat} {ss : List ByteArray} (h : OwnT4 w base (.slice a n cap) ss) (k : Nat) (hk : k < ss.length) : ∃ g, a = some ⟨g, 0, none⟩ ∧ base ≤ g ∧ g < w.heap.size ∧ w.cell? ⟨g, k, none⟩ = some (.string ss[k]) ∧ w.frozen? ⟨g, k, none⟩ = false := by
  rcases h.2 with ⟨h1, h0⟩ | ⟨g, cap', cur, h1, hb, hg, _⟩
  · omega
  · cases h1
    refine ⟨g, rfl, hb, (Array.getElem?_eq_some_iff.1 hg).1, ?_, World.ownsRow.frozenAt h k⟩
    rw [World.ownsRow.cellAt h k (by omega), List.getElem?_map, List.getElem?_eq_getElem hk]
    rfl
theorem OwnT4.below {w w' : World} {base : Nat} {v : Value} {ss : List ByteArray} (h : OwnT4 w base v ss) (hb : Below w.heap.size w w') : OwnT4 w' base v ss := by
  refine ⟨h.1, h.2.imp id ?_⟩
  rintro ⟨g, cap, cur, e1, e2, e3, e4⟩
  exact ⟨g, cap, cur, e1, e2, (hb.block g (Array.getElem?_eq_some_iff.1 e3).1).trans e3, e4⟩
theorem OwnT4.set {w : World} {base g n cap : Nat} {ss : List ByteArray} (h : OwnT4 w base (.slice (some ⟨g, 0, none⟩) n cap) ss) (j : Nat) (hj : j < ss.length) (m : ByteArray) : OwnT4 (w.setCell ⟨g, j, none⟩ (.string m)) base (.slice (some ⟨g, 0, none⟩) n cap) (ss.set j m) := by
  have hn : n = ss.length := by rcases h.2 with ⟨h1, _⟩ | ⟨g, cap, cur, h1, _⟩ <;> cases h1; rfl
  subst hn
  have := (World.ownsRow.stored h j (.string m)).1
  unfold OwnT4
  rw [List.length_set, List.map_set]
  exact this
theorem OwnT4.lt {w : World} {base : Nat} {v : Value} {ss : List ByteArray} (h : OwnT4 w base v ss) : ∀ k, v.ownBlock = some k → base ≤ k ∧ k < w.heap.size := World.ownsRow.lt h
theorem infoT4 : (Try.prog.info? 9).map (fun i => (i.zero, i.size, i.bytes)) = some (some (.string ⟨#[]⟩), 1, 16) := by kernel_rfl
theorem infoG4 : (Try.prog.info? 118).map (fun i => (i.zero, i.size, i.bytes)) = some (some (.agg #[.int .i64 0, .slice none 0 0]), 2, 32) := by kernel_rfl
theorem set_midS {l m : List ByteArray} {c : ByteArray} (h : m ≠ []) : (l ++ m).set l.length c = (l ++ [c]) ++ m.drop 1 := by
  cases m with
  | nil => exact absurd rfl h
  | cons a m => simp
theorem copy_stepS (zs : List ByteArray) (j : Nat) (h : j < zs.length) : (zs.take j ++ List.replicate (zs.length - j) (⟨#[]⟩ : ByteArray)).set j zs[j] = zs.take (j + 1) ++ List.replicate (zs.length - (j + 1)) ⟨#[]⟩ := by
  have := set_midS (l := zs.take j) (m := List.replicate (zs.length - j) (⟨#[]⟩ : ByteArray)) (c := zs[j]) (by intro e; have := congrArg List.length e; simp at this; omega)
  rw [List.length_take, Nat.min_eq_left (by omega)] at this
  rw [this, List.take_succ_eq_append_getElem h, List.drop_replicate, Nat.sub_sub]
theorem zeros_listS (n : Nat) : (madeCells (Value.string ⟨#[]⟩).cells (n * 1)).toList = (List.replicate n (⟨#[]⟩ : ByteArray)).map Value.string := by
  rw [show (Value.string ⟨#[]⟩).cells = #[Value.string ⟨#[]⟩] from rfl, toList_madeCells_one, List.map_replicate, Nat.mul_one]
set_option maxRecDepth 100000 in
set_option maxHeartbeats 800000 in
theorem toStringS_any (a : Option Addr) (c : Nat) (zs : List ByteArray) (w : World) (hl : zs.length ≤ 1048576) (hr : InS w a zs) :
    Calls Try.prog 41 #[.slice a zs.length c] w fun e w' => ∃ v, e = .returned v ∧ OwnT4 w' w.heap.size v zs ∧ Below w.heap.size w w' := by
  obtain ⟨i0, hi, hz0, hz1, hz2⟩ := info_parts infoT4
  have HR : Hid _ := hr.2.2
  clear hr
  go_enter Try.func41, Try.ntmps41
  go_wp2_with (at_make; refine wpList_make_full _ rfl (.tmp 6) (.tmp 6) 26 rfl w.heap.size 9 i0 (.string ⟨#[]⟩) 1 Try.underlying26 hi hz0 hz1 .i64 .i64 _ _ zs.length rfl rfl (by omega) (by omega) (by rw [hz2]; omega) (by unfold maxLen; omega) (Nat.le_refl _) ?_; intro w1 hown1 hgrow1; have hB1 := (Below.refl w.heap.size w).grown hgrow1 (Nat.le_refl _) (fun k e => by cases e); rw [zeros_listS] at hown1)
  have HO1 : Hid (OwnT4 w1 w.heap.size (.slice (some ⟨w.heap.size, 0, none⟩) zs.length zs.length) (zs.take 0 ++ List.replicate (zs.length - 0) ⟨#[]⟩)) := by
    show OwnT4 _ _ _ _
    rw [List.take_zero, List.nil_append, Nat.sub_zero]
    unfold OwnT4
    rw [List.length_replicate]
    exact hown1
  clear hown1 hgrow1
  go_loopw [4] (fun i wr => ∃ j : Nat, j ≤ zs.length ∧ i = .int .i64 j ∧ Hid (OwnT4 wr w.heap.size (.slice (some ⟨w.heap.size, 0, none⟩) zs.length zs.length) (zs.take j ++ List.replicate (zs.length - j) ⟨#[]⟩)) ∧ Below w.heap.size w wr) (fun i _ => zs.length - (intOf i).toNat)
  case atStart => exact ⟨0, Nat.zero_le _, rfl, HO1.out, hB1⟩
  case round =>
    obtain ⟨j, hj, rfl, HW, hbel⟩ := hrel
    have hlen : (zs.take j ++ List.replicate (zs.length - j) (⟨#[]⟩ : ByteArray)).length = zs.length := by rw [List.length_append, List.length_take, List.length_replicate]; omega
    by_cases hlt : j < zs.length
    · have hk : j < (zs.take j ++ List.replicate (zs.length - j) (⟨#[]⟩ : ByteArray)).length := by rw [hlen]; exact hlt
      obtain ⟨g, hpg, _, hgl, hq, hf⟩ := HW.out.cell j hk
      cases hpg
      obtain ⟨ga, oa, rfl, la, qa⟩ := HR.out j hlt
      have qa' := (hbel.cell (p := ⟨ga, oa + j, none⟩) la).trans qa
      clear qa
      have HST : Hid _ := copy_stepS zs j hlt
      generalize hzj : zs[j] = z at qa' HST
      have h1 := HW.out.set j hk z
      generalize (zs.take j ++ List.replicate (zs.length - j) (⟨#[]⟩ : ByteArray))[j] = old at hq
      go_wp2
      go_roundw
      case rel => exact ⟨j + 1, by omega, by go_num, (show OwnT4 _ _ _ _ by rw [← HST.out]; exact h1), hbel.setCell (Nat.le_refl _) _⟩
      case measure => simp [intOf]; omega
    · obtain rfl : j = zs.length := by omega
      go_wp2
      go_ret
      refine ⟨_, rfl, ?_, hbel⟩
      have := HW.out
      rwa [List.take_length, Nat.sub_self, List.replicate_zero, List.append_nil] at this
set_option maxRecDepth 100000 in
set_option maxHeartbeats 1600000 in
theorem toGlob_any (a : Int) (p : Option Addr) (c : Nat) (zs : List Int) (w : World) (hl : zs.length ≤ 1048576) (hin : InI w p zs) :
    Calls Try.prog 86 #[.agg #[.int .i64 a, .slice p zs.length c]] w fun x w' => ∃ v, x = .returned (.agg #[.int .i64 a, v]) ∧ OwnI w' w.heap.size v zs ∧ Below w.heap.size w w' := by
  have H1 : Hid (∀ W, Below w.heap.size w W → Calls Try.prog 22 #[.slice p zs.length c] W fun e w' => ∃ v, e = .returned v ∧ OwnI w' W.heap.size v zs ∧ Below W.heap.size W w') := fun W hW => toInt64S_any p c zs W hl (hin.below hW)
  clear hin
  go_enter Try.func86, Try.ntmps86
  go_upto_region 3 with fail
  have hX : Hid _ := blk (blk (heap_alloc_new w (.cells #[.int .i64 a, .slice p zs.length c] 112)) (all_alloc _ (.cells #[.int .i64 0, .slice none 0 0] 118))) (all_alloc _ (.cells #[.int .i64 a, .slice none 0 0] 118))
  have hY : Hid _ := blk (heap_alloc_new (w.alloc (.cells #[.int .i64 a, .slice p zs.length c] 112)) (.cells #[.int .i64 0, .slice none 0 0] 118)) (all_alloc _ (.cells #[.int .i64 a, .slice none 0 0] 118))
  have hZ : Hid _ := heap_alloc_new ((w.alloc (.cells #[.int .i64 a, .slice p zs.length c] 112)).alloc (.cells #[.int .i64 0, .slice none 0 0] 118)) (.cells #[.int .i64 a, .slice none 0 0] 118)
  have hA0 : Below w.heap.size w (((w.alloc (.cells #[.int .i64 a, .slice p zs.length c] 112)).alloc (.cells #[.int .i64 0, .slice none 0 0] 118)).alloc (.cells #[.int .i64 a, .slice none 0 0] 118)) := keepB (keepB (all_alloc w _) (Nat.le_refl _) (all_alloc _ _)) (Nat.le_refl _) (all_alloc _ _)
  have e1 : (w.alloc (.cells #[.int .i64 a, .slice p zs.length c] 112)).heap.size = w.heap.size + 1 := by simp
  have e2 : ((w.alloc (.cells #[.int .i64 a, .slice p zs.length c] 112)).alloc (.cells #[.int .i64 0, .slice none 0 0] 118)).heap.size = w.heap.size + 1 + 1 := by simp
  have e3 : (((w.alloc (.cells #[.int .i64 a, .slice p zs.length c] 112)).alloc (.cells #[.int .i64 0, .slice none 0 0] 118)).alloc (.cells #[.int .i64 a, .slice none 0 0] 118)).heap.size = w.heap.size + 1 + 1 + 1 := by simp
  rw [e1] at hY
  rw [e2] at hZ
  generalize ((w.alloc (.cells #[.int .i64 a, .slice p zs.length c] 112)).alloc (.cells #[.int .i64 0, .slice none 0 0] 118)).alloc (.cells #[.int .i64 a, .slice none 0 0] 118) = A at hX hY hZ hA0 e3 ⊢
  clear e1 e2
  have x1 := cellW hX.out 1 _ rfl A (Below.refl _ _)
  go_wp2_with (go_at_call 22; refine (H1.out _ hA0).mono ?_; rintro e w4 ⟨v', rfl, own2, hb4⟩; obtain ⟨pu, cu, rfl⟩ := own2.shape; have hY4 : Hid _ := blk hY.out hb4; have hZ4 : Hid _ := blk hZ.out hb4; have z0 := cellW hZ4.out 0 _ rfl w4 (Below.refl _ _); have z1 := cellW hZ4.out 1 _ rfl w4 (Below.refl _ _); have f1 := frozenW hZ4.out 1 w4 (Below.refl _ _); have y0 := cellW hY4.out 0 _ rfl w4 (Below.refl _ _); have y1 := cellW hY4.out 1 _ rfl w4 (Below.refl _ _); have g0 := frozenW hY4.out 0 w4 (Below.refl _ _); have g1 := frozenW hY4.out 1 w4 (Below.refl _ _))
  have hB4 : Below w.heap.size w w4 := keepB hA0 (Nat.le_refl _) hb4
  exact bodyPost_ret (v := .agg #[.int .i64 a, .slice pu zs.length cu]) (by simp [results, Try.results86, go_sem, y0, y1]) rfl ⟨_, rfl, OwnI.leT (OwnI.farT (OwnI.farT (OwnI.farT own2 (by simp only; omega) _) (by simp only; omega) _) (by simp only; omega) _) (by omega), (Below.setCell (Below.setCell (Below.setCell hB4 (by simp only; omega) _) (by simp only; omega) _) (by simp only; omega) _)⟩
end Go.Proofs.Ytggdjiijcoklgaa
/- THE LAW'S OWN COPY of what others told all. -/
namespace Go.Proofs.Ytggdjiijcoklgaa
open Go.RowKit
set_option linter.unusedVariables false
set_option linter.unusedSimpArgs false

theorem owns_below {w w' : World} {base : Nat} {e : TypeId} {k : Nat} {v : Value} {n : Nat} {xs : List Value} (h : w.ownsRow base e k v n xs) (hb : Below w.heap.size w w') : w'.ownsRow base e k v n xs := by
  refine ⟨h.1, h.2.imp id ?_⟩
  rintro ⟨g, cap, cur, e1, e2, e3, e4⟩
  exact ⟨g, cap, cur, e1, e2, (hb.block g (Array.getElem?_eq_some_iff.1 e3).1).trans e3, e4⟩
theorem owns_far {w : World} {base : Nat} {e : TypeId} {k : Nat} {v : Value} {n : Nat} {xs : List Value} (h : w.ownsRow base e k v n xs) {a : Addr} (ha : a.block < base) (x : Value) : (w.setCell a x).ownsRow base e k v n xs := by
  refine ⟨h.1, h.2.imp id ?_⟩
  rintro ⟨g, cap, cur, e1, e2, e3, e4⟩
  exact ⟨g, cap, cur, e1, e2, (Below.heap_setCell _ _ _ _ (by omega)).trans e3, e4⟩
theorem owns_le {w : World} {base B : Nat} {e : TypeId} {k : Nat} {v : Value} {n : Nat} {xs : List Value} (h : w.ownsRow base e k v n xs) (hB : B ≤ base) : w.ownsRow B e k v n xs := by
  refine ⟨h.1, h.2.imp id ?_⟩
  rintro ⟨g, cap, cur, e1, e2, e3⟩
  exact ⟨g, cap, cur, e1, Nat.le_trans hB e2, e3⟩
theorem OwnG.below {w w' : World} {base : Nat} {v : Value} {gs : List (Int × List Int)} (h : OwnG w base v gs) (hb : Below w.heap.size w w') : OwnG w' base v gs := by
  obtain ⟨ps, hl, hr, hk, hd, hn⟩ := h
  exact ⟨ps, hl, owns_below hr hb, fun k h1 h2 => ⟨(hk k h1 h2).1, (hk k h1 h2).2.below hb⟩, hd, hn⟩
theorem OwnG.farT {w : World} {base : Nat} {v : Value} {gs : List (Int × List Int)} (h : OwnG w base v gs) {a : Addr} (ha : a.block < base) (x : Value) : OwnG (w.setCell a x) base v gs := by
  obtain ⟨ps, hl, hr, hk, hd, hn⟩ := h
  exact ⟨ps, hl, owns_far hr ha x, fun k h1 h2 => ⟨(hk k h1 h2).1, (hk k h1 h2).2.farT ha x⟩, hd, hn⟩
theorem OwnG.leT {w : World} {base B : Nat} {v : Value} {gs : List (Int × List Int)} (h : OwnG w base v gs) (hB : B ≤ base) : OwnG w B v gs := by
  obtain ⟨ps, hl, hr, hk, hd, hn⟩ := h
  exact ⟨ps, hl, owns_le hr hB, fun k h1 h2 => ⟨(hk k h1 h2).1, (hk k h1 h2).2.leT hB⟩, hd, hn⟩
theorem OwnT4.farT {w : World} {base : Nat} {v : Value} {ss : List ByteArray} (h : OwnT4 w base v ss) {a : Addr} (ha : a.block < base) (x : Value) : OwnT4 (w.setCell a x) base v ss := owns_far h ha x
theorem OwnT4.leT {w : World} {base B : Nat} {v : Value} {ss : List ByteArray} (h : OwnT4 w base v ss) (hB : B ≤ base) : OwnT4 w B v ss := owns_le h hB
/-- the first of them copied -/
def PartG (w : World) (r n : Nat) (gs : List (Int × List Int)) (j : Nat) : Prop :=
  ∃ ps : List (Int × Value), ps.length = n ∧ w.ownsRow r 118 2 (.slice (some ⟨r, 0, none⟩) n n) n (flatP ps) ∧
    (∀ k (hk : k < j) (h : k < gs.length) (h' : k < ps.length), ps[k].1 = gs[k].1 ∧ OwnI w (r + 1) ps[k].2 gs[k].2) ∧
    (∀ i k a (hi : i < j) (hk : k < j) (h1 : i < ps.length) (h2 : k < ps.length), ps[i].2.ownBlock = some a → ps[k].2.ownBlock = some a → i = k)
theorem PartG.step {w w2 : World} {r n j : Nat} {gs : List (Int × List Int)} (h : PartG w r n gs j) (hn : n = gs.length) (hj : j < gs.length) (hb : Below w.heap.size w w2) (v : Value) (ho : OwnI w2 w.heap.size v gs[j].2) :
    PartG ((w2.setCell ⟨r, j * 2, none⟩ (.int .i64 gs[j].1)).setCell ⟨r, j * 2 + 1, none⟩ v) r n gs (j + 1) := by
  obtain ⟨ps, hl, hr, hk, hd⟩ := h
  have hrw : r < w.heap.size := (hr.lt r rfl).2
  refine ⟨ps.set j (gs[j].1, v), by rw [List.length_set]; exact hl, ?_, ?_, ?_⟩
  · have h1 := (World.ownsRow.stored (owns_below hr hb) (j * 2) (.int .i64 gs[j].1)).1
    have h2 := (World.ownsRow.stored h1 (j * 2 + 1) v).1
    rw [flatP_set ps j gs[j].1 v (by omega)] at h2
    exact h2
  · intro k hk1 h1 h2
    by_cases hkj : k = j
    · subst hkj
      rw [List.getElem_set_self]
      exact ⟨rfl, OwnI.farT (OwnI.farT (OwnI.leT ho (by omega)) (by simp only; omega) _) (by simp only; omega) _⟩
    · rw [List.getElem_set_ne (fun e => hkj e.symm)]
      obtain ⟨a1, a2⟩ := hk k (by omega) h1 (by omega)
      exact ⟨a1, OwnI.farT (OwnI.farT (a2.below hb) (by simp only; omega) _) (by simp only; omega) _⟩
  · intro i k a hi hk1 h1 h2 e1 e2
    have key : ∀ m (hm : m < j) (h3 : m < ps.length), ps[m].2.ownBlock = some a → a < w.heap.size := fun m hm h3 e => (OwnI.lt (hk m hm (by omega) h3).2 a e).2
    have h1' : i < ps.length := by simpa using h1
    have h2' : k < ps.length := by simpa using h2
    by_cases hij : i = j
    · by_cases hkj : k = j
      · omega
      · subst hij
        rw [List.getElem_set_self] at e1
        rw [List.getElem_set_ne (fun e => hkj e.symm)] at e2
        have := key k (by omega) h2' e2
        have := (OwnI.lt ho a e1).1
        omega
    · by_cases hkj : k = j
      · subst hkj
        rw [List.getElem_set_self] at e2
        rw [List.getElem_set_ne (fun e => hij e.symm)] at e1
        have := key i (by omega) h1' e1
        have := (OwnI.lt ho a e2).1
        omega
      · rw [List.getElem_set_ne (fun e => hij e.symm)] at e1
        rw [List.getElem_set_ne (fun e => hkj e.symm)] at e2
        exact hd i k a (by omega) (by omega) h1' h2' e1 e2
theorem PartG.all {w : World} {r n : Nat} {gs : List (Int × List Int)} (h : PartG w r n gs n) (hn : n = gs.length) : OwnG w r (.slice (some ⟨r, 0, none⟩) n n) gs := by
  subst hn
  obtain ⟨ps, hl, hr, hk, hd⟩ := h
  refine ⟨ps, hl, hr, fun k h1 h2 => ⟨(hk k h1 h1 h2).1, (hk k h1 h1 h2).2.leT (by omega)⟩, fun i j a hi hj e1 e2 => hd i j a (by omega) (by omega) hi hj e1 e2, fun i a hi e1 e2 => ?_⟩
  have := (OwnI.lt (hk i (by omega) (by omega) hi).2 a e1).1
  have e3 : r = a := by simpa [Value.ownBlock] using e2
  omega
theorem PartG.cells {w : World} {r n j : Nat} {gs : List (Int × List Int)} (h : PartG w r n gs j) (k : Nat) (hk : k < n) : (∃ x, w.cell? ⟨r, k * 2, none⟩ = some (.int .i64 x)) ∧ (∃ u, w.cell? ⟨r, k * 2 + 1, none⟩ = some u) ∧ w.frozen? ⟨r, k * 2, none⟩ = false ∧ w.frozen? ⟨r, k * 2 + 1, none⟩ = false ∧ r < w.heap.size := by
  obtain ⟨ps, hl, hr, _⟩ := h
  refine ⟨⟨ps[k].1, ?_⟩, ⟨ps[k].2, ?_⟩, hr.frozenAt _, hr.frozenAt _, (hr.lt r rfl).2⟩
  · rw [hr.cellAt (k * 2) (by omega), flatP_even ps k (by omega)]
  · rw [hr.cellAt (k * 2 + 1) (by omega), flatP_odd ps k (by omega)]
theorem PartG.below {w w' : World} {r n j : Nat} {gs : List (Int × List Int)} (h : PartG w r n gs j) (hb : Below w.heap.size w w') : PartG w' r n gs j := by
  obtain ⟨ps, hl, hr, hk, hd⟩ := h
  exact ⟨ps, hl, owns_below hr hb, fun k h1 h2 h3 => ⟨(hk k h1 h2 h3).1, (hk k h1 h2 h3).2.below hb⟩, hd⟩
set_option maxRecDepth 100000 in
set_option maxHeartbeats 1600000 in
theorem toGlobS_any (a : Option Addr) (c : Nat) (gs : List (Int × List Int)) (w : World) (hl : gs.length ≤ 1048576) (hlw : ∀ g ∈ gs, g.2.length ≤ 1048576) (hr : InG w a gs) :
    Calls Try.prog 40 #[.slice a gs.length c] w fun e w' => ∃ v, e = .returned v ∧ OwnG w' w.heap.size v gs ∧ Below w.heap.size w w' := by
  obtain ⟨i0, hi, hz0, hz1, hz2⟩ := info_parts infoG4
  have HR : Hid (∀ W, Below w.heap.size w W → ∀ k (h : k < gs.length), ∃ g o u c, a = some ⟨g, o, none⟩ ∧ g < W.heap.size ∧ W.cell? ⟨g, o + k * 2, none⟩ = some (.int .i64 gs[k].1) ∧ W.cell? ⟨g, o + k * 2 + 1, none⟩ = some (.slice u gs[k].2.length c) ∧ InI W u gs[k].2) := fun W hW => (hr.below hW).2
  have HLW : Hid _ := hlw
  clear hr hlw
  go_enter Try.func40, Try.ntmps40
  go_wp2_with (at_make; refine wpList_make_full _ rfl (.tmp 6) (.tmp 6) 31 rfl w.heap.size 118 i0 (.agg #[.int .i64 0, .slice none 0 0]) 2 Try.underlying31 hi hz0 hz1 .i64 .i64 _ _ gs.length rfl rfl (by omega) (by omega) (by rw [hz2]; omega) (by unfold maxLen; omega) (Nat.le_refl _) ?_; intro w1 hown1 hgrow1; have hB1 := (Below.refl w.heap.size w).grown hgrow1 (Nat.le_refl _) (fun k e => by cases e); rw [← flatP_zero] at hown1)
  have HO1 : Hid (PartG w1 w.heap.size gs.length gs 0) := by
    show PartG _ _ _ _ _
    exact ⟨List.replicate gs.length (0, .slice none 0 0), by simp, hown1, fun k hk => absurd hk (by omega), fun i k a hi => absurd hi (by omega)⟩
  clear hown1 hgrow1
  go_loopw [4] (fun i wr => ∃ j : Nat, j ≤ gs.length ∧ i = .int .i64 j ∧ Hid (PartG wr w.heap.size gs.length gs j) ∧ Below w.heap.size w wr) (fun i _ => gs.length - (intOf i).toNat)
  case atStart => exact ⟨0, Nat.zero_le _, rfl, HO1.out, hB1⟩
  case round =>
    obtain ⟨j, hj, rfl, HW, hbel⟩ := hrel
    by_cases hlt : j < gs.length
    · obtain ⟨ga, oa, pu, cu, rfl, la, q1, q2, hu⟩ := HR.out wr hbel j hlt
      have hlw := HLW.out gs[j] (List.getElem_mem hlt)
      have HC : Hid (Calls Try.prog 86 #[.agg #[.int .i64 gs[j].1, .slice pu gs[j].2.length cu]] wr fun x w' => ∃ v, x = .returned (.agg #[.int .i64 gs[j].1, v]) ∧ OwnI w' wr.heap.size v gs[j].2 ∧ Below wr.heap.size wr w') := toGlob_any gs[j].1 pu cu gs[j].2 wr hlw hu
      have HST : Hid (∀ w2 v, Below wr.heap.size wr w2 → OwnI w2 wr.heap.size v gs[j].2 → PartG ((w2.setCell ⟨w.heap.size, j * 2, none⟩ (.int .i64 gs[j].1)).setCell ⟨w.heap.size, j * 2 + 1, none⟩ v) w.heap.size gs.length gs (j + 1)) := fun w2 v hb ho => HW.out.step rfl hlt hb v ho
      have HCL : Hid (∀ w2, Below wr.heap.size wr w2 → (∃ x, w2.cell? ⟨w.heap.size, j * 2, none⟩ = some (.int .i64 x)) ∧ (∃ u, w2.cell? ⟨w.heap.size, j * 2 + 1, none⟩ = some u) ∧ w2.frozen? ⟨w.heap.size, j * 2, none⟩ = false ∧ w2.frozen? ⟨w.heap.size, j * 2 + 1, none⟩ = false ∧ w.heap.size < w2.heap.size) := fun w2 hb => (HW.out.below hb).cells j hlt
      clear hu hlw
      generalize gs[j].1 = z at q1 HC HST
      generalize gs[j].2 = ws at q2 HC HST
      generalize ws.length = nw at q2 HC
      go_wp2_with (go_at_call 86; refine HC.out.mono ?_; rintro e w2 ⟨v, rfl, own2, hb2⟩; obtain ⟨pv, cv, rfl⟩ := own2.shape; obtain ⟨⟨x, k1⟩, ⟨u, k2⟩, f1, f2, hsz⟩ := HCL.out w2 hb2; have HS2 : Hid _ := HST.out w2 _ hb2 own2)
      go_roundw
      case rel => exact ⟨j + 1, by omega, by go_num, (show PartG _ _ _ _ _ from HS2.out), ((keepB hbel (Nat.le_refl _) hb2).setCell (Nat.le_refl _) _).setCell (Nat.le_refl _) _⟩
      case measure => simp [intOf]; omega
    · obtain rfl : j = gs.length := by omega
      go_wp2
      go_ret
      exact ⟨_, rfl, HW.out.all rfl, hbel⟩
end Go.Proofs.Ytggdjiijcoklgaa
/- A STATION'S OWN MEMORY: each of its lists lies in a stretch of its own. -/
namespace Go.Proofs.Ytggdjiijcoklgaa
open Go.RowKit
set_option linter.unusedVariables false
set_option linter.unusedSimpArgs false

/-- what lies in a stretch has stayed -/
def Same (w w' : World) (lo hi : Nat) : Prop := ∀ k, lo ≤ k → k < hi → w'.heap[k]? = w.heap[k]?
def OwnIB (w : World) (lo hi : Nat) (v : Value) (zs : List Int) : Prop := OwnI w lo v zs ∧ ∀ k, v.ownBlock = some k → k < hi
def OwnTB (w : World) (lo hi : Nat) (v : Value) (ss : List ByteArray) : Prop := OwnT4 w lo v ss ∧ ∀ k, v.ownBlock = some k → k < hi
def OwnGB (w : World) (lo hi : Nat) (v : Value) (gs : List (Int × List Int)) : Prop :=
  ∃ ps : List (Int × Value), ps.length = gs.length ∧ w.ownsRow lo 118 2 v gs.length (flatP ps) ∧
    (∀ k (h : k < gs.length) (h' : k < ps.length), ps[k].1 = gs[k].1 ∧ OwnIB w lo hi ps[k].2 gs[k].2) ∧
    (∀ i j a (hi : i < ps.length) (hj : j < ps.length), ps[i].2.ownBlock = some a → ps[j].2.ownBlock = some a → i = j) ∧
    (∀ i a (hi : i < ps.length), ps[i].2.ownBlock = some a → v.ownBlock ≠ some a) ∧ (∀ k, v.ownBlock = some k → k < hi)
theorem owns_same {w w' : World} {lo hi : Nat} {e : TypeId} {k : Nat} {v : Value} {n : Nat} {xs : List Value} (h : w.ownsRow lo e k v n xs) (hh : ∀ k, v.ownBlock = some k → k < hi) (hs : Same w w' lo hi) : w'.ownsRow lo e k v n xs := by
  refine ⟨h.1, h.2.imp id ?_⟩
  rintro ⟨g, cap, cur, e1, e2, e3, e4⟩
  exact ⟨g, cap, cur, e1, e2, (hs g e2 (hh g (by rw [e1]; rfl))).trans e3, e4⟩
theorem OwnIB.same {w w' : World} {lo hi : Nat} {v : Value} {zs : List Int} (h : OwnIB w lo hi v zs) (hs : Same w w' lo hi) : OwnIB w' lo hi v zs := ⟨owns_same h.1 h.2 hs, h.2⟩
theorem OwnTB.same {w w' : World} {lo hi : Nat} {v : Value} {ss : List ByteArray} (h : OwnTB w lo hi v ss) (hs : Same w w' lo hi) : OwnTB w' lo hi v ss := ⟨owns_same h.1 h.2 hs, h.2⟩
theorem OwnGB.same {w w' : World} {lo hi : Nat} {v : Value} {gs : List (Int × List Int)} (h : OwnGB w lo hi v gs) (hs : Same w w' lo hi) : OwnGB w' lo hi v gs := by
  obtain ⟨ps, hl, hr, hk, hd, hn, hh⟩ := h
  exact ⟨ps, hl, owns_same hr hh hs, fun k h1 h2 => ⟨(hk k h1 h2).1, (hk k h1 h2).2.same hs⟩, hd, hn, hh⟩
theorem Same.below {w w' : World} {lo hi : Nat} (hb : Below w.heap.size w w') (hh : hi ≤ w.heap.size) : Same w w' lo hi := fun k _ h2 => hb.block k (by omega)
theorem Same.far {w : World} {lo hi : Nat} {a : Addr} (ha : a.block < lo ∨ hi ≤ a.block) (x : Value) : Same w (w.setCell a x) lo hi := fun k h1 h2 => Below.heap_setCell _ _ _ _ (by omega)
theorem Same.trans {w a b : World} {lo hi : Nat} (h1 : Same w a lo hi) (h2 : Same a b lo hi) : Same w b lo hi := fun k x y => (h2 k x y).trans (h1 k x y)
theorem OwnI.ib {w : World} {lo : Nat} {v : Value} {zs : List Int} (h : OwnI w lo v zs) : OwnIB w lo w.heap.size v zs := ⟨h, fun k e => (OwnI.lt h k e).2⟩
theorem OwnT4.tb {w : World} {lo : Nat} {v : Value} {ss : List ByteArray} (h : OwnT4 w lo v ss) : OwnTB w lo w.heap.size v ss := ⟨h, fun k e => (h.lt k e).2⟩
theorem OwnG.gb {w : World} {lo : Nat} {v : Value} {gs : List (Int × List Int)} (h : OwnG w lo v gs) : OwnGB w lo w.heap.size v gs := by
  obtain ⟨ps, hl, hr, hk, hd, hn⟩ := h
  exact ⟨ps, hl, hr, fun k h1 h2 => ⟨(hk k h1 h2).1, (hk k h1 h2).2.ib⟩, hd, hn, fun k e => (hr.lt k e).2⟩
theorem OwnGB.g {w : World} {lo hi : Nat} {v : Value} {gs : List (Int × List Int)} (h : OwnGB w lo hi v gs) : OwnG w lo v gs := by
  obtain ⟨ps, hl, hr, hk, hd, hn, hh⟩ := h
  exact ⟨ps, hl, hr, fun k h1 h2 => ⟨(hk k h1 h2).1, (hk k h1 h2).2.1⟩, hd, hn⟩
/-- a station's own lists, each in its stretch -/
structure OwnStn (w : World) (base : Nat) (v1 v2 v3 v4 : Value) (s : Stn) : Prop where
  all : ∃ l1 h1 l2 h2 l3 h3 l4 h4, (base ≤ l1 ∧ base ≤ l2 ∧ base ≤ l3 ∧ base ≤ l4) ∧ (h1 ≤ w.heap.size ∧ h2 ≤ w.heap.size ∧ h3 ≤ w.heap.size ∧ h4 ≤ w.heap.size) ∧
    OwnIB w l1 h1 v1 s.kn ∧ OwnIB w l2 h2 v2 s.ws ∧ OwnGB w l3 h3 v3 s.gs ∧ OwnTB w l4 h4 v4 s.os ∧
    (h1 ≤ l2 ∨ h2 ≤ l1) ∧ (h1 ≤ l3 ∨ h3 ≤ l1) ∧ (h1 ≤ l4 ∨ h4 ≤ l1) ∧ (h2 ≤ l3 ∨ h3 ≤ l2) ∧ (h2 ≤ l4 ∨ h4 ≤ l2) ∧ (h3 ≤ l4 ∨ h4 ≤ l3)
theorem OwnStn.rows {w : World} {base : Nat} {v1 v2 v3 v4 : Value} {s : Stn} (h : OwnStn w base v1 v2 v3 v4 s) : RowI w v1 s.kn ∧ RowI w v2 s.ws ∧ RowG w v3 s.gs ∧ RowS w v4 s.os := by
  obtain ⟨l1, h1, l2, h2, l3, h3, l4, h4, _, _, o1, o2, o3, o4, _⟩ := h.all
  exact ⟨o1.1.row, o2.1.row, o3.g.row, o4.1.row⟩
theorem OwnStn.below {w w' : World} {base : Nat} {v1 v2 v3 v4 : Value} {s : Stn} (h : OwnStn w base v1 v2 v3 v4 s) (hb : Below w.heap.size w w') : OwnStn w' base v1 v2 v3 v4 s := by
  obtain ⟨l1, h1, l2, h2, l3, h3, l4, h4, hl, hh, o1, o2, o3, o4, d⟩ := h.all
  have := hb.size
  exact ⟨l1, h1, l2, h2, l3, h3, l4, h4, hl, ⟨by omega, by omega, by omega, by omega⟩, o1.same (Same.below hb hh.1), o2.same (Same.below hb hh.2.1), o3.same (Same.below hb hh.2.2.1), o4.same (Same.below hb hh.2.2.2), d⟩
theorem Below.setRow {B : Nat} {w w' : World} (h : Below B w w') {g : Nat} (hg : B ≤ g) (cs : Array Value) : Below B w (w'.setRow g cs) :=
  ⟨h.os, h.tape, h.output, by rw [setRow_size]; exact h.size, fun k hk => (setRow_other w' g k cs (by omega)).trans (h.block k hk)⟩
theorem Same.setRow {w : World} {lo hi g : Nat} (hg : g < lo ∨ hi ≤ g) (cs : Array Value) : Same w (w.setRow g cs) lo hi := fun k h1 h2 => setRow_other w g k cs (by omega)
end Go.Proofs.Ytggdjiijcoklgaa
