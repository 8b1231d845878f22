/- THE LAW'S OWN COPIES: of what others told all, and of texts. -/
import Derived.Test.YtancfnpmbddfoaaStnG
import Derived.Test.YtancfnpmbddfoaaTabIn
import Derived.Deep.DeepCutAuto
import Derived.Test.YtancfnpmbddfoaaStL
import Derived.Laws.Tables
namespace Go.Proofs.Ytancfnpmbddfoaa
open Go.RowKit
set_option linter.unusedVariables false
set_option linter.unusedSimpArgs false

theorem OwnT4.cell {w : World} {base : Nat} {a : Option Addr} {n cap : Nat} {ss : List ByteArray} (h : OwnT4 w base (.slice a n cap) ss) (k : Nat) (hk : k < ss.length) : ∃ g, a = some ⟨g, 0, none⟩ ∧ base ≤ g ∧ g < w.heap.size ∧ w.cell? ⟨g, k, none⟩ = some (.string ss[k]) ∧ w.frozen? ⟨g, k, none⟩ = false := by
  rcases h.2 with ⟨h1, h0⟩ | ⟨g, cap', cur, h1, hb, hg, _⟩
  · omega
  · cases h1
    refine ⟨g, rfl, hb, (Array.getElem?_eq_some_iff.1 hg).1, ?_, World.ownsRow.frozenAt h k⟩
    rw [World.ownsRow.cellAt h k (by omega), List.getElem?_map, List.getElem?_eq_getElem hk]
    rfl
theorem OwnT4.below {w w' : World} {base : Nat} {v : Value} {ss : List ByteArray} (h : OwnT4 w base v ss) (hb : Below w.heap.size w w') : OwnT4 w' base v ss := by
  refine ⟨h.1, h.2.imp id ?_⟩
  rintro ⟨g, cap, cur, e1, e2, e3, e4⟩
  exact ⟨g, cap, cur, e1, e2, (hb.block g (Array.getElem?_eq_some_iff.1 e3).1).trans e3, e4⟩
theorem OwnT4.set {w : World} {base g n cap : Nat} {ss : List ByteArray} (h : OwnT4 w base (.slice (some ⟨g, 0, none⟩) n cap) ss) (j : Nat) (hj : j < ss.length) (m : ByteArray) : OwnT4 (w.setCell ⟨g, j, none⟩ (.string m)) base (.slice (some ⟨g, 0, none⟩) n cap) (ss.set j m) := by
  have hn : n = ss.length := by rcases h.2 with ⟨h1, _⟩ | ⟨g, cap, cur, h1, _⟩ <;> cases h1; rfl
  subst hn
  have := (World.ownsRow.stored h j (.string m)).1
  unfold OwnT4
  rw [List.length_set, List.map_set]
  exact this
theorem OwnT4.lt {w : World} {base : Nat} {v : Value} {ss : List ByteArray} (h : OwnT4 w base v ss) : ∀ k, v.ownBlock = some k → base ≤ k ∧ k < w.heap.size := World.ownsRow.lt h
theorem infoT4 : (Try.prog.info? 9).map (fun i => (i.zero, i.size, i.bytes)) = some (some (.string ⟨#[]⟩), 1, 16) := by kernel_rfl
theorem infoG4 : (Try.prog.info? 79).map (fun i => (i.zero, i.size, i.bytes)) = some (some (.agg #[.int .i64 0, .slice none 0 0]), 2, 32) := by kernel_rfl
theorem set_midS {l m : List ByteArray} {c : ByteArray} (h : m ≠ []) : (l ++ m).set l.length c = (l ++ [c]) ++ m.drop 1 := by
  cases m with
  | nil => exact absurd rfl h
  | cons a m => simp
theorem copy_stepS (zs : List ByteArray) (j : Nat) (h : j < zs.length) : (zs.take j ++ List.replicate (zs.length - j) (⟨#[]⟩ : ByteArray)).set j zs[j] = zs.take (j + 1) ++ List.replicate (zs.length - (j + 1)) ⟨#[]⟩ := by
  have := set_midS (l := zs.take j) (m := List.replicate (zs.length - j) (⟨#[]⟩ : ByteArray)) (c := zs[j]) (by intro e; have := congrArg List.length e; simp at this; omega)
  rw [List.length_take, Nat.min_eq_left (by omega)] at this
  rw [this, List.take_succ_eq_append_getElem h, List.drop_replicate, Nat.sub_sub]
theorem zeros_listS (n : Nat) : (madeCells (Value.string ⟨#[]⟩).cells (n * 1)).toList = (List.replicate n (⟨#[]⟩ : ByteArray)).map Value.string := by
  rw [show (Value.string ⟨#[]⟩).cells = #[Value.string ⟨#[]⟩] from rfl, toList_madeCells_one, List.map_replicate, Nat.mul_one]
set_option maxRecDepth 100000 in
set_option maxHeartbeats 800000 in
theorem toStringS_any (a : Option Addr) (c : Nat) (zs : List ByteArray) (w : World) (hl : zs.length ≤ 1048576) (hr : InS w a zs) :
    Calls Try.prog 46 #[.slice a zs.length c] w fun e w' => ∃ v, e = .returned v ∧ OwnT4 w' w.heap.size v zs ∧ Below w.heap.size w w' := by
  obtain ⟨i0, hi, hz0, hz1, hz2⟩ := info_parts infoT4
  have HR : Hid _ := hr.2.2
  clear hr
  go_enter Try.func46, Try.ntmps46
  go_wp2_with (at_make; refine wpList_make_full _ rfl (.tmp 6) (.tmp 6) 26 rfl w.heap.size 9 i0 (.string ⟨#[]⟩) 1 Try.underlying26 hi hz0 hz1 .i64 .i64 _ _ zs.length rfl rfl (by omega) (by omega) (by rw [hz2]; omega) (by unfold maxLen; omega) (Nat.le_refl _) ?_; intro w1 hown1 hgrow1; have hB1 := (Below.refl w.heap.size w).grown hgrow1 (Nat.le_refl _) (fun k e => by cases e); rw [zeros_listS] at hown1)
  have HO1 : Hid (OwnT4 w1 w.heap.size (.slice (some ⟨w.heap.size, 0, none⟩) zs.length zs.length) (zs.take 0 ++ List.replicate (zs.length - 0) ⟨#[]⟩)) := by
    show OwnT4 _ _ _ _
    rw [List.take_zero, List.nil_append, Nat.sub_zero]
    unfold OwnT4
    rw [List.length_replicate]
    exact hown1
  clear hown1 hgrow1
  go_loopw [4] (fun i wr => ∃ j : Nat, j ≤ zs.length ∧ i = .int .i64 j ∧ Hid (OwnT4 wr w.heap.size (.slice (some ⟨w.heap.size, 0, none⟩) zs.length zs.length) (zs.take j ++ List.replicate (zs.length - j) ⟨#[]⟩)) ∧ Below w.heap.size w wr) (fun i _ => zs.length - (intOf i).toNat)
  case atStart => exact ⟨0, Nat.zero_le _, rfl, HO1.out, hB1⟩
  case round =>
    obtain ⟨j, hj, rfl, HW, hbel⟩ := hrel
    have hlen : (zs.take j ++ List.replicate (zs.length - j) (⟨#[]⟩ : ByteArray)).length = zs.length := by rw [List.length_append, List.length_take, List.length_replicate]; omega
    by_cases hlt : j < zs.length
    · have hk : j < (zs.take j ++ List.replicate (zs.length - j) (⟨#[]⟩ : ByteArray)).length := by rw [hlen]; exact hlt
      obtain ⟨g, hpg, _, hgl, hq, hf⟩ := HW.out.cell j hk
      cases hpg
      obtain ⟨ga, oa, rfl, la, qa⟩ := HR.out j hlt
      have qa' := (hbel.cell (p := ⟨ga, oa + j, none⟩) la).trans qa
      clear qa
      have HST : Hid _ := copy_stepS zs j hlt
      generalize hzj : zs[j] = z at qa' HST
      have h1 := HW.out.set j hk z
      generalize (zs.take j ++ List.replicate (zs.length - j) (⟨#[]⟩ : ByteArray))[j] = old at hq
      go_wp2
      go_roundw
      case rel => exact ⟨j + 1, by omega, by go_num, (show OwnT4 _ _ _ _ by rw [← HST.out]; exact h1), hbel.setCell (Nat.le_refl _) _⟩
      case measure => simp [intOf]; omega
    · obtain rfl : j = zs.length := by omega
      go_wp2
      go_ret
      refine ⟨_, rfl, ?_, hbel⟩
      have := HW.out
      rwa [List.take_length, Nat.sub_self, List.replicate_zero, List.append_nil] at this
set_option maxRecDepth 100000 in
set_option maxHeartbeats 1600000 in
theorem toGlob_any (a : Int) (p : Option Addr) (c : Nat) (zs : List Int) (w : World) (hl : zs.length ≤ 1048576) (hin : InI w p zs) :
    Calls Try.prog 72 #[.agg #[.int .i64 a, .slice p zs.length c]] w fun x w' => ∃ v, x = .returned (.agg #[.int .i64 a, v]) ∧ OwnI w' w.heap.size v zs ∧ Below w.heap.size w w' := by
  have H1 : Hid (∀ W, Below w.heap.size w W → Calls Try.prog 22 #[.slice p zs.length c] W fun e w' => ∃ v, e = .returned v ∧ OwnI w' W.heap.size v zs ∧ Below W.heap.size W w') := fun W hW => toInt64S_any p c zs W hl (hin.below hW)
  clear hin
  go_enter Try.func72, Try.ntmps72
  go_upto_region 3 with fail
  have hX : Hid _ := blk (blk (heap_alloc_new w (.cells #[.int .i64 a, .slice p zs.length c] 81)) (all_alloc _ (.cells #[.int .i64 0, .slice none 0 0] 79))) (all_alloc _ (.cells #[.int .i64 a, .slice none 0 0] 79))
  have hY : Hid _ := blk (heap_alloc_new (w.alloc (.cells #[.int .i64 a, .slice p zs.length c] 81)) (.cells #[.int .i64 0, .slice none 0 0] 79)) (all_alloc _ (.cells #[.int .i64 a, .slice none 0 0] 79))
  have hZ : Hid _ := heap_alloc_new ((w.alloc (.cells #[.int .i64 a, .slice p zs.length c] 81)).alloc (.cells #[.int .i64 0, .slice none 0 0] 79)) (.cells #[.int .i64 a, .slice none 0 0] 79)
  have hA0 : Below w.heap.size w (((w.alloc (.cells #[.int .i64 a, .slice p zs.length c] 81)).alloc (.cells #[.int .i64 0, .slice none 0 0] 79)).alloc (.cells #[.int .i64 a, .slice none 0 0] 79)) := keepB (keepB (all_alloc w _) (Nat.le_refl _) (all_alloc _ _)) (Nat.le_refl _) (all_alloc _ _)
  have e1 : (w.alloc (.cells #[.int .i64 a, .slice p zs.length c] 81)).heap.size = w.heap.size + 1 := by simp
  have e2 : ((w.alloc (.cells #[.int .i64 a, .slice p zs.length c] 81)).alloc (.cells #[.int .i64 0, .slice none 0 0] 79)).heap.size = w.heap.size + 1 + 1 := by simp
  have e3 : (((w.alloc (.cells #[.int .i64 a, .slice p zs.length c] 81)).alloc (.cells #[.int .i64 0, .slice none 0 0] 79)).alloc (.cells #[.int .i64 a, .slice none 0 0] 79)).heap.size = w.heap.size + 1 + 1 + 1 := by simp
  rw [e1] at hY
  rw [e2] at hZ
  generalize ((w.alloc (.cells #[.int .i64 a, .slice p zs.length c] 81)).alloc (.cells #[.int .i64 0, .slice none 0 0] 79)).alloc (.cells #[.int .i64 a, .slice none 0 0] 79) = A at hX hY hZ hA0 e3 ⊢
  clear e1 e2
  have x1 := cellW hX.out 1 _ rfl A (Below.refl _ _)
  go_wp2_with (go_at_call 22; refine (H1.out _ hA0).mono ?_; rintro e w4 ⟨v', rfl, own2, hb4⟩; obtain ⟨pu, cu, rfl⟩ := own2.shape; have hY4 : Hid _ := blk hY.out hb4; have hZ4 : Hid _ := blk hZ.out hb4; have z0 := cellW hZ4.out 0 _ rfl w4 (Below.refl _ _); have z1 := cellW hZ4.out 1 _ rfl w4 (Below.refl _ _); have f1 := frozenW hZ4.out 1 w4 (Below.refl _ _); have y0 := cellW hY4.out 0 _ rfl w4 (Below.refl _ _); have y1 := cellW hY4.out 1 _ rfl w4 (Below.refl _ _); have g0 := frozenW hY4.out 0 w4 (Below.refl _ _); have g1 := frozenW hY4.out 1 w4 (Below.refl _ _))
  have hB4 : Below w.heap.size w w4 := keepB hA0 (Nat.le_refl _) hb4
  exact bodyPost_ret (v := .agg #[.int .i64 a, .slice pu zs.length cu]) (by simp [results, Try.results72, go_sem, y0, y1]) rfl ⟨_, rfl, OwnI.leT (OwnI.farT (OwnI.farT (OwnI.farT own2 (by simp only; omega) _) (by simp only; omega) _) (by simp only; omega) _) (by omega), (Below.setCell (Below.setCell (Below.setCell hB4 (by simp only; omega) _) (by simp only; omega) _) (by simp only; omega) _)⟩
end Go.Proofs.Ytancfnpmbddfoaa
namespace Go.Proofs.Ytancfnpmbddfoaa
open Go.RowKit
set_option linter.unusedVariables false
set_option linter.unusedSimpArgs false

theorem owns_below {w w' : World} {base : Nat} {e : TypeId} {k : Nat} {v : Value} {n : Nat} {xs : List Value} (h : w.ownsRow base e k v n xs) (hb : Below w.heap.size w w') : w'.ownsRow base e k v n xs := by
  refine ⟨h.1, h.2.imp id ?_⟩
  rintro ⟨g, cap, cur, e1, e2, e3, e4⟩
  exact ⟨g, cap, cur, e1, e2, (hb.block g (Array.getElem?_eq_some_iff.1 e3).1).trans e3, e4⟩
theorem owns_far {w : World} {base : Nat} {e : TypeId} {k : Nat} {v : Value} {n : Nat} {xs : List Value} (h : w.ownsRow base e k v n xs) {a : Addr} (ha : a.block < base) (x : Value) : (w.setCell a x).ownsRow base e k v n xs := by
  refine ⟨h.1, h.2.imp id ?_⟩
  rintro ⟨g, cap, cur, e1, e2, e3, e4⟩
  exact ⟨g, cap, cur, e1, e2, (Below.heap_setCell _ _ _ _ (by omega)).trans e3, e4⟩
theorem owns_le {w : World} {base B : Nat} {e : TypeId} {k : Nat} {v : Value} {n : Nat} {xs : List Value} (h : w.ownsRow base e k v n xs) (hB : B ≤ base) : w.ownsRow B e k v n xs := by
  refine ⟨h.1, h.2.imp id ?_⟩
  rintro ⟨g, cap, cur, e1, e2, e3⟩
  exact ⟨g, cap, cur, e1, Nat.le_trans hB e2, e3⟩
theorem OwnG.below {w w' : World} {base : Nat} {v : Value} {gs : List (Int × List Int)} (h : OwnG w base v gs) (hb : Below w.heap.size w w') : OwnG w' base v gs := by
  obtain ⟨ps, hl, hr, hk, hd, hn⟩ := h
  exact ⟨ps, hl, owns_below hr hb, fun k h1 h2 => ⟨(hk k h1 h2).1, (hk k h1 h2).2.below hb⟩, hd, hn⟩
theorem OwnG.farT {w : World} {base : Nat} {v : Value} {gs : List (Int × List Int)} (h : OwnG w base v gs) {a : Addr} (ha : a.block < base) (x : Value) : OwnG (w.setCell a x) base v gs := by
  obtain ⟨ps, hl, hr, hk, hd, hn⟩ := h
  exact ⟨ps, hl, owns_far hr ha x, fun k h1 h2 => ⟨(hk k h1 h2).1, (hk k h1 h2).2.farT ha x⟩, hd, hn⟩
theorem OwnG.leT {w : World} {base B : Nat} {v : Value} {gs : List (Int × List Int)} (h : OwnG w base v gs) (hB : B ≤ base) : OwnG w B v gs := by
  obtain ⟨ps, hl, hr, hk, hd, hn⟩ := h
  exact ⟨ps, hl, owns_le hr hB, fun k h1 h2 => ⟨(hk k h1 h2).1, (hk k h1 h2).2.leT hB⟩, hd, hn⟩
theorem OwnT4.farT {w : World} {base : Nat} {v : Value} {ss : List ByteArray} (h : OwnT4 w base v ss) {a : Addr} (ha : a.block < base) (x : Value) : OwnT4 (w.setCell a x) base v ss := owns_far h ha x
theorem OwnT4.leT {w : World} {base B : Nat} {v : Value} {ss : List ByteArray} (h : OwnT4 w base v ss) (hB : B ≤ base) : OwnT4 w B v ss := owns_le h hB
/-- the first of them copied -/
def PartG (w : World) (r n : Nat) (gs : List (Int × List Int)) (j : Nat) : Prop :=
  ∃ ps : List (Int × Value), ps.length = n ∧ w.ownsRow r 79 2 (.slice (some ⟨r, 0, none⟩) n n) n (flatP ps) ∧
    (∀ k (hk : k < j) (h : k < gs.length) (h' : k < ps.length), ps[k].1 = gs[k].1 ∧ OwnI w (r + 1) ps[k].2 gs[k].2) ∧
    (∀ i k a (hi : i < j) (hk : k < j) (h1 : i < ps.length) (h2 : k < ps.length), ps[i].2.ownBlock = some a → ps[k].2.ownBlock = some a → i = k)
theorem PartG.step {w w2 : World} {r n j : Nat} {gs : List (Int × List Int)} (h : PartG w r n gs j) (hn : n = gs.length) (hj : j < gs.length) (hb : Below w.heap.size w w2) (v : Value) (ho : OwnI w2 w.heap.size v gs[j].2) :
    PartG ((w2.setCell ⟨r, j * 2, none⟩ (.int .i64 gs[j].1)).setCell ⟨r, j * 2 + 1, none⟩ v) r n gs (j + 1) := by
  obtain ⟨ps, hl, hr, hk, hd⟩ := h
  have hrw : r < w.heap.size := (hr.lt r rfl).2
  refine ⟨ps.set j (gs[j].1, v), by rw [List.length_set]; exact hl, ?_, ?_, ?_⟩
  · have h1 := (World.ownsRow.stored (owns_below hr hb) (j * 2) (.int .i64 gs[j].1)).1
    have h2 := (World.ownsRow.stored h1 (j * 2 + 1) v).1
    rw [flatP_set ps j gs[j].1 v (by omega)] at h2
    exact h2
  · intro k hk1 h1 h2
    by_cases hkj : k = j
    · subst hkj
      rw [List.getElem_set_self]
      exact ⟨rfl, OwnI.farT (OwnI.farT (OwnI.leT ho (by omega)) (by simp only; omega) _) (by simp only; omega) _⟩
    · rw [List.getElem_set_ne (fun e => hkj e.symm)]
      obtain ⟨a1, a2⟩ := hk k (by omega) h1 (by omega)
      exact ⟨a1, OwnI.farT (OwnI.farT (a2.below hb) (by simp only; omega) _) (by simp only; omega) _⟩
  · intro i k a hi hk1 h1 h2 e1 e2
    have key : ∀ m (hm : m < j) (h3 : m < ps.length), ps[m].2.ownBlock = some a → a < w.heap.size := fun m hm h3 e => (OwnI.lt (hk m hm (by omega) h3).2 a e).2
    have h1' : i < ps.length := by simpa using h1
    have h2' : k < ps.length := by simpa using h2
    by_cases hij : i = j
    · by_cases hkj : k = j
      · omega
      · subst hij
        rw [List.getElem_set_self] at e1
        rw [List.getElem_set_ne (fun e => hkj e.symm)] at e2
        have := key k (by omega) h2' e2
        have := (OwnI.lt ho a e1).1
        omega
    · by_cases hkj : k = j
      · subst hkj
        rw [List.getElem_set_self] at e2
        rw [List.getElem_set_ne (fun e => hij e.symm)] at e1
        have := key i (by omega) h1' e1
        have := (OwnI.lt ho a e2).1
        omega
      · rw [List.getElem_set_ne (fun e => hij e.symm)] at e1
        rw [List.getElem_set_ne (fun e => hkj e.symm)] at e2
        exact hd i k a (by omega) (by omega) h1' h2' e1 e2
theorem PartG.all {w : World} {r n : Nat} {gs : List (Int × List Int)} (h : PartG w r n gs n) (hn : n = gs.length) : OwnG w r (.slice (some ⟨r, 0, none⟩) n n) gs := by
  subst hn
  obtain ⟨ps, hl, hr, hk, hd⟩ := h
  refine ⟨ps, hl, hr, fun k h1 h2 => ⟨(hk k h1 h1 h2).1, (hk k h1 h1 h2).2.leT (by omega)⟩, fun i j a hi hj e1 e2 => hd i j a (by omega) (by omega) hi hj e1 e2, fun i a hi e1 e2 => ?_⟩
  have := (OwnI.lt (hk i (by omega) (by omega) hi).2 a e1).1
  have e3 : r = a := by simpa [Value.ownBlock] using e2
  omega
theorem PartG.cells {w : World} {r n j : Nat} {gs : List (Int × List Int)} (h : PartG w r n gs j) (k : Nat) (hk : k < n) : (∃ x, w.cell? ⟨r, k * 2, none⟩ = some (.int .i64 x)) ∧ (∃ u, w.cell? ⟨r, k * 2 + 1, none⟩ = some u) ∧ w.frozen? ⟨r, k * 2, none⟩ = false ∧ w.frozen? ⟨r, k * 2 + 1, none⟩ = false ∧ r < w.heap.size := by
  obtain ⟨ps, hl, hr, _⟩ := h
  refine ⟨⟨ps[k].1, ?_⟩, ⟨ps[k].2, ?_⟩, hr.frozenAt _, hr.frozenAt _, (hr.lt r rfl).2⟩
  · rw [hr.cellAt (k * 2) (by omega), flatP_even ps k (by omega)]
  · rw [hr.cellAt (k * 2 + 1) (by omega), flatP_odd ps k (by omega)]
theorem PartG.below {w w' : World} {r n j : Nat} {gs : List (Int × List Int)} (h : PartG w r n gs j) (hb : Below w.heap.size w w') : PartG w' r n gs j := by
  obtain ⟨ps, hl, hr, hk, hd⟩ := h
  exact ⟨ps, hl, owns_below hr hb, fun k h1 h2 h3 => ⟨(hk k h1 h2 h3).1, (hk k h1 h2 h3).2.below hb⟩, hd⟩
set_option maxRecDepth 100000 in
set_option maxHeartbeats 1600000 in
theorem toGlobS_any (a : Option Addr) (c : Nat) (gs : List (Int × List Int)) (w : World) (hl : gs.length ≤ 1048576) (hlw : ∀ g ∈ gs, g.2.length ≤ 1048576) (hr : InG w a gs) :
    Calls Try.prog 45 #[.slice a gs.length c] w fun e w' => ∃ v, e = .returned v ∧ OwnG w' w.heap.size v gs ∧ Below w.heap.size w w' := by
  obtain ⟨i0, hi, hz0, hz1, hz2⟩ := info_parts infoG4
  have HR : Hid (∀ W, Below w.heap.size w W → ∀ k (h : k < gs.length), ∃ g o u c, a = some ⟨g, o, none⟩ ∧ g < W.heap.size ∧ W.cell? ⟨g, o + k * 2, none⟩ = some (.int .i64 gs[k].1) ∧ W.cell? ⟨g, o + k * 2 + 1, none⟩ = some (.slice u gs[k].2.length c) ∧ InI W u gs[k].2) := fun W hW => (hr.below hW).2
  have HLW : Hid _ := hlw
  clear hr hlw
  go_enter Try.func45, Try.ntmps45
  go_wp2_with (at_make; refine wpList_make_full _ rfl (.tmp 6) (.tmp 6) 32 rfl w.heap.size 79 i0 (.agg #[.int .i64 0, .slice none 0 0]) 2 Try.underlying32 hi hz0 hz1 .i64 .i64 _ _ gs.length rfl rfl (by omega) (by omega) (by rw [hz2]; omega) (by unfold maxLen; omega) (Nat.le_refl _) ?_; intro w1 hown1 hgrow1; have hB1 := (Below.refl w.heap.size w).grown hgrow1 (Nat.le_refl _) (fun k e => by cases e); rw [← flatP_zero] at hown1)
  have HO1 : Hid (PartG w1 w.heap.size gs.length gs 0) := by
    show PartG _ _ _ _ _
    exact ⟨List.replicate gs.length (0, .slice none 0 0), by simp, hown1, fun k hk => absurd hk (by omega), fun i k a hi => absurd hi (by omega)⟩
  clear hown1 hgrow1
  go_loopw [4] (fun i wr => ∃ j : Nat, j ≤ gs.length ∧ i = .int .i64 j ∧ Hid (PartG wr w.heap.size gs.length gs j) ∧ Below w.heap.size w wr) (fun i _ => gs.length - (intOf i).toNat)
  case atStart => exact ⟨0, Nat.zero_le _, rfl, HO1.out, hB1⟩
  case round =>
    obtain ⟨j, hj, rfl, HW, hbel⟩ := hrel
    by_cases hlt : j < gs.length
    · obtain ⟨ga, oa, pu, cu, rfl, la, q1, q2, hu⟩ := HR.out wr hbel j hlt
      have hlw := HLW.out gs[j] (List.getElem_mem hlt)
      have HC : Hid (Calls Try.prog 72 #[.agg #[.int .i64 gs[j].1, .slice pu gs[j].2.length cu]] wr fun x w' => ∃ v, x = .returned (.agg #[.int .i64 gs[j].1, v]) ∧ OwnI w' wr.heap.size v gs[j].2 ∧ Below wr.heap.size wr w') := toGlob_any gs[j].1 pu cu gs[j].2 wr hlw hu
      have HST : Hid (∀ w2 v, Below wr.heap.size wr w2 → OwnI w2 wr.heap.size v gs[j].2 → PartG ((w2.setCell ⟨w.heap.size, j * 2, none⟩ (.int .i64 gs[j].1)).setCell ⟨w.heap.size, j * 2 + 1, none⟩ v) w.heap.size gs.length gs (j + 1)) := fun w2 v hb ho => HW.out.step rfl hlt hb v ho
      have HCL : Hid (∀ w2, Below wr.heap.size wr w2 → (∃ x, w2.cell? ⟨w.heap.size, j * 2, none⟩ = some (.int .i64 x)) ∧ (∃ u, w2.cell? ⟨w.heap.size, j * 2 + 1, none⟩ = some u) ∧ w2.frozen? ⟨w.heap.size, j * 2, none⟩ = false ∧ w2.frozen? ⟨w.heap.size, j * 2 + 1, none⟩ = false ∧ w.heap.size < w2.heap.size) := fun w2 hb => (HW.out.below hb).cells j hlt
      clear hu hlw
      generalize gs[j].1 = z at q1 HC HST
      generalize gs[j].2 = ws at q2 HC HST
      generalize ws.length = nw at q2 HC
      go_wp2_with (go_at_call 72; refine HC.out.mono ?_; rintro e w2 ⟨v, rfl, own2, hb2⟩; obtain ⟨pv, cv, rfl⟩ := own2.shape; obtain ⟨⟨x, k1⟩, ⟨u, k2⟩, f1, f2, hsz⟩ := HCL.out w2 hb2; have HS2 : Hid _ := HST.out w2 _ hb2 own2)
      go_roundw
      case rel => exact ⟨j + 1, by omega, by go_num, (show PartG _ _ _ _ _ from HS2.out), ((keepB hbel (Nat.le_refl _) hb2).setCell (Nat.le_refl _) _).setCell (Nat.le_refl _) _⟩
      case measure => simp [intOf]; omega
    · obtain rfl : j = gs.length := by omega
      go_wp2
      go_ret
      exact ⟨_, rfl, HW.out.all rfl, hbel⟩
end Go.Proofs.Ytancfnpmbddfoaa
namespace Go.Proofs.Ytancfnpmbddfoaa
open Go.RowKit
set_option linter.unusedVariables false
set_option linter.unusedSimpArgs false

/-- what lies in a stretch has stayed -/
def Same (w w' : World) (lo hi : Nat) : Prop := ∀ k, lo ≤ k → k < hi → w'.heap[k]? = w.heap[k]?
def OwnIB (w : World) (lo hi : Nat) (v : Value) (zs : List Int) : Prop := OwnI w lo v zs ∧ ∀ k, v.ownBlock = some k → k < hi
def OwnTB (w : World) (lo hi : Nat) (v : Value) (ss : List ByteArray) : Prop := OwnT4 w lo v ss ∧ ∀ k, v.ownBlock = some k → k < hi
def OwnGB (w : World) (lo hi : Nat) (v : Value) (gs : List (Int × List Int)) : Prop :=
  ∃ ps : List (Int × Value), ps.length = gs.length ∧ w.ownsRow lo 79 2 v gs.length (flatP ps) ∧
    (∀ k (h : k < gs.length) (h' : k < ps.length), ps[k].1 = gs[k].1 ∧ OwnIB w lo hi ps[k].2 gs[k].2) ∧
    (∀ i j a (hi : i < ps.length) (hj : j < ps.length), ps[i].2.ownBlock = some a → ps[j].2.ownBlock = some a → i = j) ∧
    (∀ i a (hi : i < ps.length), ps[i].2.ownBlock = some a → v.ownBlock ≠ some a) ∧ (∀ k, v.ownBlock = some k → k < hi)
theorem owns_same {w w' : World} {lo hi : Nat} {e : TypeId} {k : Nat} {v : Value} {n : Nat} {xs : List Value} (h : w.ownsRow lo e k v n xs) (hh : ∀ k, v.ownBlock = some k → k < hi) (hs : Same w w' lo hi) : w'.ownsRow lo e k v n xs := by
  refine ⟨h.1, h.2.imp id ?_⟩
  rintro ⟨g, cap, cur, e1, e2, e3, e4⟩
  exact ⟨g, cap, cur, e1, e2, (hs g e2 (hh g (by rw [e1]; rfl))).trans e3, e4⟩
theorem OwnIB.same {w w' : World} {lo hi : Nat} {v : Value} {zs : List Int} (h : OwnIB w lo hi v zs) (hs : Same w w' lo hi) : OwnIB w' lo hi v zs := ⟨owns_same h.1 h.2 hs, h.2⟩
theorem OwnTB.same {w w' : World} {lo hi : Nat} {v : Value} {ss : List ByteArray} (h : OwnTB w lo hi v ss) (hs : Same w w' lo hi) : OwnTB w' lo hi v ss := ⟨owns_same h.1 h.2 hs, h.2⟩
theorem OwnGB.same {w w' : World} {lo hi : Nat} {v : Value} {gs : List (Int × List Int)} (h : OwnGB w lo hi v gs) (hs : Same w w' lo hi) : OwnGB w' lo hi v gs := by
  obtain ⟨ps, hl, hr, hk, hd, hn, hh⟩ := h
  exact ⟨ps, hl, owns_same hr hh hs, fun k h1 h2 => ⟨(hk k h1 h2).1, (hk k h1 h2).2.same hs⟩, hd, hn, hh⟩
theorem Same.below {w w' : World} {lo hi : Nat} (hb : Below w.heap.size w w') (hh : hi ≤ w.heap.size) : Same w w' lo hi := fun k _ h2 => hb.block k (by omega)
theorem Same.far {w : World} {lo hi : Nat} {a : Addr} (ha : a.block < lo ∨ hi ≤ a.block) (x : Value) : Same w (w.setCell a x) lo hi := fun k h1 h2 => Below.heap_setCell _ _ _ _ (by omega)
theorem Same.trans {w a b : World} {lo hi : Nat} (h1 : Same w a lo hi) (h2 : Same a b lo hi) : Same w b lo hi := fun k x y => (h2 k x y).trans (h1 k x y)
theorem OwnI.ib {w : World} {lo : Nat} {v : Value} {zs : List Int} (h : OwnI w lo v zs) : OwnIB w lo w.heap.size v zs := ⟨h, fun k e => (OwnI.lt h k e).2⟩
theorem OwnT4.tb {w : World} {lo : Nat} {v : Value} {ss : List ByteArray} (h : OwnT4 w lo v ss) : OwnTB w lo w.heap.size v ss := ⟨h, fun k e => (h.lt k e).2⟩
theorem OwnG.gb {w : World} {lo : Nat} {v : Value} {gs : List (Int × List Int)} (h : OwnG w lo v gs) : OwnGB w lo w.heap.size v gs := by
  obtain ⟨ps, hl, hr, hk, hd, hn⟩ := h
  exact ⟨ps, hl, hr, fun k h1 h2 => ⟨(hk k h1 h2).1, (hk k h1 h2).2.ib⟩, hd, hn, fun k e => (hr.lt k e).2⟩
theorem OwnGB.g {w : World} {lo hi : Nat} {v : Value} {gs : List (Int × List Int)} (h : OwnGB w lo hi v gs) : OwnG w lo v gs := by
  obtain ⟨ps, hl, hr, hk, hd, hn, hh⟩ := h
  exact ⟨ps, hl, hr, fun k h1 h2 => ⟨(hk k h1 h2).1, (hk k h1 h2).2.1⟩, hd, hn⟩
/-- a station's own lists, each in its stretch -/
structure OwnStn (w : World) (base : Nat) (v1 v2 v3 v4 : Value) (s : Stn) : Prop where
  all : ∃ l1 h1 l2 h2 l3 h3 l4 h4, (base ≤ l1 ∧ base ≤ l2 ∧ base ≤ l3 ∧ base ≤ l4) ∧ (h1 ≤ w.heap.size ∧ h2 ≤ w.heap.size ∧ h3 ≤ w.heap.size ∧ h4 ≤ w.heap.size) ∧
    OwnIB w l1 h1 v1 s.kn ∧ OwnIB w l2 h2 v2 s.ws ∧ OwnGB w l3 h3 v3 s.gs ∧ OwnTB w l4 h4 v4 s.os ∧
    (h1 ≤ l2 ∨ h2 ≤ l1) ∧ (h1 ≤ l3 ∨ h3 ≤ l1) ∧ (h1 ≤ l4 ∨ h4 ≤ l1) ∧ (h2 ≤ l3 ∨ h3 ≤ l2) ∧ (h2 ≤ l4 ∨ h4 ≤ l2) ∧ (h3 ≤ l4 ∨ h4 ≤ l3)
theorem OwnStn.rows {w : World} {base : Nat} {v1 v2 v3 v4 : Value} {s : Stn} (h : OwnStn w base v1 v2 v3 v4 s) : RowI w v1 s.kn ∧ RowI w v2 s.ws ∧ RowG w v3 s.gs ∧ RowS w v4 s.os := by
  obtain ⟨l1, h1, l2, h2, l3, h3, l4, h4, _, _, o1, o2, o3, o4, _⟩ := h.all
  exact ⟨o1.1.row, o2.1.row, o3.g.row, o4.1.row⟩
theorem OwnStn.below {w w' : World} {base : Nat} {v1 v2 v3 v4 : Value} {s : Stn} (h : OwnStn w base v1 v2 v3 v4 s) (hb : Below w.heap.size w w') : OwnStn w' base v1 v2 v3 v4 s := by
  obtain ⟨l1, h1, l2, h2, l3, h3, l4, h4, hl, hh, o1, o2, o3, o4, d⟩ := h.all
  have := hb.size
  exact ⟨l1, h1, l2, h2, l3, h3, l4, h4, hl, ⟨by omega, by omega, by omega, by omega⟩, o1.same (Same.below hb hh.1), o2.same (Same.below hb hh.2.1), o3.same (Same.below hb hh.2.2.1), o4.same (Same.below hb hh.2.2.2), d⟩
theorem Below.setRow {B : Nat} {w w' : World} (h : Below B w w') {g : Nat} (hg : B ≤ g) (cs : Array Value) : Below B w (w'.setRow g cs) :=
  ⟨h.os, h.tape, h.output, by rw [setRow_size]; exact h.size, fun k hk => (setRow_other w' g k cs (by omega)).trans (h.block k hk)⟩
theorem Same.setRow {w : World} {lo hi g : Nat} (hg : g < lo ∨ hi ≤ g) (cs : Array Value) : Same w (w.setRow g cs) lo hi := fun k h1 h2 => setRow_other w g k cs (by omega)
end Go.Proofs.Ytancfnpmbddfoaa
namespace Go.Proofs.Ytancfnpmbddfoaa
open Go.RowKit
set_option linter.unusedVariables false
set_option linter.unusedSimpArgs false

set_option maxRecDepth 100000 in
set_option maxHeartbeats 6400000 in
theorem toStation_any (s : Stn) (p1 p2 p3 p4 : Option Addr) (c1 c2 c3 c4 : Nat) (w : World) (hl1 : s.kn.length ≤ 1048576) (hl2 : s.ws.length ≤ 1048576) (hl3 : s.gs.length ≤ 1048576) (hlw : ∀ g ∈ s.gs, g.2.length ≤ 1048576) (hl4 : s.os.length ≤ 1048576)
    (i1 : InI w p1 s.kn) (i2 : InI w p2 s.ws) (i3 : InG w p3 s.gs) (i4 : InS w p4 s.os) :
    Calls Try.prog 11 #[.agg #[.int .i64 s.ad, .int .i64 s.bo, .int .i64 s.st, .int .i64 s.s.g, .int .i64 s.s.o, .int .i64 s.s.b, .int .i64 s.s.h, .int .i64 s.t.g, .int .i64 s.t.o, .int .i64 s.t.b, .int .i64 s.t.h, .int .i64 s.qu, .int .i64 s.tr, .int .i64 s.he, .int .i64 s.po, .slice p1 s.kn.length c1, .slice p2 s.ws.length c2, .slice p3 s.gs.length c3, .slice p4 s.os.length c4]] w fun x w' => ∃ v1 v2 v3 v4, x = .returned (.agg #[.int .i64 s.ad, .int .i64 s.bo, .int .i64 s.st, .int .i64 s.s.g, .int .i64 s.s.o, .int .i64 s.s.b, .int .i64 s.s.h, .int .i64 s.t.g, .int .i64 s.t.o, .int .i64 s.t.b, .int .i64 s.t.h, .int .i64 s.qu, .int .i64 s.tr, .int .i64 s.he, .int .i64 s.po, v1, v2, v3, v4]) ∧ OwnStn w' w.heap.size v1 v2 v3 v4 s ∧ Below w.heap.size w w' := by
  have HS : Hid (∀ W : World, Calls Try.prog 44 #[.agg #[.int .i64 s.s.g, .int .i64 s.s.o, .int .i64 s.s.b, .int .i64 s.s.h]] W fun x w' => x = .returned (.agg #[.int .i64 s.s.g, .int .i64 s.s.o, .int .i64 s.s.b, .int .i64 s.s.h]) ∧ Below W.heap.size W w') := fun W => toStamp_any s.s W
  have HT : Hid (∀ W : World, Calls Try.prog 44 #[.agg #[.int .i64 s.t.g, .int .i64 s.t.o, .int .i64 s.t.b, .int .i64 s.t.h]] W fun x w' => x = .returned (.agg #[.int .i64 s.t.g, .int .i64 s.t.o, .int .i64 s.t.b, .int .i64 s.t.h]) ∧ Below W.heap.size W w') := fun W => toStamp_any s.t W
  have H1 : Hid (∀ W, Below w.heap.size w W → Calls Try.prog 22 #[.slice p1 s.kn.length c1] W fun e w' => ∃ v, e = .returned v ∧ OwnI w' W.heap.size v s.kn ∧ Below W.heap.size W w') := fun W hW => toInt64S_any p1 c1 s.kn W hl1 (i1.below hW)
  have H2 : Hid (∀ W, Below w.heap.size w W → Calls Try.prog 22 #[.slice p2 s.ws.length c2] W fun e w' => ∃ v, e = .returned v ∧ OwnI w' W.heap.size v s.ws ∧ Below W.heap.size W w') := fun W hW => toInt64S_any p2 c2 s.ws W hl2 (i2.below hW)
  have H3 : Hid (∀ W, Below w.heap.size w W → Calls Try.prog 45 #[.slice p3 s.gs.length c3] W fun e w' => ∃ v, e = .returned v ∧ OwnG w' W.heap.size v s.gs ∧ Below W.heap.size W w') := fun W hW => toGlobS_any p3 c3 s.gs W hl3 hlw (i3.below hW)
  have H4 : Hid (∀ W, Below w.heap.size w W → Calls Try.prog 46 #[.slice p4 s.os.length c4] W fun e w' => ∃ v, e = .returned v ∧ OwnT4 w' W.heap.size v s.os ∧ Below W.heap.size W w') := fun W hW => toStringS_any p4 c4 s.os W hl4 (i4.below hW)
  clear i1 i2 i3 i4 hl1 hl2 hl3 hlw hl4
  go_enter Try.func11, Try.ntmps11
  go_upto_region 5 with fail
  have hX : Hid _ := blk (blk (heap_alloc_new w (.cells #[.int .i64 s.ad, .int .i64 s.bo, .int .i64 s.st, .int .i64 s.s.g, .int .i64 s.s.o, .int .i64 s.s.b, .int .i64 s.s.h, .int .i64 s.t.g, .int .i64 s.t.o, .int .i64 s.t.b, .int .i64 s.t.h, .int .i64 s.qu, .int .i64 s.tr, .int .i64 s.he, .int .i64 s.po, .slice p1 s.kn.length c1, .slice p2 s.ws.length c2, .slice p3 s.gs.length c3, .slice p4 s.os.length c4] 28)) (all_alloc _ (.cells #[.int .i64 0, .int .i64 0, .int .i64 0, .int .i64 0, .int .i64 0, .int .i64 0, .int .i64 0, .int .i64 0, .int .i64 0, .int .i64 0, .int .i64 0, .int .i64 0, .int .i64 0, .int .i64 0, .int .i64 0, .slice none 0 0, .slice none 0 0, .slice none 0 0, .slice none 0 0] 34))) (all_alloc _ (.cells #[.int .i64 s.ad, .int .i64 s.bo, .int .i64 s.st, .int .i64 0, .int .i64 0, .int .i64 0, .int .i64 0, .int .i64 0, .int .i64 0, .int .i64 0, .int .i64 0, .int .i64 0, .int .i64 0, .int .i64 0, .int .i64 0, .slice none 0 0, .slice none 0 0, .slice none 0 0, .slice none 0 0] 34))
  have hY : Hid _ := blk (heap_alloc_new (w.alloc (.cells #[.int .i64 s.ad, .int .i64 s.bo, .int .i64 s.st, .int .i64 s.s.g, .int .i64 s.s.o, .int .i64 s.s.b, .int .i64 s.s.h, .int .i64 s.t.g, .int .i64 s.t.o, .int .i64 s.t.b, .int .i64 s.t.h, .int .i64 s.qu, .int .i64 s.tr, .int .i64 s.he, .int .i64 s.po, .slice p1 s.kn.length c1, .slice p2 s.ws.length c2, .slice p3 s.gs.length c3, .slice p4 s.os.length c4] 28)) (.cells #[.int .i64 0, .int .i64 0, .int .i64 0, .int .i64 0, .int .i64 0, .int .i64 0, .int .i64 0, .int .i64 0, .int .i64 0, .int .i64 0, .int .i64 0, .int .i64 0, .int .i64 0, .int .i64 0, .int .i64 0, .slice none 0 0, .slice none 0 0, .slice none 0 0, .slice none 0 0] 34)) (all_alloc _ (.cells #[.int .i64 s.ad, .int .i64 s.bo, .int .i64 s.st, .int .i64 0, .int .i64 0, .int .i64 0, .int .i64 0, .int .i64 0, .int .i64 0, .int .i64 0, .int .i64 0, .int .i64 0, .int .i64 0, .int .i64 0, .int .i64 0, .slice none 0 0, .slice none 0 0, .slice none 0 0, .slice none 0 0] 34))
  have hZ : Hid _ := heap_alloc_new ((w.alloc (.cells #[.int .i64 s.ad, .int .i64 s.bo, .int .i64 s.st, .int .i64 s.s.g, .int .i64 s.s.o, .int .i64 s.s.b, .int .i64 s.s.h, .int .i64 s.t.g, .int .i64 s.t.o, .int .i64 s.t.b, .int .i64 s.t.h, .int .i64 s.qu, .int .i64 s.tr, .int .i64 s.he, .int .i64 s.po, .slice p1 s.kn.length c1, .slice p2 s.ws.length c2, .slice p3 s.gs.length c3, .slice p4 s.os.length c4] 28)).alloc (.cells #[.int .i64 0, .int .i64 0, .int .i64 0, .int .i64 0, .int .i64 0, .int .i64 0, .int .i64 0, .int .i64 0, .int .i64 0, .int .i64 0, .int .i64 0, .int .i64 0, .int .i64 0, .int .i64 0, .int .i64 0, .slice none 0 0, .slice none 0 0, .slice none 0 0, .slice none 0 0] 34)) (.cells #[.int .i64 s.ad, .int .i64 s.bo, .int .i64 s.st, .int .i64 0, .int .i64 0, .int .i64 0, .int .i64 0, .int .i64 0, .int .i64 0, .int .i64 0, .int .i64 0, .int .i64 0, .int .i64 0, .int .i64 0, .int .i64 0, .slice none 0 0, .slice none 0 0, .slice none 0 0, .slice none 0 0] 34)
  have hA : Below w.heap.size w (((w.alloc (.cells #[.int .i64 s.ad, .int .i64 s.bo, .int .i64 s.st, .int .i64 s.s.g, .int .i64 s.s.o, .int .i64 s.s.b, .int .i64 s.s.h, .int .i64 s.t.g, .int .i64 s.t.o, .int .i64 s.t.b, .int .i64 s.t.h, .int .i64 s.qu, .int .i64 s.tr, .int .i64 s.he, .int .i64 s.po, .slice p1 s.kn.length c1, .slice p2 s.ws.length c2, .slice p3 s.gs.length c3, .slice p4 s.os.length c4] 28)).alloc (.cells #[.int .i64 0, .int .i64 0, .int .i64 0, .int .i64 0, .int .i64 0, .int .i64 0, .int .i64 0, .int .i64 0, .int .i64 0, .int .i64 0, .int .i64 0, .int .i64 0, .int .i64 0, .int .i64 0, .int .i64 0, .slice none 0 0, .slice none 0 0, .slice none 0 0, .slice none 0 0] 34)).alloc (.cells #[.int .i64 s.ad, .int .i64 s.bo, .int .i64 s.st, .int .i64 0, .int .i64 0, .int .i64 0, .int .i64 0, .int .i64 0, .int .i64 0, .int .i64 0, .int .i64 0, .int .i64 0, .int .i64 0, .int .i64 0, .int .i64 0, .slice none 0 0, .slice none 0 0, .slice none 0 0, .slice none 0 0] 34)) := keepB (keepB (all_alloc w _) (Nat.le_refl _) (all_alloc _ _)) (Nat.le_refl _) (all_alloc _ _)
  have e3 : (((w.alloc (.cells #[.int .i64 s.ad, .int .i64 s.bo, .int .i64 s.st, .int .i64 s.s.g, .int .i64 s.s.o, .int .i64 s.s.b, .int .i64 s.s.h, .int .i64 s.t.g, .int .i64 s.t.o, .int .i64 s.t.b, .int .i64 s.t.h, .int .i64 s.qu, .int .i64 s.tr, .int .i64 s.he, .int .i64 s.po, .slice p1 s.kn.length c1, .slice p2 s.ws.length c2, .slice p3 s.gs.length c3, .slice p4 s.os.length c4] 28)).alloc (.cells #[.int .i64 0, .int .i64 0, .int .i64 0, .int .i64 0, .int .i64 0, .int .i64 0, .int .i64 0, .int .i64 0, .int .i64 0, .int .i64 0, .int .i64 0, .int .i64 0, .int .i64 0, .int .i64 0, .int .i64 0, .slice none 0 0, .slice none 0 0, .slice none 0 0, .slice none 0 0] 34)).alloc (.cells #[.int .i64 s.ad, .int .i64 s.bo, .int .i64 s.st, .int .i64 0, .int .i64 0, .int .i64 0, .int .i64 0, .int .i64 0, .int .i64 0, .int .i64 0, .int .i64 0, .int .i64 0, .int .i64 0, .int .i64 0, .int .i64 0, .slice none 0 0, .slice none 0 0, .slice none 0 0, .slice none 0 0] 34)).heap.size = w.heap.size + 1 + 1 + 1 := by simp
  rw [show (w.alloc (.cells #[.int .i64 s.ad, .int .i64 s.bo, .int .i64 s.st, .int .i64 s.s.g, .int .i64 s.s.o, .int .i64 s.s.b, .int .i64 s.s.h, .int .i64 s.t.g, .int .i64 s.t.o, .int .i64 s.t.b, .int .i64 s.t.h, .int .i64 s.qu, .int .i64 s.tr, .int .i64 s.he, .int .i64 s.po, .slice p1 s.kn.length c1, .slice p2 s.ws.length c2, .slice p3 s.gs.length c3, .slice p4 s.os.length c4] 28)).heap.size = w.heap.size + 1 by simp] at hY
  rw [show ((w.alloc (.cells #[.int .i64 s.ad, .int .i64 s.bo, .int .i64 s.st, .int .i64 s.s.g, .int .i64 s.s.o, .int .i64 s.s.b, .int .i64 s.s.h, .int .i64 s.t.g, .int .i64 s.t.o, .int .i64 s.t.b, .int .i64 s.t.h, .int .i64 s.qu, .int .i64 s.tr, .int .i64 s.he, .int .i64 s.po, .slice p1 s.kn.length c1, .slice p2 s.ws.length c2, .slice p3 s.gs.length c3, .slice p4 s.os.length c4] 28)).alloc (.cells #[.int .i64 0, .int .i64 0, .int .i64 0, .int .i64 0, .int .i64 0, .int .i64 0, .int .i64 0, .int .i64 0, .int .i64 0, .int .i64 0, .int .i64 0, .int .i64 0, .int .i64 0, .int .i64 0, .int .i64 0, .slice none 0 0, .slice none 0 0, .slice none 0 0, .slice none 0 0] 34)).heap.size = w.heap.size + 1 + 1 by simp] at hZ
  generalize ((w.alloc (.cells #[.int .i64 s.ad, .int .i64 s.bo, .int .i64 s.st, .int .i64 s.s.g, .int .i64 s.s.o, .int .i64 s.s.b, .int .i64 s.s.h, .int .i64 s.t.g, .int .i64 s.t.o, .int .i64 s.t.b, .int .i64 s.t.h, .int .i64 s.qu, .int .i64 s.tr, .int .i64 s.he, .int .i64 s.po, .slice p1 s.kn.length c1, .slice p2 s.ws.length c2, .slice p3 s.gs.length c3, .slice p4 s.os.length c4] 28)).alloc (.cells #[.int .i64 0, .int .i64 0, .int .i64 0, .int .i64 0, .int .i64 0, .int .i64 0, .int .i64 0, .int .i64 0, .int .i64 0, .int .i64 0, .int .i64 0, .int .i64 0, .int .i64 0, .int .i64 0, .int .i64 0, .slice none 0 0, .slice none 0 0, .slice none 0 0, .slice none 0 0] 34)).alloc (.cells #[.int .i64 s.ad, .int .i64 s.bo, .int .i64 s.st, .int .i64 0, .int .i64 0, .int .i64 0, .int .i64 0, .int .i64 0, .int .i64 0, .int .i64 0, .int .i64 0, .int .i64 0, .int .i64 0, .int .i64 0, .int .i64 0, .slice none 0 0, .slice none 0 0, .slice none 0 0, .slice none 0 0] 34) = A5 at hX hY hZ hA e3 ⊢
  have x3_5 := cellW hX.out 3 _ rfl A5 (Below.refl _ _)
  have x4_5 := cellW hX.out 4 _ rfl A5 (Below.refl _ _)
  have x5_5 := cellW hX.out 5 _ rfl A5 (Below.refl _ _)
  have x6_5 := cellW hX.out 6 _ rfl A5 (Below.refl _ _)
  go_upto_region 6 with (go_at_call 44; refine (HS.out _).mono ?_; rintro e w5 ⟨rfl, hb5⟩; have hZ5 : Hid _ := blk hZ.out hb5; have z3_5 := cellW hZ5.out 3 _ rfl w5 (Below.refl _ _); have f3_5 := frozenW hZ5.out 3 w5 (Below.refl _ _); have z4_5 := cellW hZ5.out 4 _ rfl w5 (Below.refl _ _); have f4_5 := frozenW hZ5.out 4 w5 (Below.refl _ _); have z5_5 := cellW hZ5.out 5 _ rfl w5 (Below.refl _ _); have f5_5 := frozenW hZ5.out 5 w5 (Below.refl _ _); have z6_5 := cellW hZ5.out 6 _ rfl w5 (Below.refl _ _); have f6_5 := frozenW hZ5.out 6 w5 (Below.refl _ _))
  have hs5 : A5.heap.size ≤ w5.heap.size := hb5.size
  have hX5n : Hid (_ = some (Obj.cells #[.int .i64 s.ad, .int .i64 s.bo, .int .i64 s.st, .int .i64 s.s.g, .int .i64 s.s.o, .int .i64 s.s.b, .int .i64 s.s.h, .int .i64 s.t.g, .int .i64 s.t.o, .int .i64 s.t.b, .int .i64 s.t.h, .int .i64 s.qu, .int .i64 s.tr, .int .i64 s.he, .int .i64 s.po, .slice p1 s.kn.length c1, .slice p2 s.ws.length c2, .slice p3 s.gs.length c3, .slice p4 s.os.length c4] 28 (0, 0))) := (blk_far (a := ⟨w.heap.size + 1 + 1, 6, none⟩) (blk_far (a := ⟨w.heap.size + 1 + 1, 5, none⟩) (blk_far (a := ⟨w.heap.size + 1 + 1, 4, none⟩) (blk_far (a := ⟨w.heap.size + 1 + 1, 3, none⟩) (blk hX.out hb5) (by simp only; omega) (.int .i64 s.s.g)) (by simp only; omega) (.int .i64 s.s.o)) (by simp only; omega) (.int .i64 s.s.b)) (by simp only; omega) (.int .i64 s.s.h))
  have hY5n : Hid (_ = some (Obj.cells #[.int .i64 0, .int .i64 0, .int .i64 0, .int .i64 0, .int .i64 0, .int .i64 0, .int .i64 0, .int .i64 0, .int .i64 0, .int .i64 0, .int .i64 0, .int .i64 0, .int .i64 0, .int .i64 0, .int .i64 0, .slice none 0 0, .slice none 0 0, .slice none 0 0, .slice none 0 0] 34 (0, 0))) := (blk_far (a := ⟨w.heap.size + 1 + 1, 6, none⟩) (blk_far (a := ⟨w.heap.size + 1 + 1, 5, none⟩) (blk_far (a := ⟨w.heap.size + 1 + 1, 4, none⟩) (blk_far (a := ⟨w.heap.size + 1 + 1, 3, none⟩) (blk hY.out hb5) (by simp only; omega) (.int .i64 s.s.g)) (by simp only; omega) (.int .i64 s.s.o)) (by simp only; omega) (.int .i64 s.s.b)) (by simp only; omega) (.int .i64 s.s.h))
  have hZ5n : Hid (_ = some (Obj.cells #[.int .i64 s.ad, .int .i64 s.bo, .int .i64 s.st, .int .i64 s.s.g, .int .i64 s.s.o, .int .i64 s.s.b, .int .i64 s.s.h, .int .i64 0, .int .i64 0, .int .i64 0, .int .i64 0, .int .i64 0, .int .i64 0, .int .i64 0, .int .i64 0, .slice none 0 0, .slice none 0 0, .slice none 0 0, .slice none 0 0] 34 (0, 0))) := (blk_set (blk_set (blk_set (blk_set (blk hZ.out hb5) 3 (.int .i64 s.s.g)) 4 (.int .i64 s.s.o)) 5 (.int .i64 s.s.b)) 6 (.int .i64 s.s.h))
  have hA5n : Below w.heap.size w ((((w5.setCell ⟨w.heap.size + 1 + 1, 3, none⟩ (.int .i64 s.s.g)).setCell ⟨w.heap.size + 1 + 1, 4, none⟩ (.int .i64 s.s.o)).setCell ⟨w.heap.size + 1 + 1, 5, none⟩ (.int .i64 s.s.b)).setCell ⟨w.heap.size + 1 + 1, 6, none⟩ (.int .i64 s.s.h)) := (Below.setCell (Below.setCell (Below.setCell (Below.setCell (keepB hA (Nat.le_refl _) hb5) (by simp only; omega) _) (by simp only; omega) _) (by simp only; omega) _) (by simp only; omega) _)
  have hq5 : ((((w5.setCell ⟨w.heap.size + 1 + 1, 3, none⟩ (.int .i64 s.s.g)).setCell ⟨w.heap.size + 1 + 1, 4, none⟩ (.int .i64 s.s.o)).setCell ⟨w.heap.size + 1 + 1, 5, none⟩ (.int .i64 s.s.b)).setCell ⟨w.heap.size + 1 + 1, 6, none⟩ (.int .i64 s.s.h)).heap.size = w5.heap.size := by simp [World.setCell]
  have hge5 : w.heap.size + 1 + 1 + 1 ≤ w5.heap.size := by omega
  rw [← hq5] at hge5
  clear hq5
  generalize ((((w5.setCell ⟨w.heap.size + 1 + 1, 3, none⟩ (.int .i64 s.s.g)).setCell ⟨w.heap.size + 1 + 1, 4, none⟩ (.int .i64 s.s.o)).setCell ⟨w.heap.size + 1 + 1, 5, none⟩ (.int .i64 s.s.b)).setCell ⟨w.heap.size + 1 + 1, 6, none⟩ (.int .i64 s.s.h)) = A6 at hX5n hY5n hZ5n hA5n hge5 ⊢
  replace hX := hX5n
  replace hY := hY5n
  replace hZ := hZ5n
  replace hA := hA5n
  clear hX5n hY5n hZ5n hA5n
  clear z3_5 f3_5 x3_5 z4_5 f4_5 x4_5 z5_5 f5_5 x5_5 z6_5 f6_5 x6_5 hZ5
  clear e3
  have x7_6 := cellW hX.out 7 _ rfl A6 (Below.refl _ _)
  have x8_6 := cellW hX.out 8 _ rfl A6 (Below.refl _ _)
  have x9_6 := cellW hX.out 9 _ rfl A6 (Below.refl _ _)
  have x10_6 := cellW hX.out 10 _ rfl A6 (Below.refl _ _)
  go_upto_region 7 with (go_at_call 44; refine (HT.out _).mono ?_; rintro e w6 ⟨rfl, hb6⟩; have hZ6 : Hid _ := blk hZ.out hb6; have z7_6 := cellW hZ6.out 7 _ rfl w6 (Below.refl _ _); have f7_6 := frozenW hZ6.out 7 w6 (Below.refl _ _); have z8_6 := cellW hZ6.out 8 _ rfl w6 (Below.refl _ _); have f8_6 := frozenW hZ6.out 8 w6 (Below.refl _ _); have z9_6 := cellW hZ6.out 9 _ rfl w6 (Below.refl _ _); have f9_6 := frozenW hZ6.out 9 w6 (Below.refl _ _); have z10_6 := cellW hZ6.out 10 _ rfl w6 (Below.refl _ _); have f10_6 := frozenW hZ6.out 10 w6 (Below.refl _ _))
  have hs6 : A6.heap.size ≤ w6.heap.size := hb6.size
  have hX6n : Hid (_ = some (Obj.cells #[.int .i64 s.ad, .int .i64 s.bo, .int .i64 s.st, .int .i64 s.s.g, .int .i64 s.s.o, .int .i64 s.s.b, .int .i64 s.s.h, .int .i64 s.t.g, .int .i64 s.t.o, .int .i64 s.t.b, .int .i64 s.t.h, .int .i64 s.qu, .int .i64 s.tr, .int .i64 s.he, .int .i64 s.po, .slice p1 s.kn.length c1, .slice p2 s.ws.length c2, .slice p3 s.gs.length c3, .slice p4 s.os.length c4] 28 (0, 0))) := (blk_far (a := ⟨w.heap.size + 1 + 1, 10, none⟩) (blk_far (a := ⟨w.heap.size + 1 + 1, 9, none⟩) (blk_far (a := ⟨w.heap.size + 1 + 1, 8, none⟩) (blk_far (a := ⟨w.heap.size + 1 + 1, 7, none⟩) (blk hX.out hb6) (by simp only; omega) (.int .i64 s.t.g)) (by simp only; omega) (.int .i64 s.t.o)) (by simp only; omega) (.int .i64 s.t.b)) (by simp only; omega) (.int .i64 s.t.h))
  have hY6n : Hid (_ = some (Obj.cells #[.int .i64 0, .int .i64 0, .int .i64 0, .int .i64 0, .int .i64 0, .int .i64 0, .int .i64 0, .int .i64 0, .int .i64 0, .int .i64 0, .int .i64 0, .int .i64 0, .int .i64 0, .int .i64 0, .int .i64 0, .slice none 0 0, .slice none 0 0, .slice none 0 0, .slice none 0 0] 34 (0, 0))) := (blk_far (a := ⟨w.heap.size + 1 + 1, 10, none⟩) (blk_far (a := ⟨w.heap.size + 1 + 1, 9, none⟩) (blk_far (a := ⟨w.heap.size + 1 + 1, 8, none⟩) (blk_far (a := ⟨w.heap.size + 1 + 1, 7, none⟩) (blk hY.out hb6) (by simp only; omega) (.int .i64 s.t.g)) (by simp only; omega) (.int .i64 s.t.o)) (by simp only; omega) (.int .i64 s.t.b)) (by simp only; omega) (.int .i64 s.t.h))
  have hZ6n : Hid (_ = some (Obj.cells #[.int .i64 s.ad, .int .i64 s.bo, .int .i64 s.st, .int .i64 s.s.g, .int .i64 s.s.o, .int .i64 s.s.b, .int .i64 s.s.h, .int .i64 s.t.g, .int .i64 s.t.o, .int .i64 s.t.b, .int .i64 s.t.h, .int .i64 0, .int .i64 0, .int .i64 0, .int .i64 0, .slice none 0 0, .slice none 0 0, .slice none 0 0, .slice none 0 0] 34 (0, 0))) := (blk_set (blk_set (blk_set (blk_set (blk hZ.out hb6) 7 (.int .i64 s.t.g)) 8 (.int .i64 s.t.o)) 9 (.int .i64 s.t.b)) 10 (.int .i64 s.t.h))
  have hA6n : Below w.heap.size w ((((w6.setCell ⟨w.heap.size + 1 + 1, 7, none⟩ (.int .i64 s.t.g)).setCell ⟨w.heap.size + 1 + 1, 8, none⟩ (.int .i64 s.t.o)).setCell ⟨w.heap.size + 1 + 1, 9, none⟩ (.int .i64 s.t.b)).setCell ⟨w.heap.size + 1 + 1, 10, none⟩ (.int .i64 s.t.h)) := (Below.setCell (Below.setCell (Below.setCell (Below.setCell (keepB hA (Nat.le_refl _) hb6) (by simp only; omega) _) (by simp only; omega) _) (by simp only; omega) _) (by simp only; omega) _)
  have hq6 : ((((w6.setCell ⟨w.heap.size + 1 + 1, 7, none⟩ (.int .i64 s.t.g)).setCell ⟨w.heap.size + 1 + 1, 8, none⟩ (.int .i64 s.t.o)).setCell ⟨w.heap.size + 1 + 1, 9, none⟩ (.int .i64 s.t.b)).setCell ⟨w.heap.size + 1 + 1, 10, none⟩ (.int .i64 s.t.h)).heap.size = w6.heap.size := by simp [World.setCell]
  have hge6 : w.heap.size + 1 + 1 + 1 ≤ w6.heap.size := by omega
  rw [← hq6] at hge6
  clear hq6
  generalize ((((w6.setCell ⟨w.heap.size + 1 + 1, 7, none⟩ (.int .i64 s.t.g)).setCell ⟨w.heap.size + 1 + 1, 8, none⟩ (.int .i64 s.t.o)).setCell ⟨w.heap.size + 1 + 1, 9, none⟩ (.int .i64 s.t.b)).setCell ⟨w.heap.size + 1 + 1, 10, none⟩ (.int .i64 s.t.h)) = A7 at hX6n hY6n hZ6n hA6n hge6 ⊢
  replace hX := hX6n
  replace hY := hY6n
  replace hZ := hZ6n
  replace hA := hA6n
  clear hX6n hY6n hZ6n hA6n
  clear z7_6 f7_6 x7_6 z8_6 f8_6 x8_6 z9_6 f9_6 x9_6 z10_6 f10_6 x10_6 hZ6
  have x11_7 := cellW hX.out 11 _ rfl A7 (Below.refl _ _)
  have z11_7 := cellW hZ.out 11 _ rfl A7 (Below.refl _ _)
  have f11_7 := frozenW hZ.out 11 A7 (Below.refl _ _)
  go_upto_region 8 with fail
  have hX7n : Hid (_ = some (Obj.cells #[.int .i64 s.ad, .int .i64 s.bo, .int .i64 s.st, .int .i64 s.s.g, .int .i64 s.s.o, .int .i64 s.s.b, .int .i64 s.s.h, .int .i64 s.t.g, .int .i64 s.t.o, .int .i64 s.t.b, .int .i64 s.t.h, .int .i64 s.qu, .int .i64 s.tr, .int .i64 s.he, .int .i64 s.po, .slice p1 s.kn.length c1, .slice p2 s.ws.length c2, .slice p3 s.gs.length c3, .slice p4 s.os.length c4] 28 (0, 0))) := (blk_far (a := ⟨w.heap.size + 1 + 1, 11, none⟩) hX.out (by simp only; omega) (.int .i64 s.qu))
  have hY7n : Hid (_ = some (Obj.cells #[.int .i64 0, .int .i64 0, .int .i64 0, .int .i64 0, .int .i64 0, .int .i64 0, .int .i64 0, .int .i64 0, .int .i64 0, .int .i64 0, .int .i64 0, .int .i64 0, .int .i64 0, .int .i64 0, .int .i64 0, .slice none 0 0, .slice none 0 0, .slice none 0 0, .slice none 0 0] 34 (0, 0))) := (blk_far (a := ⟨w.heap.size + 1 + 1, 11, none⟩) hY.out (by simp only; omega) (.int .i64 s.qu))
  have hZ7n : Hid (_ = some (Obj.cells #[.int .i64 s.ad, .int .i64 s.bo, .int .i64 s.st, .int .i64 s.s.g, .int .i64 s.s.o, .int .i64 s.s.b, .int .i64 s.s.h, .int .i64 s.t.g, .int .i64 s.t.o, .int .i64 s.t.b, .int .i64 s.t.h, .int .i64 s.qu, .int .i64 0, .int .i64 0, .int .i64 0, .slice none 0 0, .slice none 0 0, .slice none 0 0, .slice none 0 0] 34 (0, 0))) := (blk_set hZ.out 11 (.int .i64 s.qu))
  have hA7n : Below w.heap.size w (A7.setCell ⟨w.heap.size + 1 + 1, 11, none⟩ (.int .i64 s.qu)) := (Below.setCell hA (by simp only; omega) _)
  have hq7 : (A7.setCell ⟨w.heap.size + 1 + 1, 11, none⟩ (.int .i64 s.qu)).heap.size = A7.heap.size := by simp [World.setCell]
  have hge7 : w.heap.size + 1 + 1 + 1 ≤ A7.heap.size := by omega
  rw [← hq7] at hge7
  clear hq7
  generalize (A7.setCell ⟨w.heap.size + 1 + 1, 11, none⟩ (.int .i64 s.qu)) = A8 at hX7n hY7n hZ7n hA7n hge7 ⊢
  replace hX := hX7n
  replace hY := hY7n
  replace hZ := hZ7n
  replace hA := hA7n
  clear hX7n hY7n hZ7n hA7n
  clear z11_7 f11_7 x11_7
  have x12_8 := cellW hX.out 12 _ rfl A8 (Below.refl _ _)
  have z12_8 := cellW hZ.out 12 _ rfl A8 (Below.refl _ _)
  have f12_8 := frozenW hZ.out 12 A8 (Below.refl _ _)
  go_upto_region 9 with fail
  have hX8n : Hid (_ = some (Obj.cells #[.int .i64 s.ad, .int .i64 s.bo, .int .i64 s.st, .int .i64 s.s.g, .int .i64 s.s.o, .int .i64 s.s.b, .int .i64 s.s.h, .int .i64 s.t.g, .int .i64 s.t.o, .int .i64 s.t.b, .int .i64 s.t.h, .int .i64 s.qu, .int .i64 s.tr, .int .i64 s.he, .int .i64 s.po, .slice p1 s.kn.length c1, .slice p2 s.ws.length c2, .slice p3 s.gs.length c3, .slice p4 s.os.length c4] 28 (0, 0))) := (blk_far (a := ⟨w.heap.size + 1 + 1, 12, none⟩) hX.out (by simp only; omega) (.int .i64 s.tr))
  have hY8n : Hid (_ = some (Obj.cells #[.int .i64 0, .int .i64 0, .int .i64 0, .int .i64 0, .int .i64 0, .int .i64 0, .int .i64 0, .int .i64 0, .int .i64 0, .int .i64 0, .int .i64 0, .int .i64 0, .int .i64 0, .int .i64 0, .int .i64 0, .slice none 0 0, .slice none 0 0, .slice none 0 0, .slice none 0 0] 34 (0, 0))) := (blk_far (a := ⟨w.heap.size + 1 + 1, 12, none⟩) hY.out (by simp only; omega) (.int .i64 s.tr))
  have hZ8n : Hid (_ = some (Obj.cells #[.int .i64 s.ad, .int .i64 s.bo, .int .i64 s.st, .int .i64 s.s.g, .int .i64 s.s.o, .int .i64 s.s.b, .int .i64 s.s.h, .int .i64 s.t.g, .int .i64 s.t.o, .int .i64 s.t.b, .int .i64 s.t.h, .int .i64 s.qu, .int .i64 s.tr, .int .i64 0, .int .i64 0, .slice none 0 0, .slice none 0 0, .slice none 0 0, .slice none 0 0] 34 (0, 0))) := (blk_set hZ.out 12 (.int .i64 s.tr))
  have hA8n : Below w.heap.size w (A8.setCell ⟨w.heap.size + 1 + 1, 12, none⟩ (.int .i64 s.tr)) := (Below.setCell hA (by simp only; omega) _)
  have hq8 : (A8.setCell ⟨w.heap.size + 1 + 1, 12, none⟩ (.int .i64 s.tr)).heap.size = A8.heap.size := by simp [World.setCell]
  have hge8 : w.heap.size + 1 + 1 + 1 ≤ A8.heap.size := by omega
  rw [← hq8] at hge8
  clear hq8
  generalize (A8.setCell ⟨w.heap.size + 1 + 1, 12, none⟩ (.int .i64 s.tr)) = A9 at hX8n hY8n hZ8n hA8n hge8 ⊢
  replace hX := hX8n
  replace hY := hY8n
  replace hZ := hZ8n
  replace hA := hA8n
  clear hX8n hY8n hZ8n hA8n
  clear z12_8 f12_8 x12_8
  have x13_9 := cellW hX.out 13 _ rfl A9 (Below.refl _ _)
  have z13_9 := cellW hZ.out 13 _ rfl A9 (Below.refl _ _)
  have f13_9 := frozenW hZ.out 13 A9 (Below.refl _ _)
  go_upto_region 10 with fail
  have hX9n : Hid (_ = some (Obj.cells #[.int .i64 s.ad, .int .i64 s.bo, .int .i64 s.st, .int .i64 s.s.g, .int .i64 s.s.o, .int .i64 s.s.b, .int .i64 s.s.h, .int .i64 s.t.g, .int .i64 s.t.o, .int .i64 s.t.b, .int .i64 s.t.h, .int .i64 s.qu, .int .i64 s.tr, .int .i64 s.he, .int .i64 s.po, .slice p1 s.kn.length c1, .slice p2 s.ws.length c2, .slice p3 s.gs.length c3, .slice p4 s.os.length c4] 28 (0, 0))) := (blk_far (a := ⟨w.heap.size + 1 + 1, 13, none⟩) hX.out (by simp only; omega) (.int .i64 s.he))
  have hY9n : Hid (_ = some (Obj.cells #[.int .i64 0, .int .i64 0, .int .i64 0, .int .i64 0, .int .i64 0, .int .i64 0, .int .i64 0, .int .i64 0, .int .i64 0, .int .i64 0, .int .i64 0, .int .i64 0, .int .i64 0, .int .i64 0, .int .i64 0, .slice none 0 0, .slice none 0 0, .slice none 0 0, .slice none 0 0] 34 (0, 0))) := (blk_far (a := ⟨w.heap.size + 1 + 1, 13, none⟩) hY.out (by simp only; omega) (.int .i64 s.he))
  have hZ9n : Hid (_ = some (Obj.cells #[.int .i64 s.ad, .int .i64 s.bo, .int .i64 s.st, .int .i64 s.s.g, .int .i64 s.s.o, .int .i64 s.s.b, .int .i64 s.s.h, .int .i64 s.t.g, .int .i64 s.t.o, .int .i64 s.t.b, .int .i64 s.t.h, .int .i64 s.qu, .int .i64 s.tr, .int .i64 s.he, .int .i64 0, .slice none 0 0, .slice none 0 0, .slice none 0 0, .slice none 0 0] 34 (0, 0))) := (blk_set hZ.out 13 (.int .i64 s.he))
  have hA9n : Below w.heap.size w (A9.setCell ⟨w.heap.size + 1 + 1, 13, none⟩ (.int .i64 s.he)) := (Below.setCell hA (by simp only; omega) _)
  have hq9 : (A9.setCell ⟨w.heap.size + 1 + 1, 13, none⟩ (.int .i64 s.he)).heap.size = A9.heap.size := by simp [World.setCell]
  have hge9 : w.heap.size + 1 + 1 + 1 ≤ A9.heap.size := by omega
  rw [← hq9] at hge9
  clear hq9
  generalize (A9.setCell ⟨w.heap.size + 1 + 1, 13, none⟩ (.int .i64 s.he)) = A10 at hX9n hY9n hZ9n hA9n hge9 ⊢
  replace hX := hX9n
  replace hY := hY9n
  replace hZ := hZ9n
  replace hA := hA9n
  clear hX9n hY9n hZ9n hA9n
  clear z13_9 f13_9 x13_9
  have x14_10 := cellW hX.out 14 _ rfl A10 (Below.refl _ _)
  have z14_10 := cellW hZ.out 14 _ rfl A10 (Below.refl _ _)
  have f14_10 := frozenW hZ.out 14 A10 (Below.refl _ _)
  go_upto_region 11 with fail
  have hX10n : Hid (_ = some (Obj.cells #[.int .i64 s.ad, .int .i64 s.bo, .int .i64 s.st, .int .i64 s.s.g, .int .i64 s.s.o, .int .i64 s.s.b, .int .i64 s.s.h, .int .i64 s.t.g, .int .i64 s.t.o, .int .i64 s.t.b, .int .i64 s.t.h, .int .i64 s.qu, .int .i64 s.tr, .int .i64 s.he, .int .i64 s.po, .slice p1 s.kn.length c1, .slice p2 s.ws.length c2, .slice p3 s.gs.length c3, .slice p4 s.os.length c4] 28 (0, 0))) := (blk_far (a := ⟨w.heap.size + 1 + 1, 14, none⟩) hX.out (by simp only; omega) (.int .i64 s.po))
  have hY10n : Hid (_ = some (Obj.cells #[.int .i64 0, .int .i64 0, .int .i64 0, .int .i64 0, .int .i64 0, .int .i64 0, .int .i64 0, .int .i64 0, .int .i64 0, .int .i64 0, .int .i64 0, .int .i64 0, .int .i64 0, .int .i64 0, .int .i64 0, .slice none 0 0, .slice none 0 0, .slice none 0 0, .slice none 0 0] 34 (0, 0))) := (blk_far (a := ⟨w.heap.size + 1 + 1, 14, none⟩) hY.out (by simp only; omega) (.int .i64 s.po))
  have hZ10n : Hid (_ = some (Obj.cells #[.int .i64 s.ad, .int .i64 s.bo, .int .i64 s.st, .int .i64 s.s.g, .int .i64 s.s.o, .int .i64 s.s.b, .int .i64 s.s.h, .int .i64 s.t.g, .int .i64 s.t.o, .int .i64 s.t.b, .int .i64 s.t.h, .int .i64 s.qu, .int .i64 s.tr, .int .i64 s.he, .int .i64 s.po, .slice none 0 0, .slice none 0 0, .slice none 0 0, .slice none 0 0] 34 (0, 0))) := (blk_set hZ.out 14 (.int .i64 s.po))
  have hA10n : Below w.heap.size w (A10.setCell ⟨w.heap.size + 1 + 1, 14, none⟩ (.int .i64 s.po)) := (Below.setCell hA (by simp only; omega) _)
  have hq10 : (A10.setCell ⟨w.heap.size + 1 + 1, 14, none⟩ (.int .i64 s.po)).heap.size = A10.heap.size := by simp [World.setCell]
  have hge10 : w.heap.size + 1 + 1 + 1 ≤ A10.heap.size := by omega
  rw [← hq10] at hge10
  clear hq10
  generalize (A10.setCell ⟨w.heap.size + 1 + 1, 14, none⟩ (.int .i64 s.po)) = A11 at hX10n hY10n hZ10n hA10n hge10 ⊢
  replace hX := hX10n
  replace hY := hY10n
  replace hZ := hZ10n
  replace hA := hA10n
  clear hX10n hY10n hZ10n hA10n
  clear z14_10 f14_10 x14_10
  have x15_11 := cellW hX.out 15 _ rfl A11 (Below.refl _ _)
  go_upto_region 12 with (go_at_call 22; refine (H1.out _ hA).mono ?_; rintro e w11 ⟨v, rfl, own1, hb11⟩; obtain ⟨q1, d1, rfl⟩ := own1.shape; have hZ11 : Hid _ := blk hZ.out hb11; have z15_11 := cellW hZ11.out 15 _ rfl w11 (Below.refl _ _); have f15_11 := frozenW hZ11.out 15 w11 (Below.refl _ _))
  have hs11 : A11.heap.size ≤ w11.heap.size := hb11.size
  have hX11n : Hid (_ = some (Obj.cells #[.int .i64 s.ad, .int .i64 s.bo, .int .i64 s.st, .int .i64 s.s.g, .int .i64 s.s.o, .int .i64 s.s.b, .int .i64 s.s.h, .int .i64 s.t.g, .int .i64 s.t.o, .int .i64 s.t.b, .int .i64 s.t.h, .int .i64 s.qu, .int .i64 s.tr, .int .i64 s.he, .int .i64 s.po, .slice p1 s.kn.length c1, .slice p2 s.ws.length c2, .slice p3 s.gs.length c3, .slice p4 s.os.length c4] 28 (0, 0))) := (blk_far (a := ⟨w.heap.size + 1 + 1, 15, none⟩) (blk hX.out hb11) (by simp only; omega) (.slice q1 s.kn.length d1))
  have hY11n : Hid (_ = some (Obj.cells #[.int .i64 0, .int .i64 0, .int .i64 0, .int .i64 0, .int .i64 0, .int .i64 0, .int .i64 0, .int .i64 0, .int .i64 0, .int .i64 0, .int .i64 0, .int .i64 0, .int .i64 0, .int .i64 0, .int .i64 0, .slice none 0 0, .slice none 0 0, .slice none 0 0, .slice none 0 0] 34 (0, 0))) := (blk_far (a := ⟨w.heap.size + 1 + 1, 15, none⟩) (blk hY.out hb11) (by simp only; omega) (.slice q1 s.kn.length d1))
  have hZ11n : Hid (_ = some (Obj.cells #[.int .i64 s.ad, .int .i64 s.bo, .int .i64 s.st, .int .i64 s.s.g, .int .i64 s.s.o, .int .i64 s.s.b, .int .i64 s.s.h, .int .i64 s.t.g, .int .i64 s.t.o, .int .i64 s.t.b, .int .i64 s.t.h, .int .i64 s.qu, .int .i64 s.tr, .int .i64 s.he, .int .i64 s.po, .slice q1 s.kn.length d1, .slice none 0 0, .slice none 0 0, .slice none 0 0] 34 (0, 0))) := (blk_set (blk hZ.out hb11) 15 (.slice q1 s.kn.length d1))
  have hA11n : Below w.heap.size w (w11.setCell ⟨w.heap.size + 1 + 1, 15, none⟩ (.slice q1 s.kn.length d1)) := (Below.setCell (keepB hA (Nat.le_refl _) hb11) (by simp only; omega) _)
  have hq11 : (w11.setCell ⟨w.heap.size + 1 + 1, 15, none⟩ (.slice q1 s.kn.length d1)).heap.size = w11.heap.size := by simp [World.setCell]
  have hi1 : Hid (OwnIB w11 A11.heap.size w11.heap.size (.slice q1 s.kn.length d1) s.kn) := own1.ib
  obtain ⟨L1, eL1⟩ : ∃ L, A11.heap.size = L := ⟨_, rfl⟩
  obtain ⟨U1, eU1⟩ : ∃ U, w11.heap.size = U := ⟨_, rfl⟩
  have o1_11 : Hid (OwnIB (w11.setCell ⟨w.heap.size + 1 + 1, 15, none⟩ (.slice q1 s.kn.length d1)) L1 U1 (.slice q1 s.kn.length d1) s.kn) := (show OwnIB w11 L1 U1 (.slice q1 s.kn.length d1) s.kn by rw [← eL1, ← eU1]; exact hi1.out).same (Same.far (by simp only; omega) _)
  have hge11 : w.heap.size + 1 + 1 + 1 ≤ w11.heap.size := by omega
  have hu11 : U1 ≤ w11.heap.size := by omega
  rw [← hq11] at hge11 hu11
  clear hq11
  generalize (w11.setCell ⟨w.heap.size + 1 + 1, 15, none⟩ (.slice q1 s.kn.length d1)) = A12 at hX11n hY11n hZ11n hA11n hge11 hu11 o1_11 ⊢
  replace hX := hX11n
  replace hY := hY11n
  replace hZ := hZ11n
  replace hA := hA11n
  clear hX11n hY11n hZ11n hA11n
  clear z15_11 f15_11 x15_11 hZ11
  have x16_12 := cellW hX.out 16 _ rfl A12 (Below.refl _ _)
  go_upto_region 13 with (go_at_call 22; refine (H2.out _ hA).mono ?_; rintro e w12 ⟨v, rfl, own2, hb12⟩; obtain ⟨q2, d2, rfl⟩ := own2.shape; have hZ12 : Hid _ := blk hZ.out hb12; have z16_12 := cellW hZ12.out 16 _ rfl w12 (Below.refl _ _); have f16_12 := frozenW hZ12.out 16 w12 (Below.refl _ _))
  have hs12 : A12.heap.size ≤ w12.heap.size := hb12.size
  have hX12n : Hid (_ = some (Obj.cells #[.int .i64 s.ad, .int .i64 s.bo, .int .i64 s.st, .int .i64 s.s.g, .int .i64 s.s.o, .int .i64 s.s.b, .int .i64 s.s.h, .int .i64 s.t.g, .int .i64 s.t.o, .int .i64 s.t.b, .int .i64 s.t.h, .int .i64 s.qu, .int .i64 s.tr, .int .i64 s.he, .int .i64 s.po, .slice p1 s.kn.length c1, .slice p2 s.ws.length c2, .slice p3 s.gs.length c3, .slice p4 s.os.length c4] 28 (0, 0))) := (blk_far (a := ⟨w.heap.size + 1 + 1, 16, none⟩) (blk hX.out hb12) (by simp only; omega) (.slice q2 s.ws.length d2))
  have hY12n : Hid (_ = some (Obj.cells #[.int .i64 0, .int .i64 0, .int .i64 0, .int .i64 0, .int .i64 0, .int .i64 0, .int .i64 0, .int .i64 0, .int .i64 0, .int .i64 0, .int .i64 0, .int .i64 0, .int .i64 0, .int .i64 0, .int .i64 0, .slice none 0 0, .slice none 0 0, .slice none 0 0, .slice none 0 0] 34 (0, 0))) := (blk_far (a := ⟨w.heap.size + 1 + 1, 16, none⟩) (blk hY.out hb12) (by simp only; omega) (.slice q2 s.ws.length d2))
  have hZ12n : Hid (_ = some (Obj.cells #[.int .i64 s.ad, .int .i64 s.bo, .int .i64 s.st, .int .i64 s.s.g, .int .i64 s.s.o, .int .i64 s.s.b, .int .i64 s.s.h, .int .i64 s.t.g, .int .i64 s.t.o, .int .i64 s.t.b, .int .i64 s.t.h, .int .i64 s.qu, .int .i64 s.tr, .int .i64 s.he, .int .i64 s.po, .slice q1 s.kn.length d1, .slice q2 s.ws.length d2, .slice none 0 0, .slice none 0 0] 34 (0, 0))) := (blk_set (blk hZ.out hb12) 16 (.slice q2 s.ws.length d2))
  have hA12n : Below w.heap.size w (w12.setCell ⟨w.heap.size + 1 + 1, 16, none⟩ (.slice q2 s.ws.length d2)) := (Below.setCell (keepB hA (Nat.le_refl _) hb12) (by simp only; omega) _)
  have hq12 : (w12.setCell ⟨w.heap.size + 1 + 1, 16, none⟩ (.slice q2 s.ws.length d2)).heap.size = w12.heap.size := by simp [World.setCell]
  have hi2 : Hid (OwnIB w12 A12.heap.size w12.heap.size (.slice q2 s.ws.length d2) s.ws) := own2.ib
  have o1_12 : Hid (OwnIB (w12.setCell ⟨w.heap.size + 1 + 1, 16, none⟩ (.slice q2 s.ws.length d2)) L1 U1 (.slice q1 s.kn.length d1) s.kn) := o1_11.out.same (Same.trans (Same.below hb12 (by omega)) (Same.far (by simp only; omega) _))
  obtain ⟨L2, eL2⟩ : ∃ L, A12.heap.size = L := ⟨_, rfl⟩
  obtain ⟨U2, eU2⟩ : ∃ U, w12.heap.size = U := ⟨_, rfl⟩
  have o2_12 : Hid (OwnIB (w12.setCell ⟨w.heap.size + 1 + 1, 16, none⟩ (.slice q2 s.ws.length d2)) L2 U2 (.slice q2 s.ws.length d2) s.ws) := (show OwnIB w12 L2 U2 (.slice q2 s.ws.length d2) s.ws by rw [← eL2, ← eU2]; exact hi2.out).same (Same.far (by simp only; omega) _)
  have hge12 : w.heap.size + 1 + 1 + 1 ≤ w12.heap.size := by omega
  have hu12 : U1 ≤ w12.heap.size ∧ U2 ≤ w12.heap.size := by refine ⟨by omega, by omega⟩
  rw [← hq12] at hge12 hu12
  clear hq12
  generalize (w12.setCell ⟨w.heap.size + 1 + 1, 16, none⟩ (.slice q2 s.ws.length d2)) = A13 at hX12n hY12n hZ12n hA12n hge12 hu12 o1_12 o2_12 ⊢
  replace hX := hX12n
  replace hY := hY12n
  replace hZ := hZ12n
  replace hA := hA12n
  clear hX12n hY12n hZ12n hA12n
  clear z16_12 f16_12 x16_12 hZ12
  have x17_13 := cellW hX.out 17 _ rfl A13 (Below.refl _ _)
  go_upto_region 14 with (go_at_call 45; refine (H3.out _ hA).mono ?_; rintro e w13 ⟨v, rfl, own3, hb13⟩; obtain ⟨q3, d3, rfl⟩ := own3.shape; have hZ13 : Hid _ := blk hZ.out hb13; have z17_13 := cellW hZ13.out 17 _ rfl w13 (Below.refl _ _); have f17_13 := frozenW hZ13.out 17 w13 (Below.refl _ _))
  have hs13 : A13.heap.size ≤ w13.heap.size := hb13.size
  have hX13n : Hid (_ = some (Obj.cells #[.int .i64 s.ad, .int .i64 s.bo, .int .i64 s.st, .int .i64 s.s.g, .int .i64 s.s.o, .int .i64 s.s.b, .int .i64 s.s.h, .int .i64 s.t.g, .int .i64 s.t.o, .int .i64 s.t.b, .int .i64 s.t.h, .int .i64 s.qu, .int .i64 s.tr, .int .i64 s.he, .int .i64 s.po, .slice p1 s.kn.length c1, .slice p2 s.ws.length c2, .slice p3 s.gs.length c3, .slice p4 s.os.length c4] 28 (0, 0))) := (blk_far (a := ⟨w.heap.size + 1 + 1, 17, none⟩) (blk hX.out hb13) (by simp only; omega) (.slice q3 s.gs.length d3))
  have hY13n : Hid (_ = some (Obj.cells #[.int .i64 0, .int .i64 0, .int .i64 0, .int .i64 0, .int .i64 0, .int .i64 0, .int .i64 0, .int .i64 0, .int .i64 0, .int .i64 0, .int .i64 0, .int .i64 0, .int .i64 0, .int .i64 0, .int .i64 0, .slice none 0 0, .slice none 0 0, .slice none 0 0, .slice none 0 0] 34 (0, 0))) := (blk_far (a := ⟨w.heap.size + 1 + 1, 17, none⟩) (blk hY.out hb13) (by simp only; omega) (.slice q3 s.gs.length d3))
  have hZ13n : Hid (_ = some (Obj.cells #[.int .i64 s.ad, .int .i64 s.bo, .int .i64 s.st, .int .i64 s.s.g, .int .i64 s.s.o, .int .i64 s.s.b, .int .i64 s.s.h, .int .i64 s.t.g, .int .i64 s.t.o, .int .i64 s.t.b, .int .i64 s.t.h, .int .i64 s.qu, .int .i64 s.tr, .int .i64 s.he, .int .i64 s.po, .slice q1 s.kn.length d1, .slice q2 s.ws.length d2, .slice q3 s.gs.length d3, .slice none 0 0] 34 (0, 0))) := (blk_set (blk hZ.out hb13) 17 (.slice q3 s.gs.length d3))
  have hA13n : Below w.heap.size w (w13.setCell ⟨w.heap.size + 1 + 1, 17, none⟩ (.slice q3 s.gs.length d3)) := (Below.setCell (keepB hA (Nat.le_refl _) hb13) (by simp only; omega) _)
  have hq13 : (w13.setCell ⟨w.heap.size + 1 + 1, 17, none⟩ (.slice q3 s.gs.length d3)).heap.size = w13.heap.size := by simp [World.setCell]
  have hi3 : Hid (OwnGB w13 A13.heap.size w13.heap.size (.slice q3 s.gs.length d3) s.gs) := own3.gb
  have o1_13 : Hid (OwnIB (w13.setCell ⟨w.heap.size + 1 + 1, 17, none⟩ (.slice q3 s.gs.length d3)) L1 U1 (.slice q1 s.kn.length d1) s.kn) := o1_12.out.same (Same.trans (Same.below hb13 (by omega)) (Same.far (by simp only; omega) _))
  have o2_13 : Hid (OwnIB (w13.setCell ⟨w.heap.size + 1 + 1, 17, none⟩ (.slice q3 s.gs.length d3)) L2 U2 (.slice q2 s.ws.length d2) s.ws) := o2_12.out.same (Same.trans (Same.below hb13 (by omega)) (Same.far (by simp only; omega) _))
  obtain ⟨L3, eL3⟩ : ∃ L, A13.heap.size = L := ⟨_, rfl⟩
  obtain ⟨U3, eU3⟩ : ∃ U, w13.heap.size = U := ⟨_, rfl⟩
  have o3_13 : Hid (OwnGB (w13.setCell ⟨w.heap.size + 1 + 1, 17, none⟩ (.slice q3 s.gs.length d3)) L3 U3 (.slice q3 s.gs.length d3) s.gs) := (show OwnGB w13 L3 U3 (.slice q3 s.gs.length d3) s.gs by rw [← eL3, ← eU3]; exact hi3.out).same (Same.far (by simp only; omega) _)
  have hge13 : w.heap.size + 1 + 1 + 1 ≤ w13.heap.size := by omega
  have hu13 : U1 ≤ w13.heap.size ∧ U2 ≤ w13.heap.size ∧ U3 ≤ w13.heap.size := by refine ⟨by omega, by omega, by omega⟩
  rw [← hq13] at hge13 hu13
  clear hq13
  generalize (w13.setCell ⟨w.heap.size + 1 + 1, 17, none⟩ (.slice q3 s.gs.length d3)) = A14 at hX13n hY13n hZ13n hA13n hge13 hu13 o1_13 o2_13 o3_13 ⊢
  replace hX := hX13n
  replace hY := hY13n
  replace hZ := hZ13n
  replace hA := hA13n
  clear hX13n hY13n hZ13n hA13n
  clear z17_13 f17_13 x17_13 hZ13
  have x18_14 := cellW hX.out 18 _ rfl A14 (Below.refl _ _)
  go_upto_region 15 with (go_at_call 46; refine (H4.out _ hA).mono ?_; rintro e w14 ⟨v, rfl, own4, hb14⟩; obtain ⟨q4, d4, rfl⟩ := own4.shape; have hZ14 : Hid _ := blk hZ.out hb14; have z18_14 := cellW hZ14.out 18 _ rfl w14 (Below.refl _ _); have f18_14 := frozenW hZ14.out 18 w14 (Below.refl _ _))
  have hs14 : A14.heap.size ≤ w14.heap.size := hb14.size
  have hX14n : Hid (_ = some (Obj.cells #[.int .i64 s.ad, .int .i64 s.bo, .int .i64 s.st, .int .i64 s.s.g, .int .i64 s.s.o, .int .i64 s.s.b, .int .i64 s.s.h, .int .i64 s.t.g, .int .i64 s.t.o, .int .i64 s.t.b, .int .i64 s.t.h, .int .i64 s.qu, .int .i64 s.tr, .int .i64 s.he, .int .i64 s.po, .slice p1 s.kn.length c1, .slice p2 s.ws.length c2, .slice p3 s.gs.length c3, .slice p4 s.os.length c4] 28 (0, 0))) := (blk_far (a := ⟨w.heap.size + 1 + 1, 18, none⟩) (blk hX.out hb14) (by simp only; omega) (.slice q4 s.os.length d4))
  have hY14n : Hid (_ = some (Obj.cells #[.int .i64 0, .int .i64 0, .int .i64 0, .int .i64 0, .int .i64 0, .int .i64 0, .int .i64 0, .int .i64 0, .int .i64 0, .int .i64 0, .int .i64 0, .int .i64 0, .int .i64 0, .int .i64 0, .int .i64 0, .slice none 0 0, .slice none 0 0, .slice none 0 0, .slice none 0 0] 34 (0, 0))) := (blk_far (a := ⟨w.heap.size + 1 + 1, 18, none⟩) (blk hY.out hb14) (by simp only; omega) (.slice q4 s.os.length d4))
  have hZ14n : Hid (_ = some (Obj.cells #[.int .i64 s.ad, .int .i64 s.bo, .int .i64 s.st, .int .i64 s.s.g, .int .i64 s.s.o, .int .i64 s.s.b, .int .i64 s.s.h, .int .i64 s.t.g, .int .i64 s.t.o, .int .i64 s.t.b, .int .i64 s.t.h, .int .i64 s.qu, .int .i64 s.tr, .int .i64 s.he, .int .i64 s.po, .slice q1 s.kn.length d1, .slice q2 s.ws.length d2, .slice q3 s.gs.length d3, .slice q4 s.os.length d4] 34 (0, 0))) := (blk_set (blk hZ.out hb14) 18 (.slice q4 s.os.length d4))
  have hA14n : Below w.heap.size w (w14.setCell ⟨w.heap.size + 1 + 1, 18, none⟩ (.slice q4 s.os.length d4)) := (Below.setCell (keepB hA (Nat.le_refl _) hb14) (by simp only; omega) _)
  have hq14 : (w14.setCell ⟨w.heap.size + 1 + 1, 18, none⟩ (.slice q4 s.os.length d4)).heap.size = w14.heap.size := by simp [World.setCell]
  have hi4 : Hid (OwnTB w14 A14.heap.size w14.heap.size (.slice q4 s.os.length d4) s.os) := own4.tb
  have o1_14 : Hid (OwnIB (w14.setCell ⟨w.heap.size + 1 + 1, 18, none⟩ (.slice q4 s.os.length d4)) L1 U1 (.slice q1 s.kn.length d1) s.kn) := o1_13.out.same (Same.trans (Same.below hb14 (by omega)) (Same.far (by simp only; omega) _))
  have o2_14 : Hid (OwnIB (w14.setCell ⟨w.heap.size + 1 + 1, 18, none⟩ (.slice q4 s.os.length d4)) L2 U2 (.slice q2 s.ws.length d2) s.ws) := o2_13.out.same (Same.trans (Same.below hb14 (by omega)) (Same.far (by simp only; omega) _))
  have o3_14 : Hid (OwnGB (w14.setCell ⟨w.heap.size + 1 + 1, 18, none⟩ (.slice q4 s.os.length d4)) L3 U3 (.slice q3 s.gs.length d3) s.gs) := o3_13.out.same (Same.trans (Same.below hb14 (by omega)) (Same.far (by simp only; omega) _))
  obtain ⟨L4, eL4⟩ : ∃ L, A14.heap.size = L := ⟨_, rfl⟩
  obtain ⟨U4, eU4⟩ : ∃ U, w14.heap.size = U := ⟨_, rfl⟩
  have o4_14 : Hid (OwnTB (w14.setCell ⟨w.heap.size + 1 + 1, 18, none⟩ (.slice q4 s.os.length d4)) L4 U4 (.slice q4 s.os.length d4) s.os) := (show OwnTB w14 L4 U4 (.slice q4 s.os.length d4) s.os by rw [← eL4, ← eU4]; exact hi4.out).same (Same.far (by simp only; omega) _)
  have hge14 : w.heap.size + 1 + 1 + 1 ≤ w14.heap.size := by omega
  have hu14 : U1 ≤ w14.heap.size ∧ U2 ≤ w14.heap.size ∧ U3 ≤ w14.heap.size ∧ U4 ≤ w14.heap.size := by refine ⟨by omega, by omega, by omega, by omega⟩
  rw [← hq14] at hge14 hu14
  clear hq14
  generalize (w14.setCell ⟨w.heap.size + 1 + 1, 18, none⟩ (.slice q4 s.os.length d4)) = A15 at hX14n hY14n hZ14n hA14n hge14 hu14 o1_14 o2_14 o3_14 o4_14 ⊢
  replace hX := hX14n
  replace hY := hY14n
  replace hZ := hZ14n
  replace hA := hA14n
  clear hX14n hY14n hZ14n hA14n
  clear z18_14 f18_14 x18_14 hZ14
  go_wp2_with (refine wpList_load_row rfl 34 (.tmp 3) rfl (w.heap.size + 1 + 1) rfl _ _ _ _ hZ.out Try.underlying34 rfl (by kernel_rfl) ?_; refine wpList_store_row rfl 34 (.tmp 2) (.tmp 49) rfl (w.heap.size + 1) #[.int .i64 s.ad, .int .i64 s.bo, .int .i64 s.st, .int .i64 s.s.g, .int .i64 s.s.o, .int .i64 s.s.b, .int .i64 s.s.h, .int .i64 s.t.g, .int .i64 s.t.o, .int .i64 s.t.b, .int .i64 s.t.h, .int .i64 s.qu, .int .i64 s.tr, .int .i64 s.he, .int .i64 s.po, .slice q1 s.kn.length d1, .slice q2 s.ws.length d2, .slice q3 s.gs.length d3, .slice q4 s.os.length d4] rfl rfl _ _ hY.out (by kernel_rfl) rfl (by simp [Value.oneCell']) ?_)
  go_wp2
  have hYf := setRow_heap _ (w.heap.size + 1) _ #[.int .i64 s.ad, .int .i64 s.bo, .int .i64 s.st, .int .i64 s.s.g, .int .i64 s.s.o, .int .i64 s.s.b, .int .i64 s.s.h, .int .i64 s.t.g, .int .i64 s.t.o, .int .i64 s.t.b, .int .i64 s.t.h, .int .i64 s.qu, .int .i64 s.tr, .int .i64 s.he, .int .i64 s.po, .slice q1 s.kn.length d1, .slice q2 s.ws.length d2, .slice q3 s.gs.length d3, .slice q4 s.os.length d4] _ _ hY.out
  have hAf : Below w.heap.size w _ := Below.setRow hA (g := w.heap.size + 1) (by omega) #[.int .i64 s.ad, .int .i64 s.bo, .int .i64 s.st, .int .i64 s.s.g, .int .i64 s.s.o, .int .i64 s.s.b, .int .i64 s.s.h, .int .i64 s.t.g, .int .i64 s.t.o, .int .i64 s.t.b, .int .i64 s.t.h, .int .i64 s.qu, .int .i64 s.tr, .int .i64 s.he, .int .i64 s.po, .slice q1 s.kn.length d1, .slice q2 s.ws.length d2, .slice q3 s.gs.length d3, .slice q4 s.os.length d4]
  have hge := hge14
  refine bodyPost_ret (v := .agg #[.int .i64 s.ad, .int .i64 s.bo, .int .i64 s.st, .int .i64 s.s.g, .int .i64 s.s.o, .int .i64 s.s.b, .int .i64 s.s.h, .int .i64 s.t.g, .int .i64 s.t.o, .int .i64 s.t.b, .int .i64 s.t.h, .int .i64 s.qu, .int .i64 s.tr, .int .i64 s.he, .int .i64 s.po, .slice q1 s.kn.length d1, .slice q2 s.ws.length d2, .slice q3 s.gs.length d3, .slice q4 s.os.length d4]) (results_cell_row Try.results11 _ _ (w.heap.size + 1) _ _ _ _ rfl hYf Try.underlying34 rfl (by kernel_rfl)) rfl ⟨_, _, _, _, rfl, ⟨⟨L1, U1, L2, U2, L3, U3, L4, U4, ?_, ?_, o1_14.out.same (Same.setRow (by omega) _), o2_14.out.same (Same.setRow (by omega) _), o3_14.out.same (Same.setRow (by omega) _), o4_14.out.same (Same.setRow (by omega) _), by omega, by omega, by omega, by omega, by omega, by omega⟩⟩, hAf⟩
  · omega
  · rw [setRow_size]
    omega
end Go.Proofs.Ytancfnpmbddfoaa
