/- A NEW SEGMENT: the program's. Written by mksegf.py. -/
import Derived.Test.YtklpaleghanhhaaQdSegC
import Derived.Test.YtklpaleghanhhaaQdSegI
import Derived.Test.YtklpaleghanhhaaQdSegT
import Derived.Test.YtklpaleghanhhaaQdTail
namespace Go.Proofs.Ytklpaleghanhhaa
open Go.RowKit
set_option linter.unusedVariables false
set_option linter.unusedSimpArgs false

def newOK (zs : List Int) : Bool := decide (1 ≤ zs.length) && (decide (zs.length ≤ 4) && (zs.all addrB && riseQ zs))
def snCode (zs : List Int) : Int := if 400 < zs.length then 2 else if newOK zs then 0 else 1
def segNew (zs : List Int) : Seg := ⟨zs.map fun a => newS a 0, zs.map fun _ => true, []⟩
def snSeg (zs : List Int) : Seg := if snCode zs = 0 then segNew zs else ⟨[], [], []⟩
def nilV : Vs := ⟨.slice none 0 0, .slice none 0 0, .slice none 0 0, .slice none 0 0⟩
def flatN (zs : List Int) : List Value := zs.flatMap fun a => seC (newS a 0) nilV true
theorem own_empty_seg (w : World) (base : Nat) (hb : base ≤ w.heap.size) : OwnSegB w base w.heap.size (.slice none 0 0) (.slice none 0 0) (.slice none 0 0) ⟨[], [], []⟩ :=
  ⟨Nat.le_refl _, w.heap.size, w.heap.size, w.heap.size, w.heap.size, w.heap.size, w.heap.size, ⟨hb, hb, hb⟩, ⟨Nat.le_refl _, Nat.le_refl _, Nat.le_refl _⟩, ⟨Nat.le_refl _, .inl ⟨rfl, rfl⟩⟩, ⟨Nat.le_refl _, .inl ⟨rfl, rfl⟩⟩, ⟨Nat.le_refl _, .inl ⟨rfl, rfl⟩⟩, .inl (Nat.le_refl _), .inl (Nat.le_refl _), .inl (Nat.le_refl _)⟩
theorem new_ok (a : Int) (h : addrB a = true) (w : World) : Calls Try.prog 98 #[.int .i64 a, .int .i64 0] w fun e w' => e = .returned (.agg #[.int .i64 a, .int .i64 0, .int .i64 0, .int .i64 0, .int .i64 0, .int .i64 0, .int .i64 0, .int .i64 0, .int .i64 0, .int .i64 0, .int .i64 0, .int .i64 0, .int .i64 0, .int .i64 0, .int .i64 0, .slice none 0 0, .slice none 0 0, .slice none 0 0, .slice none 0 0, .slice none 0 0, .int .i64 0]) ∧ Below w.heap.size w w' :=
  (stationNew_any a 0 w).mono fun e w' hh => by
    have ho : okN a 0 = true := by unfold okN timeB; rw [h]; decide
    rw [ho] at hh
    exact ⟨hh.1, by first | exact hh.2 | exact hh.2.1 | exact hh.2.2⟩
theorem new_bad (a : Int) (h : addrB a = false) (w : World) : Calls Try.prog 98 #[.int .i64 a, .int .i64 0] w fun e w' => e = .returned (.agg #[.int .i64 0, .int .i64 0, .int .i64 0, .int .i64 0, .int .i64 0, .int .i64 0, .int .i64 0, .int .i64 0, .int .i64 0, .int .i64 0, .int .i64 0, .int .i64 0, .int .i64 0, .int .i64 0, .int .i64 0, .slice none 0 0, .slice none 0 0, .slice none 0 0, .slice none 0 0, .slice none 0 0, .int .i64 1]) ∧ Below w.heap.size w w' :=
  (stationNew_any a 0 w).mono fun e w' hh => by
    have ho : okN a 0 = false := by unfold okN; rw [h]; rfl
    rw [ho] at hh
    exact ⟨hh.1, by first | exact hh.2 | exact hh.2.1 | exact hh.2.2⟩
theorem infoSeB : (Try.prog.info? 145).map (fun i => (i.zero, i.size, i.bytes)) = some (some (.agg #[.int .i64 0, .int .i64 0, .int .i64 0, .int .i64 0, .int .i64 0, .int .i64 0, .int .i64 0, .int .i64 0, .int .i64 0, .int .i64 0, .int .i64 0, .int .i64 0, .int .i64 0, .int .i64 0, .int .i64 0, .slice none 0 0, .slice none 0 0, .slice none 0 0, .slice none 0 0, .bool false]), 20, 224) := by kernel_rfl
theorem flatN_take (zs : List Int) (k : Nat) (h : k < zs.length) : flatN (zs.take (k + 1)) = flatN (zs.take k) ++ seC (newS zs[k] 0) nilV true := by
  unfold flatN
  rw [List.take_succ_eq_append_getElem h, List.flatMap_append]
  simp
theorem flatN_len (zs : List Int) : (flatN zs).length = zs.length * 20 := by
  unfold flatN
  induction zs with
  | nil => rfl
  | cons a l ih => rw [List.flatMap_cons, List.length_append, ih, List.length_cons]; show 20 + _ = _; omega
theorem flatN_at : ∀ (zs : List Int) (k : Nat) (h : k < zs.length) (j : Nat), j < 20 → (flatN zs)[k * 20 + j]? = (seC (newS zs[k] 0) nilV true)[j]?
  | a :: l, 0, _, j, hj => by
    unfold flatN
    rw [List.flatMap_cons, Nat.zero_mul, Nat.zero_add, List.getElem?_append_left (by show j < 20; exact hj)]
    rfl
  | a :: l, k + 1, h, j, hj => by
    have ih := flatN_at l k (by simpa using h) j hj
    unfold flatN at ih ⊢
    rw [List.flatMap_cons, List.getElem?_append_right (by show 20 ≤ _; omega)]
    show _ = _
    rw [show (k + 1) * 20 + j - (seC (newS a 0) nilV true).length = k * 20 + j by show (k + 1) * 20 + j - 20 = _; omega, ih]
    rfl
theorem own_range {w : World} {base : Nat} {e : TypeId} {m g c n : Nat} {xs : List Value} (h : w.ownsRow base e m (.slice (some ⟨g, 0, none⟩) n c) n xs) (k : Nat) (hk : k < n) (d : List Value) (hd : d.length = m) (hx : ∀ j, j < m → xs[k * m + j]? = d[j]?) : w.rangeAt g (k * m) d := fun j v hv => by
  have hj := (List.getElem?_eq_some_iff.1 hv).1
  rw [h.cellAt (k * m + j) (by have := mul_step (m := m) hk; omega), hx j (by omega)]
  exact hv
theorem flat_at (f : Int → List Value) (m : Nat) (hm : ∀ a, (f a).length = m) : ∀ (zs : List Int) (k : Nat) (h : k < zs.length) (j : Nat), j < m → (zs.flatMap f)[k * m + j]? = (f zs[k])[j]?
  | a :: l, 0, _, j, hj => by
    rw [List.flatMap_cons, Nat.zero_mul, Nat.zero_add, List.getElem?_append_left (by rw [hm]; exact hj)]
    rfl
  | a :: l, k + 1, h, j, hj => by
    have ih := flat_at f m hm l k (by simpa using h) j hj
    have e : (k + 1) * m + j = m + (k * m + j) := by rw [Nat.succ_mul]; omega
    rw [List.flatMap_cons, e, List.getElem?_append_right (by rw [hm]; omega), hm, show m + (k * m + j) - m = k * m + j by omega, ih]
    rfl
theorem OwnSegB.widen {w : World} {base base' top top' : Nat} {v1 v2 v3 : Value} {s : Seg} (h : OwnSegB w base top v1 v2 v3 s) (hb : base' ≤ base) (ht : top ≤ top') (hw : top' ≤ w.heap.size) : OwnSegB w base' top' v1 v2 v3 s := by
  obtain ⟨l1, h1, l2, h2, l3, h3, hl, hh, r⟩ := h.all
  exact ⟨hw, l1, h1, l2, h2, l3, h3, ⟨by omega, by omega, by omega⟩, ⟨by omega, by omega, by omega⟩, r⟩
def csN (zs : List Int) : List (List Value × Bool) := zs.map fun a => (stC (newS a 0) nilV, true)
theorem flatS_csN (zs : List Int) : flatS (csN zs) = zs.flatMap fun a => stC (newS a 0) nilV := by
  unfold flatS csN
  induction zs with
  | nil => rfl
  | cons a l ih => rw [List.map_cons, List.flatMap_cons, List.flatMap_cons, ih]
theorem flatU_csN (zs : List Int) : flatU (csN zs) = zs.map fun _ => .bool true := by
  unfold flatU csN
  rw [List.map_map]
  rfl
theorem own_newB (w : World) (b : Nat) (h : b ≤ w.heap.size) (a t : Int) : OwnStnB w b b (.slice none 0 0) (.slice none 0 0) (.slice none 0 0) (.slice none 0 0) (newS a t) :=
  ⟨h, b, b, b, b, b, b, b, b, ⟨Nat.le_refl _, Nat.le_refl _, Nat.le_refl _, Nat.le_refl _⟩, ⟨Nat.le_refl _, Nat.le_refl _, Nat.le_refl _, Nat.le_refl _⟩,
    ⟨OwnI.nil _ _, fun k e => by cases e⟩, ⟨OwnI.nil _ _, fun k e => by cases e⟩, ⟨[], rfl, World.ownsRow_nil _ _ _ _, fun k h => by simp [newS] at h, fun i j a h => by simp at h, fun i a h => by simp at h, fun k e => by cases e⟩, ⟨World.ownsRow_nil _ _ _ _, fun k e => by cases e⟩,
    .inl (Nat.le_refl _), .inl (Nat.le_refl _), .inl (Nat.le_refl _), .inl (Nat.le_refl _), .inl (Nat.le_refl _), .inl (Nat.le_refl _)⟩
theorem own_segNew {w : World} {base : Nat} {v1 v2 : Value} (zs : List Int) (hz : 1 ≤ zs.length) (hb : base ≤ w.heap.size) (h1 : w.ownsRow base 135 19 v1 zs.length (flatS (csN zs))) (h2 : w.ownsRow base 4 1 v2 zs.length (flatU (csN zs))) : OwnSegB w base w.heap.size v1 v2 (.slice none 0 0) (segNew zs) := by
  rcases h1.2 with ⟨_, e⟩ | ⟨g1, c1, cur1, rfl, hg1, hh1, hn1, hm1, hs1, ht1⟩
  · omega
  rcases h2.2 with ⟨_, e⟩ | ⟨g2, c2, cur2, rfl, hg2, hh2, hn2, hm2, hs2, ht2⟩
  · omega
  have z1 : g1 < w.heap.size := (Array.getElem?_eq_some_iff.1 hh1).1
  have z2 : g2 < w.heap.size := (Array.getElem?_eq_some_iff.1 hh2).1
  have hne : g1 ≠ g2 := fun e => by
    subst e
    rw [hh1] at hh2
    simp at hh2
  have e1 : (zs.map fun a => newS a 0).length = zs.length := List.length_map _
  have e2 : (zs.map fun _ => true).length = zs.length := List.length_map _
  refine ⟨Nat.le_refl _, g1, g1 + 1, g2, g2 + 1, w.heap.size, w.heap.size, ⟨hg1, hg2, hb⟩, ⟨by omega, by omega, Nat.le_refl _⟩, ⟨by omega, .inr ⟨g1, c1, cur1, zs.map fun _ => (nilV, g1 + 1, g1 + 1), ?_, Nat.le_refl _, by omega, hh1, hs1, ?_, ?_, ?_, ?_⟩⟩, ⟨by omega, .inr ⟨g2, c2, cur2, ?_, Nat.le_refl _, by omega, hh2, hs2, ?_, ?_⟩⟩, ⟨Nat.le_refl _, .inl ⟨rfl, rfl⟩⟩, by omega, by omega, by omega⟩
  · show _ = Value.slice _ (zs.map fun a => newS a 0).length _
    rw [e1]
  · show (zs.map fun a => newS a 0).length ≤ c1
    rw [e1]; exact hn1
  · show (zs.map fun _ => (nilV, g1 + 1, g1 + 1)).length = (zs.map fun a => newS a 0).length
    rw [e1, List.length_map]
  · intro k h h'
    have hk : k < zs.length := by rw [← e1]; exact h
    have q : (segNew zs).ss[k] = newS zs[k] 0 := List.getElem_map _
    rw [q]
    simp only [List.getElem_map]
    refine ⟨own_range h1 k hk _ rfl (fun j hj => ?_), by omega, by omega, own_newB w (g1 + 1) (by omega) _ _, by omega⟩
    rw [flatS_csN]
    exact flat_at _ 19 (fun a => rfl) zs k hk j hj
  · intro i j h h' hij
    simp only [List.getElem_map]
    omega
  · show _ = Value.slice _ (zs.map fun _ => true).length _
    rw [e2]
  · show (zs.map fun _ => true).length ≤ c2
    rw [e2]; exact hn2
  · intro k h
    have hk : k < zs.length := by rw [← e2]; exact h
    have q : (segNew zs).us[k] = true := List.getElem_map _
    rw [q]
    refine own_range h2 k hk _ rfl (fun j hj => ?_)
    have : j = 0 := by omega
    subst this
    rw [flatU_csN]
    simp [hk]
set_option maxRecDepth 100000 in
set_option maxHeartbeats 6400000 in
theorem segmentNew_any (x : Value) (zs : List Int) (w : World) (hl : zs.length ≤ 1048576) (hx : RowI w x zs) :
    Calls Try.prog 56 #[x] w fun e w' => ∃ v1 v2, e = .returned (.agg #[v1, v2, .slice none 0 0, .slice none 0 0, .int .i64 (snCode zs)]) ∧ OwnSegB w' w.heap.size w'.heap.size v1 v2 (.slice none 0 0) (snSeg zs) ∧ Below w.heap.size w w' := by
  obtain ⟨i0, hi, hz0, hz1, hz2⟩ := info_parts infoSeB
  have HX : Hid (∀ W, Below w.heap.size w W → RowI W x zs) := fun W hW => hx.below hW
  obtain ⟨px, cx, rfl, _⟩ := hx
  have hR0 : Hid _ := heap_alloc_new w (.cells #[.slice none 0 0, .slice none 0 0, .slice none 0 0, .slice none 0 0, .int .i64 0] 91)
  have hA0 := all_alloc w (.cells #[.slice none 0 0, .slice none 0 0, .slice none 0 0, .slice none 0 0, .int .i64 0] 91)
  have zA0 : (w.alloc (.cells #[.slice none 0 0, .slice none 0 0, .slice none 0 0, .slice none 0 0, .int .i64 0] 91)).heap.size = w.heap.size + 1 := by simp
  by_cases h4 : 400 < zs.length
  · have ec : snCode zs = 2 := by unfold snCode; rw [if_pos h4]
    have es : snSeg zs = ⟨[], [], []⟩ := by unfold snSeg; rw [if_neg (by rw [ec]; decide)]
    rw [ec, es]
    have h4' : (400 : Int) < (zs.length : Int) := by omega
    clear HX ec es zA0
    go_enter Try.func56, Try.ntmps56
    go_upto_region 1 with fail
    generalize w.alloc (.cells #[.slice none 0 0, .slice none 0 0, .slice none 0 0, .slice none 0 0, .int .i64 0] 91) = A at hR0 hA0 ⊢
    go_wp2_with (refine wpList_store_row rfl 91 (.tmp 2) (.tmp 10) rfl w.heap.size #[.slice none 0 0, .slice none 0 0, .slice none 0 0, .slice none 0 0, .int .i64 2] rfl rfl _ _ hR0.out (by kernel_rfl) rfl (by simp [Value.oneCell']) ?_)
    go_wp2
    have hYf := setRow_heap _ w.heap.size _ #[.slice none 0 0, .slice none 0 0, .slice none 0 0, .slice none 0 0, .int .i64 2] _ _ hR0.out
    have hAf : Below w.heap.size w _ := Below.setRow hA0 (g := w.heap.size) (Nat.le_refl _) #[.slice none 0 0, .slice none 0 0, .slice none 0 0, .slice none 0 0, .int .i64 2]
    exact bodyPost_ret (v := .agg #[.slice none 0 0, .slice none 0 0, .slice none 0 0, .slice none 0 0, .int .i64 2]) (results_cell_row Try.results56 _ _ w.heap.size _ _ _ _ rfl hYf Try.underlying91 rfl (by kernel_rfl)) rfl ⟨_, _, rfl, own_empty_seg _ _ hAf.size, hAf⟩
  have h4' : ¬ (400 : Int) < (zs.length : Int) := by omega
  by_cases h5 : 1 ≤ zs.length ∧ zs.length ≤ 4
  case neg =>
    have ec : snCode zs = 1 := by
      unfold snCode newOK
      rw [if_neg h4]
      by_cases h1 : 1 ≤ zs.length
      · rw [decide_eq_true h1, decide_eq_false (fun h => h5 ⟨h1, h⟩)]; rfl
      · rw [decide_eq_false h1]; rfl
    have es : snSeg zs = ⟨[], [], []⟩ := by unfold snSeg; rw [if_neg (by rw [ec]; decide)]
    rw [ec, es]
    clear HX ec es zA0
    by_cases h1 : (zs.length : Int) < 1
    · go_enter Try.func56, Try.ntmps56
      go_upto_region 1 with fail
      generalize w.alloc (.cells #[.slice none 0 0, .slice none 0 0, .slice none 0 0, .slice none 0 0, .int .i64 0] 91) = A at hR0 hA0 ⊢
      go_wp2_with (refine wpList_store_row rfl 91 (.tmp 2) (.tmp 19) rfl w.heap.size #[.slice none 0 0, .slice none 0 0, .slice none 0 0, .slice none 0 0, .int .i64 1] rfl rfl _ _ hR0.out (by kernel_rfl) rfl (by simp [Value.oneCell']) ?_)
      go_wp2
      have hYf := setRow_heap _ w.heap.size _ #[.slice none 0 0, .slice none 0 0, .slice none 0 0, .slice none 0 0, .int .i64 1] _ _ hR0.out
      have hAf : Below w.heap.size w _ := Below.setRow hA0 (g := w.heap.size) (Nat.le_refl _) #[.slice none 0 0, .slice none 0 0, .slice none 0 0, .slice none 0 0, .int .i64 1]
      exact bodyPost_ret (v := .agg #[.slice none 0 0, .slice none 0 0, .slice none 0 0, .slice none 0 0, .int .i64 1]) (results_cell_row Try.results56 _ _ w.heap.size _ _ _ _ rfl hYf Try.underlying91 rfl (by kernel_rfl)) rfl ⟨_, _, rfl, own_empty_seg _ _ hAf.size, hAf⟩
    · have h6 : (4 : Int) < (zs.length : Int) := by omega
      go_enter Try.func56, Try.ntmps56
      go_upto_region 1 with fail
      generalize w.alloc (.cells #[.slice none 0 0, .slice none 0 0, .slice none 0 0, .slice none 0 0, .int .i64 0] 91) = A at hR0 hA0 ⊢
      go_wp2_with (refine wpList_store_row rfl 91 (.tmp 2) (.tmp 19) rfl w.heap.size #[.slice none 0 0, .slice none 0 0, .slice none 0 0, .slice none 0 0, .int .i64 1] rfl rfl _ _ hR0.out (by kernel_rfl) rfl (by simp [Value.oneCell']) ?_)
      go_wp2
      have hYf := setRow_heap _ w.heap.size _ #[.slice none 0 0, .slice none 0 0, .slice none 0 0, .slice none 0 0, .int .i64 1] _ _ hR0.out
      have hAf : Below w.heap.size w _ := Below.setRow hA0 (g := w.heap.size) (Nat.le_refl _) #[.slice none 0 0, .slice none 0 0, .slice none 0 0, .slice none 0 0, .int .i64 1]
      exact bodyPost_ret (v := .agg #[.slice none 0 0, .slice none 0 0, .slice none 0 0, .slice none 0 0, .int .i64 1]) (results_cell_row Try.results56 _ _ w.heap.size _ _ _ _ rfl hYf Try.underlying91 rfl (by kernel_rfl)) rfl ⟨_, _, rfl, own_empty_seg _ _ hAf.size, hAf⟩
  have h1 : ¬ (zs.length : Int) < 1 := by omega
  have h6 : ¬ (4 : Int) < (zs.length : Int) := by omega
  have HC1 : Hid (zs.all addrB = false → snCode zs = 1 ∧ snSeg zs = ⟨[], [], []⟩) := fun h => by
    have ec : snCode zs = 1 := by unfold snCode newOK; rw [if_neg h4, h]; simp
    exact ⟨ec, by unfold snSeg; rw [if_neg (by rw [ec]; decide)]⟩
  have HC2 : Hid (zs.all addrB = true → riseQ zs = false → snCode zs = 1 ∧ snSeg zs = ⟨[], [], []⟩) := fun h h' => by
    have ec : snCode zs = 1 := by unfold snCode newOK; rw [if_neg h4, h, h']; simp
    exact ⟨ec, by unfold snSeg; rw [if_neg (by rw [ec]; decide)]⟩
  have HC3 : Hid (zs.all addrB = true → riseQ zs = true → snCode zs = 0 ∧ snSeg zs = segNew zs) := fun h h' => by
    have ec : snCode zs = 0 := by unfold snCode newOK; rw [if_neg h4, h, h', decide_eq_true h5.1, decide_eq_true h5.2]; rfl
    exact ⟨ec, by unfold snSeg; rw [if_pos ec]⟩
  generalize snCode zs = PC at HC1 HC2 HC3 ⊢
  generalize snSeg zs = PS at HC1 HC2 HC3 ⊢
  have hn4 : zs.length ≤ 4 := h5.2
  have hn1 : 1 ≤ zs.length := h5.1
  clear h4 h5
  go_enter Try.func56, Try.ntmps56
  go_upto_region 1 with fail
  generalize w.alloc (.cells #[.slice none 0 0, .slice none 0 0, .slice none 0 0, .slice none 0 0, .int .i64 0] 91) = A at hR0 hA0 zA0 ⊢
  go_upto_region 6 with fail
  have hC1 : Hid _ := heap_alloc_new A (.cells #[.slice none 0 0, .slice none 0 0, .slice none 0 0] 143)
  have hb1 := all_alloc A (.cells #[.slice none 0 0, .slice none 0 0, .slice none 0 0] 143)
  generalize A.alloc (.cells #[.slice none 0 0, .slice none 0 0, .slice none 0 0] 143) = A2 at hC1 hb1 ⊢
  have hR1 : Hid _ := blk hR0.out hb1
  have hA1 := keepB hA0 (Nat.le_refl _) hb1
  rw [zA0] at *
  clear hR0 hA0 hb1 zA0
  go_wp2
  go_loopw [24] (fun i wr => ∃ k : Nat, k ≤ zs.length ∧ i = .int .i64 k ∧ Hid ((zs.take k).all addrB = true) ∧ (∃ v, Hid (wr.heap[w.heap.size + 1]? = some (.cells #[v, .slice none 0 0, .slice none 0 0] 143 (0, 0))) ∧ Hid (wr.ownsRow (w.heap.size + 2) 145 20 v k (flatN (zs.take k)))) ∧ Hid (wr.heap[w.heap.size]? = some (.cells #[.slice none 0 0, .slice none 0 0, .slice none 0 0, .slice none 0 0, .int .i64 0] 91 (0, 0))) ∧ Below w.heap.size w wr) (fun i _ => zs.length - (intOf i).toNat)
  case atStart => exact ⟨0, Nat.zero_le _, rfl, (by simp : (zs.take 0).all addrB = true), ⟨_, hC1.out, World.ownsRow_nil _ _ _ _⟩, hR1.out, hA1⟩
  case round =>
    obtain ⟨k, hk, rfl, HA, ⟨v, HCb, HO⟩, HR, hbel⟩ := hrel
    have hzc : w.heap.size + 1 < wr.heap.size := (Array.getElem?_eq_some_iff.1 HCb.out).1
    obtain ⟨pv, cv, rfl⟩ := owns_shape HO.out
    by_cases hlt : k < zs.length
    · obtain ⟨px', cx', e', hrow⟩ := HX.out wr hbel
      cases e'
      obtain ⟨gx, rfl, hgl, q1⟩ := hrow k hlt
      clear hrow
      have HN : Hid (addrB zs[k] = false → PC = 1 ∧ PS = ⟨[], [], []⟩) := fun h => HC1.out (allSeg_no hlt h)
      have HY : Hid (addrB zs[k] = true → (zs.take (k + 1)).all addrB = true) := fun h => allSeg_more hlt HA.out h
      have HFT : Hid _ := flatN_take zs k hlt
      generalize zs[k] = a at q1 HN HY HFT
      cases ha : addrB a with
      | false =>
        obtain ⟨rfl, rfl⟩ := HN.out ha
        have HSN : Hid (∀ W : World, Calls Try.prog 98 #[.int .i64 a, .int .i64 0] W fun e w' => e = .returned (.agg #[.int .i64 0, .int .i64 0, .int .i64 0, .int .i64 0, .int .i64 0, .int .i64 0, .int .i64 0, .int .i64 0, .int .i64 0, .int .i64 0, .int .i64 0, .int .i64 0, .int .i64 0, .int .i64 0, .int .i64 0, .slice none 0 0, .slice none 0 0, .slice none 0 0, .slice none 0 0, .slice none 0 0, .int .i64 1]) ∧ Below W.heap.size W w') := fun W => new_bad a ha W
        clear HN HY HC1 HC2 HC3 ha
        go_upto_region 10 with (first
          | (go_at_call 98; refine (HSN.out _).mono ?_; rintro e w2 ⟨rfl, hb2⟩)
          | (refine wpList_store_row rfl 137 (.tmp 6) (.tmp 29) rfl w2.heap.size #[.int .i64 0, .int .i64 0, .int .i64 0, .int .i64 0, .int .i64 0, .int .i64 0, .int .i64 0, .int .i64 0, .int .i64 0, .int .i64 0, .int .i64 0, .int .i64 0, .int .i64 0, .int .i64 0, .int .i64 0, .slice none 0 0, .slice none 0 0, .slice none 0 0, .slice none 0 0, .slice none 0 0, .int .i64 1] rfl rfl _ _ (heap_alloc_new w2 _) (by kernel_rfl) rfl (by simp [Value.oneCell']) ?_))
        have hB : Hid _ := setRow_heap _ w2.heap.size _ #[.int .i64 0, .int .i64 0, .int .i64 0, .int .i64 0, .int .i64 0, .int .i64 0, .int .i64 0, .int .i64 0, .int .i64 0, .int .i64 0, .int .i64 0, .int .i64 0, .int .i64 0, .int .i64 0, .int .i64 0, .slice none 0 0, .slice none 0 0, .slice none 0 0, .slice none 0 0, .slice none 0 0, .int .i64 1] _ _ (heap_alloc_new w2 (.cells #[.int .i64 0, .int .i64 0, .int .i64 0, .int .i64 0, .int .i64 0, .int .i64 0, .int .i64 0, .int .i64 0, .int .i64 0, .int .i64 0, .int .i64 0, .int .i64 0, .int .i64 0, .int .i64 0, .int .i64 0, .slice none 0 0, .slice none 0 0, .slice none 0 0, .slice none 0 0, .slice none 0 0, .int .i64 0] 137))
        have hbB : Below w2.heap.size w2 ((w2.alloc (.cells #[.int .i64 0, .int .i64 0, .int .i64 0, .int .i64 0, .int .i64 0, .int .i64 0, .int .i64 0, .int .i64 0, .int .i64 0, .int .i64 0, .int .i64 0, .int .i64 0, .int .i64 0, .int .i64 0, .int .i64 0, .slice none 0 0, .slice none 0 0, .slice none 0 0, .slice none 0 0, .slice none 0 0, .int .i64 0] 137)).setRow w2.heap.size #[.int .i64 0, .int .i64 0, .int .i64 0, .int .i64 0, .int .i64 0, .int .i64 0, .int .i64 0, .int .i64 0, .int .i64 0, .int .i64 0, .int .i64 0, .int .i64 0, .int .i64 0, .int .i64 0, .int .i64 0, .slice none 0 0, .slice none 0 0, .slice none 0 0, .slice none 0 0, .slice none 0 0, .int .i64 1]) := setRow_fresh _ _ _
        generalize (w2.alloc (.cells #[.int .i64 0, .int .i64 0, .int .i64 0, .int .i64 0, .int .i64 0, .int .i64 0, .int .i64 0, .int .i64 0, .int .i64 0, .int .i64 0, .int .i64 0, .int .i64 0, .int .i64 0, .int .i64 0, .int .i64 0, .slice none 0 0, .slice none 0 0, .slice none 0 0, .slice none 0 0, .slice none 0 0, .int .i64 0] 137)).setRow w2.heap.size #[.int .i64 0, .int .i64 0, .int .i64 0, .int .i64 0, .int .i64 0, .int .i64 0, .int .i64 0, .int .i64 0, .int .i64 0, .int .i64 0, .int .i64 0, .int .i64 0, .int .i64 0, .int .i64 0, .int .i64 0, .slice none 0 0, .slice none 0 0, .slice none 0 0, .slice none 0 0, .slice none 0 0, .int .i64 1] = W3 at hB hbB ⊢
        have y20 := cellW hB.out 20 (.int .i64 1) rfl W3 (Below.refl _ _)
        have hR3 : Hid _ := blk (blk HR.out hb2) hbB
        have hA3 := keepB (keepB hbel (Nat.le_refl _) hb2) (Nat.le_refl _) hbB
        go_wp2_with (refine wpList_store_row rfl 91 (.tmp 2) (.tmp 33) rfl w.heap.size #[.slice none 0 0, .slice none 0 0, .slice none 0 0, .slice none 0 0, .int .i64 1] rfl rfl _ _ hR3.out (by kernel_rfl) rfl (by simp [Value.oneCell']) ?_)
        go_wp2
        have hYf := setRow_heap _ w.heap.size _ #[.slice none 0 0, .slice none 0 0, .slice none 0 0, .slice none 0 0, .int .i64 1] _ _ hR3.out
        have hAf : Below w.heap.size w _ := Below.setRow hA3 (g := w.heap.size) (Nat.le_refl _) #[.slice none 0 0, .slice none 0 0, .slice none 0 0, .slice none 0 0, .int .i64 1]
        exact bodyPost_ret (v := .agg #[.slice none 0 0, .slice none 0 0, .slice none 0 0, .slice none 0 0, .int .i64 1]) (results_cell_row Try.results56 _ _ w.heap.size _ _ _ _ rfl hYf Try.underlying91 rfl (by kernel_rfl)) rfl ⟨_, _, rfl, own_empty_seg _ _ hAf.size, hAf⟩
      | true =>
        have HSN : Hid (∀ W : World, Calls Try.prog 98 #[.int .i64 a, .int .i64 0] W fun e w' => e = .returned (.agg #[.int .i64 a, .int .i64 0, .int .i64 0, .int .i64 0, .int .i64 0, .int .i64 0, .int .i64 0, .int .i64 0, .int .i64 0, .int .i64 0, .int .i64 0, .int .i64 0, .int .i64 0, .int .i64 0, .int .i64 0, .slice none 0 0, .slice none 0 0, .slice none 0 0, .slice none 0 0, .slice none 0 0, .int .i64 0]) ∧ Below W.heap.size W w') := fun W => new_ok a ha W
        rw [ha] at HY
        clear HN ha
        go_upto_region 10 with (first
          | (go_at_call 98; refine (HSN.out _).mono ?_; rintro e w2 ⟨rfl, hb2⟩)
          | (refine wpList_store_row rfl 137 (.tmp 6) (.tmp 29) rfl w2.heap.size #[.int .i64 a, .int .i64 0, .int .i64 0, .int .i64 0, .int .i64 0, .int .i64 0, .int .i64 0, .int .i64 0, .int .i64 0, .int .i64 0, .int .i64 0, .int .i64 0, .int .i64 0, .int .i64 0, .int .i64 0, .slice none 0 0, .slice none 0 0, .slice none 0 0, .slice none 0 0, .slice none 0 0, .int .i64 0] rfl rfl _ _ (heap_alloc_new w2 _) (by kernel_rfl) rfl (by simp [Value.oneCell']) ?_))
        have hB : Hid _ := setRow_heap _ w2.heap.size _ #[.int .i64 a, .int .i64 0, .int .i64 0, .int .i64 0, .int .i64 0, .int .i64 0, .int .i64 0, .int .i64 0, .int .i64 0, .int .i64 0, .int .i64 0, .int .i64 0, .int .i64 0, .int .i64 0, .int .i64 0, .slice none 0 0, .slice none 0 0, .slice none 0 0, .slice none 0 0, .slice none 0 0, .int .i64 0] _ _ (heap_alloc_new w2 (.cells #[.int .i64 0, .int .i64 0, .int .i64 0, .int .i64 0, .int .i64 0, .int .i64 0, .int .i64 0, .int .i64 0, .int .i64 0, .int .i64 0, .int .i64 0, .int .i64 0, .int .i64 0, .int .i64 0, .int .i64 0, .slice none 0 0, .slice none 0 0, .slice none 0 0, .slice none 0 0, .slice none 0 0, .int .i64 0] 137))
        have hbB : Below w2.heap.size w2 ((w2.alloc (.cells #[.int .i64 0, .int .i64 0, .int .i64 0, .int .i64 0, .int .i64 0, .int .i64 0, .int .i64 0, .int .i64 0, .int .i64 0, .int .i64 0, .int .i64 0, .int .i64 0, .int .i64 0, .int .i64 0, .int .i64 0, .slice none 0 0, .slice none 0 0, .slice none 0 0, .slice none 0 0, .slice none 0 0, .int .i64 0] 137)).setRow w2.heap.size #[.int .i64 a, .int .i64 0, .int .i64 0, .int .i64 0, .int .i64 0, .int .i64 0, .int .i64 0, .int .i64 0, .int .i64 0, .int .i64 0, .int .i64 0, .int .i64 0, .int .i64 0, .int .i64 0, .int .i64 0, .slice none 0 0, .slice none 0 0, .slice none 0 0, .slice none 0 0, .slice none 0 0, .int .i64 0]) := setRow_fresh _ _ _
        generalize (w2.alloc (.cells #[.int .i64 0, .int .i64 0, .int .i64 0, .int .i64 0, .int .i64 0, .int .i64 0, .int .i64 0, .int .i64 0, .int .i64 0, .int .i64 0, .int .i64 0, .int .i64 0, .int .i64 0, .int .i64 0, .int .i64 0, .slice none 0 0, .slice none 0 0, .slice none 0 0, .slice none 0 0, .slice none 0 0, .int .i64 0] 137)).setRow w2.heap.size #[.int .i64 a, .int .i64 0, .int .i64 0, .int .i64 0, .int .i64 0, .int .i64 0, .int .i64 0, .int .i64 0, .int .i64 0, .int .i64 0, .int .i64 0, .int .i64 0, .int .i64 0, .int .i64 0, .int .i64 0, .slice none 0 0, .slice none 0 0, .slice none 0 0, .slice none 0 0, .slice none 0 0, .int .i64 0] = W3 at hB hbB ⊢
        have y20 := cellW hB.out 20 (.int .i64 0) rfl W3 (Below.refl _ _)
        have hRd : Hid _ := blk (blk HR.out hb2) hbB
        have hCd : Hid _ := blk (blk HCb.out hb2) hbB
        have OD : Hid (World.ownsRow W3.drew (w.heap.size + 2) 145 20 (.slice pv k cv) k (flatN (zs.take k))) := owns_below (owns_below (owns_below HO.out hb2) hbB) (Below.drew (Below.refl _ _))
        have hb3 := keepB (keepB hbel (Nat.le_refl _) hb2) (Nat.le_refl _) hbB
        have z3 : wr.heap.size ≤ W3.heap.size := Nat.le_trans hb2.size hbB.size
        obtain ⟨B, eB⟩ : ∃ B, w2.heap.size = B := ⟨_, rfl⟩
        rw [eB] at hB y20
        have hBd : Hid (W3.drew.heap[B]? = some (Obj.cells #[.int .i64 a, .int .i64 0, .int .i64 0, .int .i64 0, .int .i64 0, .int .i64 0, .int .i64 0, .int .i64 0, .int .i64 0, .int .i64 0, .int .i64 0, .int .i64 0, .int .i64 0, .int .i64 0, .int .i64 0, .slice none 0 0, .slice none 0 0, .slice none 0 0, .slice none 0 0, .slice none 0 0, .int .i64 0] 137 (0, 0))) := hB.out
        simp only [eB]
        clear HCb HO HR hB hbB hb2 HC1 HC2 HC3 eB
        go_upto_region 12 with fail
        clear y20
        have g0 : W3.drew.cell? ⟨w.heap.size + 1, 0, none⟩ = some (.slice pv k cv) := cellW hCd.out 0 (.slice pv k cv) rfl W3.drew (Below.drew (Below.refl _ _))
        refine wp_region_held_drew (S := fun _ => True) (by kernel_rfl) ?_ (fun hHeld => ?_)
        · trivial
        refine yieldH (i := 0) (v := ?_) rfl (by kernel_rfl) (by decide +kernel) (by decide +kernel) (fun _ _ _ h => h) (by rfl) ?_ (by trivial) ?_; rotate_left
        · intro w hSw; (try dsimp only at hSw); go_simp; (try with_reducible rfl)
        try simp only [Act.put, List.setIfInBounds_toArray, List.set_cons_zero, List.set_cons_succ, List.getElem_toArray, List.getElem_cons_succ, List.getElem_cons_zero]
        refine yieldH (i := 1) (v := ?_) rfl (by kernel_rfl) (by decide +kernel) (by decide +kernel) (fun _ _ _ h => h) (by rfl) ?_ (by trivial) ?_; rotate_left
        · intro w hSw; (try dsimp only at hSw); go_simp; (try with_reducible rfl)
        try simp only [Act.put, List.setIfInBounds_toArray, List.set_cons_zero, List.set_cons_succ, List.getElem_toArray, List.getElem_cons_succ, List.getElem_cons_zero]
        refine yieldH (i := 2) (v := ?_) rfl (by kernel_rfl) (by decide +kernel) (by decide +kernel) (fun _ _ _ h => h) (by rfl) ?_ (by trivial) ?_; rotate_left
        · intro w hSw; (try dsimp only at hSw); go_simp; (try with_reducible rfl)
        try simp only [Act.put, List.setIfInBounds_toArray, List.set_cons_zero, List.set_cons_succ, List.getElem_toArray, List.getElem_cons_succ, List.getElem_cons_zero]
        refine yieldH (i := 3) (v := ?_) rfl (by kernel_rfl) (by decide +kernel) (by decide +kernel) (fun _ _ _ h => h) (by rfl) ?_ (by trivial) ?_; rotate_left
        · intro w hSw; (try dsimp only at hSw); go_simp; (try with_reducible rfl)
        try simp only [Act.put, List.setIfInBounds_toArray, List.set_cons_zero, List.set_cons_succ, List.getElem_toArray, List.getElem_cons_succ, List.getElem_cons_zero]
        refine yieldH (i := 5) (v := ?_) rfl (by kernel_rfl) (by decide +kernel) (by decide +kernel) (fun _ _ _ h => h) (by rfl) ?_ (by trivial) ?_; rotate_left
        · intro w hSw; (try dsimp only at hSw); go_simp; (try with_reducible rfl)
        try simp only [Act.put, List.setIfInBounds_toArray, List.set_cons_zero, List.set_cons_succ, List.getElem_toArray, List.getElem_cons_succ, List.getElem_cons_zero]
        refine wpAnyH_ready (rs := [4, 6]) (by kernel_rfl) (by simp) ?_
        refine AllReadyH.cons rfl (fun Kc hK => ?_) (AllReadyH.cons rfl (fun Kc hK => ?_) AllReadyH.nil)
        · go_simp
          try dsimp only
          refine hK.out _ _ ?_ (fun hHeld => ?_)
          · trivial
          clear hK Kc
          try simp only [Act.put, List.setIfInBounds_toArray, List.set_cons_zero, List.set_cons_succ, List.getElem_toArray, List.getElem_cons_succ, List.getElem_cons_zero]
          refine wpAnyH_ready (rs := [6]) (by kernel_rfl) (by simp) ?_
          refine AllReadyH.cons rfl (fun Kc hK => ?_) AllReadyH.nil
          refine wp_load_mid 135 (.tmp 39) rfl B 0 rfl [.int .i64 a, .int .i64 0, .int .i64 0, .int .i64 0, .int .i64 0, .int .i64 0, .int .i64 0, .int .i64 0, .int .i64 0, .int .i64 0, .int .i64 0, .int .i64 0, .int .i64 0, .int .i64 0, .int .i64 0, .slice none 0 0, .slice none 0 0, .slice none 0 0, .slice none 0 0] _ (range_head (more := [.slice none 0 0, .int .i64 0]) hBd.out) Try.underlying135 rfl (by kernel_rfl) ?_
          try dsimp only
          refine hK.out _ _ ?_ (fun hHeld => ?_)
          · trivial
          clear hK Kc
          try simp only [Act.put, List.setIfInBounds_toArray, List.set_cons_zero, List.set_cons_succ, List.getElem_toArray, List.getElem_cons_succ, List.getElem_cons_zero]
          refine yieldH (i := 7) (v := .agg (seC (newS a 0) nilV true).toArray) rfl (by kernel_rfl) (by decide +kernel) (by decide +kernel) (fun _ _ _ h => h) (by rfl) ?_ (by trivial) ?_
          · intro W' hSw; go_simp; kernel_rfl
          try simp only [Act.put, List.setIfInBounds_toArray, List.set_cons_zero, List.set_cons_succ, List.getElem_toArray, List.getElem_cons_succ, List.getElem_cons_zero]
          obtain ⟨L20, hL20⟩ : ∃ L, seC (newS a 0) nilV true = L := ⟨_, rfl⟩
          have hlen20 : L20.length = 20 := by rw [← hL20]; rfl
          have hone20 : ∀ u ∈ L20, u.oneCell' = true := by rw [← hL20]; intro u hu; simp [seC, newS, nilV] at hu; rcases hu with rfl | rfl | rfl | rfl | rfl <;> rfl
          have hfold : List.foldl (fun cs x => cs.setIfInBounds x.snd x.fst) #[.int .i64 0, .int .i64 0, .int .i64 0, .int .i64 0, .int .i64 0, .int .i64 0, .int .i64 0, .int .i64 0, .int .i64 0, .int .i64 0, .int .i64 0, .int .i64 0, .int .i64 0, .int .i64 0, .int .i64 0, .slice none 0 0, .slice none 0 0, .slice none 0 0, .slice none 0 0, .bool false] L20.zipIdx = L20.toArray := fold_all L20 #[.int .i64 0, .int .i64 0, .int .i64 0, .int .i64 0, .int .i64 0, .int .i64 0, .int .i64 0, .int .i64 0, .int .i64 0, .int .i64 0, .int .i64 0, .int .i64 0, .int .i64 0, .int .i64 0, .int .i64 0, .slice none 0 0, .slice none 0 0, .slice none 0 0, .slice none 0 0, .bool false] (by rw [hlen20]; rfl)
          have HL20 : Hid (seC (newS a 0) nilV true = L20) := hL20
          rw [hL20]
          clear hL20
          refine wpAnyH_ready (rs := [8]) (by kernel_rfl) (by simp) ?_
          refine AllReadyH.cons rfl (fun Kc hK => ?_) AllReadyH.nil
          go_simp
          try dsimp only
          refine hK.out _ _ ?_ (fun hHeld => ?_)
          · trivial
          clear hK Kc
          try simp only [Act.put, List.setIfInBounds_toArray, List.set_cons_zero, List.set_cons_succ, List.getElem_toArray, List.getElem_cons_succ, List.getElem_cons_zero]
          have OA := World.ownsRow.alloc OD.out (.cells L20.toArray 145)
          have zD : (W3.alloc (.cells L20.toArray 145)).drew.heap.size = W3.heap.size + 1 := by simp
          have hCa : Hid _ := blk (Y := W3.drew) hCd.out (all_alloc W3.drew (.cells L20.toArray 145))
          have hRa : Hid _ := blk (Y := W3.drew) hRd.out (all_alloc W3.drew (.cells L20.toArray 145))
          refine wpAnyH_ready (rs := [9]) (by kernel_rfl) (by simp) ?_
          refine AllReadyH.cons rfl (fun Kc hK => ?_) AllReadyH.nil
          refine wp_append_own _ (.tmp 38) (.tmp 42) 141 rfl (w.heap.size + 2) 145 i0 (.agg #[.int .i64 0, .int .i64 0, .int .i64 0, .int .i64 0, .int .i64 0, .int .i64 0, .int .i64 0, .int .i64 0, .int .i64 0, .int .i64 0, .int .i64 0, .int .i64 0, .int .i64 0, .int .i64 0, .int .i64 0, .slice none 0 0, .slice none 0 0, .slice none 0 0, .slice none 0 0, .bool false]) 20 224 Try.underlying141 hi hz0 hz1 hz2 rfl (by decide) _ _ _ rfl OA ⟨W3.heap.size, 0, none⟩ 1 1 L20 rfl (by rw [hlen20]) (cells_newG _ _ _ _ rfl) hone20 (by unfold maxLen; omega) (by omega) (by rw [zD]; omega) ?_
          intro v' w5 hown' hgrow _
          obtain ⟨pb, eb, rfl⟩ := owns_shape hown'
          have P5 : Hid (World.ownsRow _ _ _ _ _ _ _) := hown'
          have hlo : ∀ q, some q = (Value.slice pv k cv).ownBlock → w.heap.size + 2 ≤ q := fun q e => (World.ownsRow.lt OD.out q e.symm).1
          have hC5 : Hid (w5.heap[w.heap.size + 1]? = _) := (hgrow.block (w.heap.size + 1) (by rw [zD]; omega) (fun e => by have := hlo _ e; omega)).trans hCa.out
          have hR5 : Hid (w5.heap[w.heap.size]? = _) := (hgrow.block w.heap.size (by rw [zD]; omega) (fun e => by have := hlo _ e; omega)).trans hRa.out
          have hb5 : Below w.heap.size w w5 := ((Below.drew hb3).alloc (by show w.heap.size ≤ W3.heap.size; omega) _).grown hgrow (by show w.heap.size ≤ (W3.alloc (.cells L20.toArray 145)).drew.heap.size; rw [zD]; omega) (fun q e => by have := hlo q e.symm; omega)
          refine hK.out _ _ ?_ (fun hHeld => ?_)
          · trivial
          clear hK Kc OA hgrow zD hCa hRa
          try simp only [Act.put, List.setIfInBounds_toArray, List.set_cons_zero, List.set_cons_succ, List.getElem_toArray, List.getElem_cons_succ, List.getElem_cons_zero]
          have t0 := cellW hC5.out 0 (.slice pv k cv) rfl w5 (Below.refl _ _)
          have f0 := frozenW hC5.out 0 w5 (Below.refl _ _)
          refine yieldH (i := 10) (v := ?_) rfl (by kernel_rfl) (by decide +kernel) (by decide +kernel) (fun _ _ _ h => h) (by rfl) ?_ (by trivial) ?_; rotate_left
          · intro w hSw; (try dsimp only at hSw); go_simp; (try with_reducible rfl)
          try simp only [Act.put, List.setIfInBounds_toArray, List.set_cons_zero, List.set_cons_succ, List.getElem_toArray, List.getElem_cons_succ, List.getElem_cons_zero]
          refine yieldH (i := 11) (v := ?_) rfl (by kernel_rfl) (by decide +kernel) (by decide +kernel) (fun _ _ _ h => h) (by rfl) ?_ (by trivial) ?_; rotate_left
          · intro w hSw; (try dsimp only at hSw); go_simp; (try with_reducible rfl)
          try simp only [Act.put, List.setIfInBounds_toArray, List.set_cons_zero, List.set_cons_succ, List.getElem_toArray, List.getElem_cons_succ, List.getElem_cons_zero]
          refine wpAnyH_ready (rs := [12]) (by kernel_rfl) (by simp) ?_
          refine AllReadyH.cons rfl (fun Kc hK => ?_) AllReadyH.nil
          go_simp
          try dsimp only
          refine hK.out _ _ ?_ (fun hHeld => ?_)
          · trivial
          clear hK Kc
          try simp only [Act.put, List.setIfInBounds_toArray, List.set_cons_zero, List.set_cons_succ, List.getElem_toArray, List.getElem_cons_succ, List.getElem_cons_zero]
          refine wpAnyH_done (by kernel_rfl) ?_ _
          have hC6 : Hid ((w5.setCell ⟨w.heap.size + 1, 0, none⟩ (.slice pb (k + 1) eb)).heap[w.heap.size + 1]? = some (.cells #[.slice pb (k + 1) eb, .slice none 0 0, .slice none 0 0] 143 (0, 0))) := blk_set hC5.out 0 _
          have hR6 : Hid ((w5.setCell ⟨w.heap.size + 1, 0, none⟩ (.slice pb (k + 1) eb)).heap[w.heap.size]? = some (.cells #[.slice none 0 0, .slice none 0 0, .slice none 0 0, .slice none 0 0, .int .i64 0] 91 (0, 0))) := blk_far hR5.out (by simp only; omega) _
          have O6 : Hid (World.ownsRow (w5.setCell ⟨w.heap.size + 1, 0, none⟩ (.slice pb (k + 1) eb)) (w.heap.size + 2) 145 20 (.slice pb (k + 1) eb) (k + 1) (flatN (zs.take (k + 1)))) := (by rw [HFT.out, HL20.out]; exact owns_far P5.out (by simp only; omega) _ : World.ownsRow _ _ _ _ _ _ _)
          have hb6 : Below w.heap.size w (w5.setCell ⟨w.heap.size + 1, 0, none⟩ (.slice pb (k + 1) eb)) := hb5.setCell (by simp only; omega) _
          clear t0 f0 hC5 hR5 P5 hb5
          generalize (w5.setCell ⟨w.heap.size + 1, 0, none⟩ (.slice pb (k + 1) eb)) = W6 at hC6 hR6 O6 hb6 ⊢
          go_wp2
          go_roundw
          case rel => exact ⟨k + 1, by omega, by go_num, HY.out (by first | rfl | trivial), ⟨_, hC6.out, O6.out⟩, hR6.out, hb6⟩
          case measure => simp [intOf]; omega
        · refine wp_load_mid 135 (.tmp 39) rfl B 0 rfl [.int .i64 a, .int .i64 0, .int .i64 0, .int .i64 0, .int .i64 0, .int .i64 0, .int .i64 0, .int .i64 0, .int .i64 0, .int .i64 0, .int .i64 0, .int .i64 0, .int .i64 0, .int .i64 0, .int .i64 0, .slice none 0 0, .slice none 0 0, .slice none 0 0, .slice none 0 0] _ (range_head (more := [.slice none 0 0, .int .i64 0]) hBd.out) Try.underlying135 rfl (by kernel_rfl) ?_
          try dsimp only
          refine hK.out _ _ ?_ (fun hHeld => ?_)
          · trivial
          clear hK Kc
          try simp only [Act.put, List.setIfInBounds_toArray, List.set_cons_zero, List.set_cons_succ, List.getElem_toArray, List.getElem_cons_succ, List.getElem_cons_zero]
          refine yieldH (i := 7) (v := .agg (seC (newS a 0) nilV true).toArray) rfl (by kernel_rfl) (by decide +kernel) (by decide +kernel) (fun _ _ _ h => h) (by rfl) ?_ (by trivial) ?_
          · intro W' hSw; go_simp; kernel_rfl
          try simp only [Act.put, List.setIfInBounds_toArray, List.set_cons_zero, List.set_cons_succ, List.getElem_toArray, List.getElem_cons_succ, List.getElem_cons_zero]
          obtain ⟨L20, hL20⟩ : ∃ L, seC (newS a 0) nilV true = L := ⟨_, rfl⟩
          have hlen20 : L20.length = 20 := by rw [← hL20]; rfl
          have hone20 : ∀ u ∈ L20, u.oneCell' = true := by rw [← hL20]; intro u hu; simp [seC, newS, nilV] at hu; rcases hu with rfl | rfl | rfl | rfl | rfl <;> rfl
          have hfold : List.foldl (fun cs x => cs.setIfInBounds x.snd x.fst) #[.int .i64 0, .int .i64 0, .int .i64 0, .int .i64 0, .int .i64 0, .int .i64 0, .int .i64 0, .int .i64 0, .int .i64 0, .int .i64 0, .int .i64 0, .int .i64 0, .int .i64 0, .int .i64 0, .int .i64 0, .slice none 0 0, .slice none 0 0, .slice none 0 0, .slice none 0 0, .bool false] L20.zipIdx = L20.toArray := fold_all L20 #[.int .i64 0, .int .i64 0, .int .i64 0, .int .i64 0, .int .i64 0, .int .i64 0, .int .i64 0, .int .i64 0, .int .i64 0, .int .i64 0, .int .i64 0, .int .i64 0, .int .i64 0, .int .i64 0, .int .i64 0, .slice none 0 0, .slice none 0 0, .slice none 0 0, .slice none 0 0, .bool false] (by rw [hlen20]; rfl)
          have HL20 : Hid (seC (newS a 0) nilV true = L20) := hL20
          rw [hL20]
          clear hL20
          have g0b : (W3.alloc (.cells L20.toArray 145)).cell? ⟨w.heap.size + 1, 0, none⟩ = some (.slice pv k cv) := cellW (blk (Y := W3.drew) hCd.out (all_alloc W3.drew (.cells L20.toArray 145))) 0 (.slice pv k cv) rfl (W3.drew.alloc (.cells L20.toArray 145)) (Below.refl _ _)
          refine wpAnyH_ready (rs := [4, 8]) (by kernel_rfl) (by simp) ?_
          refine AllReadyH.cons rfl (fun Kc hK => ?_) (AllReadyH.cons rfl (fun Kc hK => ?_) AllReadyH.nil)
          · go_simp
            try dsimp only
            refine hK.out _ _ ?_ (fun hHeld => ?_)
            · trivial
            clear hK Kc
            try simp only [Act.put, List.setIfInBounds_toArray, List.set_cons_zero, List.set_cons_succ, List.getElem_toArray, List.getElem_cons_succ, List.getElem_cons_zero]
            refine wpAnyH_ready (rs := [8]) (by kernel_rfl) (by simp) ?_
            refine AllReadyH.cons rfl (fun Kc hK => ?_) AllReadyH.nil
            go_simp
            try dsimp only
            refine hK.out _ _ ?_ (fun hHeld => ?_)
            · trivial
            clear hK Kc
            try simp only [Act.put, List.setIfInBounds_toArray, List.set_cons_zero, List.set_cons_succ, List.getElem_toArray, List.getElem_cons_succ, List.getElem_cons_zero]
            have OA := World.ownsRow.alloc OD.out (.cells L20.toArray 145)
            have zD : (W3.alloc (.cells L20.toArray 145)).drew.heap.size = W3.heap.size + 1 := by simp
            have hCa : Hid _ := blk (Y := W3.drew) hCd.out (all_alloc W3.drew (.cells L20.toArray 145))
            have hRa : Hid _ := blk (Y := W3.drew) hRd.out (all_alloc W3.drew (.cells L20.toArray 145))
            refine wpAnyH_ready (rs := [9]) (by kernel_rfl) (by simp) ?_
            refine AllReadyH.cons rfl (fun Kc hK => ?_) AllReadyH.nil
            refine wp_append_own _ (.tmp 38) (.tmp 42) 141 rfl (w.heap.size + 2) 145 i0 (.agg #[.int .i64 0, .int .i64 0, .int .i64 0, .int .i64 0, .int .i64 0, .int .i64 0, .int .i64 0, .int .i64 0, .int .i64 0, .int .i64 0, .int .i64 0, .int .i64 0, .int .i64 0, .int .i64 0, .int .i64 0, .slice none 0 0, .slice none 0 0, .slice none 0 0, .slice none 0 0, .bool false]) 20 224 Try.underlying141 hi hz0 hz1 hz2 rfl (by decide) _ _ _ rfl OA ⟨W3.heap.size, 0, none⟩ 1 1 L20 rfl (by rw [hlen20]) (cells_newG _ _ _ _ rfl) hone20 (by unfold maxLen; omega) (by omega) (by rw [zD]; omega) ?_
            intro v' w5 hown' hgrow _
            obtain ⟨pb, eb, rfl⟩ := owns_shape hown'
            have P5 : Hid (World.ownsRow _ _ _ _ _ _ _) := hown'
            have hlo : ∀ q, some q = (Value.slice pv k cv).ownBlock → w.heap.size + 2 ≤ q := fun q e => (World.ownsRow.lt OD.out q e.symm).1
            have hC5 : Hid (w5.heap[w.heap.size + 1]? = _) := (hgrow.block (w.heap.size + 1) (by rw [zD]; omega) (fun e => by have := hlo _ e; omega)).trans hCa.out
            have hR5 : Hid (w5.heap[w.heap.size]? = _) := (hgrow.block w.heap.size (by rw [zD]; omega) (fun e => by have := hlo _ e; omega)).trans hRa.out
            have hb5 : Below w.heap.size w w5 := ((Below.drew hb3).alloc (by show w.heap.size ≤ W3.heap.size; omega) _).grown hgrow (by show w.heap.size ≤ (W3.alloc (.cells L20.toArray 145)).drew.heap.size; rw [zD]; omega) (fun q e => by have := hlo q e.symm; omega)
            refine hK.out _ _ ?_ (fun hHeld => ?_)
            · trivial
            clear hK Kc OA hgrow zD hCa hRa
            try simp only [Act.put, List.setIfInBounds_toArray, List.set_cons_zero, List.set_cons_succ, List.getElem_toArray, List.getElem_cons_succ, List.getElem_cons_zero]
            have t0 := cellW hC5.out 0 (.slice pv k cv) rfl w5 (Below.refl _ _)
            have f0 := frozenW hC5.out 0 w5 (Below.refl _ _)
            refine yieldH (i := 10) (v := ?_) rfl (by kernel_rfl) (by decide +kernel) (by decide +kernel) (fun _ _ _ h => h) (by rfl) ?_ (by trivial) ?_; rotate_left
            · intro w hSw; (try dsimp only at hSw); go_simp; (try with_reducible rfl)
            try simp only [Act.put, List.setIfInBounds_toArray, List.set_cons_zero, List.set_cons_succ, List.getElem_toArray, List.getElem_cons_succ, List.getElem_cons_zero]
            refine yieldH (i := 11) (v := ?_) rfl (by kernel_rfl) (by decide +kernel) (by decide +kernel) (fun _ _ _ h => h) (by rfl) ?_ (by trivial) ?_; rotate_left
            · intro w hSw; (try dsimp only at hSw); go_simp; (try with_reducible rfl)
            try simp only [Act.put, List.setIfInBounds_toArray, List.set_cons_zero, List.set_cons_succ, List.getElem_toArray, List.getElem_cons_succ, List.getElem_cons_zero]
            refine wpAnyH_ready (rs := [12]) (by kernel_rfl) (by simp) ?_
            refine AllReadyH.cons rfl (fun Kc hK => ?_) AllReadyH.nil
            go_simp
            try dsimp only
            refine hK.out _ _ ?_ (fun hHeld => ?_)
            · trivial
            clear hK Kc
            try simp only [Act.put, List.setIfInBounds_toArray, List.set_cons_zero, List.set_cons_succ, List.getElem_toArray, List.getElem_cons_succ, List.getElem_cons_zero]
            refine wpAnyH_done (by kernel_rfl) ?_ _
            have hC6 : Hid ((w5.setCell ⟨w.heap.size + 1, 0, none⟩ (.slice pb (k + 1) eb)).heap[w.heap.size + 1]? = some (.cells #[.slice pb (k + 1) eb, .slice none 0 0, .slice none 0 0] 143 (0, 0))) := blk_set hC5.out 0 _
            have hR6 : Hid ((w5.setCell ⟨w.heap.size + 1, 0, none⟩ (.slice pb (k + 1) eb)).heap[w.heap.size]? = some (.cells #[.slice none 0 0, .slice none 0 0, .slice none 0 0, .slice none 0 0, .int .i64 0] 91 (0, 0))) := blk_far hR5.out (by simp only; omega) _
            have O6 : Hid (World.ownsRow (w5.setCell ⟨w.heap.size + 1, 0, none⟩ (.slice pb (k + 1) eb)) (w.heap.size + 2) 145 20 (.slice pb (k + 1) eb) (k + 1) (flatN (zs.take (k + 1)))) := (by rw [HFT.out, HL20.out]; exact owns_far P5.out (by simp only; omega) _ : World.ownsRow _ _ _ _ _ _ _)
            have hb6 : Below w.heap.size w (w5.setCell ⟨w.heap.size + 1, 0, none⟩ (.slice pb (k + 1) eb)) := hb5.setCell (by simp only; omega) _
            clear t0 f0 hC5 hR5 P5 hb5
            generalize (w5.setCell ⟨w.heap.size + 1, 0, none⟩ (.slice pb (k + 1) eb)) = W6 at hC6 hR6 O6 hb6 ⊢
            go_wp2
            go_roundw
            case rel => exact ⟨k + 1, by omega, by go_num, HY.out (by first | rfl | trivial), ⟨_, hC6.out, O6.out⟩, hR6.out, hb6⟩
            case measure => simp [intOf]; omega
          · go_simp
            try dsimp only
            refine hK.out _ _ ?_ (fun hHeld => ?_)
            · trivial
            clear hK Kc
            try simp only [Act.put, List.setIfInBounds_toArray, List.set_cons_zero, List.set_cons_succ, List.getElem_toArray, List.getElem_cons_succ, List.getElem_cons_zero]
            refine wpAnyH_ready (rs := [4]) (by kernel_rfl) (by simp) ?_
            refine AllReadyH.cons rfl (fun Kc hK => ?_) AllReadyH.nil
            go_simp
            try dsimp only
            refine hK.out _ _ ?_ (fun hHeld => ?_)
            · trivial
            clear hK Kc
            try simp only [Act.put, List.setIfInBounds_toArray, List.set_cons_zero, List.set_cons_succ, List.getElem_toArray, List.getElem_cons_succ, List.getElem_cons_zero]
            have OA := World.ownsRow.alloc OD.out (.cells L20.toArray 145)
            have zD : (W3.alloc (.cells L20.toArray 145)).drew.heap.size = W3.heap.size + 1 := by simp
            have hCa : Hid _ := blk (Y := W3.drew) hCd.out (all_alloc W3.drew (.cells L20.toArray 145))
            have hRa : Hid _ := blk (Y := W3.drew) hRd.out (all_alloc W3.drew (.cells L20.toArray 145))
            refine wpAnyH_ready (rs := [9]) (by kernel_rfl) (by simp) ?_
            refine AllReadyH.cons rfl (fun Kc hK => ?_) AllReadyH.nil
            refine wp_append_own _ (.tmp 38) (.tmp 42) 141 rfl (w.heap.size + 2) 145 i0 (.agg #[.int .i64 0, .int .i64 0, .int .i64 0, .int .i64 0, .int .i64 0, .int .i64 0, .int .i64 0, .int .i64 0, .int .i64 0, .int .i64 0, .int .i64 0, .int .i64 0, .int .i64 0, .int .i64 0, .int .i64 0, .slice none 0 0, .slice none 0 0, .slice none 0 0, .slice none 0 0, .bool false]) 20 224 Try.underlying141 hi hz0 hz1 hz2 rfl (by decide) _ _ _ rfl OA ⟨W3.heap.size, 0, none⟩ 1 1 L20 rfl (by rw [hlen20]) (cells_newG _ _ _ _ rfl) hone20 (by unfold maxLen; omega) (by omega) (by rw [zD]; omega) ?_
            intro v' w5 hown' hgrow _
            obtain ⟨pb, eb, rfl⟩ := owns_shape hown'
            have P5 : Hid (World.ownsRow _ _ _ _ _ _ _) := hown'
            have hlo : ∀ q, some q = (Value.slice pv k cv).ownBlock → w.heap.size + 2 ≤ q := fun q e => (World.ownsRow.lt OD.out q e.symm).1
            have hC5 : Hid (w5.heap[w.heap.size + 1]? = _) := (hgrow.block (w.heap.size + 1) (by rw [zD]; omega) (fun e => by have := hlo _ e; omega)).trans hCa.out
            have hR5 : Hid (w5.heap[w.heap.size]? = _) := (hgrow.block w.heap.size (by rw [zD]; omega) (fun e => by have := hlo _ e; omega)).trans hRa.out
            have hb5 : Below w.heap.size w w5 := ((Below.drew hb3).alloc (by show w.heap.size ≤ W3.heap.size; omega) _).grown hgrow (by show w.heap.size ≤ (W3.alloc (.cells L20.toArray 145)).drew.heap.size; rw [zD]; omega) (fun q e => by have := hlo q e.symm; omega)
            refine hK.out _ _ ?_ (fun hHeld => ?_)
            · trivial
            clear hK Kc OA hgrow zD hCa hRa
            try simp only [Act.put, List.setIfInBounds_toArray, List.set_cons_zero, List.set_cons_succ, List.getElem_toArray, List.getElem_cons_succ, List.getElem_cons_zero]
            have t0 := cellW hC5.out 0 (.slice pv k cv) rfl w5 (Below.refl _ _)
            have f0 := frozenW hC5.out 0 w5 (Below.refl _ _)
            refine yieldH (i := 10) (v := ?_) rfl (by kernel_rfl) (by decide +kernel) (by decide +kernel) (fun _ _ _ h => h) (by rfl) ?_ (by trivial) ?_; rotate_left
            · intro w hSw; (try dsimp only at hSw); go_simp; (try with_reducible rfl)
            try simp only [Act.put, List.setIfInBounds_toArray, List.set_cons_zero, List.set_cons_succ, List.getElem_toArray, List.getElem_cons_succ, List.getElem_cons_zero]
            refine yieldH (i := 11) (v := ?_) rfl (by kernel_rfl) (by decide +kernel) (by decide +kernel) (fun _ _ _ h => h) (by rfl) ?_ (by trivial) ?_; rotate_left
            · intro w hSw; (try dsimp only at hSw); go_simp; (try with_reducible rfl)
            try simp only [Act.put, List.setIfInBounds_toArray, List.set_cons_zero, List.set_cons_succ, List.getElem_toArray, List.getElem_cons_succ, List.getElem_cons_zero]
            refine wpAnyH_ready (rs := [12]) (by kernel_rfl) (by simp) ?_
            refine AllReadyH.cons rfl (fun Kc hK => ?_) AllReadyH.nil
            go_simp
            try dsimp only
            refine hK.out _ _ ?_ (fun hHeld => ?_)
            · trivial
            clear hK Kc
            try simp only [Act.put, List.setIfInBounds_toArray, List.set_cons_zero, List.set_cons_succ, List.getElem_toArray, List.getElem_cons_succ, List.getElem_cons_zero]
            refine wpAnyH_done (by kernel_rfl) ?_ _
            have hC6 : Hid ((w5.setCell ⟨w.heap.size + 1, 0, none⟩ (.slice pb (k + 1) eb)).heap[w.heap.size + 1]? = some (.cells #[.slice pb (k + 1) eb, .slice none 0 0, .slice none 0 0] 143 (0, 0))) := blk_set hC5.out 0 _
            have hR6 : Hid ((w5.setCell ⟨w.heap.size + 1, 0, none⟩ (.slice pb (k + 1) eb)).heap[w.heap.size]? = some (.cells #[.slice none 0 0, .slice none 0 0, .slice none 0 0, .slice none 0 0, .int .i64 0] 91 (0, 0))) := blk_far hR5.out (by simp only; omega) _
            have O6 : Hid (World.ownsRow (w5.setCell ⟨w.heap.size + 1, 0, none⟩ (.slice pb (k + 1) eb)) (w.heap.size + 2) 145 20 (.slice pb (k + 1) eb) (k + 1) (flatN (zs.take (k + 1)))) := (by rw [HFT.out, HL20.out]; exact owns_far P5.out (by simp only; omega) _ : World.ownsRow _ _ _ _ _ _ _)
            have hb6 : Below w.heap.size w (w5.setCell ⟨w.heap.size + 1, 0, none⟩ (.slice pb (k + 1) eb)) := hb5.setCell (by simp only; omega) _
            clear t0 f0 hC5 hR5 P5 hb5
            generalize (w5.setCell ⟨w.heap.size + 1, 0, none⟩ (.slice pb (k + 1) eb)) = W6 at hC6 hR6 O6 hb6 ⊢
            go_wp2
            go_roundw
            case rel => exact ⟨k + 1, by omega, by go_num, HY.out (by first | rfl | trivial), ⟨_, hC6.out, O6.out⟩, hR6.out, hb6⟩
            case measure => simp [intOf]; omega
    · have hkk : k = zs.length := by omega
      subst hkk
      have HA1 : zs.all addrB = true := by have := HA.out; rwa [List.take_length] at this
      have O1 : World.ownsRow wr (w.heap.size + 2) 145 20 (.slice pv zs.length cv) zs.length (flatN zs) := by have := HO.out; rwa [List.take_length] at this
      clear HA HO
      rcases O1.2 with ⟨_, e⟩ | ⟨g, cap', cur, e, hgb, hgh, _⟩
      · omega
      cases e
      have hgl : g < wr.heap.size := (Array.getElem?_eq_some_iff.1 hgh).1
      have HRS : Hid (∀ W, Below wr.heap.size wr W → Calls Try.prog 99 #[.slice (some ⟨g, 0, none⟩) zs.length cv] W fun e w' => e = .returned (.bool (riseQ zs)) ∧ Below W.heap.size W w') := fun W hW => by
        have hh := rises_any g cv (zs.map fun a => (newS a 0, nilV, true)) W (by rw [List.length_map]; omega) (by have := hW.size; omega) (fun k hk => by
          have hk' : k < zs.length := by rwa [List.length_map] at hk
          simp only [List.getElem_map]
          exact ⟨range_below (own_range O1 k hk' _ rfl (fun j hj => flatN_at zs k hk' j hj)) hgl hW, by first | rfl | kernel_rfl | simp [seC, newS, nilV, Value.oneCell'] | (rw [Array.all_eq_true']; intro u hu; simp [seC, newS, nilV] at hu; rcases hu with rfl | rfl | rfl | rfl | rfl <;> rfl)⟩)
        have e1 : (zs.map fun a => (newS a 0, nilV, true)).length = zs.length := List.length_map _
        have e2 : ((zs.map fun a => (newS a 0, nilV, true)).map fun c => c.1.ad) = zs := by rw [List.map_map]; exact List.map_id' _
        rw [e1, e2] at hh
        exact hh
      have HSG : Hid (∀ W, Below wr.heap.size wr W → Calls Try.prog 100 #[.pointer (some ⟨w.heap.size + 1, 0, none⟩)] W fun e w' => ∃ p1 c1 p2 c2, e = .returned (.agg #[.slice p1 zs.length c1, .slice p2 zs.length c2, .slice none 0 0]) ∧ OwnSegB w' W.heap.size w'.heap.size (.slice p1 zs.length c1) (.slice p2 zs.length c2) (.slice none 0 0) (segNew zs) ∧ Below W.heap.size W w') := fun W hW => by
        have e1 : (csN zs).length = zs.length := by unfold csN; exact List.length_map _
        refine (segmentOf_any (w.heap.size + 1) g cv (csN zs) zs.length e1 none 0 0 (.slice none 0 0) W (by omega) (blk HCb.out hW) (by have := hW.size; omega) (fun k hk => ?_)).mono ?_
        · have hk' : k < zs.length := by rwa [e1] at hk
          have q : (csN zs)[k] = (stC (newS zs[k] 0) nilV, true) := List.getElem_map _
          rw [q]
          exact ⟨range_below (own_range O1 k hk' _ rfl (fun j hj => flatN_at zs k hk' j hj)) hgl hW, rfl, by intro u hu; simp [stC, newS, nilV] at hu; rcases hu with rfl | rfl | rfl | rfl <;> rfl⟩
        · rintro e w' ⟨v1, v2, rfl, p1, p2, hb⟩
          obtain ⟨q1, d1, rfl⟩ := owns_shape p1
          obtain ⟨q2, d2, rfl⟩ := owns_shape p2
          exact ⟨q1, d1, q2, d2, rfl, own_segNew zs hn1 hb.size p1 p2, hb⟩
      have y0 := cellW HCb.out 0 (.slice (some ⟨g, 0, none⟩) zs.length cv) rfl wr (Below.refl _ _)
      have HF : Hid (riseQ zs = false → PC = 1 ∧ PS = ⟨[], [], []⟩) := HC2.out HA1
      have HT : Hid (riseQ zs = true → PC = 0 ∧ PS = segNew zs) := HC3.out HA1
      clear HC1 HC2 HC3 O1 HCb hgh hgb HA1
      cases hq : riseQ zs with
      | false =>
        obtain ⟨rfl, rfl⟩ := HF.out hq
        rw [hq] at HRS
        clear HF HT HSG hq
        go_upto_region 15 with (go_at_call 99; refine (HRS.out _ (Below.refl _ _)).mono ?_; rintro e w2 ⟨rfl, hb2⟩)
        have hR3 : Hid _ := blk HR.out hb2
        have hA3 := keepB hbel (Nat.le_refl _) hb2
        go_wp2_with (refine wpList_store_row rfl 91 (.tmp 2) (.tmp 53) rfl w.heap.size #[.slice none 0 0, .slice none 0 0, .slice none 0 0, .slice none 0 0, .int .i64 1] rfl rfl _ _ hR3.out (by kernel_rfl) rfl (by simp [Value.oneCell']) ?_)
        go_wp2
        have hYf := setRow_heap _ w.heap.size _ #[.slice none 0 0, .slice none 0 0, .slice none 0 0, .slice none 0 0, .int .i64 1] _ _ hR3.out
        have hAf : Below w.heap.size w _ := Below.setRow hA3 (g := w.heap.size) (Nat.le_refl _) #[.slice none 0 0, .slice none 0 0, .slice none 0 0, .slice none 0 0, .int .i64 1]
        exact bodyPost_ret (v := .agg #[.slice none 0 0, .slice none 0 0, .slice none 0 0, .slice none 0 0, .int .i64 1]) (results_cell_row Try.results56 _ _ w.heap.size _ _ _ _ rfl hYf Try.underlying91 rfl (by kernel_rfl)) rfl ⟨_, _, rfl, own_empty_seg _ _ hAf.size, hAf⟩
      | true =>
        obtain ⟨rfl, rfl⟩ := HT.out hq
        rw [hq] at HRS
        clear HF HT hq
        go_upto_region 16 with (go_at_call 99; refine (HRS.out _ (Below.refl _ _)).mono ?_; rintro e w2 ⟨rfl, hb2⟩)
        have hR3 : Hid _ := blk HR.out hb2
        have hA3 := keepB hbel (Nat.le_refl _) hb2
        have HS2 := HSG.out w2 hb2
        have zz : w.heap.size ≤ w2.heap.size := hA3.size
        clear HRS HSG y0 HR HX
        go_wp2_with (first
          | (go_at_call 100; refine HS2.mono ?_; rintro e w3 ⟨p1, d1, p2, d2, rfl, hOS, hb3⟩)
          | (refine wpList_store_row rfl 91 (.tmp 2) (.tmp 56) rfl w.heap.size #[.slice p1 zs.length d1, .slice p2 zs.length d2, .slice none 0 0, .slice none 0 0, .int .i64 0] rfl rfl _ _ (blk hR3.out hb3) (by kernel_rfl) rfl (by simp [Value.oneCell']) ?_))
        go_wp2
        have hYf := setRow_heap _ w.heap.size _ #[.slice p1 zs.length d1, .slice p2 zs.length d2, .slice none 0 0, .slice none 0 0, .int .i64 0] _ _ (blk hR3.out hb3)
        have hA4 := keepB hA3 (Nat.le_refl _) hb3
        have hAf : Below w.heap.size w _ := Below.setRow hA4 (g := w.heap.size) (Nat.le_refl _) #[.slice p1 zs.length d1, .slice p2 zs.length d2, .slice none 0 0, .slice none 0 0, .int .i64 0]
        have hzw : w.heap.size < w2.heap.size := (Array.getElem?_eq_some_iff.1 hR3.out).1
        have hzs : w3.heap.size ≤ (w3.setRow w.heap.size #[.slice p1 zs.length d1, .slice p2 zs.length d2, .slice none 0 0, .slice none 0 0, .int .i64 0]).heap.size := (Below.setRow (Below.refl w.heap.size w3) (g := w.heap.size) (Nat.le_refl _) #[.slice p1 zs.length d1, .slice p2 zs.length d2, .slice none 0 0, .slice none 0 0, .int .i64 0]).size
        exact bodyPost_ret (v := .agg #[.slice p1 zs.length d1, .slice p2 zs.length d2, .slice none 0 0, .slice none 0 0, .int .i64 0]) (results_cell_row Try.results56 _ _ w.heap.size _ _ _ _ rfl hYf Try.underlying91 rfl (by kernel_rfl)) rfl ⟨_, _, rfl, (hOS.same (Same.setRow (.inl hzw) #[.slice p1 zs.length d1, .slice p2 zs.length d2, .slice none 0 0, .slice none 0 0, .int .i64 0]) hzs).widen (Nat.le_of_lt hzw) hzs (Nat.le_refl _), hAf⟩
end Go.Proofs.Ytklpaleghanhhaa
