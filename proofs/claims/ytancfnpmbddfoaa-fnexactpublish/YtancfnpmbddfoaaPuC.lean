/- WHAT A STATION WILL TELL ALL: the program's and the model's. Written by mkpub.py. -/
import Derived.Test.YtancfnpmbddfoaaPuA
import Derived.Test.YtancfnpmbddfoaaGlC
import Derived.Test.YtancfnpmbddfoaaPuB
namespace Go.Proofs.Ytancfnpmbddfoaa
open Go.RowKit
set_option linter.unusedVariables false
set_option linter.unusedSimpArgs false

theorem right_small {s : Stn} (h : s.right = true) : s.small := by
  have hg := right_globs h
  have h8 := right_eight h
  have hw := right_words h
  unfold Stn.right at h
  simp only [Bool.and_eq_true] at h
  obtain ⟨_, _, _, _, _, _, _, ho, hws, _, hos⟩ := h
  have hk := others_len ho
  unfold wordsQ at hws
  rw [Bool.and_eq_true] at hws
  have hw2 := of_decide_eq_true hws.1
  unfold outB at hos
  rw [Bool.and_eq_true] at hos
  have ho2 := of_decide_eq_true hos.2
  refine ⟨by omega, by omega, by omega, fun g hg => by have := hw g hg; omega, by omega, fun b hb => ?_⟩
  have := (List.all_eq_true.1 hos.1) b hb
  unfold bodyQ at this
  rw [Bool.and_eq_true] at this
  have := of_decide_eq_true this.2
  omega
def pubCode (s : Stn) (zs : List Int) : Int := if 400 < zs.length then 2 else if s.right && wordsQ zs then 0 else 1
def pubStn (s : Stn) (zs : List Int) : Stn := if pubCode s zs = 0 then { s with ws := zs } else newS 0 0
theorem pub_ok {s : Stn} {zs : List Int} (h1 : s.right = true) (h2 : wordsQ zs = true) (h3 : ¬ 400 < zs.length) : pubCode s zs = 0 ∧ pubStn s zs = { s with ws := zs } := by
  have e : pubCode s zs = 0 := by unfold pubCode; rw [if_neg h3, h1, h2]; rfl
  exact ⟨e, by unfold pubStn; rw [if_pos e]⟩
theorem pub_bad {s : Stn} {zs : List Int} (h1 : (s.right && wordsQ zs) = false) (h3 : ¬ 400 < zs.length) : pubCode s zs = 1 ∧ pubStn s zs = newS 0 0 := by
  have e : pubCode s zs = 1 := by unfold pubCode; rw [if_neg h3, h1]; rfl
  exact ⟨e, by unfold pubStn; rw [if_neg (by omega)]⟩
theorem pub_long {s : Stn} {zs : List Int} (h3 : 400 < zs.length) : pubCode s zs = 2 ∧ pubStn s zs = newS 0 0 := by
  have e : pubCode s zs = 2 := by unfold pubCode; rw [if_pos h3]
  exact ⟨e, by unfold pubStn; rw [if_neg (by omega)]⟩
theorem OwnStn.mono {w : World} {base b : Nat} {v1 v2 v3 v4 : Value} {s : Stn} (h : OwnStn w base v1 v2 v3 v4 s) (hb : b ≤ base) : OwnStn w b v1 v2 v3 v4 s := by
  obtain ⟨l1, h1, l2, h2, l3, h3, l4, h4, ⟨a1, a2, a3, a4⟩, r⟩ := h.all
  exact ⟨l1, h1, l2, h2, l3, h3, l4, h4, ⟨by omega, by omega, by omega, by omega⟩, r⟩
set_option maxRecDepth 100000 in
set_option maxHeartbeats 6400000 in
theorem publish_any (s : Stn) (zs : List Int) (B bx : Nat) (v1 v2 v3 v4 x : Value) (w : World) (b1 : s.kn.length ≤ 1048576) (b2 : s.ws.length ≤ 1048576) (b3 : s.gs.length ≤ 1048576) (b5 : ∀ g ∈ s.gs, g.2.length ≤ 1048576) (b4 : s.os.length ≤ 1048576) (b6 : ∀ b ∈ s.os, b.size ≤ 9223372036854775807) (bz : zs.length ≤ 1048576)
    (h : OwnStn w B v1 v2 v3 v4 s) (hx : OwnI w bx x zs) :
    Calls Try.prog 23 #[.agg #[.int .i64 s.ad, .int .i64 s.bo, .int .i64 s.st, .int .i64 s.s.g, .int .i64 s.s.o, .int .i64 s.s.b, .int .i64 s.s.h, .int .i64 s.t.g, .int .i64 s.t.o, .int .i64 s.t.b, .int .i64 s.t.h, .int .i64 s.qu, .int .i64 s.tr, .int .i64 s.he, .int .i64 s.po, v1, v2, v3, v4], x] w fun e w' => ∃ u1 u2 u3 u4, e = .returned (.agg #[.int .i64 (pubStn s zs).ad, .int .i64 (pubStn s zs).bo, .int .i64 (pubStn s zs).st, .int .i64 (pubStn s zs).s.g, .int .i64 (pubStn s zs).s.o, .int .i64 (pubStn s zs).s.b, .int .i64 (pubStn s zs).s.h, .int .i64 (pubStn s zs).t.g, .int .i64 (pubStn s zs).t.o, .int .i64 (pubStn s zs).t.b, .int .i64 (pubStn s zs).t.h, .int .i64 (pubStn s zs).qu, .int .i64 (pubStn s zs).tr, .int .i64 (pubStn s zs).he, .int .i64 (pubStn s zs).po, u1, u2, u3, u4, .slice none 0 0, .int .i64 (pubCode s zs)]) ∧ OwnStn w' w.heap.size u1 u2 u3 u4 (pubStn s zs) ∧ Below w.heap.size w w' := by
  have HC : Hid (∀ W, Below w.heap.size w W → Calls Try.prog 12 #[.agg #[.int .i64 s.ad, .int .i64 s.bo, .int .i64 s.st, .int .i64 s.s.g, .int .i64 s.s.o, .int .i64 s.s.b, .int .i64 s.s.h, .int .i64 s.t.g, .int .i64 s.t.o, .int .i64 s.t.b, .int .i64 s.t.h, .int .i64 s.qu, .int .i64 s.tr, .int .i64 s.he, .int .i64 s.po, v1, v2, v3, v4]] W fun e w' => e = .returned (.bool s.right) ∧ Below W.heap.size W w') := fun W hW => stationRight_any s v1 v2 v3 v4 W b1 b2 b3 b5 b4 b6 (h.rows.1.below hW) (h.rows.2.1.below hW) (h.rows.2.2.1.below hW) (h.rows.2.2.2.below hW)
  have HWR : Hid (∀ W, Below w.heap.size w W → Calls Try.prog 51 #[x] W fun e w' => e = .returned (.bool (wordsQ zs)) ∧ Below W.heap.size W w') := fun W hW => wordsRight_any x zs W (by omega) (hx.row.below hW)
  have HCP : Hid (s.right = true → ∀ W, Below w.heap.size w W → Calls Try.prog 64 #[.agg #[.int .i64 s.ad, .int .i64 s.bo, .int .i64 s.st, .int .i64 s.s.g, .int .i64 s.s.o, .int .i64 s.s.b, .int .i64 s.s.h, .int .i64 s.t.g, .int .i64 s.t.o, .int .i64 s.t.b, .int .i64 s.t.h, .int .i64 s.qu, .int .i64 s.tr, .int .i64 s.he, .int .i64 s.po, v1, v2, v3, v4]] W fun e w' => ∃ u1 u2 u3 u4, e = .returned (.agg #[.int .i64 s.ad, .int .i64 s.bo, .int .i64 s.st, .int .i64 s.s.g, .int .i64 s.s.o, .int .i64 s.s.b, .int .i64 s.s.h, .int .i64 s.t.g, .int .i64 s.t.o, .int .i64 s.t.b, .int .i64 s.t.h, .int .i64 s.qu, .int .i64 s.tr, .int .i64 s.he, .int .i64 s.po, u1, u2, u3, u4]) ∧ OwnStn w' W.heap.size u1 u2 u3 u4 s ∧ Below W.heap.size W w') := fun hr W hW => copyStation_any s B v1 v2 v3 v4 W (right_small hr) (h.below hW)
  have HX : Hid (∀ W, Below w.heap.size w W → OwnI W bx x zs) := fun W hW => hx.below hW
  obtain ⟨px, cx, rfl⟩ := hx.shape
  have HOK : Hid (s.right = true → wordsQ zs = true → ¬ 400 < zs.length → pubCode s zs = 0 ∧ pubStn s zs = { s with ws := zs }) := pub_ok
  have HB1 : Hid ((s.right && wordsQ zs) = false → ¬ 400 < zs.length → pubCode s zs = 1 ∧ pubStn s zs = newS 0 0) := pub_bad
  have HB2 : Hid (400 < zs.length → pubCode s zs = 2 ∧ pubStn s zs = newS 0 0) := pub_long
  clear h hx b1 b2 b3 b4 b5 b6
  generalize pubCode s zs = PC at HOK HB1 HB2 ⊢
  generalize pubStn s zs = PS at HOK HB1 HB2 ⊢
  have hX0 : Hid _ := blk (heap_alloc_new w (.cells #[.int .i64 s.ad, .int .i64 s.bo, .int .i64 s.st, .int .i64 s.s.g, .int .i64 s.s.o, .int .i64 s.s.b, .int .i64 s.s.h, .int .i64 s.t.g, .int .i64 s.t.o, .int .i64 s.t.b, .int .i64 s.t.h, .int .i64 s.qu, .int .i64 s.tr, .int .i64 s.he, .int .i64 s.po, v1, v2, v3, v4] 34)) (all_alloc _ (.cells #[.int .i64 0, .int .i64 0, .int .i64 0, .int .i64 0, .int .i64 0, .int .i64 0, .int .i64 0, .int .i64 0, .int .i64 0, .int .i64 0, .int .i64 0, .int .i64 0, .int .i64 0, .int .i64 0, .int .i64 0, .slice none 0 0, .slice none 0 0, .slice none 0 0, .slice none 0 0, .slice none 0 0, .int .i64 0] 40))
  have hY0 : Hid _ := heap_alloc_new (w.alloc (.cells #[.int .i64 s.ad, .int .i64 s.bo, .int .i64 s.st, .int .i64 s.s.g, .int .i64 s.s.o, .int .i64 s.s.b, .int .i64 s.s.h, .int .i64 s.t.g, .int .i64 s.t.o, .int .i64 s.t.b, .int .i64 s.t.h, .int .i64 s.qu, .int .i64 s.tr, .int .i64 s.he, .int .i64 s.po, v1, v2, v3, v4] 34)) (.cells #[.int .i64 0, .int .i64 0, .int .i64 0, .int .i64 0, .int .i64 0, .int .i64 0, .int .i64 0, .int .i64 0, .int .i64 0, .int .i64 0, .int .i64 0, .int .i64 0, .int .i64 0, .int .i64 0, .int .i64 0, .slice none 0 0, .slice none 0 0, .slice none 0 0, .slice none 0 0, .slice none 0 0, .int .i64 0] 40)
  have hA0 : Below w.heap.size w ((w.alloc (.cells #[.int .i64 s.ad, .int .i64 s.bo, .int .i64 s.st, .int .i64 s.s.g, .int .i64 s.s.o, .int .i64 s.s.b, .int .i64 s.s.h, .int .i64 s.t.g, .int .i64 s.t.o, .int .i64 s.t.b, .int .i64 s.t.h, .int .i64 s.qu, .int .i64 s.tr, .int .i64 s.he, .int .i64 s.po, v1, v2, v3, v4] 34)).alloc (.cells #[.int .i64 0, .int .i64 0, .int .i64 0, .int .i64 0, .int .i64 0, .int .i64 0, .int .i64 0, .int .i64 0, .int .i64 0, .int .i64 0, .int .i64 0, .int .i64 0, .int .i64 0, .int .i64 0, .int .i64 0, .slice none 0 0, .slice none 0 0, .slice none 0 0, .slice none 0 0, .slice none 0 0, .int .i64 0] 40)) := keepB (all_alloc w _) (Nat.le_refl _) (all_alloc _ _)
  have hzA : ((w.alloc (.cells #[.int .i64 s.ad, .int .i64 s.bo, .int .i64 s.st, .int .i64 s.s.g, .int .i64 s.s.o, .int .i64 s.s.b, .int .i64 s.s.h, .int .i64 s.t.g, .int .i64 s.t.o, .int .i64 s.t.b, .int .i64 s.t.h, .int .i64 s.qu, .int .i64 s.tr, .int .i64 s.he, .int .i64 s.po, v1, v2, v3, v4] 34)).alloc (.cells #[.int .i64 0, .int .i64 0, .int .i64 0, .int .i64 0, .int .i64 0, .int .i64 0, .int .i64 0, .int .i64 0, .int .i64 0, .int .i64 0, .int .i64 0, .int .i64 0, .int .i64 0, .int .i64 0, .int .i64 0, .slice none 0 0, .slice none 0 0, .slice none 0 0, .slice none 0 0, .slice none 0 0, .int .i64 0] 40)).heap.size = w.heap.size + 1 + 1 := by simp
  rw [show (w.alloc (.cells #[.int .i64 s.ad, .int .i64 s.bo, .int .i64 s.st, .int .i64 s.s.g, .int .i64 s.s.o, .int .i64 s.s.b, .int .i64 s.s.h, .int .i64 s.t.g, .int .i64 s.t.o, .int .i64 s.t.b, .int .i64 s.t.h, .int .i64 s.qu, .int .i64 s.tr, .int .i64 s.he, .int .i64 s.po, v1, v2, v3, v4] 34)).heap.size = w.heap.size + 1 by simp] at hY0
  by_cases h4 : 400 < zs.length
  · obtain ⟨rfl, rfl⟩ := HB2.out h4
    have h4' : (400 : Int) < (zs.length : Int) := by omega
    clear HC HWR HCP HX HOK HB1 HB2
    go_enter Try.func23, Try.ntmps23
    go_upto_region 1 with fail
    have hX := hX0
    have hY := hY0
    have hA := hA0
    generalize (w.alloc (.cells #[.int .i64 s.ad, .int .i64 s.bo, .int .i64 s.st, .int .i64 s.s.g, .int .i64 s.s.o, .int .i64 s.s.b, .int .i64 s.s.h, .int .i64 s.t.g, .int .i64 s.t.o, .int .i64 s.t.b, .int .i64 s.t.h, .int .i64 s.qu, .int .i64 s.tr, .int .i64 s.he, .int .i64 s.po, v1, v2, v3, v4] 34)).alloc (.cells #[.int .i64 0, .int .i64 0, .int .i64 0, .int .i64 0, .int .i64 0, .int .i64 0, .int .i64 0, .int .i64 0, .int .i64 0, .int .i64 0, .int .i64 0, .int .i64 0, .int .i64 0, .int .i64 0, .int .i64 0, .slice none 0 0, .slice none 0 0, .slice none 0 0, .slice none 0 0, .slice none 0 0, .int .i64 0] 40) = AA at hX hY hA hzA ⊢
    have hzA' : w.heap.size + 1 + 1 ≤ AA.heap.size := by omega
    clear hzA hX0 hY0 hA0
    go_wp2_with (first
      | (refine wpList_store_row rfl 40 (.tmp 4) (.tmp 8) rfl (w.heap.size + 1) #[.int .i64 0, .int .i64 0, .int .i64 0, .int .i64 0, .int .i64 0, .int .i64 0, .int .i64 0, .int .i64 0, .int .i64 0, .int .i64 0, .int .i64 0, .int .i64 0, .int .i64 0, .int .i64 0, .int .i64 0, .slice none 0 0, .slice none 0 0, .slice none 0 0, .slice none 0 0, .slice none 0 0, .int .i64 2] rfl rfl _ _ hY.out (by kernel_rfl) rfl (by simp [Value.oneCell']) ?_))
    go_wp2
    have hYf := setRow_heap _ (w.heap.size + 1) _ #[.int .i64 0, .int .i64 0, .int .i64 0, .int .i64 0, .int .i64 0, .int .i64 0, .int .i64 0, .int .i64 0, .int .i64 0, .int .i64 0, .int .i64 0, .int .i64 0, .int .i64 0, .int .i64 0, .int .i64 0, .slice none 0 0, .slice none 0 0, .slice none 0 0, .slice none 0 0, .slice none 0 0, .int .i64 2] _ _ hY.out
    have hAf : Below w.heap.size w _ := Below.setRow (hA) (g := w.heap.size + 1) (by omega) #[.int .i64 0, .int .i64 0, .int .i64 0, .int .i64 0, .int .i64 0, .int .i64 0, .int .i64 0, .int .i64 0, .int .i64 0, .int .i64 0, .int .i64 0, .int .i64 0, .int .i64 0, .int .i64 0, .int .i64 0, .slice none 0 0, .slice none 0 0, .slice none 0 0, .slice none 0 0, .slice none 0 0, .int .i64 2]
    exact bodyPost_ret (v := .agg #[.int .i64 0, .int .i64 0, .int .i64 0, .int .i64 0, .int .i64 0, .int .i64 0, .int .i64 0, .int .i64 0, .int .i64 0, .int .i64 0, .int .i64 0, .int .i64 0, .int .i64 0, .int .i64 0, .int .i64 0, .slice none 0 0, .slice none 0 0, .slice none 0 0, .slice none 0 0, .slice none 0 0, .int .i64 2]) (results_cell_row Try.results23 _ _ (w.heap.size + 1) _ _ _ _ rfl hYf Try.underlying40 rfl (by kernel_rfl)) rfl ⟨_, _, _, _, rfl, ((own_newS _ 0 0).stn.mono (by have := hAf.size; omega)), hAf⟩
  · have h4' : ¬ (400 : Int) < (zs.length : Int) := by omega
    by_cases hr : s.right = true
    rotate_left
    · have hr : s.right = false := by simpa using hr
      rw [hr] at HC
      obtain ⟨rfl, rfl⟩ := HB1.out (by simp [hr]) h4
      clear HX HOK HB1 HB2 HCP
      go_enter Try.func23, Try.ntmps23
      go_upto_region 1 with fail
      have hX := hX0
      have hY := hY0
      have hA := hA0
      generalize (w.alloc (.cells #[.int .i64 s.ad, .int .i64 s.bo, .int .i64 s.st, .int .i64 s.s.g, .int .i64 s.s.o, .int .i64 s.s.b, .int .i64 s.s.h, .int .i64 s.t.g, .int .i64 s.t.o, .int .i64 s.t.b, .int .i64 s.t.h, .int .i64 s.qu, .int .i64 s.tr, .int .i64 s.he, .int .i64 s.po, v1, v2, v3, v4] 34)).alloc (.cells #[.int .i64 0, .int .i64 0, .int .i64 0, .int .i64 0, .int .i64 0, .int .i64 0, .int .i64 0, .int .i64 0, .int .i64 0, .int .i64 0, .int .i64 0, .int .i64 0, .int .i64 0, .int .i64 0, .int .i64 0, .slice none 0 0, .slice none 0 0, .slice none 0 0, .slice none 0 0, .slice none 0 0, .int .i64 0] 40) = AA at hX hY hA hzA ⊢
      have hzA' : w.heap.size + 1 + 1 ≤ AA.heap.size := by omega
      clear hzA hX0 hY0 hA0
      go_wp2_with (first
        | (refine wpList_load_rowG (by rfl) 34 (.tmp 2) rfl w.heap.size rfl _ _ _ _ hX.out Try.underlying34 rfl (by kernel_rfl) ?_)
        | (go_at_call 12; refine (HC.out _ hA).mono ?_; rintro e w1 ⟨rfl, hb1⟩)
        | (refine wpList_store_row rfl 40 (.tmp 4) (.tmp 17) rfl (w.heap.size + 1) #[.int .i64 0, .int .i64 0, .int .i64 0, .int .i64 0, .int .i64 0, .int .i64 0, .int .i64 0, .int .i64 0, .int .i64 0, .int .i64 0, .int .i64 0, .int .i64 0, .int .i64 0, .int .i64 0, .int .i64 0, .slice none 0 0, .slice none 0 0, .slice none 0 0, .slice none 0 0, .slice none 0 0, .int .i64 1] rfl rfl _ _ (blk hY.out hb1) (by kernel_rfl) rfl (by simp [Value.oneCell']) ?_))
      go_wp2
      have hYf := setRow_heap _ (w.heap.size + 1) _ #[.int .i64 0, .int .i64 0, .int .i64 0, .int .i64 0, .int .i64 0, .int .i64 0, .int .i64 0, .int .i64 0, .int .i64 0, .int .i64 0, .int .i64 0, .int .i64 0, .int .i64 0, .int .i64 0, .int .i64 0, .slice none 0 0, .slice none 0 0, .slice none 0 0, .slice none 0 0, .slice none 0 0, .int .i64 1] _ _ (blk hY.out hb1)
      have hAf : Below w.heap.size w _ := Below.setRow (keepB hA (Nat.le_refl _) hb1) (g := w.heap.size + 1) (by omega) #[.int .i64 0, .int .i64 0, .int .i64 0, .int .i64 0, .int .i64 0, .int .i64 0, .int .i64 0, .int .i64 0, .int .i64 0, .int .i64 0, .int .i64 0, .int .i64 0, .int .i64 0, .int .i64 0, .int .i64 0, .slice none 0 0, .slice none 0 0, .slice none 0 0, .slice none 0 0, .slice none 0 0, .int .i64 1]
      exact bodyPost_ret (v := .agg #[.int .i64 0, .int .i64 0, .int .i64 0, .int .i64 0, .int .i64 0, .int .i64 0, .int .i64 0, .int .i64 0, .int .i64 0, .int .i64 0, .int .i64 0, .int .i64 0, .int .i64 0, .int .i64 0, .int .i64 0, .slice none 0 0, .slice none 0 0, .slice none 0 0, .slice none 0 0, .slice none 0 0, .int .i64 1]) (results_cell_row Try.results23 _ _ (w.heap.size + 1) _ _ _ _ rfl hYf Try.underlying40 rfl (by kernel_rfl)) rfl ⟨_, _, _, _, rfl, ((own_newS _ 0 0).stn.mono (by have := hAf.size; omega)), hAf⟩
    · cases hq : wordsQ zs with
      | false =>
        rw [hr] at HC
        rw [hq] at HWR
        obtain ⟨rfl, rfl⟩ := HB1.out (by simp [hr, hq]) h4
        clear HX HOK HB1 HB2 HCP
        go_enter Try.func23, Try.ntmps23
        go_upto_region 1 with fail
        have hX := hX0
        have hY := hY0
        have hA := hA0
        generalize (w.alloc (.cells #[.int .i64 s.ad, .int .i64 s.bo, .int .i64 s.st, .int .i64 s.s.g, .int .i64 s.s.o, .int .i64 s.s.b, .int .i64 s.s.h, .int .i64 s.t.g, .int .i64 s.t.o, .int .i64 s.t.b, .int .i64 s.t.h, .int .i64 s.qu, .int .i64 s.tr, .int .i64 s.he, .int .i64 s.po, v1, v2, v3, v4] 34)).alloc (.cells #[.int .i64 0, .int .i64 0, .int .i64 0, .int .i64 0, .int .i64 0, .int .i64 0, .int .i64 0, .int .i64 0, .int .i64 0, .int .i64 0, .int .i64 0, .int .i64 0, .int .i64 0, .int .i64 0, .int .i64 0, .slice none 0 0, .slice none 0 0, .slice none 0 0, .slice none 0 0, .slice none 0 0, .int .i64 0] 40) = AA at hX hY hA hzA ⊢
        have hzA' : w.heap.size + 1 + 1 ≤ AA.heap.size := by omega
        clear hzA hX0 hY0 hA0
        go_wp2_with (first
          | (refine wpList_load_rowG (by rfl) 34 (.tmp 2) rfl w.heap.size rfl _ _ _ _ hX.out Try.underlying34 rfl (by kernel_rfl) ?_)
          | (go_at_call 12; refine (HC.out _ hA).mono ?_; rintro e w1 ⟨rfl, hb1⟩)
          | (go_at_call 51; refine (HWR.out _ (keepB hA (Nat.le_refl _) hb1)).mono ?_; rintro e w2 ⟨rfl, hb2⟩)
          | (refine wpList_store_row rfl 40 (.tmp 4) (.tmp 17) rfl (w.heap.size + 1) #[.int .i64 0, .int .i64 0, .int .i64 0, .int .i64 0, .int .i64 0, .int .i64 0, .int .i64 0, .int .i64 0, .int .i64 0, .int .i64 0, .int .i64 0, .int .i64 0, .int .i64 0, .int .i64 0, .int .i64 0, .slice none 0 0, .slice none 0 0, .slice none 0 0, .slice none 0 0, .slice none 0 0, .int .i64 1] rfl rfl _ _ (blk (blk hY.out hb1) hb2) (by kernel_rfl) rfl (by simp [Value.oneCell']) ?_))
        go_wp2
        have hYf := setRow_heap _ (w.heap.size + 1) _ #[.int .i64 0, .int .i64 0, .int .i64 0, .int .i64 0, .int .i64 0, .int .i64 0, .int .i64 0, .int .i64 0, .int .i64 0, .int .i64 0, .int .i64 0, .int .i64 0, .int .i64 0, .int .i64 0, .int .i64 0, .slice none 0 0, .slice none 0 0, .slice none 0 0, .slice none 0 0, .slice none 0 0, .int .i64 1] _ _ (blk (blk hY.out hb1) hb2)
        have hAf : Below w.heap.size w _ := Below.setRow (keepB (keepB hA (Nat.le_refl _) hb1) (Nat.le_refl _) hb2) (g := w.heap.size + 1) (by omega) #[.int .i64 0, .int .i64 0, .int .i64 0, .int .i64 0, .int .i64 0, .int .i64 0, .int .i64 0, .int .i64 0, .int .i64 0, .int .i64 0, .int .i64 0, .int .i64 0, .int .i64 0, .int .i64 0, .int .i64 0, .slice none 0 0, .slice none 0 0, .slice none 0 0, .slice none 0 0, .slice none 0 0, .int .i64 1]
        exact bodyPost_ret (v := .agg #[.int .i64 0, .int .i64 0, .int .i64 0, .int .i64 0, .int .i64 0, .int .i64 0, .int .i64 0, .int .i64 0, .int .i64 0, .int .i64 0, .int .i64 0, .int .i64 0, .int .i64 0, .int .i64 0, .int .i64 0, .slice none 0 0, .slice none 0 0, .slice none 0 0, .slice none 0 0, .slice none 0 0, .int .i64 1]) (results_cell_row Try.results23 _ _ (w.heap.size + 1) _ _ _ _ rfl hYf Try.underlying40 rfl (by kernel_rfl)) rfl ⟨_, _, _, _, rfl, ((own_newS _ 0 0).stn.mono (by have := hAf.size; omega)), hAf⟩
      | true =>
        obtain ⟨rfl, rfl⟩ := HOK.out hr hq h4
        have HCQ : Hid (∀ W, Below w.heap.size w W → Calls Try.prog 64 #[.agg #[.int .i64 s.ad, .int .i64 s.bo, .int .i64 s.st, .int .i64 s.s.g, .int .i64 s.s.o, .int .i64 s.s.b, .int .i64 s.s.h, .int .i64 s.t.g, .int .i64 s.t.o, .int .i64 s.t.b, .int .i64 s.t.h, .int .i64 s.qu, .int .i64 s.tr, .int .i64 s.he, .int .i64 s.po, v1, v2, v3, v4]] W fun e w' => ∃ u1 u2 u3 u4, e = .returned (.agg #[.int .i64 s.ad, .int .i64 s.bo, .int .i64 s.st, .int .i64 s.s.g, .int .i64 s.s.o, .int .i64 s.s.b, .int .i64 s.s.h, .int .i64 s.t.g, .int .i64 s.t.o, .int .i64 s.t.b, .int .i64 s.t.h, .int .i64 s.qu, .int .i64 s.tr, .int .i64 s.he, .int .i64 s.po, u1, u2, u3, u4]) ∧ OwnStn w' W.heap.size u1 u2 u3 u4 s ∧ Below W.heap.size W w') := HCP.out hr
        have hqz : zs.length ≤ 4 := by unfold wordsQ at hq; rw [Bool.and_eq_true] at hq; exact of_decide_eq_true hq.1
        rw [hr] at HC
        rw [hq] at HWR
        clear HOK HB1 HB2 HCP hr hq
        go_enter Try.func23, Try.ntmps23
        go_upto_region 1 with fail
        have hX := hX0
        have hY := hY0
        have hA := hA0
        generalize (w.alloc (.cells #[.int .i64 s.ad, .int .i64 s.bo, .int .i64 s.st, .int .i64 s.s.g, .int .i64 s.s.o, .int .i64 s.s.b, .int .i64 s.s.h, .int .i64 s.t.g, .int .i64 s.t.o, .int .i64 s.t.b, .int .i64 s.t.h, .int .i64 s.qu, .int .i64 s.tr, .int .i64 s.he, .int .i64 s.po, v1, v2, v3, v4] 34)).alloc (.cells #[.int .i64 0, .int .i64 0, .int .i64 0, .int .i64 0, .int .i64 0, .int .i64 0, .int .i64 0, .int .i64 0, .int .i64 0, .int .i64 0, .int .i64 0, .int .i64 0, .int .i64 0, .int .i64 0, .int .i64 0, .slice none 0 0, .slice none 0 0, .slice none 0 0, .slice none 0 0, .slice none 0 0, .int .i64 0] 40) = AA at hX hY hA hzA ⊢
        have hzA' : w.heap.size + 1 + 1 ≤ AA.heap.size := by omega
        clear hzA hX0 hY0 hA0
        go_upto_region 5 with (first
          | (refine wpList_load_rowG (by rfl) 34 (.tmp 2) rfl w.heap.size rfl _ _ _ _ hX.out Try.underlying34 rfl (by kernel_rfl) ?_)
          | (go_at_call 12; refine (HC.out _ hA).mono ?_; rintro e w1 ⟨rfl, hb1⟩)
          | (go_at_call 51; refine (HWR.out _ (keepB hA (Nat.le_refl _) hb1)).mono ?_; rintro e w2 ⟨rfl, hb2⟩))
        have s2 := keepB hb1 (Nat.le_refl _) hb2
        have hX2 : Hid _ := blk hX.out s2
        have hY2 : Hid _ := blk hY.out s2
        have hA2 := keepB hA (Nat.le_refl _) s2
        have z2 := s2.size
        go_upto_region 6 with (first
          | (refine wpList_load_rowG (by rfl) 34 (.tmp 2) rfl w.heap.size rfl _ _ _ _ hX2.out Try.underlying34 rfl (by kernel_rfl) ?_)
          | (go_at_call 64; refine (HCQ.out _ hA2).mono ?_; rintro e w3 ⟨u1, u2, u3, u4, rfl, own3, hb3⟩; obtain ⟨ra, rb, rc, rdd⟩ := own3.rows; obtain ⟨q1, d1, rfl, _⟩ := ra; obtain ⟨q2, d2, rfl, _⟩ := rb; obtain ⟨q3, d3, rfl, _⟩ := rc; obtain ⟨q4, d4, rfl, _⟩ := rdd)
          | (refine wpList_store_row rfl 34 (.tmp 2) (.tmp 19) rfl w.heap.size #[.int .i64 s.ad, .int .i64 s.bo, .int .i64 s.st, .int .i64 s.s.g, .int .i64 s.s.o, .int .i64 s.s.b, .int .i64 s.s.h, .int .i64 s.t.g, .int .i64 s.t.o, .int .i64 s.t.b, .int .i64 s.t.h, .int .i64 s.qu, .int .i64 s.tr, .int .i64 s.he, .int .i64 s.po, .slice q1 s.kn.length d1, .slice q2 s.ws.length d2, .slice q3 s.gs.length d3, .slice q4 s.os.length d4] rfl rfl _ _ (blk hX2.out hb3) (by kernel_rfl) rfl (by simp [Value.oneCell']) ?_))
        have hX3 : Hid _ := setRow_heap _ w.heap.size _ #[.int .i64 s.ad, .int .i64 s.bo, .int .i64 s.st, .int .i64 s.s.g, .int .i64 s.s.o, .int .i64 s.s.b, .int .i64 s.s.h, .int .i64 s.t.g, .int .i64 s.t.o, .int .i64 s.t.b, .int .i64 s.t.h, .int .i64 s.qu, .int .i64 s.tr, .int .i64 s.he, .int .i64 s.po, .slice q1 s.kn.length d1, .slice q2 s.ws.length d2, .slice q3 s.gs.length d3, .slice q4 s.os.length d4] _ _ (blk hX2.out hb3)
        have hY3 : Hid _ := (setRow_other w3 w.heap.size (w.heap.size + 1) #[.int .i64 s.ad, .int .i64 s.bo, .int .i64 s.st, .int .i64 s.s.g, .int .i64 s.s.o, .int .i64 s.s.b, .int .i64 s.s.h, .int .i64 s.t.g, .int .i64 s.t.o, .int .i64 s.t.b, .int .i64 s.t.h, .int .i64 s.qu, .int .i64 s.tr, .int .i64 s.he, .int .i64 s.po, .slice q1 s.kn.length d1, .slice q2 s.ws.length d2, .slice q3 s.gs.length d3, .slice q4 s.os.length d4] (by omega)).trans (blk hY2.out hb3)
        have hA3 : Below w.heap.size w (w3.setRow w.heap.size #[.int .i64 s.ad, .int .i64 s.bo, .int .i64 s.st, .int .i64 s.s.g, .int .i64 s.s.o, .int .i64 s.s.b, .int .i64 s.s.h, .int .i64 s.t.g, .int .i64 s.t.o, .int .i64 s.t.b, .int .i64 s.t.h, .int .i64 s.qu, .int .i64 s.tr, .int .i64 s.he, .int .i64 s.po, .slice q1 s.kn.length d1, .slice q2 s.ws.length d2, .slice q3 s.gs.length d3, .slice q4 s.os.length d4]) := Below.setRow (keepB hA2 (Nat.le_refl _) hb3) (Nat.le_refl _) _
        have z3 := hb3.size
        have o3 : Hid (OwnStnB (w3.setRow w.heap.size #[.int .i64 s.ad, .int .i64 s.bo, .int .i64 s.st, .int .i64 s.s.g, .int .i64 s.s.o, .int .i64 s.s.b, .int .i64 s.s.h, .int .i64 s.t.g, .int .i64 s.t.o, .int .i64 s.t.b, .int .i64 s.t.h, .int .i64 s.qu, .int .i64 s.tr, .int .i64 s.he, .int .i64 s.po, .slice q1 s.kn.length d1, .slice q2 s.ws.length d2, .slice q3 s.gs.length d3, .slice q4 s.os.length d4]) w2.heap.size w3.heap.size _ _ _ _ s) := own3.top.same (Same.setRow (.inl (by omega)) _) (by simp)
        have zr : (w3.setRow w.heap.size #[.int .i64 s.ad, .int .i64 s.bo, .int .i64 s.st, .int .i64 s.s.g, .int .i64 s.s.o, .int .i64 s.s.b, .int .i64 s.s.h, .int .i64 s.t.g, .int .i64 s.t.o, .int .i64 s.t.b, .int .i64 s.t.h, .int .i64 s.qu, .int .i64 s.tr, .int .i64 s.he, .int .i64 s.po, .slice q1 s.kn.length d1, .slice q2 s.ws.length d2, .slice q3 s.gs.length d3, .slice q4 s.os.length d4]).heap.size = w3.heap.size := by simp
        clear own3
        generalize w3.setRow w.heap.size #[.int .i64 s.ad, .int .i64 s.bo, .int .i64 s.st, .int .i64 s.s.g, .int .i64 s.s.o, .int .i64 s.s.b, .int .i64 s.s.h, .int .i64 s.t.g, .int .i64 s.t.o, .int .i64 s.t.b, .int .i64 s.t.h, .int .i64 s.qu, .int .i64 s.tr, .int .i64 s.he, .int .i64 s.po, .slice q1 s.kn.length d1, .slice q2 s.ws.length d2, .slice q3 s.gs.length d3, .slice q4 s.os.length d4] = w4 at hX3 hY3 hA3 o3 zr ⊢
        have zr' : w3.heap.size ≤ w4.heap.size := by omega
        clear zr
        go_upto_region 7 with (go_at_call 65; refine (copyNums_any bx _ zs _ (by omega) (HX.out _ hA3)).mono ?_; rintro e w5 ⟨ux, rfl, ownw, hb5⟩; obtain ⟨qw, dw, rfl⟩ := ownw.shape; have hX5 : Hid _ := blk hX3.out hb5; have y16 := cellW hX5.out 16 _ rfl w5 (Below.refl _ _); have f16 := frozenW hX5.out 16 w5 (Below.refl _ _))
        have z5 := hb5.size
        have hX6 : Hid (_ = some (Obj.cells #[.int .i64 s.ad, .int .i64 s.bo, .int .i64 s.st, .int .i64 s.s.g, .int .i64 s.s.o, .int .i64 s.s.b, .int .i64 s.s.h, .int .i64 s.t.g, .int .i64 s.t.o, .int .i64 s.t.b, .int .i64 s.t.h, .int .i64 s.qu, .int .i64 s.tr, .int .i64 s.he, .int .i64 s.po, .slice q1 s.kn.length d1, .slice qw zs.length dw, .slice q3 s.gs.length d3, .slice q4 s.os.length d4] 34 (0, 0))) := blk_set hX5.out 16 (.slice qw zs.length dw)
        have hY6 : Hid _ := blk_far (a := ⟨w.heap.size, 16, none⟩) (blk hY3.out hb5) (by simp only; omega) (.slice qw zs.length dw)
        have hA6 : Below w.heap.size w (w5.setCell ⟨w.heap.size, 16, none⟩ (.slice qw zs.length dw)) := (keepB hA3 (Nat.le_refl _) hb5).setCell (by simp only; omega) _
        have hz6 : (w5.setCell ⟨w.heap.size, 16, none⟩ (.slice qw zs.length dw)).heap.size = w5.heap.size := by simp [World.setCell]
        obtain ⟨l1, h1, l2, h2, l3, h3, l4, h4b, ⟨a1, a2, a3, a4⟩, ⟨t1, t2, t3, t4⟩, o1, o2, oo3, o4, e12, e13, e14, e23, e24, e34⟩ := o3.out.all
        have m1 : Hid (OwnIB (w5.setCell ⟨w.heap.size, 16, none⟩ (.slice qw zs.length dw)) l1 h1 _ s.kn) := (o1.same (Same.below hb5 (by omega))).same (Same.far (a := ⟨w.heap.size, 16, none⟩) (by simp only; omega) _)
        have m3 : Hid (OwnGB (w5.setCell ⟨w.heap.size, 16, none⟩ (.slice qw zs.length dw)) l3 h3 _ s.gs) := (oo3.same (Same.below hb5 (by omega))).same (Same.far (a := ⟨w.heap.size, 16, none⟩) (by simp only; omega) _)
        have m4 : Hid (OwnTB (w5.setCell ⟨w.heap.size, 16, none⟩ (.slice qw zs.length dw)) l4 h4b _ s.os) := (o4.same (Same.below hb5 (by omega))).same (Same.far (a := ⟨w.heap.size, 16, none⟩) (by simp only; omega) _)
        have m2 : Hid (OwnIB (w5.setCell ⟨w.heap.size, 16, none⟩ (.slice qw zs.length dw)) w4.heap.size w5.heap.size _ zs) := ownw.ib.same (Same.far (a := ⟨w.heap.size, 16, none⟩) (by simp only; omega) _)
        clear o1 o2 oo3 o4 ownw
        generalize (w5.setCell ⟨w.heap.size, 16, none⟩ (.slice qw zs.length dw)) = w6 at hX6 hY6 hA6 hz6 m1 m2 m3 m4 ⊢
        go_wp2_with (first
          | (refine wpList_load_rowG (by rfl) 34 (.tmp 2) rfl w.heap.size rfl _ _ _ _ hX6.out Try.underlying34 rfl (by kernel_rfl) ?_)
          | (refine wpList_store_row rfl 40 (.tmp 4) (.tmp 24) rfl (w.heap.size + 1) #[.int .i64 s.ad, .int .i64 s.bo, .int .i64 s.st, .int .i64 s.s.g, .int .i64 s.s.o, .int .i64 s.s.b, .int .i64 s.s.h, .int .i64 s.t.g, .int .i64 s.t.o, .int .i64 s.t.b, .int .i64 s.t.h, .int .i64 s.qu, .int .i64 s.tr, .int .i64 s.he, .int .i64 s.po, .slice q1 s.kn.length d1, .slice qw zs.length dw, .slice q3 s.gs.length d3, .slice q4 s.os.length d4, .slice none 0 0, .int .i64 0] rfl rfl _ _ hY6.out (by kernel_rfl) rfl (by simp [Value.oneCell']) ?_))
        go_wp2
        have hYf := setRow_heap _ (w.heap.size + 1) _ #[.int .i64 s.ad, .int .i64 s.bo, .int .i64 s.st, .int .i64 s.s.g, .int .i64 s.s.o, .int .i64 s.s.b, .int .i64 s.s.h, .int .i64 s.t.g, .int .i64 s.t.o, .int .i64 s.t.b, .int .i64 s.t.h, .int .i64 s.qu, .int .i64 s.tr, .int .i64 s.he, .int .i64 s.po, .slice q1 s.kn.length d1, .slice qw zs.length dw, .slice q3 s.gs.length d3, .slice q4 s.os.length d4, .slice none 0 0, .int .i64 0] _ _ hY6.out
        have hAf : Below w.heap.size w _ := Below.setRow (hA6) (g := w.heap.size + 1) (by omega) #[.int .i64 s.ad, .int .i64 s.bo, .int .i64 s.st, .int .i64 s.s.g, .int .i64 s.s.o, .int .i64 s.s.b, .int .i64 s.s.h, .int .i64 s.t.g, .int .i64 s.t.o, .int .i64 s.t.b, .int .i64 s.t.h, .int .i64 s.qu, .int .i64 s.tr, .int .i64 s.he, .int .i64 s.po, .slice q1 s.kn.length d1, .slice qw zs.length dw, .slice q3 s.gs.length d3, .slice q4 s.os.length d4, .slice none 0 0, .int .i64 0]
        exact bodyPost_ret (v := .agg #[.int .i64 s.ad, .int .i64 s.bo, .int .i64 s.st, .int .i64 s.s.g, .int .i64 s.s.o, .int .i64 s.s.b, .int .i64 s.s.h, .int .i64 s.t.g, .int .i64 s.t.o, .int .i64 s.t.b, .int .i64 s.t.h, .int .i64 s.qu, .int .i64 s.tr, .int .i64 s.he, .int .i64 s.po, .slice q1 s.kn.length d1, .slice qw zs.length dw, .slice q3 s.gs.length d3, .slice q4 s.os.length d4, .slice none 0 0, .int .i64 0]) (results_cell_row Try.results23 _ _ (w.heap.size + 1) _ _ _ _ rfl hYf Try.underlying40 rfl (by kernel_rfl)) rfl ⟨_, _, _, _, rfl, ⟨⟨l1, h1, w4.heap.size, w5.heap.size, l3, h3, l4, h4b, ⟨by omega, by omega, by omega, by omega⟩, by rw [setRow_size]; exact ⟨by omega, by omega, by omega, by omega⟩, m1.out.same (Same.setRow (by omega) _), m2.out.same (Same.setRow (by omega) _), m3.out.same (Same.setRow (by omega) _), m4.out.same (Same.setRow (by omega) _), by omega, by omega, by omega, by omega, by omega, by omega⟩⟩, hAf⟩
end Go.Proofs.Ytancfnpmbddfoaa
namespace Go.Proofs.Ytancfnpmbddfoaa
open Go.RowKit
set_option linter.unusedVariables false
set_option linter.unusedSimpArgs false

set_option maxRecDepth 100000 in
set_option maxHeartbeats 6400000 in
theorem specPublish_any (s : Stn) (zs : List Int) (B bx : Nat) (v1 v2 v3 v4 x : Value) (w : World) (b1 : s.kn.length ≤ 1048576) (b2 : s.ws.length ≤ 1048576) (b3 : s.gs.length ≤ 1048576) (b5 : ∀ g ∈ s.gs, g.2.length ≤ 1048576) (b4 : s.os.length ≤ 1048576) (b6 : ∀ b ∈ s.os, b.size ≤ 9223372036854775807) (bz : zs.length ≤ 1048576)
    (h : OwnStn w B v1 v2 v3 v4 s) (hx : OwnI w bx x zs) :
    Calls Try.prog 21 #[.agg #[.int .i64 s.ad, .int .i64 s.bo, .int .i64 s.st, .int .i64 s.s.g, .int .i64 s.s.o, .int .i64 s.s.b, .int .i64 s.s.h, .int .i64 s.t.g, .int .i64 s.t.o, .int .i64 s.t.b, .int .i64 s.t.h, .int .i64 s.qu, .int .i64 s.tr, .int .i64 s.he, .int .i64 s.po, v1, v2, v3, v4], x] w fun e w' => ∃ u1 u2 u3 u4, e = .returned (.agg #[.int .i64 (pubStn s zs).ad, .int .i64 (pubStn s zs).bo, .int .i64 (pubStn s zs).st, .int .i64 (pubStn s zs).s.g, .int .i64 (pubStn s zs).s.o, .int .i64 (pubStn s zs).s.b, .int .i64 (pubStn s zs).s.h, .int .i64 (pubStn s zs).t.g, .int .i64 (pubStn s zs).t.o, .int .i64 (pubStn s zs).t.b, .int .i64 (pubStn s zs).t.h, .int .i64 (pubStn s zs).qu, .int .i64 (pubStn s zs).tr, .int .i64 (pubStn s zs).he, .int .i64 (pubStn s zs).po, u1, u2, u3, u4, .slice none 0 0, .int .i64 (pubCode s zs)]) ∧ OwnStn w' w.heap.size u1 u2 u3 u4 (pubStn s zs) ∧ Below w.heap.size w w' := by
  have HC : Hid (∀ W, Below w.heap.size w W → Calls Try.prog 10 #[.agg #[.int .i64 s.ad, .int .i64 s.bo, .int .i64 s.st, .int .i64 s.s.g, .int .i64 s.s.o, .int .i64 s.s.b, .int .i64 s.s.h, .int .i64 s.t.g, .int .i64 s.t.o, .int .i64 s.t.b, .int .i64 s.t.h, .int .i64 s.qu, .int .i64 s.tr, .int .i64 s.he, .int .i64 s.po, v1, v2, v3, v4]] W fun e w' => e = .returned (.bool s.right) ∧ Below W.heap.size W w') := fun W hW => specStationRight_any s v1 v2 v3 v4 W b1 b2 b3 b5 b4 b6 (h.rows.1.below hW) (h.rows.2.1.below hW) (h.rows.2.2.1.below hW) (h.rows.2.2.2.below hW)
  have HWR : Hid (∀ W, Below w.heap.size w W → Calls Try.prog 42 #[x] W fun e w' => e = .returned (.bool (wordsQ zs)) ∧ Below W.heap.size W w') := fun W hW => l03Words_any x zs W (by omega) (hx.row.below hW)
  have HCP : Hid (s.right = true → ∀ W, Below w.heap.size w W → Calls Try.prog 63 #[.agg #[.int .i64 s.ad, .int .i64 s.bo, .int .i64 s.st, .int .i64 s.s.g, .int .i64 s.s.o, .int .i64 s.s.b, .int .i64 s.s.h, .int .i64 s.t.g, .int .i64 s.t.o, .int .i64 s.t.b, .int .i64 s.t.h, .int .i64 s.qu, .int .i64 s.tr, .int .i64 s.he, .int .i64 s.po, v1, v2, v3, v4]] W fun e w' => ∃ u1 u2 u3 u4, e = .returned (.agg #[.int .i64 s.ad, .int .i64 s.bo, .int .i64 s.st, .int .i64 s.s.g, .int .i64 s.s.o, .int .i64 s.s.b, .int .i64 s.s.h, .int .i64 s.t.g, .int .i64 s.t.o, .int .i64 s.t.b, .int .i64 s.t.h, .int .i64 s.qu, .int .i64 s.tr, .int .i64 s.he, .int .i64 s.po, u1, u2, u3, u4]) ∧ OwnStn w' W.heap.size u1 u2 u3 u4 s ∧ Below W.heap.size W w') := fun hr W hW => l06Copy_any s B v1 v2 v3 v4 W (right_small hr) (h.below hW)
  have HX : Hid (∀ W, Below w.heap.size w W → OwnI W bx x zs) := fun W hW => hx.below hW
  obtain ⟨px, cx, rfl⟩ := hx.shape
  have HOK : Hid (s.right = true → wordsQ zs = true → ¬ 400 < zs.length → pubCode s zs = 0 ∧ pubStn s zs = { s with ws := zs }) := pub_ok
  have HB1 : Hid ((s.right && wordsQ zs) = false → ¬ 400 < zs.length → pubCode s zs = 1 ∧ pubStn s zs = newS 0 0) := pub_bad
  have HB2 : Hid (400 < zs.length → pubCode s zs = 2 ∧ pubStn s zs = newS 0 0) := pub_long
  clear h hx b1 b2 b3 b4 b5 b6
  generalize pubCode s zs = PC at HOK HB1 HB2 ⊢
  generalize pubStn s zs = PS at HOK HB1 HB2 ⊢
  have hX0 : Hid _ := blk (heap_alloc_new w (.cells #[.int .i64 s.ad, .int .i64 s.bo, .int .i64 s.st, .int .i64 s.s.g, .int .i64 s.s.o, .int .i64 s.s.b, .int .i64 s.s.h, .int .i64 s.t.g, .int .i64 s.t.o, .int .i64 s.t.b, .int .i64 s.t.h, .int .i64 s.qu, .int .i64 s.tr, .int .i64 s.he, .int .i64 s.po, v1, v2, v3, v4] 34)) (all_alloc _ (.cells #[.int .i64 0, .int .i64 0, .int .i64 0, .int .i64 0, .int .i64 0, .int .i64 0, .int .i64 0, .int .i64 0, .int .i64 0, .int .i64 0, .int .i64 0, .int .i64 0, .int .i64 0, .int .i64 0, .int .i64 0, .slice none 0 0, .slice none 0 0, .slice none 0 0, .slice none 0 0, .slice none 0 0, .int .i64 0] 40))
  have hY0 : Hid _ := heap_alloc_new (w.alloc (.cells #[.int .i64 s.ad, .int .i64 s.bo, .int .i64 s.st, .int .i64 s.s.g, .int .i64 s.s.o, .int .i64 s.s.b, .int .i64 s.s.h, .int .i64 s.t.g, .int .i64 s.t.o, .int .i64 s.t.b, .int .i64 s.t.h, .int .i64 s.qu, .int .i64 s.tr, .int .i64 s.he, .int .i64 s.po, v1, v2, v3, v4] 34)) (.cells #[.int .i64 0, .int .i64 0, .int .i64 0, .int .i64 0, .int .i64 0, .int .i64 0, .int .i64 0, .int .i64 0, .int .i64 0, .int .i64 0, .int .i64 0, .int .i64 0, .int .i64 0, .int .i64 0, .int .i64 0, .slice none 0 0, .slice none 0 0, .slice none 0 0, .slice none 0 0, .slice none 0 0, .int .i64 0] 40)
  have hA0 : Below w.heap.size w ((w.alloc (.cells #[.int .i64 s.ad, .int .i64 s.bo, .int .i64 s.st, .int .i64 s.s.g, .int .i64 s.s.o, .int .i64 s.s.b, .int .i64 s.s.h, .int .i64 s.t.g, .int .i64 s.t.o, .int .i64 s.t.b, .int .i64 s.t.h, .int .i64 s.qu, .int .i64 s.tr, .int .i64 s.he, .int .i64 s.po, v1, v2, v3, v4] 34)).alloc (.cells #[.int .i64 0, .int .i64 0, .int .i64 0, .int .i64 0, .int .i64 0, .int .i64 0, .int .i64 0, .int .i64 0, .int .i64 0, .int .i64 0, .int .i64 0, .int .i64 0, .int .i64 0, .int .i64 0, .int .i64 0, .slice none 0 0, .slice none 0 0, .slice none 0 0, .slice none 0 0, .slice none 0 0, .int .i64 0] 40)) := keepB (all_alloc w _) (Nat.le_refl _) (all_alloc _ _)
  have hzA : ((w.alloc (.cells #[.int .i64 s.ad, .int .i64 s.bo, .int .i64 s.st, .int .i64 s.s.g, .int .i64 s.s.o, .int .i64 s.s.b, .int .i64 s.s.h, .int .i64 s.t.g, .int .i64 s.t.o, .int .i64 s.t.b, .int .i64 s.t.h, .int .i64 s.qu, .int .i64 s.tr, .int .i64 s.he, .int .i64 s.po, v1, v2, v3, v4] 34)).alloc (.cells #[.int .i64 0, .int .i64 0, .int .i64 0, .int .i64 0, .int .i64 0, .int .i64 0, .int .i64 0, .int .i64 0, .int .i64 0, .int .i64 0, .int .i64 0, .int .i64 0, .int .i64 0, .int .i64 0, .int .i64 0, .slice none 0 0, .slice none 0 0, .slice none 0 0, .slice none 0 0, .slice none 0 0, .int .i64 0] 40)).heap.size = w.heap.size + 1 + 1 := by simp
  rw [show (w.alloc (.cells #[.int .i64 s.ad, .int .i64 s.bo, .int .i64 s.st, .int .i64 s.s.g, .int .i64 s.s.o, .int .i64 s.s.b, .int .i64 s.s.h, .int .i64 s.t.g, .int .i64 s.t.o, .int .i64 s.t.b, .int .i64 s.t.h, .int .i64 s.qu, .int .i64 s.tr, .int .i64 s.he, .int .i64 s.po, v1, v2, v3, v4] 34)).heap.size = w.heap.size + 1 by simp] at hY0
  by_cases h4 : 400 < zs.length
  · obtain ⟨rfl, rfl⟩ := HB2.out h4
    have h4' : (400 : Int) < (zs.length : Int) := by omega
    clear HC HWR HCP HX HOK HB1 HB2
    go_enter Try.func21, Try.ntmps21
    go_upto_region 1 with fail
    have hX := hX0
    have hY := hY0
    have hA := hA0
    generalize (w.alloc (.cells #[.int .i64 s.ad, .int .i64 s.bo, .int .i64 s.st, .int .i64 s.s.g, .int .i64 s.s.o, .int .i64 s.s.b, .int .i64 s.s.h, .int .i64 s.t.g, .int .i64 s.t.o, .int .i64 s.t.b, .int .i64 s.t.h, .int .i64 s.qu, .int .i64 s.tr, .int .i64 s.he, .int .i64 s.po, v1, v2, v3, v4] 34)).alloc (.cells #[.int .i64 0, .int .i64 0, .int .i64 0, .int .i64 0, .int .i64 0, .int .i64 0, .int .i64 0, .int .i64 0, .int .i64 0, .int .i64 0, .int .i64 0, .int .i64 0, .int .i64 0, .int .i64 0, .int .i64 0, .slice none 0 0, .slice none 0 0, .slice none 0 0, .slice none 0 0, .slice none 0 0, .int .i64 0] 40) = AA at hX hY hA hzA ⊢
    have hzA' : w.heap.size + 1 + 1 ≤ AA.heap.size := by omega
    clear hzA hX0 hY0 hA0
    go_wp2_with (first
      | (go_at_call 57; refine (l06Ill_any 2 _).mono ?_; rintro e wi ⟨rfl, hbi⟩)
      | (refine wpList_store_row rfl 40 (.tmp 4) (.tmp 9) rfl (w.heap.size + 1) #[.int .i64 0, .int .i64 0, .int .i64 0, .int .i64 0, .int .i64 0, .int .i64 0, .int .i64 0, .int .i64 0, .int .i64 0, .int .i64 0, .int .i64 0, .int .i64 0, .int .i64 0, .int .i64 0, .int .i64 0, .slice none 0 0, .slice none 0 0, .slice none 0 0, .slice none 0 0, .slice none 0 0, .int .i64 2] rfl rfl _ _ (blk hY.out hbi) (by kernel_rfl) rfl (by simp [Value.oneCell']) ?_))
    go_wp2
    have hYf := setRow_heap _ (w.heap.size + 1) _ #[.int .i64 0, .int .i64 0, .int .i64 0, .int .i64 0, .int .i64 0, .int .i64 0, .int .i64 0, .int .i64 0, .int .i64 0, .int .i64 0, .int .i64 0, .int .i64 0, .int .i64 0, .int .i64 0, .int .i64 0, .slice none 0 0, .slice none 0 0, .slice none 0 0, .slice none 0 0, .slice none 0 0, .int .i64 2] _ _ (blk hY.out hbi)
    have hAf : Below w.heap.size w _ := Below.setRow (keepB hA (Nat.le_refl _) hbi) (g := w.heap.size + 1) (by omega) #[.int .i64 0, .int .i64 0, .int .i64 0, .int .i64 0, .int .i64 0, .int .i64 0, .int .i64 0, .int .i64 0, .int .i64 0, .int .i64 0, .int .i64 0, .int .i64 0, .int .i64 0, .int .i64 0, .int .i64 0, .slice none 0 0, .slice none 0 0, .slice none 0 0, .slice none 0 0, .slice none 0 0, .int .i64 2]
    exact bodyPost_ret (v := .agg #[.int .i64 0, .int .i64 0, .int .i64 0, .int .i64 0, .int .i64 0, .int .i64 0, .int .i64 0, .int .i64 0, .int .i64 0, .int .i64 0, .int .i64 0, .int .i64 0, .int .i64 0, .int .i64 0, .int .i64 0, .slice none 0 0, .slice none 0 0, .slice none 0 0, .slice none 0 0, .slice none 0 0, .int .i64 2]) (results_cell_row Try.results21 _ _ (w.heap.size + 1) _ _ _ _ rfl hYf Try.underlying40 rfl (by kernel_rfl)) rfl ⟨_, _, _, _, rfl, ((own_newS _ 0 0).stn.mono (by have := hAf.size; omega)), hAf⟩
  · have h4' : ¬ (400 : Int) < (zs.length : Int) := by omega
    by_cases hr : s.right = true
    rotate_left
    · have hr : s.right = false := by simpa using hr
      rw [hr] at HC
      obtain ⟨rfl, rfl⟩ := HB1.out (by simp [hr]) h4
      clear HX HOK HB1 HB2 HCP
      go_enter Try.func21, Try.ntmps21
      go_upto_region 1 with fail
      have hX := hX0
      have hY := hY0
      have hA := hA0
      generalize (w.alloc (.cells #[.int .i64 s.ad, .int .i64 s.bo, .int .i64 s.st, .int .i64 s.s.g, .int .i64 s.s.o, .int .i64 s.s.b, .int .i64 s.s.h, .int .i64 s.t.g, .int .i64 s.t.o, .int .i64 s.t.b, .int .i64 s.t.h, .int .i64 s.qu, .int .i64 s.tr, .int .i64 s.he, .int .i64 s.po, v1, v2, v3, v4] 34)).alloc (.cells #[.int .i64 0, .int .i64 0, .int .i64 0, .int .i64 0, .int .i64 0, .int .i64 0, .int .i64 0, .int .i64 0, .int .i64 0, .int .i64 0, .int .i64 0, .int .i64 0, .int .i64 0, .int .i64 0, .int .i64 0, .slice none 0 0, .slice none 0 0, .slice none 0 0, .slice none 0 0, .slice none 0 0, .int .i64 0] 40) = AA at hX hY hA hzA ⊢
      have hzA' : w.heap.size + 1 + 1 ≤ AA.heap.size := by omega
      clear hzA hX0 hY0 hA0
      go_wp2_with (first
        | (refine wpList_load_rowG (by rfl) 34 (.tmp 2) rfl w.heap.size rfl _ _ _ _ hX.out Try.underlying34 rfl (by kernel_rfl) ?_)
        | (go_at_call 10; refine (HC.out _ hA).mono ?_; rintro e w1 ⟨rfl, hb1⟩)
        | (go_at_call 57; refine (l06Ill_any 1 _).mono ?_; rintro e wi ⟨rfl, hbi⟩)
        | (refine wpList_store_row rfl 40 (.tmp 4) (.tmp 18) rfl (w.heap.size + 1) #[.int .i64 0, .int .i64 0, .int .i64 0, .int .i64 0, .int .i64 0, .int .i64 0, .int .i64 0, .int .i64 0, .int .i64 0, .int .i64 0, .int .i64 0, .int .i64 0, .int .i64 0, .int .i64 0, .int .i64 0, .slice none 0 0, .slice none 0 0, .slice none 0 0, .slice none 0 0, .slice none 0 0, .int .i64 1] rfl rfl _ _ (blk (blk hY.out hb1) hbi) (by kernel_rfl) rfl (by simp [Value.oneCell']) ?_))
      go_wp2
      have hYf := setRow_heap _ (w.heap.size + 1) _ #[.int .i64 0, .int .i64 0, .int .i64 0, .int .i64 0, .int .i64 0, .int .i64 0, .int .i64 0, .int .i64 0, .int .i64 0, .int .i64 0, .int .i64 0, .int .i64 0, .int .i64 0, .int .i64 0, .int .i64 0, .slice none 0 0, .slice none 0 0, .slice none 0 0, .slice none 0 0, .slice none 0 0, .int .i64 1] _ _ (blk (blk hY.out hb1) hbi)
      have hAf : Below w.heap.size w _ := Below.setRow (keepB (keepB hA (Nat.le_refl _) hb1) (Nat.le_refl _) hbi) (g := w.heap.size + 1) (by omega) #[.int .i64 0, .int .i64 0, .int .i64 0, .int .i64 0, .int .i64 0, .int .i64 0, .int .i64 0, .int .i64 0, .int .i64 0, .int .i64 0, .int .i64 0, .int .i64 0, .int .i64 0, .int .i64 0, .int .i64 0, .slice none 0 0, .slice none 0 0, .slice none 0 0, .slice none 0 0, .slice none 0 0, .int .i64 1]
      exact bodyPost_ret (v := .agg #[.int .i64 0, .int .i64 0, .int .i64 0, .int .i64 0, .int .i64 0, .int .i64 0, .int .i64 0, .int .i64 0, .int .i64 0, .int .i64 0, .int .i64 0, .int .i64 0, .int .i64 0, .int .i64 0, .int .i64 0, .slice none 0 0, .slice none 0 0, .slice none 0 0, .slice none 0 0, .slice none 0 0, .int .i64 1]) (results_cell_row Try.results21 _ _ (w.heap.size + 1) _ _ _ _ rfl hYf Try.underlying40 rfl (by kernel_rfl)) rfl ⟨_, _, _, _, rfl, ((own_newS _ 0 0).stn.mono (by have := hAf.size; omega)), hAf⟩
    · cases hq : wordsQ zs with
      | false =>
        rw [hr] at HC
        rw [hq] at HWR
        obtain ⟨rfl, rfl⟩ := HB1.out (by simp [hr, hq]) h4
        clear HX HOK HB1 HB2 HCP
        go_enter Try.func21, Try.ntmps21
        go_upto_region 1 with fail
        have hX := hX0
        have hY := hY0
        have hA := hA0
        generalize (w.alloc (.cells #[.int .i64 s.ad, .int .i64 s.bo, .int .i64 s.st, .int .i64 s.s.g, .int .i64 s.s.o, .int .i64 s.s.b, .int .i64 s.s.h, .int .i64 s.t.g, .int .i64 s.t.o, .int .i64 s.t.b, .int .i64 s.t.h, .int .i64 s.qu, .int .i64 s.tr, .int .i64 s.he, .int .i64 s.po, v1, v2, v3, v4] 34)).alloc (.cells #[.int .i64 0, .int .i64 0, .int .i64 0, .int .i64 0, .int .i64 0, .int .i64 0, .int .i64 0, .int .i64 0, .int .i64 0, .int .i64 0, .int .i64 0, .int .i64 0, .int .i64 0, .int .i64 0, .int .i64 0, .slice none 0 0, .slice none 0 0, .slice none 0 0, .slice none 0 0, .slice none 0 0, .int .i64 0] 40) = AA at hX hY hA hzA ⊢
        have hzA' : w.heap.size + 1 + 1 ≤ AA.heap.size := by omega
        clear hzA hX0 hY0 hA0
        go_wp2_with (first
          | (refine wpList_load_rowG (by rfl) 34 (.tmp 2) rfl w.heap.size rfl _ _ _ _ hX.out Try.underlying34 rfl (by kernel_rfl) ?_)
          | (go_at_call 10; refine (HC.out _ hA).mono ?_; rintro e w1 ⟨rfl, hb1⟩)
          | (go_at_call 42; refine (HWR.out _ (keepB hA (Nat.le_refl _) hb1)).mono ?_; rintro e w2 ⟨rfl, hb2⟩)
          | (go_at_call 57; refine (l06Ill_any 1 _).mono ?_; rintro e wi ⟨rfl, hbi⟩)
          | (refine wpList_store_row rfl 40 (.tmp 4) (.tmp 18) rfl (w.heap.size + 1) #[.int .i64 0, .int .i64 0, .int .i64 0, .int .i64 0, .int .i64 0, .int .i64 0, .int .i64 0, .int .i64 0, .int .i64 0, .int .i64 0, .int .i64 0, .int .i64 0, .int .i64 0, .int .i64 0, .int .i64 0, .slice none 0 0, .slice none 0 0, .slice none 0 0, .slice none 0 0, .slice none 0 0, .int .i64 1] rfl rfl _ _ (blk (blk (blk hY.out hb1) hb2) hbi) (by kernel_rfl) rfl (by simp [Value.oneCell']) ?_))
        go_wp2
        have hYf := setRow_heap _ (w.heap.size + 1) _ #[.int .i64 0, .int .i64 0, .int .i64 0, .int .i64 0, .int .i64 0, .int .i64 0, .int .i64 0, .int .i64 0, .int .i64 0, .int .i64 0, .int .i64 0, .int .i64 0, .int .i64 0, .int .i64 0, .int .i64 0, .slice none 0 0, .slice none 0 0, .slice none 0 0, .slice none 0 0, .slice none 0 0, .int .i64 1] _ _ (blk (blk (blk hY.out hb1) hb2) hbi)
        have hAf : Below w.heap.size w _ := Below.setRow (keepB (keepB (keepB hA (Nat.le_refl _) hb1) (Nat.le_refl _) hb2) (Nat.le_refl _) hbi) (g := w.heap.size + 1) (by omega) #[.int .i64 0, .int .i64 0, .int .i64 0, .int .i64 0, .int .i64 0, .int .i64 0, .int .i64 0, .int .i64 0, .int .i64 0, .int .i64 0, .int .i64 0, .int .i64 0, .int .i64 0, .int .i64 0, .int .i64 0, .slice none 0 0, .slice none 0 0, .slice none 0 0, .slice none 0 0, .slice none 0 0, .int .i64 1]
        exact bodyPost_ret (v := .agg #[.int .i64 0, .int .i64 0, .int .i64 0, .int .i64 0, .int .i64 0, .int .i64 0, .int .i64 0, .int .i64 0, .int .i64 0, .int .i64 0, .int .i64 0, .int .i64 0, .int .i64 0, .int .i64 0, .int .i64 0, .slice none 0 0, .slice none 0 0, .slice none 0 0, .slice none 0 0, .slice none 0 0, .int .i64 1]) (results_cell_row Try.results21 _ _ (w.heap.size + 1) _ _ _ _ rfl hYf Try.underlying40 rfl (by kernel_rfl)) rfl ⟨_, _, _, _, rfl, ((own_newS _ 0 0).stn.mono (by have := hAf.size; omega)), hAf⟩
      | true =>
        obtain ⟨rfl, rfl⟩ := HOK.out hr hq h4
        have HCQ : Hid (∀ W, Below w.heap.size w W → Calls Try.prog 63 #[.agg #[.int .i64 s.ad, .int .i64 s.bo, .int .i64 s.st, .int .i64 s.s.g, .int .i64 s.s.o, .int .i64 s.s.b, .int .i64 s.s.h, .int .i64 s.t.g, .int .i64 s.t.o, .int .i64 s.t.b, .int .i64 s.t.h, .int .i64 s.qu, .int .i64 s.tr, .int .i64 s.he, .int .i64 s.po, v1, v2, v3, v4]] W fun e w' => ∃ u1 u2 u3 u4, e = .returned (.agg #[.int .i64 s.ad, .int .i64 s.bo, .int .i64 s.st, .int .i64 s.s.g, .int .i64 s.s.o, .int .i64 s.s.b, .int .i64 s.s.h, .int .i64 s.t.g, .int .i64 s.t.o, .int .i64 s.t.b, .int .i64 s.t.h, .int .i64 s.qu, .int .i64 s.tr, .int .i64 s.he, .int .i64 s.po, u1, u2, u3, u4]) ∧ OwnStn w' W.heap.size u1 u2 u3 u4 s ∧ Below W.heap.size W w') := HCP.out hr
        have hqz : zs.length ≤ 4 := by unfold wordsQ at hq; rw [Bool.and_eq_true] at hq; exact of_decide_eq_true hq.1
        rw [hr] at HC
        rw [hq] at HWR
        clear HOK HB1 HB2 HCP hr hq
        go_enter Try.func21, Try.ntmps21
        go_upto_region 1 with fail
        have hX := hX0
        have hY := hY0
        have hA := hA0
        generalize (w.alloc (.cells #[.int .i64 s.ad, .int .i64 s.bo, .int .i64 s.st, .int .i64 s.s.g, .int .i64 s.s.o, .int .i64 s.s.b, .int .i64 s.s.h, .int .i64 s.t.g, .int .i64 s.t.o, .int .i64 s.t.b, .int .i64 s.t.h, .int .i64 s.qu, .int .i64 s.tr, .int .i64 s.he, .int .i64 s.po, v1, v2, v3, v4] 34)).alloc (.cells #[.int .i64 0, .int .i64 0, .int .i64 0, .int .i64 0, .int .i64 0, .int .i64 0, .int .i64 0, .int .i64 0, .int .i64 0, .int .i64 0, .int .i64 0, .int .i64 0, .int .i64 0, .int .i64 0, .int .i64 0, .slice none 0 0, .slice none 0 0, .slice none 0 0, .slice none 0 0, .slice none 0 0, .int .i64 0] 40) = AA at hX hY hA hzA ⊢
        have hzA' : w.heap.size + 1 + 1 ≤ AA.heap.size := by omega
        clear hzA hX0 hY0 hA0
        go_upto_region 5 with (first
          | (refine wpList_load_rowG (by rfl) 34 (.tmp 2) rfl w.heap.size rfl _ _ _ _ hX.out Try.underlying34 rfl (by kernel_rfl) ?_)
          | (go_at_call 10; refine (HC.out _ hA).mono ?_; rintro e w1 ⟨rfl, hb1⟩)
          | (go_at_call 42; refine (HWR.out _ (keepB hA (Nat.le_refl _) hb1)).mono ?_; rintro e w2 ⟨rfl, hb2⟩))
        have s2 := keepB hb1 (Nat.le_refl _) hb2
        have hX2 : Hid _ := blk hX.out s2
        have hY2 : Hid _ := blk hY.out s2
        have hA2 := keepB hA (Nat.le_refl _) s2
        have z2 := s2.size
        go_upto_region 6 with (first
          | (refine wpList_load_rowG (by rfl) 34 (.tmp 2) rfl w.heap.size rfl _ _ _ _ hX2.out Try.underlying34 rfl (by kernel_rfl) ?_)
          | (go_at_call 63; refine (HCQ.out _ hA2).mono ?_; rintro e w3 ⟨u1, u2, u3, u4, rfl, own3, hb3⟩; obtain ⟨ra, rb, rc, rdd⟩ := own3.rows; obtain ⟨q1, d1, rfl, _⟩ := ra; obtain ⟨q2, d2, rfl, _⟩ := rb; obtain ⟨q3, d3, rfl, _⟩ := rc; obtain ⟨q4, d4, rfl, _⟩ := rdd)
          | (refine wpList_store_row rfl 34 (.tmp 5) (.tmp 20) rfl w3.heap.size #[.int .i64 s.ad, .int .i64 s.bo, .int .i64 s.st, .int .i64 s.s.g, .int .i64 s.s.o, .int .i64 s.s.b, .int .i64 s.s.h, .int .i64 s.t.g, .int .i64 s.t.o, .int .i64 s.t.b, .int .i64 s.t.h, .int .i64 s.qu, .int .i64 s.tr, .int .i64 s.he, .int .i64 s.po, .slice q1 s.kn.length d1, .slice q2 s.ws.length d2, .slice q3 s.gs.length d3, .slice q4 s.os.length d4] rfl rfl _ _ (heap_alloc_new w3 _) (by kernel_rfl) rfl (by simp [Value.oneCell']) ?_))
        have hX3 : Hid _ := setRow_heap _ w3.heap.size _ #[.int .i64 s.ad, .int .i64 s.bo, .int .i64 s.st, .int .i64 s.s.g, .int .i64 s.s.o, .int .i64 s.s.b, .int .i64 s.s.h, .int .i64 s.t.g, .int .i64 s.t.o, .int .i64 s.t.b, .int .i64 s.t.h, .int .i64 s.qu, .int .i64 s.tr, .int .i64 s.he, .int .i64 s.po, .slice q1 s.kn.length d1, .slice q2 s.ws.length d2, .slice q3 s.gs.length d3, .slice q4 s.os.length d4] _ _ (heap_alloc_new w3 (.cells #[.int .i64 0, .int .i64 0, .int .i64 0, .int .i64 0, .int .i64 0, .int .i64 0, .int .i64 0, .int .i64 0, .int .i64 0, .int .i64 0, .int .i64 0, .int .i64 0, .int .i64 0, .int .i64 0, .int .i64 0, .slice none 0 0, .slice none 0 0, .slice none 0 0, .slice none 0 0] 34))
        have hb4 : Below w3.heap.size w3 ((w3.alloc (.cells #[.int .i64 0, .int .i64 0, .int .i64 0, .int .i64 0, .int .i64 0, .int .i64 0, .int .i64 0, .int .i64 0, .int .i64 0, .int .i64 0, .int .i64 0, .int .i64 0, .int .i64 0, .int .i64 0, .int .i64 0, .slice none 0 0, .slice none 0 0, .slice none 0 0, .slice none 0 0] 34)).setRow w3.heap.size #[.int .i64 s.ad, .int .i64 s.bo, .int .i64 s.st, .int .i64 s.s.g, .int .i64 s.s.o, .int .i64 s.s.b, .int .i64 s.s.h, .int .i64 s.t.g, .int .i64 s.t.o, .int .i64 s.t.b, .int .i64 s.t.h, .int .i64 s.qu, .int .i64 s.tr, .int .i64 s.he, .int .i64 s.po, .slice q1 s.kn.length d1, .slice q2 s.ws.length d2, .slice q3 s.gs.length d3, .slice q4 s.os.length d4]) := setRow_fresh _ _ _
        have hY3 : Hid _ := blk (blk hY2.out hb3) hb4
        have hA3 : Below w.heap.size w ((w3.alloc (.cells #[.int .i64 0, .int .i64 0, .int .i64 0, .int .i64 0, .int .i64 0, .int .i64 0, .int .i64 0, .int .i64 0, .int .i64 0, .int .i64 0, .int .i64 0, .int .i64 0, .int .i64 0, .int .i64 0, .int .i64 0, .slice none 0 0, .slice none 0 0, .slice none 0 0, .slice none 0 0] 34)).setRow w3.heap.size #[.int .i64 s.ad, .int .i64 s.bo, .int .i64 s.st, .int .i64 s.s.g, .int .i64 s.s.o, .int .i64 s.s.b, .int .i64 s.s.h, .int .i64 s.t.g, .int .i64 s.t.o, .int .i64 s.t.b, .int .i64 s.t.h, .int .i64 s.qu, .int .i64 s.tr, .int .i64 s.he, .int .i64 s.po, .slice q1 s.kn.length d1, .slice q2 s.ws.length d2, .slice q3 s.gs.length d3, .slice q4 s.os.length d4]) := keepB (keepB hA2 (Nat.le_refl _) hb3) (Nat.le_refl _) hb4
        have z3 := hb3.size
        have o3 : Hid (OwnStnB ((w3.alloc (.cells #[.int .i64 0, .int .i64 0, .int .i64 0, .int .i64 0, .int .i64 0, .int .i64 0, .int .i64 0, .int .i64 0, .int .i64 0, .int .i64 0, .int .i64 0, .int .i64 0, .int .i64 0, .int .i64 0, .int .i64 0, .slice none 0 0, .slice none 0 0, .slice none 0 0, .slice none 0 0] 34)).setRow w3.heap.size #[.int .i64 s.ad, .int .i64 s.bo, .int .i64 s.st, .int .i64 s.s.g, .int .i64 s.s.o, .int .i64 s.s.b, .int .i64 s.s.h, .int .i64 s.t.g, .int .i64 s.t.o, .int .i64 s.t.b, .int .i64 s.t.h, .int .i64 s.qu, .int .i64 s.tr, .int .i64 s.he, .int .i64 s.po, .slice q1 s.kn.length d1, .slice q2 s.ws.length d2, .slice q3 s.gs.length d3, .slice q4 s.os.length d4]) w2.heap.size w3.heap.size _ _ _ _ s) := own3.top.below hb4
        clear own3
        generalize ((w3.alloc (.cells #[.int .i64 0, .int .i64 0, .int .i64 0, .int .i64 0, .int .i64 0, .int .i64 0, .int .i64 0, .int .i64 0, .int .i64 0, .int .i64 0, .int .i64 0, .int .i64 0, .int .i64 0, .int .i64 0, .int .i64 0, .slice none 0 0, .slice none 0 0, .slice none 0 0, .slice none 0 0] 34)).setRow w3.heap.size #[.int .i64 s.ad, .int .i64 s.bo, .int .i64 s.st, .int .i64 s.s.g, .int .i64 s.s.o, .int .i64 s.s.b, .int .i64 s.s.h, .int .i64 s.t.g, .int .i64 s.t.o, .int .i64 s.t.b, .int .i64 s.t.h, .int .i64 s.qu, .int .i64 s.tr, .int .i64 s.he, .int .i64 s.po, .slice q1 s.kn.length d1, .slice q2 s.ws.length d2, .slice q3 s.gs.length d3, .slice q4 s.os.length d4]) = w4 at hX3 hY3 hA3 o3 hb4 ⊢
        have zr' : w3.heap.size < w4.heap.size := (Array.getElem?_eq_some_iff.1 hX3.out).1
        have hbE := all_alloc w4 (.cells #[] 2)
        obtain ⟨qw, dw, w5, hrun5, ownw0, hg5⟩ := app_emptyI (w4.alloc (.cells #[] 2)) 24 w4.heap.size (heap_alloc_new w4 _) bx _ zs (HX.out _ (keepB hA3 (Nat.le_refl _) hbE)) (by omega)
        have hb5 := keepB hbE (Nat.le_refl _) hg5
        have ownw : OwnI w5 w4.heap.size _ zs := ownw0
        clear ownw0
        have hX5 : Hid _ := blk hX3.out hb5
        have y16 := cellW hX5.out 16 _ rfl w5 (Below.refl _ _)
        have f16 := frozenW hX5.out 16 w5 (Below.refl _ _)
        go_upto_region 7 with (at_builtin; refine wpList_plain rfl fun K hK => ?_; unfold Oper.wp; simp [execOp, resolve, invoke, builtin, Act.eval, hrun5, Result.andThen]; refine hK _ _ ?_)
        have z5 := hb5.size
        have hX6 : Hid (_ = some (Obj.cells #[.int .i64 s.ad, .int .i64 s.bo, .int .i64 s.st, .int .i64 s.s.g, .int .i64 s.s.o, .int .i64 s.s.b, .int .i64 s.s.h, .int .i64 s.t.g, .int .i64 s.t.o, .int .i64 s.t.b, .int .i64 s.t.h, .int .i64 s.qu, .int .i64 s.tr, .int .i64 s.he, .int .i64 s.po, .slice q1 s.kn.length d1, .slice qw zs.length dw, .slice q3 s.gs.length d3, .slice q4 s.os.length d4] 34 (0, 0))) := blk_set hX5.out 16 (.slice qw zs.length dw)
        have hY6 : Hid _ := blk_far (a := ⟨w3.heap.size, 16, none⟩) (blk hY3.out hb5) (by simp only; omega) (.slice qw zs.length dw)
        have hA6 : Below w.heap.size w (w5.setCell ⟨w3.heap.size, 16, none⟩ (.slice qw zs.length dw)) := (keepB hA3 (Nat.le_refl _) hb5).setCell (by simp only; omega) _
        have hz6 : (w5.setCell ⟨w3.heap.size, 16, none⟩ (.slice qw zs.length dw)).heap.size = w5.heap.size := by simp [World.setCell]
        obtain ⟨l1, h1, l2, h2, l3, h3, l4, h4b, ⟨a1, a2, a3, a4⟩, ⟨t1, t2, t3, t4⟩, o1, o2, oo3, o4, e12, e13, e14, e23, e24, e34⟩ := o3.out.all
        have m1 : Hid (OwnIB (w5.setCell ⟨w3.heap.size, 16, none⟩ (.slice qw zs.length dw)) l1 h1 _ s.kn) := (o1.same (Same.below hb5 (by omega))).same (Same.far (a := ⟨w3.heap.size, 16, none⟩) (by simp only; omega) _)
        have m3 : Hid (OwnGB (w5.setCell ⟨w3.heap.size, 16, none⟩ (.slice qw zs.length dw)) l3 h3 _ s.gs) := (oo3.same (Same.below hb5 (by omega))).same (Same.far (a := ⟨w3.heap.size, 16, none⟩) (by simp only; omega) _)
        have m4 : Hid (OwnTB (w5.setCell ⟨w3.heap.size, 16, none⟩ (.slice qw zs.length dw)) l4 h4b _ s.os) := (o4.same (Same.below hb5 (by omega))).same (Same.far (a := ⟨w3.heap.size, 16, none⟩) (by simp only; omega) _)
        have m2 : Hid (OwnIB (w5.setCell ⟨w3.heap.size, 16, none⟩ (.slice qw zs.length dw)) w4.heap.size w5.heap.size _ zs) := ownw.ib.same (Same.far (a := ⟨w3.heap.size, 16, none⟩) (by simp only; omega) _)
        clear o1 o2 oo3 o4 ownw
        generalize (w5.setCell ⟨w3.heap.size, 16, none⟩ (.slice qw zs.length dw)) = w6 at hX6 hY6 hA6 hz6 m1 m2 m3 m4 ⊢
        go_wp2_with (first
          | (refine wpList_load_rowG (by rfl) 34 (.tmp 5) rfl w3.heap.size rfl _ _ _ _ hX6.out Try.underlying34 rfl (by kernel_rfl) ?_)
          | (refine wpList_store_row rfl 40 (.tmp 4) (.tmp 26) rfl (w.heap.size + 1) #[.int .i64 s.ad, .int .i64 s.bo, .int .i64 s.st, .int .i64 s.s.g, .int .i64 s.s.o, .int .i64 s.s.b, .int .i64 s.s.h, .int .i64 s.t.g, .int .i64 s.t.o, .int .i64 s.t.b, .int .i64 s.t.h, .int .i64 s.qu, .int .i64 s.tr, .int .i64 s.he, .int .i64 s.po, .slice q1 s.kn.length d1, .slice qw zs.length dw, .slice q3 s.gs.length d3, .slice q4 s.os.length d4, .slice none 0 0, .int .i64 0] rfl rfl _ _ hY6.out (by kernel_rfl) rfl (by simp [Value.oneCell']) ?_))
        go_wp2
        have hYf := setRow_heap _ (w.heap.size + 1) _ #[.int .i64 s.ad, .int .i64 s.bo, .int .i64 s.st, .int .i64 s.s.g, .int .i64 s.s.o, .int .i64 s.s.b, .int .i64 s.s.h, .int .i64 s.t.g, .int .i64 s.t.o, .int .i64 s.t.b, .int .i64 s.t.h, .int .i64 s.qu, .int .i64 s.tr, .int .i64 s.he, .int .i64 s.po, .slice q1 s.kn.length d1, .slice qw zs.length dw, .slice q3 s.gs.length d3, .slice q4 s.os.length d4, .slice none 0 0, .int .i64 0] _ _ hY6.out
        have hAf : Below w.heap.size w _ := Below.setRow (hA6) (g := w.heap.size + 1) (by omega) #[.int .i64 s.ad, .int .i64 s.bo, .int .i64 s.st, .int .i64 s.s.g, .int .i64 s.s.o, .int .i64 s.s.b, .int .i64 s.s.h, .int .i64 s.t.g, .int .i64 s.t.o, .int .i64 s.t.b, .int .i64 s.t.h, .int .i64 s.qu, .int .i64 s.tr, .int .i64 s.he, .int .i64 s.po, .slice q1 s.kn.length d1, .slice qw zs.length dw, .slice q3 s.gs.length d3, .slice q4 s.os.length d4, .slice none 0 0, .int .i64 0]
        exact bodyPost_ret (v := .agg #[.int .i64 s.ad, .int .i64 s.bo, .int .i64 s.st, .int .i64 s.s.g, .int .i64 s.s.o, .int .i64 s.s.b, .int .i64 s.s.h, .int .i64 s.t.g, .int .i64 s.t.o, .int .i64 s.t.b, .int .i64 s.t.h, .int .i64 s.qu, .int .i64 s.tr, .int .i64 s.he, .int .i64 s.po, .slice q1 s.kn.length d1, .slice qw zs.length dw, .slice q3 s.gs.length d3, .slice q4 s.os.length d4, .slice none 0 0, .int .i64 0]) (results_cell_row Try.results21 _ _ (w.heap.size + 1) _ _ _ _ rfl hYf Try.underlying40 rfl (by kernel_rfl)) rfl ⟨_, _, _, _, rfl, ⟨⟨l1, h1, w4.heap.size, w5.heap.size, l3, h3, l4, h4b, ⟨by omega, by omega, by omega, by omega⟩, by rw [setRow_size]; exact ⟨by omega, by omega, by omega, by omega⟩, m1.out.same (Same.setRow (by omega) _), m2.out.same (Same.setRow (by omega) _), m3.out.same (Same.setRow (by omega) _), m4.out.same (Same.setRow (by omega) _), by omega, by omega, by omega, by omega, by omega, by omega⟩⟩, hAf⟩
end Go.Proofs.Ytancfnpmbddfoaa
namespace Go.Proofs.Ytancfnpmbddfoaa
set_option linter.unusedVariables false
theorem wsum_mul : ∀ (gs : List (Int × List Int)), (∀ g ∈ gs, g.2.length ≤ 1000) → wsum gs ≤ 1000 * gs.length
  | [], _ => by simp [wsum]
  | g :: gs, h => by
    have ih := wsum_mul gs (fun x hx => h x (List.mem_cons_of_mem _ hx))
    have h1 := h g List.mem_cons_self
    have e : wsum (g :: gs) = g.2.length + wsum gs := by simp [wsum]
    rw [e, List.length_cons]
    omega
theorem small_cnt {s : Stn} (h : s.small) : s.cnt ≤ 1048576 := by
  have h1 := h.kn
  have h2 := h.ws
  have h3 := h.gs
  have h4 := h.os
  have h5 := wsum_mul s.gs h.gw
  unfold Stn.cnt
  omega
theorem pub_small (s : Stn) (zs : List Int) : (pubStn s zs).small := by
  unfold pubStn
  by_cases h : pubCode s zs = 0
  · rw [if_pos h]
    unfold pubCode at h
    by_cases h4 : 400 < zs.length
    · rw [if_pos h4] at h; cases h
    · rw [if_neg h4] at h
      cases hr : s.right with
      | false => rw [hr] at h; simp at h
      | true =>
        have := right_small hr
        exact ⟨this.kn, by simp only; omega, this.gs, this.gw, this.os, this.ob⟩
  · rw [if_neg h]
    exact ⟨by simp [newS], by simp [newS], by simp [newS], fun g hg => by simp [newS] at hg, by simp [newS], fun b hb => by simp [newS] at hb⟩
end Go.Proofs.Ytancfnpmbddfoaa
